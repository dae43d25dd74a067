/- The contracts of DigestText, in the program and in the specification: the digits of digestN, or the code. The program's where the two tables hold what its text lays (Tabs). What was there stays. -/
import Derived.Test.YtbgiaoipdadanaaDoorDigB
import Derived.Test.YtbgiaoipdadanaaDoorHexSpec
import Derived.Test.YtbgiaoipdadanaaDoorHexImpl
namespace Go.Proofs.YtbgiaoipdadanaaDoor
open Go.ChangeShapes Go.WideShapes Go.ChangeAt Go.RowKit

def dtText (bs : List UInt8) : List UInt8 := if bs.length ≤ 600 then hexL (digestN bs) else []


set_option maxHeartbeats 1000000 in
theorem implDt_c (p : Option Addr) (q : Nat) (bs : List UInt8) (w : World) (hr : Rd w p q bs) (hT : Tabs w) :
    Calls Tryd.prog 11 #[.slice p bs.length q] w fun e w' => e = .returned (.agg #[.int .i64 (dgCode bs), .string (strB (dtText bs))]) ∧ Below w.heap.size w w' := by
  by_cases h : bs.length ≤ 600
  · have hc0 : dgCode bs = 0 := by simp [dgCode, h]
    have hl0 : dgList bs = digestN bs := by simp [dgList, h]
    rw [hc0, show dtText bs = hexL (digestN bs) by simp [dtText, h]]
    have K1 := implDg_c p q bs (w.alloc (.cells #[.int .i64 0, .string ⟨#[]⟩] 34)) (hr.keep (alloc_below _ _)) (hT.keep (alloc_below _ _))
    rw [hc0, hl0] at K1
    clear hc0 hl0 hT hr
    go_enter Tryd.func11, Tryd.ntmps11
    go_wp2_with fail
    refine K1.mono ?_
    rintro e w1 ⟨u, rfl, ho, hb⟩
    obtain ⟨a, cap, rfl, hrd⟩ := ho.rd
    clear K1 ho
    go_wp2_with fail
    refine (implHex_c a cap (digestN bs) _ (hrd.keep (alloc_below _ _))).mono ?_
    rintro e w2 ⟨rfl, hb2⟩
    rw [show hexCode (digestN bs) = 0 by simp [hexCode, digestN_len], show hexText (digestN bs) = hexL (digestN bs) by simp [hexText, digestN_len]]
    have hb3 := Below.step (Below.mk hb _) hb2
    obtain ⟨hc, hf⟩ := bcell hb3
    rw [size_alloc] at hc hf
    have hres := Below.res hb3
    clear hb hb2 hb3 hrd
    go_wp2
    exact bodyPost_ret (v := .agg #[.int .i64 0, .string (strB (hexL (digestN bs)))]) (by simp [results, Tryd.results11, go_sem, hc]) rfl ⟨rfl, (hres.setCell (Nat.le_refl _) _).setCell (Nat.le_refl _) _⟩
  · have hc0 : dgCode bs = 2 := by simp [dgCode, h]
    rw [hc0, show dtText bs = [] by simp [dtText, h]]
    have K1 := implDg_c p q bs (w.alloc (.cells #[.int .i64 0, .string ⟨#[]⟩] 34)) (hr.keep (alloc_below _ _)) (hT.keep (alloc_below _ _))
    rw [hc0] at K1
    clear hc0 hT hr
    go_enter Tryd.func11, Tryd.ntmps11
    go_wp2_with fail
    refine K1.mono ?_
    rintro e w1 ⟨u, rfl, ho, hb⟩
    obtain ⟨a, cap, rfl, -⟩ := ho.rd
    clear K1 ho
    have hb3 := Below.mk hb (.cells #[.int .i64 2, .slice a (dgList bs).length cap] 26)
    obtain ⟨hc, hf⟩ := bcell hb3
    rw [size_alloc] at hc hf
    have hres := Below.res hb3
    clear hb hb3
    go_wp2
    exact bodyPost_ret (v := .agg #[.int .i64 2, .string (strB [])]) (by simp [results, Tryd.results11, go_sem, hc]; rfl) rfl ⟨rfl, (hres.setCell (Nat.le_refl _) _).setCell (Nat.le_refl _) _⟩
end Go.Proofs.YtbgiaoipdadanaaDoor
