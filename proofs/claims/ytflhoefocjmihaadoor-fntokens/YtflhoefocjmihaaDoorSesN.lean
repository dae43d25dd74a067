/- NewSession and HoldsNow of the specification, NewSession of the program, at every argument. What was there stays. -/
import Derived.Test.YtflhoefocjmihaaDoorSesS
import Derived.Test.YtflhoefocjmihaaDoorSesI
import Derived.Test.YtflhoefocjmihaaDoorJoint10
import Derived.Test.YtflhoefocjmihaaDoorJoint12
namespace Go.Proofs.YtflhoefocjmihaaDoor
open Go.ChangeShapes Go.WideShapes Go.ChangeAt Go.RowKit

def nsD (x : List UInt8) (r : Int) : SessionResultD := if akC x r = 0 then (0, 0, x, r, [], [], []) else (akC x r, 0, [], 0, [], [], [])
theorem ses_own {w : World} {B : Nat} {x : SesD} {u a b c : Value} {fa fb fc : List Nat} (hu : Own w B u x.1) (ha : blksC.own w B x.2.2.1 [a] fa) (hb : blksC.own w B x.2.2.2.1 [b] fb) (hc : holdsC.own w B x.2.2.2.2 [c] fc) (hn : (u.ownBlock.toList ++ (fa ++ (fb ++ fc))).Nodup) :
    sessionC.own w B x [u, .int .i64 x.2.1, a, b, c] (u.ownBlock.toList ++ ([] ++ (fa ++ (fb ++ fc)))) := by
  have h2 := (List.nodup_append.1 hn).2.1
  have h3 := (List.nodup_append.1 h2).2.1
  exact ⟨[u], _, _, _, rfl, rfl, hn, ⟨u, rfl, hu, rfl⟩, [_], _, [], _, rfl, rfl, h2, ⟨rfl, rfl⟩, [a], _, _, _, rfl, rfl, h2, ha, [b], _, _, _, rfl, rfl, h3, hb, hc⟩
theorem nilB_own {w : World} {B : Nat} : blksC.own w B [] [.slice none 0 0] [] := ⟨_, [], [], rfl, ⟨⟨rfl, .inl ⟨rfl, rfl⟩⟩, ⟨rfl, rfl⟩, List.nodup_nil⟩, rfl⟩
theorem nilH_own {w : World} {B : Nat} : holdsC.own w B [] [.slice none 0 0] [] := ⟨_, [], [], rfl, ⟨⟨rfl, .inl ⟨rfl, rfl⟩⟩, ⟨rfl, rfl⟩, List.nodup_nil⟩, rfl⟩
theorem sesR_own {w : World} {B : Nat} {k c : Int} {x : SesD} {us : List Value} {fp : List Nat} (h : sessionC.own w B x us fp) : sessionResultC.own w B (k, c, x) (.int .i64 k :: .int .i64 c :: us) fp :=
  ⟨[_], _, [], _, rfl, rfl, sessionC.nd h, ⟨rfl, rfl⟩, [_], _, [], _, rfl, rfl, sessionC.nd h, ⟨rfl, rfl⟩, h⟩
def zeroSes : SesD := ([], 0, [], [], [])
theorem zeroSes_own {w : World} {B : Nat} : sessionC.own w B zeroSes [.slice none 0 0, .int .i64 0, .slice none 0 0, .slice none 0 0, .slice none 0 0] [] := ses_own (x := zeroSes) (Own_nil _ _) nilB_own nilB_own nilH_own List.nodup_nil
theorem newSes_own {w : World} {B : Nat} {x : List UInt8} {r : Int} {u : Value} (h : Own w B u x) : sessionC.own w B (x, r, [], [], []) [u, .int .i64 r, .slice none 0 0, .slice none 0 0, .slice none 0 0] (u.ownBlock.toList ++ []) := ses_own (x := (x, r, [], [], [])) h nilB_own nilB_own nilH_own (by simpa using nodup_opt _)
theorem akC_is {x : List UInt8} {r : Int} (h : akC x r = 0) : x.length = 32 := by
  unfold akC at h
  cases h1 : is32 x
  · rw [h1] at h; cases h
  · simpa [is32] using h1
theorem nsD_small (x : List UInt8) (r : Int) : sessionResultT (nsD x r) ≤ 1048576 := by
  unfold nsD
  by_cases h : akC x r = 0
  · have hl := akC_is h
    rw [if_pos h]
    simp [sessionResultT, sessionT, sumB, bulkH, hl]
  · rw [if_neg h]
    simp [sessionResultT, sessionT, sumB, bulkH]
set_option maxRecDepth 4000 in
set_option maxHeartbeats 1000000 in
theorem implNs_k (p : Option Addr) (q : Nat) (x : List UInt8) (r : Int) (w : World) (hr : Rd w p q x) :
    Calls Tryd.prog 10 #[.slice p x.length q, .int .i64 r] w fun e w' => ∃ us fp, e = .returned (.agg us.toArray) ∧ sessionResultC.own w' w.heap.size (nsD x r) us fp ∧ Below w.heap.size w w' := by
  have BW := alloc_below w (.cells #[.int .i64 0, .int .i64 0, .slice none 0 0, .int .i64 0, .slice none 0 0, .slice none 0 0, .slice none 0 0] 36)
  have R := Arr.new w [.int .i64 0, .int .i64 0, .slice none 0 0, .int .i64 0, .slice none 0 0, .slice none 0 0, .slice none 0 0] 36
  have hres : Hid ((Tryd.prog.info? 36).map (·.size) = some 7) := by show _ = _; kernel_rfl
  have hz0 : Hid ((w.alloc (.cells #[.int .i64 0, .int .i64 0, .slice none 0 0, .int .i64 0, .slice none 0 0, .slice none 0 0, .slice none 0 0] 36)).heap.size = w.heap.size + 1) := size_alloc _ _
  have K1 := authKeyFault_c p q x r (w.alloc (.cells #[.int .i64 0, .int .i64 0, .slice none 0 0, .int .i64 0, .slice none 0 0, .slice none 0 0, .slice none 0 0] 36))
  have HR := hr.keep BW
  by_cases h1 : akC x r = 0
  case neg =>
    have HC : Hid (nsD x r = (akC x r, 0, zeroSes)) := by show _ = _; rw [nsD, if_neg h1]; rfl
    have dk : (akC x r != 0) = true := by rw [bne_iff_ne]; exact h1
    clear h1 hr HR
    generalize akC x r = k at *
    go_enter Tryd.func10, Tryd.ntmps10
    go_wp2_with fail
    refine K1.mono ?_
    rintro e w2 ⟨rfl, hw⟩
    rw [hw]
    clear hw w2 K1
    go_wp2_with (refine wpList_store_row rfl 36 _ _ rfl w.heap.size #[.int .i64 k, .int .i64 0, .slice none 0 0, .int .i64 0, .slice none 0 0, .slice none 0 0, .slice none 0 0] rfl rfl 36 #[.int .i64 0, .int .i64 0, .slice none 0 0, .int .i64 0, .slice none 0 0, .slice none 0 0, .slice none 0 0] R hres.out rfl (by simp [Value.oneCell']) ?_)
    exact bodyPost_ret (v := .agg #[.int .i64 k, .int .i64 0, .slice none 0 0, .int .i64 0, .slice none 0 0, .slice none 0 0, .slice none 0 0]) (results_cell_row Tryd.results10 _ _ w.heap.size 36 _ (0, 0) _ rfl (R.row [.int .i64 k, .int .i64 0, .slice none 0 0, .int .i64 0, .slice none 0 0, .slice none 0 0, .slice none 0 0]) Tryd.underlying36 rfl hres.out) rfl ⟨_, _, rfl, by rw [HC.out]; exact sesR_own zeroSes_own, Below.row BW (Nat.le_refl _) _⟩
  have HC : Hid (nsD x r = (0, 0, (x, r, [], [], []))) := by show _ = _; rw [nsD, if_pos h1]
  rw [h1] at K1
  have K2 := bytesClone_c p q x _ HR (by have := akC_is h1; omega)
  clear h1 hr HR
  go_enter Tryd.func10, Tryd.ntmps10
  go_wp2_with fail
  refine K1.mono ?_
  rintro e w2 ⟨rfl, hw⟩
  rw [hw]
  clear hw w2 K1
  go_wp2_with fail
  refine K2.mono ?_
  rintro e w2 ⟨u2, rfl, k2, hb⟩
  obtain ⟨p2, q2, rfl, -⟩ := k2.rd
  replace R := R.stay hb
  replace BW := Below.step BW hb
  rw [hz0.out] at k2
  clear hb K2
  go_wp2_with (refine wpList_store_row rfl 36 _ _ rfl w.heap.size #[.int .i64 0, .int .i64 0, .slice p2 x.length q2, .int .i64 r, .slice none 0 0, .slice none 0 0, .slice none 0 0] rfl rfl 36 #[.int .i64 0, .int .i64 0, .slice none 0 0, .int .i64 0, .slice none 0 0, .slice none 0 0, .slice none 0 0] R hres.out rfl (by simp [Value.oneCell']) ?_)
  exact bodyPost_ret (v := .agg #[.int .i64 0, .int .i64 0, .slice p2 x.length q2, .int .i64 r, .slice none 0 0, .slice none 0 0, .slice none 0 0]) (results_cell_row Tryd.results10 _ _ w.heap.size 36 _ (0, 0) _ rfl (R.row [.int .i64 0, .int .i64 0, .slice p2 x.length q2, .int .i64 r, .slice none 0 0, .slice none 0 0, .slice none 0 0]) Tryd.underlying36 rfl hres.out) rfl ⟨_, _, rfl, by rw [HC.out]; exact sesR_own (newSes_own ((k2.row (fun j hj e => by have := k2.ge j hj; omega) _).lower (Nat.le_succ _))), Below.row BW (Nat.le_refl _) _⟩
end Go.Proofs.YtflhoefocjmihaaDoor

