/- NewSession and HoldsNow of the specification, NewSession of the program, at every argument. What was there stays. -/
import Derived.Test.YtflhoefocjmihaaSesS
import Derived.Test.YtflhoefocjmihaaSesI
import Derived.Test.YtflhoefocjmihaaJoint8
import Derived.Test.YtflhoefocjmihaaJoint11
namespace Go.Proofs.Ytflhoefocjmihaa
open Go.ChangeShapes Go.WideShapes Go.ChangeAt Go.RowKit

def nsD (x : List UInt8) (r : Int) : SessionResultD := if akC x r = 0 then (0, 0, x, r, [], [], []) else (akC x r, 0, [], 0, [], [], [])
theorem ses_own {w : World} {B : Nat} {x : SesD} {u a b c : Value} {fa fb fc : List Nat} (hu : Own w B u x.1) (ha : blksC.own w B x.2.2.1 [a] fa) (hb : blksC.own w B x.2.2.2.1 [b] fb) (hc : holdsC.own w B x.2.2.2.2 [c] fc) (hn : (u.ownBlock.toList ++ (fa ++ (fb ++ fc))).Nodup) :
    sessionC.own w B x [u, .int .i64 x.2.1, a, b, c] (u.ownBlock.toList ++ ([] ++ (fa ++ (fb ++ fc)))) := by
  have h2 := (List.nodup_append.1 hn).2.1
  have h3 := (List.nodup_append.1 h2).2.1
  exact ⟨[u], _, _, _, rfl, rfl, hn, ⟨u, rfl, hu, rfl⟩, [_], _, [], _, rfl, rfl, h2, ⟨rfl, rfl⟩, [a], _, _, _, rfl, rfl, h2, ha, [b], _, _, _, rfl, rfl, h3, hb, hc⟩
theorem nilB_own {w : World} {B : Nat} : blksC.own w B [] [.slice none 0 0] [] := ⟨_, [], [], rfl, ⟨⟨rfl, .inl ⟨rfl, rfl⟩⟩, ⟨rfl, rfl⟩, List.nodup_nil⟩, rfl⟩
theorem nilH_own {w : World} {B : Nat} : holdsC.own w B [] [.slice none 0 0] [] := ⟨_, [], [], rfl, ⟨⟨rfl, .inl ⟨rfl, rfl⟩⟩, ⟨rfl, rfl⟩, List.nodup_nil⟩, rfl⟩
theorem sesR_own {w : World} {B : Nat} {k c : Int} {x : SesD} {us : List Value} {fp : List Nat} (h : sessionC.own w B x us fp) : sessionResultC.own w B (k, c, x) (.int .i64 k :: .int .i64 c :: us) fp :=
  ⟨[_], _, [], _, rfl, rfl, sessionC.nd h, ⟨rfl, rfl⟩, [_], _, [], _, rfl, rfl, sessionC.nd h, ⟨rfl, rfl⟩, h⟩
def zeroSes : SesD := ([], 0, [], [], [])
theorem zeroSes_own {w : World} {B : Nat} : sessionC.own w B zeroSes [.slice none 0 0, .int .i64 0, .slice none 0 0, .slice none 0 0, .slice none 0 0] [] := ses_own (x := zeroSes) (Own_nil _ _) nilB_own nilB_own nilH_own List.nodup_nil
theorem newSes_own {w : World} {B : Nat} {x : List UInt8} {r : Int} {u : Value} (h : Own w B u x) : sessionC.own w B (x, r, [], [], []) [u, .int .i64 r, .slice none 0 0, .slice none 0 0, .slice none 0 0] (u.ownBlock.toList ++ []) := ses_own (x := (x, r, [], [], [])) h nilB_own nilB_own nilH_own (by simpa using nodup_opt _)
theorem akC_is {x : List UInt8} {r : Int} (h : akC x r = 0) : x.length = 32 := by
  unfold akC at h
  cases h1 : is32 x
  · rw [h1] at h; cases h
  · simpa [is32] using h1
theorem nsD_small (x : List UInt8) (r : Int) : sessionResultT (nsD x r) ≤ 1048576 := by
  unfold nsD
  by_cases h : akC x r = 0
  · have hl := akC_is h
    rw [if_pos h]
    simp [sessionResultT, sessionT, sumB, bulkH, hl]
  · rw [if_neg h]
    simp [sessionResultT, sessionT, sumB, bulkH]
theorem l14Bad_c (k : Int) (w : World) :
    Calls Try.prog 22 #[.int .i64 k] w fun e w' => e = .returned (.agg #[.int .i64 k, .int .i64 0, .slice none 0 0, .int .i64 0, .slice none 0 0, .slice none 0 0, .slice none 0 0]) ∧ Below w.heap.size w w' := by
  go_enter Try.func22, Try.ntmps22
  go_wp2_with fail
  exact bodyPost_ret (v := .agg #[.int .i64 k, .int .i64 0, .slice none 0 0, .int .i64 0, .slice none 0 0, .slice none 0 0, .slice none 0 0]) (by simp [results, Try.results22, go_sem]) rfl ⟨rfl, alloc_below _ _⟩
end Go.Proofs.Ytflhoefocjmihaa

