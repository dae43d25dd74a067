/- The contract of lwBig: codes of more than 1048576 bytes are passed by. -/
import Derived.Test.YthkiabcbpkhgiaaDoorRows
import Derived.Test.YthkiabcbpkhgiaaDoorBytes
import Derived.ProofKit
import Derived.OpenShut
import Derived.Test.YthkiabcbpkhgiaaDoorCopy
import Derived.Test.YthkiabcbpkhgiaaDoorJoint3
import Derived.Test.YthkiabcbpkhgiaaDoorPick
import Derived.Test.YthkiabcbpkhgiaaDoorArr
namespace Go.Proofs.YthkiabcbpkhgiaaDoor
open Go.ChangeShapes Go.WideShapes Go.ChangeAt Go.RowKit

set_option maxRecDepth 4000 in
set_option maxHeartbeats 400000 in
theorem lwBig_yes (a : Option Addr) (n cap : Nat) (w : World) (h : 1048576 < n) :
    Calls Tryd.prog 9 #[.slice a n cap] w fun e w' => e = .returned (.bool true) ∧ w' = w := by
  have h' : (1048576 : Int) < (n : Int) := by omega
  go_enter Tryd.func9, Tryd.ntmps9
  go_wp2
  go_ret
  exact ⟨rfl, rfl⟩
set_option maxRecDepth 4000 in
set_option maxHeartbeats 400000 in
theorem lwBig_no (a : Option Addr) (n cap : Nat) (w : World) (h : n ≤ 1048576) :
    Calls Tryd.prog 9 #[.slice a n cap] w fun e w' => e = .returned (.bool false) ∧ w' = w := by
  have h' : (n : Int) ≤ 1048576 := by omega
  go_enter Tryd.func9, Tryd.ntmps9
  go_wp2
  go_ret
  refine ⟨?_, rfl⟩
  show Ending.returned (.bool (decide _)) = _
  rw [decide_eq_false (by omega)]
end Go.Proofs.YthkiabcbpkhgiaaDoor

/- The contract of laws.lwSame: whether the two slices hold the same bytes. -/
namespace Go.Proofs.YthkiabcbpkhgiaaDoor
open Go.ChangeShapes Go.WideShapes Go.ChangeAt Go.RowKit

set_option maxRecDepth 4000 in
set_option maxHeartbeats 1000000 in
theorem lwSame_c (a b : Option Addr) (ca cb : Nat) (xs bs : List UInt8) (w : World) (hra : Rd w a ca xs) (hrb : Rd w b cb bs) :
    Calls Tryd.prog 21 #[.slice a xs.length ca, .slice b bs.length cb] w fun e w' => e = .returned (.bool (xs == bs)) ∧ w' = w := by
  have e1 := run_str (P := Tryd.prog) hra (src := 22) (dst := 9) (e := 5) Tryd.underlying22 Tryd.underlying5 Tryd.underlying9
  have e2 := run_str (P := Tryd.prog) hrb (src := 22) (dst := 9) (e := 5) Tryd.underlying22 Tryd.underlying5 Tryd.underlying9
  go_enter Tryd.func21, Tryd.ntmps21
  go_wp2
  go_ret
  rw [strB_list, strB_list]
  exact ⟨rfl, rfl⟩
theorem lwSame_yes (a b : Option Addr) (ca cb n m : Nat) (bs : List UInt8) (w : World) (hn : bs.length = n) (hm : bs.length = m) (hra : Rd w a ca bs) (hrb : Rd w b cb bs) :
    Calls Tryd.prog 21 #[.slice a n ca, .slice b m cb] w fun e w' => e = .returned (.bool true) ∧ w' = w := by
  subst hn hm
  refine (lwSame_c a b ca cb bs bs w hra hrb).mono ?_
  rintro e w' ⟨rfl, rfl⟩
  exact ⟨by simp, rfl⟩
end Go.Proofs.YthkiabcbpkhgiaaDoor

/- Behind a drawn region in which a local is made at any time and the answer of the last call is stored in it (tools/picks.py store_region): the local holds it, all else is left; share: one walk for all branches. No program in it. -/
namespace Go.Proofs.YthkiabcbpkhgiaaDoor
open Go Go.RowKit

def NotIn (p : Option Addr) (n q g : Nat) : Prop := ∀ k, (Value.slice p n q).ownBlock = some k → k ≠ g
theorem stored {V W : World} {g n q : Nat} {t : TypeId} {p : Option Addr} {L : List UInt8} (BB : Below V.heap.size V W) (AA : Arr W g t [.int .i64 0, .slice none 0 0]) (GG : V.heap.size ≤ g) (r : Rd W p q L) (NE : NotIn p n q g) :
    Arr ((W.setCell ⟨g, 0, none⟩ (.int .i64 0)).setCell ⟨g, 1, none⟩ (.slice p n q)) g t [.int .i64 0, .slice p n q] ∧ Rd ((W.setCell ⟨g, 0, none⟩ (.int .i64 0)).setCell ⟨g, 1, none⟩ (.slice p n q)) p q L ∧ Below V.heap.size V ((W.setCell ⟨g, 0, none⟩ (.int .i64 0)).setCell ⟨g, 1, none⟩ (.slice p n q)) := by
  refine ⟨(AA.set 0 _).set 1 _, ⟨r.1, r.2.1, r.2.2.1, fun hp => ?_⟩, (BB.setCell GG _).setCell GG _⟩
  obtain ⟨b, o, rfl, hc⟩ := r.2.2.2 hp
  have hb : b ≠ g := NE b (by simp [Value.ownBlock])
  refine ⟨b, o, rfl, fun i hi => ?_⟩
  rw [World.cell?_setCell_other _ _ _ _ (by simp; try omega), World.cell?_setCell_other _ _ _ _ (by simp; try omega)]
  exact hc i hi
theorem share {J A : Prop} (h : Hid J → A) (hj : J) : A := h hj
end Go.Proofs.YthkiabcbpkhgiaaDoor

