/- A drawn region over classes of worlds where just two operations can come up next. No program in it. -/
import Derived.Test.YthiabbgkfmopiaaGreatPickG
import Derived.Test.YthiabbgkfmopiaaGreatPick
import Derived.Test.YthiabbgkfmopiaaGreatArr
import Derived.Test.YthiabbgkfmopiaaGreatRows
import Derived.Test.YthiabbgkfmopiaaGreatJoint2
import Derived.ProofKit
import Derived.OpenShut
import Derived.Deep.QuietTactic
import Derived.BigQuiet
import Derived.Test.YthiabbgkfmopiaaGreatJoint4
namespace Go.Proofs.YthiabbgkfmopiaaGreat.Gen
open Go Go.RowKit
theorem wpM_two {R : World → World → Prop} {P : Program} {md : Region.Mode} {ops : Array Oper} {Q' : Exit → Act → World → Prop} {last m : Nat} {L : Array Bool} {i j fuel : Nat} {a : Act} {V : World} (hr : Region.ready md ops L = [i, j]) (h : mOp R P ops i (wpM R P md ops Q' last m fuel (L.setIfInBounds i true)) a V) (h2 : mOp R P ops j (wpM R P md ops Q' last m fuel (L.setIfInBounds j true)) a V) : wpM R P md ops Q' last m (fuel + 1) L a V :=
  ⟨by rw [hr]; simp, fun k hk => by
    rw [hr] at hk
    rcases List.mem_cons.1 hk with rfl | h3
    · exact h
    · rw [List.mem_singleton.1 h3]; exact h2⟩
theorem wpM_three {R : World → World → Prop} {P : Program} {md : Region.Mode} {ops : Array Oper} {Q' : Exit → Act → World → Prop} {last m : Nat} {L : Array Bool} {i j k fuel : Nat} {a : Act} {V : World} (hr : Region.ready md ops L = [i, j, k]) (h : mOp R P ops i (wpM R P md ops Q' last m fuel (L.setIfInBounds i true)) a V) (h2 : mOp R P ops j (wpM R P md ops Q' last m fuel (L.setIfInBounds j true)) a V) (h3 : mOp R P ops k (wpM R P md ops Q' last m fuel (L.setIfInBounds k true)) a V) : wpM R P md ops Q' last m (fuel + 1) L a V :=
  ⟨by rw [hr]; simp, fun x hx => by
    rw [hr] at hx
    rcases List.mem_cons.1 hx with rfl | hx
    · exact h
    · rcases List.mem_cons.1 hx with rfl | hx
      · exact h2
      · rw [List.mem_singleton.1 hx]; exact h3⟩
theorem mOp_mk {R : World → World → Prop} {P : Program} {ops : Array Oper} {k : Nat} {o : Oper} {a : Act} {V : World} {K : Act → World → Prop} (h0 : ops[k]? = some o) (hw : Region.wanted o (yielded ops a.tmps) = true) (hk : makesS o = true)
    (h : ∀ w, (∃ n, w = V.drewN n) → wpList P ops (fun e a' w' => e = .normal ∧ R w w' ∧ K a' w') [{ o with guard := none }] a w) : mOp R P ops k K a V := by
  unfold mOp
  simp only [h0, hw, if_true]
  refine .inr fun w hw' => .inr ?_
  have h1 := h w hw'
  unfold wpList at h1
  simp only [show ∀ f, Region.wanted { o with guard := none } f = true from fun _ => rfl, if_true] at h1
  rcases h1 with h1 | ⟨-, a1, w1, h1, -⟩
  · unfold Oper.wp at h1
    rw [show execOp a.eval { o with guard := none } = execOp a.eval o from rfl] at h1
    cases hrn : (execOp a.eval o).run P w with
    | ok n w1 =>
      obtain ⟨u, rfl⟩ := makesS_value hk a.eval w n w1 hrn
      rw [hrn] at h1
      simp only [Oper.upon, wpList] at h1
      exact ⟨u, w1, rfl, ⟨⟨w1, h1.2.1⟩, rfl⟩, h1.2.2⟩
    | halt x w1 =>
      rw [hrn] at h1
      cases x <;> simp [Oper.upon] at h1
  · cases h1
theorem grown_any {a b : World} (h : a.grownBy b none) (row : Option Nat) : a.grownBy b row := ⟨h.os, h.tape, h.output, h.size, fun k hk _ => h.block k hk (by simp)⟩
end Go.Proofs.YthiabbgkfmopiaaGreat.Gen

/- Behind a drawn region in which a local is made at any time and the answer of the last call is stored in it (tools/picks.py store_region): the local holds it, all else is left; share: one walk for all branches. No program in it. -/
namespace Go.Proofs.YthiabbgkfmopiaaGreat
open Go Go.RowKit

def NotIn (p : Option Addr) (n q g : Nat) : Prop := ∀ k, (Value.slice p n q).ownBlock = some k → k ≠ g
theorem stored {V W : World} {g n q : Nat} {t : TypeId} {p : Option Addr} {L : List UInt8} (BB : Below V.heap.size V W) (AA : Arr W g t [.int .i64 0, .slice none 0 0]) (GG : V.heap.size ≤ g) (r : Rd W p q L) (NE : NotIn p n q g) :
    Arr ((W.setCell ⟨g, 0, none⟩ (.int .i64 0)).setCell ⟨g, 1, none⟩ (.slice p n q)) g t [.int .i64 0, .slice p n q] ∧ Rd ((W.setCell ⟨g, 0, none⟩ (.int .i64 0)).setCell ⟨g, 1, none⟩ (.slice p n q)) p q L ∧ Below V.heap.size V ((W.setCell ⟨g, 0, none⟩ (.int .i64 0)).setCell ⟨g, 1, none⟩ (.slice p n q)) := by
  refine ⟨(AA.set 0 _).set 1 _, ⟨r.1, r.2.1, r.2.2.1, fun hp => ?_⟩, (BB.setCell GG _).setCell GG _⟩
  obtain ⟨b, o, rfl, hc⟩ := r.2.2.2 hp
  have hb : b ≠ g := NE b (by simp [Value.ownBlock])
  refine ⟨b, o, rfl, fun i hi => ?_⟩
  rw [World.cell?_setCell_other _ _ _ _ (by simp; try omega), World.cell?_setCell_other _ _ _ _ (by simp; try omega)]
  exact hc i hi
theorem share {J A : Prop} (h : Hid J → A) (hj : J) : A := h hj
end Go.Proofs.YthiabbgkfmopiaaGreat

/- The contracts of the laws' own helpers on bytes: toByteS copies what it reads into a row of its own; eqByteS answers true at equal bytes. For at most 1048576 bytes. -/
namespace Go.Proofs.YthiabbgkfmopiaaGreat
open Go.ChangeShapes Go.WideShapes Go.ChangeAt Go.RowKit
theorem info8 : (Tryz.prog.info? 5).map (fun i => (i.zero, i.size, i.bytes)) = some (some (.int .u8 0), 1, 1) := by kernel_rfl

set_option maxHeartbeats 1000000 in
theorem toByteS_c (a : Option Addr) (cap : Nat) (bs : List UInt8) (w : World) (hr : Rd w a cap bs) (hl : bs.length ≤ 1048576) :
    Calls Tryz.prog 49 #[.slice a bs.length cap] w fun e w' => ∃ v, e = .returned v ∧ Own w' w.heap.size v bs ∧ Below w.heap.size w w' := by
  obtain ⟨i0, hi, hz0, hz1, hz2⟩ := info_parts info8
  have hm : bs.length ≤ maxLen := by unfold maxLen; omega
  go_enter Tryz.func49, Tryz.ntmps49
  go_wp2_with (first
    | (at_make; refine wpList_make_full _ rfl (.tmp 6) (.tmp 6) 51 rfl w.heap.size 5 i0 (.int .u8 0) 1 Tryz.underlying51 hi hz0 hz1 .i64 .i64 _ _ bs.length rfl rfl rfl rfl (by rw [hz2]; omega) hm (Nat.le_refl _) ?_; intro w1 hown hgrow)
    | go_in)
  rw [replicate_made, ← part_zero bs bs.length] at hown
  have hb1 : Below w.heap.size w w1 := (Below.refl _ _).grown hgrow (Nat.le_refl _) (fun k hk => by simp at hk)
  clear hgrow hz0 hz1 hz2 hi
  go_loopw [4] (fun i wr => ∃ k : Nat, k ≤ bs.length ∧ i = .int .i64 k ∧ wr.ownsRow w.heap.size 5 1 (.slice (some ⟨w.heap.size, 0, none⟩) bs.length bs.length) bs.length (part bs bs.length k) ∧ Below w.heap.size w wr)
    (fun i _ => bs.length - (intOf i).toNat)
  case atStart => exact ⟨0, Nat.zero_le _, rfl, hown, hb1⟩
  case round =>
    obtain ⟨k, hk, rfl, hown, hbel⟩ := hrel
    by_cases hlt : k < bs.length
    · obtain ⟨b, o, rfl, hc⟩ := hr.2.2.2 (by omega)
      have hlb : b < w.heap.size := World.block_lt_of_cell? w _ (hc 0 (by omega))
      have hcx : wr.cell? ⟨b, o + k, none⟩ = some (.int .u8 (at8 bs k)) := (hbel.cell (by exact hlb)).trans (hc k hlt)
      have hcy : wr.cell? ⟨w.heap.size, k, none⟩ = some (.int .u8 0) := by rw [World.ownsRow.cellAt hown k (by omega), part_at bs k hlt]
      have hfy : wr.frozen? ⟨w.heap.size, k, none⟩ = false := World.ownsRow.frozenAt hown k
      have R := World.ownsRow.stored hown k (.int .u8 (at8 bs k))
      rw [part_set bs k hlt] at R
      have RB : Below w.heap.size w (wr.setCell ⟨w.heap.size, k, none⟩ (.int .u8 (at8 bs k))) := hbel.setCell (Nat.le_refl _) _
      clear hc hr hown
      go_wp2
      go_roundw
      case rel => exact ⟨k + 1, by omega, by go_num, R.1, RB⟩
      case measure => simp [intOf]; omega
    · have e : k = bs.length := by omega
      subst e
      rw [part_all] at hown
      go_wp2
      go_ret
      exact ⟨_, rfl, hown, hbel⟩

set_option maxHeartbeats 1000000 in
theorem eqByteS_c (a b : Option Addr) (ca cb : Nat) (bs : List UInt8) (w : World) (hra : Rd w a ca bs) (hrb : Rd w b cb bs) :
    Calls Tryz.prog 62 #[.slice a bs.length ca, .slice b bs.length cb] w fun e w' => e = .returned (.bool true) ∧ Below w.heap.size w w' := by
  have hm : bs.length ≤ maxLen := Nat.le_trans hra.1 hra.2.1
  unfold maxLen at hm
  go_enter Tryz.func62, Tryz.ntmps62
  go_wp2
  go_loopw [5] (fun i wr => ∃ k : Nat, k ≤ bs.length ∧ i = .int .i64 k ∧ Below w.heap.size w wr)
    (fun i _ => bs.length - (intOf i).toNat)
  case atStart => exact ⟨0, Nat.zero_le _, rfl, Below.refl _ _⟩
  case round =>
    obtain ⟨k, hk, rfl, hbel⟩ := hrel
    by_cases hlt : k < bs.length
    · obtain ⟨b1, o1, rfl, hc1⟩ := hra.2.2.2 (by omega)
      obtain ⟨b2, o2, rfl, hc2⟩ := hrb.2.2.2 (by omega)
      have hcx : wr.cell? ⟨b1, o1 + k, none⟩ = some (.int .u8 (at8 bs k)) := (hbel.cell (World.block_lt_of_cell? w _ (hc1 k hlt))).trans (hc1 k hlt)
      have hcy : wr.cell? ⟨b2, o2 + k, none⟩ = some (.int .u8 (at8 bs k)) := (hbel.cell (World.block_lt_of_cell? w _ (hc2 k hlt))).trans (hc2 k hlt)
      have hlt' : (k : Int) < (bs.length : Int) := by omega
      clear hc1 hc2 hra hrb
      go_wp2
      go_quiet (fail)
      go_wp2
      go_roundw
      case rel => exact ⟨k + 1, by omega, by go_num, below_drewN hbel _⟩
      case measure => simp [intOf]; omega
    · go_wp2
      go_ret
      exact ⟨rfl, hbel⟩



end Go.Proofs.YthiabbgkfmopiaaGreat

/- The contracts of the laws' own helpers on whole numbers: toInt64S copies what it reads into a row of its own; eqInt64S answers true at equal numbers; markInt64S, heldInt64S; the same on IntsResult. For at most 1048576 numbers. -/
namespace Go.Proofs.YthiabbgkfmopiaaGreat
open Go.ChangeShapes Go.WideShapes Go.ChangeAt Go.RowKit
theorem info64 : (Tryz.prog.info? 2).map (fun i => (i.zero, i.size, i.bytes)) = some (some (.int .i64 0), 1, 8) := by kernel_rfl

set_option maxHeartbeats 1000000 in
theorem toInt64S_c (a : Option Addr) (cap : Nat) (l : List Int) (w : World) (hr : RdI w a cap l) (hl : l.length ≤ 1048576) :
    Calls Tryz.prog 19 #[.slice a l.length cap] w fun e w' => ∃ v, e = .returned v ∧ OwnI w' w.heap.size v l ∧ Below w.heap.size w w' := by
  obtain ⟨i0, hi, hz0, hz1, hz2⟩ := info_parts info64
  have hm : l.length ≤ maxLen := by unfold maxLen; omega
  go_enter Tryz.func19, Tryz.ntmps19
  go_wp2_with (first
    | (at_make; refine wpList_make_full _ rfl (.tmp 6) (.tmp 6) 23 rfl w.heap.size 2 i0 (.int .i64 0) 1 Tryz.underlying23 hi hz0 hz1 .i64 .i64 _ _ l.length rfl rfl rfl rfl (by rw [hz2]; omega) hm (Nat.le_refl _) ?_; intro w1 hown hgrow)
    | go_in)
  rw [replicate_madeI, ← partI_zero l l.length] at hown
  have hb1 : Below w.heap.size w w1 := (Below.refl _ _).grown hgrow (Nat.le_refl _) (fun k hk => by simp at hk)
  clear hgrow hz0 hz1 hz2 hi
  go_loopw [4] (fun i wr => ∃ k : Nat, k ≤ l.length ∧ i = .int .i64 k ∧ wr.ownsRow w.heap.size 2 1 (.slice (some ⟨w.heap.size, 0, none⟩) l.length l.length) l.length (partI l l.length k) ∧ Below w.heap.size w wr)
    (fun i _ => l.length - (intOf i).toNat)
  case atStart => exact ⟨0, Nat.zero_le _, rfl, hown, hb1⟩
  case round =>
    obtain ⟨k, hk, rfl, hown, hbel⟩ := hrel
    by_cases hlt : k < l.length
    · obtain ⟨b, o, rfl, hc⟩ := hr.2.2.2 (by omega)
      have hlb : b < w.heap.size := World.block_lt_of_cell? w _ (hc 0 (by omega))
      have hcx : wr.cell? ⟨b, o + k, none⟩ = some (.int .i64 (atI l k)) := (hbel.cell (by exact hlb)).trans (hc k hlt)
      have hcy : wr.cell? ⟨w.heap.size, k, none⟩ = some (.int .i64 0) := by rw [World.ownsRow.cellAt hown k (by omega), partI_at l k hlt]
      have hfy : wr.frozen? ⟨w.heap.size, k, none⟩ = false := World.ownsRow.frozenAt hown k
      have R := World.ownsRow.stored hown k (.int .i64 (atI l k))
      rw [partI_set l k hlt] at R
      have RB : Below w.heap.size w (wr.setCell ⟨w.heap.size, k, none⟩ (.int .i64 (atI l k))) := hbel.setCell (Nat.le_refl _) _
      clear hc hr hown
      go_wp2
      go_roundw
      case rel => exact ⟨k + 1, by omega, by go_num, R.1, RB⟩
      case measure => simp [intOf]; omega
    · have e : k = l.length := by omega
      subst e
      rw [partI_all] at hown
      go_wp2
      go_ret
      exact ⟨_, rfl, hown, hbel⟩

set_option maxHeartbeats 1000000 in
theorem eqInt64S_c (a b : Option Addr) (ca cb : Nat) (l : List Int) (w : World) (hra : RdI w a ca l) (hrb : RdI w b cb l) :
    Calls Tryz.prog 30 #[.slice a l.length ca, .slice b l.length cb] w fun e w' => e = .returned (.bool true) ∧ Below w.heap.size w w' := by
  have hm : l.length ≤ maxLen := Nat.le_trans hra.1 hra.2.1
  unfold maxLen at hm
  go_enter Tryz.func30, Tryz.ntmps30
  go_wp2
  go_loopw [5] (fun i wr => ∃ k : Nat, k ≤ l.length ∧ i = .int .i64 k ∧ Below w.heap.size w wr)
    (fun i _ => l.length - (intOf i).toNat)
  case atStart => exact ⟨0, Nat.zero_le _, rfl, Below.refl _ _⟩
  case round =>
    obtain ⟨k, hk, rfl, hbel⟩ := hrel
    by_cases hlt : k < l.length
    · obtain ⟨b1, o1, rfl, hc1⟩ := hra.2.2.2 (by omega)
      obtain ⟨b2, o2, rfl, hc2⟩ := hrb.2.2.2 (by omega)
      have hcx : wr.cell? ⟨b1, o1 + k, none⟩ = some (.int .i64 (atI l k)) := (hbel.cell (World.block_lt_of_cell? w _ (hc1 k hlt))).trans (hc1 k hlt)
      have hcy : wr.cell? ⟨b2, o2 + k, none⟩ = some (.int .i64 (atI l k)) := (hbel.cell (World.block_lt_of_cell? w _ (hc2 k hlt))).trans (hc2 k hlt)
      have hlt' : (k : Int) < (l.length : Int) := by omega
      clear hc1 hc2 hra hrb
      go_wp2
      go_quiet (fail)
      go_wp2
      go_roundw
      case rel => exact ⟨k + 1, by omega, by go_num, below_drewN hbel _⟩
      case measure => simp [intOf]; omega
    · go_wp2
      go_ret
      exact ⟨rfl, hbel⟩



end Go.Proofs.YthiabbgkfmopiaaGreat

/- The contracts of BytesWord and of what it calls, in the specification and in the program: both answer gwCode and gwVal, at every argument. -/
namespace Go.Proofs.YthiabbgkfmopiaaGreat
open Go.ChangeShapes Go.WideShapes Go.ChangeAt Go.RowKit

def gwCode (bs : List UInt8) : Int := if bs.length = 4 then 0 else 1
def gwVal (bs : List UInt8) : Int := if bs.length = 4 then (getB bs : Nat) else 0





end Go.Proofs.YthiabbgkfmopiaaGreat

/- The contracts of WordBytes and BytesWord and of what they call, in the specification and in the program: both answer the same, at every argument. -/
namespace Go.Proofs.YthiabbgkfmopiaaGreat
open Go.ChangeShapes Go.WideShapes Go.ChangeAt Go.RowKit



def wbCode (v : Int) : Int := if inB v 0 4294967295 then 0 else 3
def wbBytes (v : Int) : List UInt8 := if inB v 0 4294967295 then putB v.toNat 4 else []
theorem wbCode_ok {v : Int} (h : inB v 0 4294967295 = true) : wbCode v = 0 := by simp [wbCode, h]
theorem wbBytes_ok {v : Int} (h : inB v 0 4294967295 = true) : wbBytes v = putB v.toNat 4 := by simp [wbBytes, h]
theorem wbCode_no {v : Int} (h : inB v 0 4294967295 = false) : wbCode v = 3 := by simp [wbCode, h]
theorem wbBytes_no {v : Int} (h : inB v 0 4294967295 = false) : wbBytes v = [] := by simp [wbBytes, h]
theorem wbBytes_len (v : Int) : (wbBytes v).length ≤ 4 := by unfold wbBytes; split <;> simp [putB_len]

theorem Own_nil (w : World) (B : Nat) : Own w B (.slice none 0 0) [] := World.ownsRow_nil _ _ _ _



end Go.Proofs.YthiabbgkfmopiaaGreat

/- The contracts of SameBytes and of what it calls, in the specification and in the program: both answer whether the two slices hold the same bytes. -/
namespace Go.Proofs.YthiabbgkfmopiaaGreat
open Go.ChangeShapes Go.WideShapes Go.ChangeAt Go.RowKit

def sameB (a b : List UInt8) : Bool := a == b

set_option maxRecDepth 4000 in
set_option maxHeartbeats 1000000 in
theorem l1Same_c (a b : Option Addr) (ca cb : Nat) (xs bs : List UInt8) (w : World) (hra : Rd w a ca xs) (hrb : Rd w b cb bs) :
    Calls Tryz.prog 68 #[.slice a xs.length ca, .slice b bs.length cb] w fun e w' => e = .returned (.bool (sameB xs bs)) ∧ w' = w := by
  have e1 := run_str (P := Tryz.prog) hra (src := 51) (dst := 9) (e := 5) Tryz.underlying51 Tryz.underlying5 Tryz.underlying9
  have e2 := run_str (P := Tryz.prog) hrb (src := 51) (dst := 9) (e := 5) Tryz.underlying51 Tryz.underlying5 Tryz.underlying9
  go_enter Tryz.func68, Tryz.ntmps68
  go_wp2
  go_ret
  rw [strB_list, strB_list]
  exact ⟨rfl, rfl⟩

set_option maxRecDepth 4000 in
set_option maxHeartbeats 1000000 in
theorem bytesEqual_c (a b : Option Addr) (ca cb : Nat) (xs bs : List UInt8) (w : World) (hra : Rd w a ca xs) (hrb : Rd w b cb bs) :
    Calls Tryz.prog 104 #[.slice a xs.length ca, .slice b bs.length cb] w fun e w' => e = .returned (.bool (sameB xs bs)) ∧ w' = w := by
  have e1 := run_str (P := Tryz.prog) hra (src := 51) (dst := 9) (e := 5) Tryz.underlying51 Tryz.underlying5 Tryz.underlying9
  have e2 := run_str (P := Tryz.prog) hrb (src := 51) (dst := 9) (e := 5) Tryz.underlying51 Tryz.underlying5 Tryz.underlying9
  go_enter Tryz.func104, Tryz.ntmps104
  go_wp2
  go_ret
  rw [strB_list, strB_list]
  exact ⟨rfl, rfl⟩


set_option maxRecDepth 4000 in
set_option maxHeartbeats 1000000 in
theorem implSame_c (a b : Option Addr) (ca cb : Nat) (xs bs : List UInt8) (w : World) (hra : Rd w a ca xs) (hrb : Rd w b cb bs) :
    Calls Tryz.prog 89 #[.slice a xs.length ca, .slice b bs.length cb] w fun e w' => e = .returned (.bool (sameB xs bs)) ∧ Below w.heap.size w w' := by
  go_enter Tryz.func89, Tryz.ntmps89
  go_wp2_with fail
  refine (bytesEqual_c a b ca cb xs bs _ hra hrb).mono ?_
  rintro e w1 ⟨rfl, rfl⟩
  go_wp2
  go_ret
  exact ⟨rfl, Below.refl _ _⟩

end Go.Proofs.YthiabbgkfmopiaaGreat

/- The contracts of the laws' helpers on BytesResult: eqBytesResult answers true at equal answers; markBytesResult lays marks into the answer's own row; heldBytesResult finds them. For at most 1048576 bytes. -/
namespace Go.Proofs.YthiabbgkfmopiaaGreat
open Go.ChangeShapes Go.WideShapes Go.ChangeAt Go.RowKit

end Go.Proofs.YthiabbgkfmopiaaGreat

