/- The contracts of what chapter 6 of the program is made of: bytes.Clone, a piece (a message or a block) asked for its fault and its bytes, its head, pieces packed behind one another. What was there stays. No conditions but those in each line. -/
import Derived.Test.YtiabacnmmojfjabGreatDoorJoint13
import Derived.Test.YtiabacnmmojfjabGreatDoorJoint2
import Derived.Handy
import Derived.Test.YtiabacnmmojfjabGreatDoorJoint12
namespace Go.Proofs.YtiabacnmmojfjabGreatDoor
open Go.ChangeShapes Go.WideShapes Go.ChangeAt Go.RowKit

set_option maxRecDepth 4000 in
set_option maxHeartbeats 400000 in
theorem implMF_n (k : Int) (n q : Nat) (p : Option Addr) (w : World) :
    Calls Tryz.prog 140 #[.agg #[.int .i64 k, .slice p n q]] w fun e w' => e = .returned (.int .i64 (faultW k n)) ∧ Below w.heap.size w w' := by
  by_cases h0 : k < 0
  · rw [show faultW k n = 3 by have h : inB k 0 255 = false := by simp [inB]; omega
                               simp [faultW, h]]
    go_enter Tryz.func140, Tryz.ntmps140
    go_wp2
    go_ret
    exact ⟨rfl, alloc_below _ _⟩
  · by_cases h1 : 255 < k
    · rw [show faultW k n = 3 by have h : inB k 0 255 = false := by simp [inB]; omega
                                 simp [faultW, h]]
      go_enter Tryz.func140, Tryz.ntmps140
      go_wp2
      go_ret
      exact ⟨rfl, alloc_below _ _⟩
    · have hin : inB k 0 255 = true := by simp [inB]; omega
      by_cases hn : n ≤ 160
      · rw [show faultW k n = 0 by simp [faultW, hin, hn]]
        have hnI : ¬ (160 < (n : Int)) := by omega
        clear hin
        go_enter Tryz.func140, Tryz.ntmps140
        go_wp2
        go_ret
        exact ⟨rfl, alloc_below _ _⟩
      · rw [show faultW k n = 2 by simp [faultW, hin, hn]]
        have hnI : 160 < (n : Int) := by omega
        clear hin
        go_enter Tryz.func140, Tryz.ntmps140
        go_wp2
        go_ret
        exact ⟨rfl, alloc_below _ _⟩

set_option maxRecDepth 4000 in
set_option maxHeartbeats 400000 in
theorem msgFault_c (k : Int) (n q : Nat) (p : Option Addr) (w : World) :
    Calls Tryz.prog 237 #[.agg #[.int .i64 k, .slice p n q]] w fun e w' => e = .returned (.int .i64 (faultW k n)) ∧ Below w.heap.size w w' := by
  go_enter Tryz.func237, Tryz.ntmps237
  go_wp2_with fail
  refine (implMF_n k n q p _).mono ?_
  rintro e w' ⟨rfl, hb⟩
  have BW := Below.step (alloc_below w (.cells #[.int .i64 k, .slice p n q] 190)) hb
  go_wp2
  go_ret
  exact ⟨rfl, BW⟩
set_option maxRecDepth 4000 in
set_option maxHeartbeats 400000 in
theorem msgContent_c (k : Int) (n q : Nat) (p : Option Addr) (w : World) :
    Calls Tryz.prog 236 #[.agg #[.int .i64 k, .slice p n q]] w fun e w' => e = .returned (.slice p n q) ∧ Below w.heap.size w w' := by
  go_enter Tryz.func236, Tryz.ntmps236
  go_wp2
  go_ret
  exact ⟨rfl, alloc_below _ _⟩
set_option maxRecDepth 4000 in
set_option maxHeartbeats 400000 in
theorem blkContent_c (n q : Nat) (p : Option Addr) (w : World) :
    Calls Tryz.prog 238 #[.slice p n q] w fun e w' => e = .returned (.slice p n q) ∧ Below w.heap.size w w' := by
  go_enter Tryz.func238, Tryz.ntmps238
  go_wp2
  go_ret
  exact ⟨rfl, Below.refl _ _⟩
def blkF (n : Nat) : Int := if n ≤ 120 then 0 else 2
set_option maxRecDepth 4000 in
set_option maxHeartbeats 400000 in
theorem blkFault_c (n q : Nat) (p : Option Addr) (w : World) :
    Calls Tryz.prog 239 #[.slice p n q] w fun e w' => e = .returned (.int .i64 (blkF n)) ∧ Below w.heap.size w w' := by
  by_cases hn : n ≤ 120
  · rw [show blkF n = 0 by simp [blkF, hn]]
    have hnI : ¬ (120 < (n : Int)) := by omega
    go_enter Tryz.func239, Tryz.ntmps239
    go_wp2
    go_ret
    exact ⟨rfl, Below.refl _ _⟩
  · rw [show blkF n = 2 by simp [blkF, hn]]
    have hnI : 120 < (n : Int) := by omega
    go_enter Tryz.func239, Tryz.ntmps239
    go_wp2
    go_ret
    exact ⟨rfl, Below.refl _ _⟩

/-- A piece as the program has it: a message or a block. -/
structure Pi where
  m : Bool
  k : Int
  p : Option Addr
  q : Nat
  bs : List UInt8
def Pi.val (x : Pi) : Value := if x.m then .iface 190 (.agg #[.int .i64 x.k, .slice x.p x.bs.length x.q]) else .iface 221 (.slice x.p x.bs.length x.q)
def Pi.fc (x : Pi) : Int := if x.m then faultW x.k x.bs.length else blkF x.bs.length
def Pi.hd (x : Pi) : List UInt8 := if x.m then mark8 x.k :: putB x.bs.length 3 else [mark8 (x.bs.length : Int)]
def Pi.out (x : Pi) : List UInt8 := x.hd ++ x.bs
set_option maxRecDepth 4000 in
set_option maxHeartbeats 400000 in
theorem headOf_m (k : Int) (n q : Nat) (p : Option Addr) (w : World) (hn : n ≤ 160) :
    Calls Tryz.prog 201 #[.iface 190 (.agg #[.int .i64 k, .slice p n q])] w fun e w' => ∃ u, e = .returned u ∧ Own w' w.heap.size u (mark8 k :: putB n 3) ∧ Below w.heap.size w w' := by
  have hnI : (n : Int) ≤ 160 := by omega
  go_enter Tryz.func201, Tryz.ntmps201
  go_wp2_with fail
  refine (msgContent_c k n q p _).mono ?_
  rintro e w1 ⟨rfl, hb⟩
  have hty : ∀ w, (Instr.typeAssert (.iface 190 (.agg #[.int .i64 k, .slice p n q])) 192 190 true).run Tryz.prog w = .ok (.tuple #[.agg #[.int .i64 k, .slice p n q], .bool true]) w := by intro w; kernel_rfl
  have HV : Hid ([Value.int .u8 (k % 256), .int .u8 ((n : Int) / 65536), .int .u8 ((n : Int) / 256), .int .u8 (n : Int)] = (mark8 k :: putB n 3).map u8v) := by
    show _ = _
    have e4 : putB n 3 = [UInt8.ofNat (n / 65536 % 256), UInt8.ofNat (n / 256 % 256), UInt8.ofNat (n / 1 % 256)] := rfl
    rw [e4]
    simp only [List.map_cons, List.map_nil, u8v, mark8_nat, UInt8.toNat_ofNat']
    simp only [List.cons.injEq, Value.int.injEq, true_and, and_true]
    omega
  have HO : Hid (Own ((w1.alloc (.cells #[.int .i64 k, .slice p n q] 190)).alloc (.cells #[.int .u8 (k % 256), .int .u8 ((n : Int) / 65536), .int .u8 ((n : Int) / 256), .int .u8 (n : Int)] 5)) w.heap.size (.slice (some ⟨w1.heap.size + 1, 0, none⟩) 4 4) (mark8 k :: putB n 3)) := by
    have hA := Arr.new (w1.alloc (.cells #[.int .i64 k, .slice p n q] 190)) [Value.int .u8 (k % 256), .int .u8 ((n : Int) / 65536), .int .u8 ((n : Int) / 256), .int .u8 (n : Int)] 5
    rw [HV.out, size_alloc] at hA
    have h := hA.own (B := w.heap.size) (by have := hb.size; omega) (by simp [putB_len])
    rw [← HV.out, show (mark8 k :: putB n 3).length = 4 by simp [putB_len]] at h
    exact h
  have BW := Below.mk (Below.mk hb (.cells #[.int .i64 k, .slice p n q] 190)) (.cells #[.int .u8 (k % 256), .int .u8 ((n : Int) / 65536), .int .u8 ((n : Int) / 256), .int .u8 (n : Int)] 5)
  clear HV
  go_wp2_with fail
  go_ret
  exact ⟨_, rfl, HO.out, BW⟩
set_option maxRecDepth 4000 in
set_option maxHeartbeats 400000 in
theorem headOf_b (n q : Nat) (p : Option Addr) (w : World) (hn : n ≤ 160) :
    Calls Tryz.prog 201 #[.iface 221 (.slice p n q)] w fun e w' => ∃ u, e = .returned u ∧ Own w' w.heap.size u [mark8 (n : Int)] ∧ Below w.heap.size w w' := by
  have hnI : (n : Int) ≤ 160 := by omega
  have hty : ∀ w, (Instr.typeAssert (.iface 221 (.slice p n q)) 192 190 true).run Tryz.prog w = .ok (.tuple #[.agg #[.int .i64 0, .slice none 0 0], .bool false]) w := by intro w; kernel_rfl
  have hty2 : ∀ w, (Instr.typeAssert (.iface 221 (.slice p n q)) 192 221 true).run Tryz.prog w = .ok (.tuple #[.slice p n q, .bool true]) w := by intro w; kernel_rfl
  go_enter Tryz.func201, Tryz.ntmps201
  go_wp2_with fail
  refine (blkContent_c n q p _).mono ?_
  rintro e w1 ⟨rfl, hb⟩
  have HV : Hid ([Value.int .u8 (n : Int)] = [mark8 (n : Int)].map u8v) := by
    show _ = _
    simp only [List.map_cons, List.map_nil, u8v, mark8_nat]
    congr 2; omega
  have HO : Hid (Own (w1.alloc (.cells #[.int .u8 (n : Int)] 5)) w.heap.size (.slice (some ⟨w1.heap.size, 0, none⟩) 1 1) [mark8 (n : Int)]) := by
    have hA := Arr.new w1 [Value.int .u8 (n : Int)] 5
    rw [HV.out] at hA
    have h := hA.own (B := w.heap.size) hb.size (by simp)
    rw [← HV.out] at h
    exact h
  have BW := Below.mk hb (.cells #[.int .u8 (n : Int)] 5)
  clear HV
  go_wp2_with fail
  go_ret
  exact ⟨_, rfl, HO.out, BW⟩
theorem Pi.fc_len {x : Pi} (h : x.fc = 0) : x.bs.length ≤ 160 := by
  unfold Pi.fc at h
  split at h
  · exact (faultW_zero h).2
  · unfold blkF at h
    split at h
    · omega
    · cases h
theorem headOf_c (x : Pi) (w : World) (hn : x.bs.length ≤ 160) :
    Calls Tryz.prog 201 #[x.val] w fun e w' => ∃ u, e = .returned u ∧ Own w' w.heap.size u x.hd ∧ Below w.heap.size w w' := by
  obtain ⟨m, k, p, q, bs⟩ := x
  cases m
  · exact headOf_b bs.length q p w hn
  · exact headOf_m k bs.length q p w hn

/-- Pieces that lie one behind the other from ⟨b, o⟩ on, each of which can be read. -/
def Pis (w : World) (b o : Nat) (ps : List Pi) : Prop := ∀ i x, ps[i]? = some x → w.cell? ⟨b, o + i, none⟩ = some x.val ∧ Rd w x.p x.q x.bs
theorem Pis.keep {w w' : World} {b o : Nat} {ps : List Pi} (h : Pis w b o ps) (hb : Below w.heap.size w w') : Pis w' b o ps := fun i x hx =>
  ⟨(hb.cell (p := ⟨b, o + i, none⟩) (World.block_lt_of_cell? w _ (h i x hx).1)).trans (h i x hx).1, (h i x hx).2.keep hb⟩
def pisF : List Pi → Int
  | [] => 0
  | x :: l => if x.fc = 0 then pisF l else x.fc
def pisO (l : List Pi) : List UInt8 := l.flatMap Pi.out
theorem pisF_at {l : List Pi} {k : Nat} {a : Pi} (h : l[k]? = some a) (hz : ∀ (j : Nat) (b : Pi), j < k → l[j]? = some b → b.fc = 0) (hn : ¬ a.fc = 0) : pisF l = a.fc := by
  induction l generalizing k with
  | nil => simp at h
  | cons b l ih =>
    cases k with
    | zero => simp at h; subst h; rw [pisF, if_neg hn]
    | succ k =>
      rw [pisF, if_pos (hz 0 b (by omega) rfl)]
      exact ih (by simpa using h) fun j c hj hc => hz (j + 1) c (by omega) (by simpa using hc)
theorem pisF_zero {l : List Pi} : (∀ (j : Nat) (b : Pi), l[j]? = some b → b.fc = 0) → pisF l = 0 := by
  induction l with
  | nil => intro _; rfl
  | cons b l ih => intro h; rw [pisF, if_pos (h 0 b rfl)]; exact ih fun j c hc => h (j + 1) c (by simpa using hc)
theorem pisO_take {l : List Pi} {k : Nat} {a : Pi} (h : l[k]? = some a) : pisO (l.take (k + 1)) = pisO (l.take k) ++ a.out := by
  rw [List.take_add_one, h]; simp [pisO]
theorem Pi.out_len {x : Pi} (h : x.bs.length ≤ 160) : x.out.length ≤ 164 := by
  unfold Pi.out Pi.hd
  split <;> simp [putB_len] <;> omega
theorem pisO_le : ∀ {l : List Pi}, (∀ x ∈ l, x.bs.length ≤ 160) → (pisO l).length ≤ 164 * l.length
  | [], _ => by simp [pisO]
  | x :: l, h => by
    have h1 := pisO_le (l := l) (fun y hy => h y (List.mem_cons_of_mem _ hy))
    have h2 := Pi.out_len (h x List.mem_cons_self)
    simp only [pisO, List.flatMap_cons, List.length_append, List.length_cons] at h1 ⊢
    omega
def pkC (l : List Pi) (top : Nat) : Int := if pisF l = 0 then (if (pisO l).length ≤ top then 0 else 2) else pisF l
def pkL (l : List Pi) (top : Nat) : List UInt8 := if pkC l top = 0 then pisO l else []
theorem pkC_fault {l : List Pi} {top : Nat} (h : ¬ pisF l = 0) : pkC l top = pisF l ∧ pkL l top = [] := by
  have e : pkC l top = pisF l := by rw [pkC, if_neg h]
  exact ⟨e, by rw [pkL, e, if_neg h]⟩
theorem pkC_ok {l : List Pi} {top : Nat} (h : pisF l = 0) (h2 : (pisO l).length ≤ top) : pkC l top = 0 ∧ pkL l top = pisO l := by
  have e : pkC l top = 0 := by rw [pkC, if_pos h, if_pos h2]
  exact ⟨e, by rw [pkL, e, if_pos rfl]⟩
theorem pkC_many {l : List Pi} {top : Nat} (h : pisF l = 0) (h2 : ¬ (pisO l).length ≤ top) : pkC l top = 2 ∧ pkL l top = [] := by
  have e : pkC l top = 2 := by rw [pkC, if_pos h, if_neg h2]
  exact ⟨e, by rw [pkL, e, if_neg (by decide)]⟩

set_option maxRecDepth 4000 in
set_option maxHeartbeats 2000000 in
theorem packed_c (ps : List Pi) (b o cap top : Nat) (w : World) (hp : Pis w b o ps) (hl : ps.length ≤ 12) (ht : top ≤ 600) :
    Calls Tryz.prog 182 #[.slice (some ⟨b, o, none⟩) ps.length cap, .int .i64 top] w fun e w' => ∃ u, e = .returned (.agg #[.int .i64 (pkC ps top), u]) ∧ Own w' w.heap.size u (pkL ps top) ∧ Below w.heap.size w w' := by
  have HP : Hid (Pis w b o ps) := hp
  have A0 := Arr.new w [.int .i64 0, .slice none 0 0] 130
  have B0 := alloc_below w (.cells #[.int .i64 0, .slice none 0 0] 130)
  have hlI : (ps.length : Int) ≤ 12 := by omega
  have htI : (top : Int) ≤ 600 := by omega
  obtain ⟨pc, HPC⟩ : ∃ pc, Hid (pc = pkC ps top) := ⟨_, rfl⟩
  obtain ⟨pl, HPL⟩ : ∃ pl, Hid (pl = pkL ps top) := ⟨_, rfl⟩
  rw [← HPC.out, ← HPL.out]
  clear hp
  go_enter Tryz.func182, Tryz.ntmps182
  go_wp2_with fail
  go_loopw [13] (fun i wr => ∃ j : Nat, j ≤ ps.length ∧ i = .int .i64 j ∧ (∀ (h : Nat) (x : Pi), h < j → ps[h]? = some x → x.fc = 0) ∧ Arr wr w.heap.size 130 [.int .i64 0, .slice none 0 0] ∧ Below w.heap.size w wr)
    (fun i _ => ps.length - (intOf i).toNat)
  case atStart => exact ⟨0, Nat.zero_le _, rfl, fun h x hh _ => absurd hh (Nat.not_lt_zero _), A0, B0⟩
  case round =>
    clear A0 B0
    obtain ⟨j, hj, rfl, hz, A, BW⟩ := hrel
    have HZ : Hid (∀ (h : Nat) (x : Pi), h < j → ps[h]? = some x → x.fc = 0) := hz
    clear hz
    by_cases hlt : j < ps.length
    · have hI : (j : Int) < (ps.length : Int) := by omega
      obtain ⟨x, hx⟩ : ∃ x, Hid (ps[j]? = some x) := ⟨ps[j], by show _ = _; simp [hlt]⟩
      have hcx := (HP.out.keep BW j x hx.out).1
      obtain ⟨fc, HF⟩ : ∃ fc, Hid (fc = x.fc) := ⟨_, rfl⟩
      obtain ⟨m, k, xp, xq, xb⟩ := x
      cases m
      case' false =>
        have HF2 : Hid (blkF xb.length = fc) := HF.out.symm
        simp only [Pi.val, Bool.false_eq_true, if_false] at hcx
        go_wp2_with fail
        refine (blkFault_c xb.length xq xp _).mono ?_
      case' true =>
        have HF2 : Hid (faultW k xb.length = fc) := HF.out.symm
        simp only [Pi.val, if_true] at hcx
        go_wp2_with fail
        refine (msgFault_c k xb.length xq xp _).mono ?_
      all_goals
        rintro e w2 ⟨rfl, hb⟩
        rw [HF2.out]
        have A2 := A.stay hb
        have BW2 := Below.step BW hb
        clear A BW hb hcx HF2
        by_cases hf : fc = 0
        · have HZ2 : Hid (∀ (h : Nat) (x : Pi), h < j + 1 → ps[h]? = some x → x.fc = 0) := fun h y hh hy => by
            by_cases e : h = j
            · subst e; rw [hx.out] at hy; cases hy; rw [← HF.out]; exact hf
            · exact HZ.out h y (by omega) hy
          clear HF HZ hx
          subst hf
          go_wp2_with fail
          go_roundw
          case rel => exact ⟨j + 1, by omega, by go_num, HZ2.out, A2, BW2⟩
          case measure => simp [intOf]; omega
        · have hz : (fc != 0) = true := by rw [bne_iff_ne]; exact hf
          have HC : Hid (pc = fc ∧ pl = []) := by
            have h := pisF_at hx.out HZ.out (by rw [← HF.out]; exact hf)
            rw [← HF.out] at h
            have h2 := pkC_fault (top := top) (l := ps) (by rw [h]; exact hf)
            rw [h, ← HPC.out, ← HPL.out] at h2
            exact h2
          have c0 := A2.cell 0
          have c1 := A2.cell 1
          have fz := A2.frozen
          simp at c0 c1
          clear HF HZ hx A2 hf
          go_wp2_with fail
          exact bodyPost_ret (v := .agg #[.int .i64 fc, .slice none 0 0]) (by simp [results, Tryz.results182, go_sem, c0, c1]) rfl ⟨_, by rw [HC.out.1], by rw [HC.out.2]; exact Own_nil _ _, (BW2.setCell (Nat.le_refl _) _).setCell (Nat.le_refl _) _⟩
    · have e : j = ps.length := by omega
      subst e
      have HALL : Hid (pisF ps = 0) := pisF_zero fun h x hx => HZ.out h x (List.getElem?_eq_some_iff.1 hx).1 hx
      have HB : Hid (∀ x ∈ ps, x.bs.length ≤ 160) := fun x hx => by
        obtain ⟨i, hi, rfl⟩ := List.mem_iff_getElem.1 hx
        exact Pi.fc_len (HZ.out i _ hi (by simp [hi]))
      clear HZ hlt
      go_wp2_with fail
      go_loopw [8, 26] (fun v i wr => ∃ j : Nat, j ≤ ps.length ∧ i = .int .i64 j ∧ Own wr (w.heap.size + 1) v (pisO (ps.take j)) ∧ Arr wr w.heap.size 130 [.int .i64 0, .slice none 0 0] ∧ Below w.heap.size w wr)
        (fun _ i _ => ps.length - (intOf i).toNat)
      case atStart => exact ⟨0, Nat.zero_le _, rfl, Own_nil _ _, A, BW⟩
      case round =>
        clear A BW
        obtain ⟨j, hj, rfl, ho, A, BW⟩ := hrel
        by_cases hlt : j < ps.length
        · have hI : (j : Int) < (ps.length : Int) := by omega
          obtain ⟨x, hx⟩ : ∃ x, Hid (ps[j]? = some x) := ⟨ps[j], by show _ = _; simp [hlt]⟩
          have hcx := (HP.out.keep BW j x hx.out).1
          have HR : Hid (Rd wr x.p x.q x.bs) := (HP.out.keep BW j x hx.out).2
          have hbl : Hid (x.bs.length ≤ 160) := HB.out x (List.mem_of_getElem? hx.out)
          have HT : Hid (pisO (ps.take (j + 1)) = pisO (ps.take j) ++ (x.hd ++ x.bs)) := pisO_take hx.out
          have HLe : Hid ((pisO (ps.take j)).length ≤ 2000) := by have h := pisO_le (l := ps.take j) (fun y hy => HB.out y (List.mem_of_mem_take hy)); rw [List.length_take] at h; show _ ≤ _; omega
          have HHL : Hid (x.hd.length ≤ 4) := by show _ ≤ _; unfold Pi.hd; split <;> simp [putB_len]
          have KH : Hid (∀ W, Calls Tryz.prog 201 #[x.val] W fun e w' => ∃ u, e = .returned u ∧ Own w' W.heap.size u x.hd ∧ Below W.heap.size W w') := fun W => headOf_c x W hbl.out
          obtain ⟨fs, hfs⟩ : ∃ fs, Hid (fs = pisO (ps.take j)) := ⟨_, rfl⟩
          obtain ⟨hd, hhd⟩ : ∃ hd, Hid (hd = x.hd) := ⟨_, rfl⟩
          rw [← hfs.out] at ho HT HLe
          rw [← hhd.out] at HT HHL KH
          obtain ⟨po, qo, rfl, ro⟩ := ho.rd
          obtain ⟨m, k, xp, xq, xb⟩ := x
          cases m
          case' false =>
            simp only [Pi.val, Bool.false_eq_true, if_false] at hcx KH
            go_wp2_with fail
            refine (KH.out _).mono ?_
            rintro e w2 ⟨u2, rfl, k2, hb2⟩
            obtain ⟨p2, q2, rfl, r2⟩ := k2.rd
            go_wp2_with fail
            refine (blkContent_c xb.length xq xp _).mono ?_
            rintro e w3 ⟨rfl, hb3⟩
          case' true =>
            simp only [Pi.val, if_true] at hcx KH
            go_wp2_with fail
            refine (KH.out _).mono ?_
            rintro e w2 ⟨u2, rfl, k2, hb2⟩
            obtain ⟨p2, q2, rfl, r2⟩ := k2.rd
            go_wp2_with fail
            refine (msgContent_c k xb.length xq xp _).mono ?_
            rintro e w3 ⟨rfl, hb3⟩
          all_goals
            have BW3 := Below.step (Below.step BW hb2) hb3
            have A3 := (A.stay hb2).stay hb3
            have R1 := (ro.keep hb2).keep hb3
            have R2 := r2.keep hb3
            have R3 := (HR.out.keep hb2).keep hb3
            have hz3 : Hid (w.heap.size + 1 ≤ w3.heap.size) := by have := A3.lt; show _ ≤ _; omega
            have KJ : Hid (Calls Tryz.prog 200 #[.slice (some ⟨w3.heap.size, 0, none⟩) 3 3] (w3.alloc (.cells #[.slice po fs.length qo, .slice p2 hd.length q2, .slice xp xb.length xq] 22)) fun e w' => ∃ u, e = .returned u ∧ Own w' (w3.heap.size + 1) u (fs ++ (hd ++ xb)) ∧ Below (w3.alloc (.cells #[.slice po fs.length qo, .slice p2 hd.length q2, .slice xp xb.length xq] 22)).heap.size (w3.alloc (.cells #[.slice po fs.length qo, .slice p2 hd.length q2, .slice xp xb.length xq] 22)) w') := by
              have h := joined_c [⟨po, qo, fs⟩, ⟨p2, q2, hd⟩, ⟨xp, xq, xb⟩] w3.heap.size 0 3 _ (pcs_three w3 ⟨po, qo, fs⟩ ⟨p2, q2, hd⟩ ⟨xp, xq, xb⟩ 22 R1 R2 R3) (by rw [flat_three]; have := hbl.out; have := HHL.out; have := HLe.out; simp at *; omega) (by simp)
              rw [flat_three, List.append_assoc, size_alloc] at h
              rw [size_alloc]
              exact h
            have BW4 := Below.mk BW3 (.cells #[.slice po fs.length qo, .slice p2 hd.length q2, .slice xp xb.length xq] 22)
            have A4 := A3.old _ (.cells #[.slice po fs.length qo, .slice p2 hd.length q2, .slice xp xb.length xq] 22)
            clear R1 R2 R3 k2 r2 hb2 hb3 A A3 BW BW3 ro ho hcx HR
            go_wp2_with fail
            refine KJ.out.mono ?_
            rintro e w5 ⟨u5, rfl, k5, hb5⟩
            have BW5 := Below.step BW4 hb5
            have A5 := A4.stay hb5
            have k5' := k5.lower (B' := w.heap.size + 1) (by have := hz3.out; omega)
            rw [← HT.out] at k5'
            clear KJ BW4 A4 hb5 k5
            go_wp2_with fail
            go_roundw
            case rel => exact ⟨j + 1, by omega, by go_num, k5', A5, BW5⟩
            case measure => simp [intOf]; omega
        · have e : j = ps.length := by omega
          subst e
          rw [List.take_length] at ho
          obtain ⟨po, qo, rfl, -⟩ := ho.rd
          have c0 := A.cell 0
          have c1 := A.cell 1
          have fz := A.frozen
          simp at c0 c1
          by_cases htp : (pisO ps).length ≤ top
          · have HC : Hid (pc = 0 ∧ pl = pisO ps) := by rw [HPC.out, HPL.out]; exact pkC_ok HALL.out htp
            have hbI : ¬ ((top : Int) < ((pisO ps).length : Int)) := by omega
            generalize pisO ps = out at *
            clear HALL HB HP A HPC HPL
            go_wp2_with fail
            refine bodyPost_ret (v := .agg #[.int .i64 0, .slice po out.length qo]) (by simp [results, Tryz.results182, go_sem, c0, c1]) rfl ⟨_, by rw [HC.out.1], ?_, (BW.setCell (Nat.le_refl _) _).setCell (Nat.le_refl _) _⟩
            rw [HC.out.2]
            exact ((ho.set (a := ⟨w.heap.size, 0, none⟩) (Nat.lt_succ_self _) _).set (a := ⟨w.heap.size, 1, none⟩) (Nat.lt_succ_self _) _).lower (B' := w.heap.size) (Nat.le_succ _)
          · have HC : Hid (pc = 2 ∧ pl = []) := by rw [HPC.out, HPL.out]; exact pkC_many HALL.out htp
            have hbI : (top : Int) < ((pisO ps).length : Int) := by omega
            generalize pisO ps = out at *
            clear HALL HB HP A HPC HPL
            go_wp2_with fail
            exact bodyPost_ret (v := .agg #[.int .i64 2, .slice none 0 0]) (by simp [results, Tryz.results182, go_sem, c0, c1]) rfl ⟨_, by rw [HC.out.1], by rw [HC.out.2]; exact Own_nil _ _, (BW.setCell (Nat.le_refl _) _).setCell (Nat.le_refl _) _⟩
end Go.Proofs.YtiabacnmmojfjabGreatDoor

/- Rows of pieces that are filled one by one, in the program's chapter 6; the contracts of PackMsgs and PackBlocks there: code and bytes, at every argument. What was there stays. -/
namespace Go.Proofs.YtiabacnmmojfjabGreatDoor
open Go.ChangeShapes Go.WideShapes Go.ChangeAt Go.RowKit

theorem list_of {α : Type} {P : Nat → α → Prop} : ∀ n, (∀ i, i < n → ∃ x, P i x) → ∃ l : List α, l.length = n ∧ ∀ i x, l[i]? = some x → P i x
  | 0, _ => ⟨[], rfl, fun i x h => by simp at h⟩
  | n + 1, h => by
    obtain ⟨l, hl, hp⟩ := list_of n (fun i hi => h i (by omega))
    obtain ⟨y, hy⟩ := h n (Nat.lt_succ_self n)
    refine ⟨l ++ [y], by simp [hl], fun i x hx => ?_⟩
    by_cases hi : i < n
    · rw [List.getElem?_append_left (by omega)] at hx; exact hp i x hx
    · have e : i = n := by have := (List.getElem?_eq_some_iff.1 hx).1; simp [hl] at this; omega
      subst e
      rw [List.getElem?_append_right (by omega), hl, Nat.sub_self] at hx
      simp at hx; subst hx; exact hy
/-- A row of pieces that is being filled. -/
def pRow (ps : List Pi) (j : Nat) : List Value := (ps.take j).map Pi.val ++ List.replicate (ps.length - j) .nilIface
theorem pRow_set {ps : List Pi} {j : Nat} {x : Pi} (h : ps[j]? = some x) : (pRow ps j).set j x.val = pRow ps (j + 1) := by
  have hj := (List.getElem?_eq_some_iff.1 h).1
  unfold pRow
  rw [List.set_append_right _ _ (by simp; omega), List.take_add_one, h]
  have e : ps.length - j = (ps.length - (j + 1)) + 1 := by omega
  rw [e, List.replicate_succ]
  simp [Nat.min_eq_left (Nat.le_of_lt hj)]
theorem pRow_at {ps : List Pi} {j : Nat} (h : j < ps.length) : (pRow ps j)[j]? = some .nilIface := by
  unfold pRow
  rw [List.getElem?_append_right (by simp; omega)]
  have e : ps.length - j = (ps.length - (j + 1)) + 1 := by omega
  rw [e, List.replicate_succ]
  simp [Nat.min_eq_left (Nat.le_of_lt h)]
theorem pRow_all (ps : List Pi) : pRow ps ps.length = ps.map Pi.val := by simp [pRow]
theorem ownsRow_arr {w : World} {B g n : Nat} {t : TypeId} {vs : List Value} (h : w.ownsRow B t 1 (.slice (some ⟨g, 0, none⟩) n n) n vs) : Arr w g t vs := by
  obtain ⟨h1, h2⟩ := h
  rcases h2 with ⟨e, -⟩ | ⟨g', cap, cur, e, hb, hg, hle, hm, hs, ht⟩
  · simp at e
  · simp at e
    obtain ⟨rfl, rfl⟩ := e
    have e2 : cur.toList = vs := by
      rw [← ht, List.take_of_length_le (by simp; omega)]
    unfold Arr
    rw [hg, ← e2]
theorem infoPiece : (Tryz.prog.info? 192).map (fun i => (i.zero, i.size, i.bytes)) = some (some .nilIface, 1, 16) := by kernel_rfl
theorem made_pieces {w : World} {B g : Nat} {ps : List Pi} (h : w.ownsRow B 192 1 (.slice (some ⟨g, 0, none⟩) ps.length ps.length) ps.length (madeCells (Value.cells .nilIface) (ps.length * 1)).toList) : Arr w g 192 (pRow ps 0) := by
  have h2 := ownsRow_arr h
  have e : (madeCells (Value.cells .nilIface) (ps.length * 1)).toList = pRow ps 0 := by
    rw [Nat.mul_one, show (madeCells (Value.cells .nilIface) ps.length).toList = List.replicate ps.length .nilIface from toList_madeCells_one _ _]; simp [pRow]
  rw [e] at h2
  exact h2

theorem msgs_as (ps : List Pi) (l : List MsgD) (hl : ps.length = l.length) (h : ∀ (i : Nat) (x : Pi), ps[i]? = some x → x.m = true ∧ l[i]? = some (x.k, x.bs)) : pisF ps = firstF l ∧ pisO ps = packAll l := by
  induction ps generalizing l with
  | nil => cases l with
    | nil => exact ⟨rfl, rfl⟩
    | cons a l => simp at hl
  | cons x ps ih => cases l with
    | nil => simp at hl
    | cons a l =>
      obtain ⟨h1, h2⟩ := ih l (by simpa using hl) (fun i y hy => by have := h (i + 1) y (by simpa using hy); simpa using this)
      obtain ⟨hm, ha⟩ := h 0 x rfl
      simp at ha
      subst ha
      have e : x.fc = faultW x.k x.bs.length := by rw [Pi.fc, hm]; rfl
      refine ⟨by rw [pisF, firstF, e, h1], ?_⟩
      rw [packAll_cons, ← h2]
      simp [pisO, Pi.out, Pi.hd, hm, packW]
theorem pis_of_msgs {w : World} {p : Option Addr} {q : Nat} {l : List MsgD} (h : RdL msgC w p q l) : ∃ ps : List Pi, ps.length = l.length ∧ ∀ i x, ps[i]? = some x → (x.m = true ∧ l[i]? = some (x.k, x.bs)) ∧ Rd w x.p x.q x.bs ∧ ∃ b o, p = some ⟨b, o, none⟩ ∧ w.cell? ⟨b, o + i * 2, none⟩ = some (.int .i64 x.k) ∧ w.cell? ⟨b, o + i * 2 + 1, none⟩ = some (.slice x.p x.bs.length x.q) := by
  refine list_of l.length (fun i hi => ?_)
  obtain ⟨b, o, rfl, hc⟩ := h.2.2.2 (by omega)
  obtain ⟨us, hrep, hcell⟩ := hc i l[i] (by simp [hi])
  obtain ⟨pa, qa, rfl, ra⟩ := msg_rep hrep
  exact ⟨⟨true, l[i].1, pa, qa, l[i].2⟩, ⟨rfl, by simp [hi]⟩, ra, b, o, rfl, hcell 0 _ rfl, hcell 1 _ rfl⟩
theorem psC_pk {ps : List Pi} {l : List MsgD} (hl : l.length ≤ 12) (h : pisF ps = firstF l ∧ pisO ps = packAll l) : psC l = pkC ps 600 ∧ psL l = pkL ps 600 := by
  have e : psC l = pkC ps 600 := by rw [psC, if_pos hl, pkC, h.1, h.2]
  exact ⟨e, by rw [psL, pkL, e, h.2]⟩
theorem psC_over {l : List MsgD} (hl : ¬ l.length ≤ 12) : psC l = 2 ∧ psL l = [] := by
  have e : psC l = 2 := by rw [psC, if_neg hl]
  exact ⟨e, by rw [psL, e, if_neg (by decide)]⟩
set_option maxRecDepth 4000 in
set_option maxHeartbeats 1000000 in
theorem implPS_c (l : List MsgD) (p : Option Addr) (q : Nat) (w : World) (hr : RdL msgC w p q l) :
    Calls Tryz.prog 155 #[.slice p l.length q] w fun e w' => ∃ u, e = .returned (.agg #[.int .i64 (psC l), u]) ∧ Own w' w.heap.size u (psL l) ∧ Below w.heap.size w w' := by
  have A0 := Arr.new w [.int .i64 0, .slice none 0 0] 130
  have B0 := alloc_below w (.cells #[.int .i64 0, .slice none 0 0] 130)
  by_cases hl : l.length ≤ 12
  · have hlI : ¬ (12 < (l.length : Int)) := by omega
    obtain ⟨ps, hpl, hps⟩ := pis_of_msgs hr
    have HPS : Hid (∀ i x, ps[i]? = some x → (x.m = true ∧ l[i]? = some (x.k, x.bs)) ∧ Rd w x.p x.q x.bs ∧ ∃ b o, p = some ⟨b, o, none⟩ ∧ w.cell? ⟨b, o + i * 2, none⟩ = some (.int .i64 x.k) ∧ w.cell? ⟨b, o + i * 2 + 1, none⟩ = some (.slice x.p x.bs.length x.q)) := hps
    obtain ⟨e1, e2⟩ := psC_pk hl (msgs_as ps l hpl fun i x hx => (hps i x hx).1)
    rw [e1, e2, ← hpl]
    have hq := hr.1
    have hq2 : q ≤ 2 ^ 63 - 1 := hr.2.1
    have hn12 : ps.length ≤ 12 := by omega
    have hnI : (ps.length : Int) ≤ 12 := by omega
    have hnq : ps.length ≤ q := by omega
    have K : Hid (∀ W, Pis W (w.heap.size + 1) 0 ps → Calls Tryz.prog 182 #[.slice (some ⟨w.heap.size + 1, 0, none⟩) ps.length ps.length, .int .i64 600] W fun e w' => ∃ u, e = .returned (.agg #[.int .i64 (pkC ps 600), u]) ∧ Own w' W.heap.size u (pkL ps 600) ∧ Below W.heap.size W w') := fun W hP => packed_c ps (w.heap.size + 1) 0 ps.length 600 W hP hn12 (by decide)
    obtain ⟨pc, HPC⟩ : ∃ pc, Hid (pc = pkC ps 600) := ⟨_, rfl⟩
    obtain ⟨pl, HPL⟩ : ∃ pl, Hid (pl = pkL ps 600) := ⟨_, rfl⟩
    rw [← HPC.out, ← HPL.out] at K ⊢
    clear HPC HPL e1 e2 hps hr hpl hl hlI hq
    obtain ⟨i0, hi, hz0, hz1, hz2⟩ := info_parts infoPiece
    go_enter Tryz.func155, Tryz.ntmps155
    go_wp2_with (at_make; refine wpList_make_full _ rfl (.tmp 11) (.tmp 11) 189 rfl w.heap.size 192 i0 .nilIface 1 Tryz.underlying189 hi hz0 hz1 .i64 .i64 _ _ ps.length rfl rfl rfl rfl (by rw [hz2]; omega) (by unfold maxLen; omega) (by rw [size_alloc]; omega) ?_; intro w1 hown hgrow)
    have A1 := A0.other hgrow (by simp)
    have B1 := B0.grown hgrow B0.size (fun k hk => by simp at hk)
    rw [size_alloc] at hown
    have P1 := made_pieces hown
    clear hown hgrow A0 B0
    go_loopw [15] (fun i wr => ∃ j : Nat, j ≤ ps.length ∧ i = .int .i64 j ∧ Arr wr (w.heap.size + 1) 192 (pRow ps j) ∧ Arr wr w.heap.size 130 [.int .i64 0, .slice none 0 0] ∧ Below w.heap.size w wr)
      (fun i _ => ps.length - (intOf i).toNat)
    case atStart => exact ⟨0, Nat.zero_le _, rfl, P1, A1, B1⟩
    case round =>
      clear P1 A1 B1
      obtain ⟨j, hj, rfl, P, A, BW⟩ := hrel
      by_cases hlt : j < ps.length
      · have hI : (j : Int) < (ps.length : Int) := by omega
        obtain ⟨x, hx⟩ : ∃ x, Hid (ps[j]? = some x) := ⟨ps[j], by show _ = _; simp [hlt]⟩
        obtain ⟨⟨hxm, -⟩, -, b, o, hpe, hc0, hc1⟩ := HPS.out j x hx.out
        have HPE : Hid (p = some ⟨b, o, none⟩) := hpe
        rw [HPE.out]
        clear hpe
        have d0 := cell_keep hc0 BW
        have d1 := cell_keep hc1 BW
        have P2 := P.old _ (.cells #[.int .i64 x.k, .slice x.p x.bs.length x.q] 53)
        have A2 := A.old _ (.cells #[.int .i64 x.k, .slice x.p x.bs.length x.q] 53)
        have B2 := Below.mk BW (.cells #[.int .i64 x.k, .slice x.p x.bs.length x.q] 53)
        have P3 := P2.set j x.val
        rw [pRow_set hx.out] at P3
        have A3 := A2.setOther (a := ⟨w.heap.size + 1, j, none⟩) (by show w.heap.size ≠ w.heap.size + 1; omega) x.val
        have B3 := B2.setCell (p := ⟨w.heap.size + 1, j, none⟩) (Nat.le_succ _) x.val
        have cj : (wr.alloc (.cells #[.int .i64 x.k, .slice x.p x.bs.length x.q] 53)).cell? ⟨w.heap.size + 1, j, none⟩ = some .nilIface := (P2.cell j).trans (pRow_at hlt)
        have fj := P2.frozen j
        obtain ⟨m, k, xp, xq, xb⟩ := x
        simp only at hxm d0 d1 cj fj P3 A3 B3
        subst hxm
        simp only [Pi.val, if_true] at P3 A3 B3
        clear P P2 A A2 BW B2 hc0 hc1 hx
        go_wp2_with fail
        go_roundw
        case rel => exact ⟨j + 1, by omega, by go_num, P3, A3, B3⟩
        case measure => simp [intOf]; omega
      · have e : j = ps.length := by omega
        subst e
        rw [pRow_all] at P
        have HP : Hid (Pis wr (w.heap.size + 1) 0 ps) := fun i x hx => by
          rw [Nat.zero_add, P.cell, List.getElem?_map, hx]
          exact ⟨rfl, (HPS.out i x hx).2.1.keep BW⟩
        clear hlt P
        go_wp2_with fail
        refine (K.out _ HP.out).mono ?_
        rintro e w3 ⟨u3, rfl, k3, hb3⟩
        have hlt3 : Hid (w.heap.size < wr.heap.size) := A.lt
        have BW3 := Below.step BW hb3
        have A3 := A.stay hb3
        obtain ⟨p3, q3, rfl, -⟩ := k3.rd
        have c0 := A3.cell 0
        have c1 := A3.cell 1
        have fz := A3.frozen
        simp at c0 c1
        clear A A3 BW HP K hb3
        go_wp2_with fail
        refine bodyPost_ret (v := .agg #[.int .i64 pc, .slice p3 pl.length q3]) (by simp [results, Tryz.results155, go_sem, c0, c1]) rfl ⟨_, rfl, ?_, (BW3.setCell (Nat.le_refl _) _).setCell (Nat.le_refl _) _⟩
        exact ((k3.set (a := ⟨w.heap.size, 0, none⟩) hlt3.out _).set (a := ⟨w.heap.size, 1, none⟩) hlt3.out _).lower (B' := w.heap.size) (Nat.le_of_lt hlt3.out)
  · have hlI : 12 < (l.length : Int) := by omega
    rw [(psC_over hl).1, (psC_over hl).2]
    go_enter Tryz.func155, Tryz.ntmps155
    go_wp2
    exact bodyPost_ret (v := .agg #[.int .i64 2, .slice none 0 0]) (by simp [results, Tryz.results155, go_sem]) rfl ⟨_, rfl, Own_nil _ _, alloc_below _ _⟩
theorem blks_as (ps : List Pi) (l : List BlkD) (hl : ps.length = l.length) (h : ∀ (i : Nat) (x : Pi), ps[i]? = some x → x.m = false ∧ l[i]? = some x.bs) : (pisF ps = if okBl l = true then 0 else 2) ∧ pisO ps = blksN l := by
  induction ps generalizing l with
  | nil => cases l with
    | nil => exact ⟨rfl, rfl⟩
    | cons a l => simp at hl
  | cons x ps ih => cases l with
    | nil => simp at hl
    | cons a l =>
      obtain ⟨h1, h2⟩ := ih l (by simpa using hl) (fun i y hy => by have := h (i + 1) y (by simpa using hy); simpa using this)
      obtain ⟨hm, ha⟩ := h 0 x rfl
      simp at ha
      subst ha
      have e : x.fc = blkF x.bs.length := by rw [Pi.fc, hm]; rfl
      refine ⟨?_, ?_⟩
      · rw [pisF, e, h1]
        unfold blkF
        by_cases hb : x.bs.length ≤ 120
        · simp [hb, okBl]
        · simp [hb, okBl]
      · rw [blksN_cons, ← h2]
        simp [pisO, Pi.out, Pi.hd, hm, blkW]
theorem pis_of_blks {w : World} {p : Option Addr} {q : Nat} {l : List BlkD} (h : RdL bytC w p q l) : ∃ ps : List Pi, ps.length = l.length ∧ ∀ (i : Nat) (x : Pi), ps[i]? = some x → (x.m = false ∧ l[i]? = some x.bs) ∧ Rd w x.p x.q x.bs ∧ ∃ b o, p = some ⟨b, o, none⟩ ∧ w.cell? ⟨b, o + i, none⟩ = some (.slice x.p x.bs.length x.q) := by
  refine list_of l.length (fun i hi => ?_)
  obtain ⟨b, o, rfl, hc⟩ := h.2.2.2 (by omega)
  obtain ⟨us, ⟨pa, qa, rfl, ra⟩, hcell⟩ := hc i l[i] (by simp [hi])
  have c := hcell 0 _ rfl
  rw [show bytC.n = 1 from rfl, Nat.mul_one, Nat.add_zero] at c
  exact ⟨⟨false, 0, pa, qa, l[i]⟩, ⟨rfl, by simp [hi]⟩, ra, b, o, rfl, c⟩
theorem pbC_pk {ps : List Pi} {l : List BlkD} (hl : l.length ≤ 8) (h : (pisF ps = if okBl l = true then 0 else 2) ∧ pisO ps = blksN l) : pbC l = pkC ps 160 ∧ pbL l = pkL ps 160 := by
  have e : pbC l = pkC ps 160 := by
    rw [pbC, pkC, h.1, h.2]
    cases okBl l <;> simp [hl]
  exact ⟨e, by rw [pbL, pkL, e, h.2]⟩
theorem pbC_over {l : List BlkD} (hl : ¬ l.length ≤ 8) : pbC l = 2 ∧ pbL l = [] := by
  have e : pbC l = 2 := by rw [pbC, if_neg (fun h => hl h.1)]
  exact ⟨e, by rw [pbL, e, if_neg (by decide)]⟩
set_option maxRecDepth 4000 in
set_option maxHeartbeats 1000000 in
theorem implPB_c (l : List BlkD) (p : Option Addr) (q : Nat) (w : World) (hr : RdL bytC w p q l) :
    Calls Tryz.prog 213 #[.slice p l.length q] w fun e w' => ∃ u, e = .returned (.agg #[.int .i64 (pbC l), u]) ∧ Own w' w.heap.size u (pbL l) ∧ Below w.heap.size w w' := by
  have A0 := Arr.new w [.int .i64 0, .slice none 0 0] 130
  have B0 := alloc_below w (.cells #[.int .i64 0, .slice none 0 0] 130)
  by_cases hl : l.length ≤ 8
  · have hlI : ¬ (8 < (l.length : Int)) := by omega
    obtain ⟨ps, hpl, hps⟩ := pis_of_blks hr
    have HPS : Hid (∀ (i : Nat) (x : Pi), ps[i]? = some x → (x.m = false ∧ l[i]? = some x.bs) ∧ Rd w x.p x.q x.bs ∧ ∃ b o, p = some ⟨b, o, none⟩ ∧ w.cell? ⟨b, o + i, none⟩ = some (.slice x.p x.bs.length x.q)) := hps
    obtain ⟨e1, e2⟩ := pbC_pk hl (blks_as ps l hpl fun i x hx => (hps i x hx).1)
    rw [e1, e2, ← hpl]
    have hq := hr.1
    have hq2 : q ≤ 2 ^ 63 - 1 := hr.2.1
    have hn12 : ps.length ≤ 8 := by omega
    have hnI : (ps.length : Int) ≤ 8 := by omega
    have hnq : ps.length ≤ q := by omega
    have K : Hid (∀ W, Pis W (w.heap.size + 1) 0 ps → Calls Tryz.prog 182 #[.slice (some ⟨w.heap.size + 1, 0, none⟩) ps.length ps.length, .int .i64 160] W fun e w' => ∃ u, e = .returned (.agg #[.int .i64 (pkC ps 160), u]) ∧ Own w' W.heap.size u (pkL ps 160) ∧ Below W.heap.size W w') := fun W hP => packed_c ps (w.heap.size + 1) 0 ps.length 160 W hP (by omega) (by decide)
    obtain ⟨pc, HPC⟩ : ∃ pc, Hid (pc = pkC ps 160) := ⟨_, rfl⟩
    obtain ⟨pl, HPL⟩ : ∃ pl, Hid (pl = pkL ps 160) := ⟨_, rfl⟩
    rw [← HPC.out, ← HPL.out] at K ⊢
    clear HPC HPL e1 e2 hps hr hpl hl hlI hq
    obtain ⟨i0, hi, hz0, hz1, hz2⟩ := info_parts infoPiece
    go_enter Tryz.func213, Tryz.ntmps213
    go_wp2_with (at_make; refine wpList_make_full _ rfl (.tmp 11) (.tmp 11) 189 rfl w.heap.size 192 i0 .nilIface 1 Tryz.underlying189 hi hz0 hz1 .i64 .i64 _ _ ps.length rfl rfl rfl rfl (by rw [hz2]; omega) (by unfold maxLen; omega) (by rw [size_alloc]; omega) ?_; intro w1 hown hgrow)
    have A1 := A0.other hgrow (by simp)
    have B1 := B0.grown hgrow B0.size (fun k hk => by simp at hk)
    rw [size_alloc] at hown
    have P1 := made_pieces hown
    clear hown hgrow A0 B0
    go_loopw [15] (fun i wr => ∃ j : Nat, j ≤ ps.length ∧ i = .int .i64 j ∧ Arr wr (w.heap.size + 1) 192 (pRow ps j) ∧ Arr wr w.heap.size 130 [.int .i64 0, .slice none 0 0] ∧ Below w.heap.size w wr)
      (fun i _ => ps.length - (intOf i).toNat)
    case atStart => exact ⟨0, Nat.zero_le _, rfl, P1, A1, B1⟩
    case round =>
      clear P1 A1 B1
      obtain ⟨j, hj, rfl, P, A, BW⟩ := hrel
      by_cases hlt : j < ps.length
      · have hI : (j : Int) < (ps.length : Int) := by omega
        obtain ⟨x, hx⟩ : ∃ x, Hid (ps[j]? = some x) := ⟨ps[j], by show _ = _; simp [hlt]⟩
        obtain ⟨⟨hxm, -⟩, -, b, o, hpe, hc0⟩ := HPS.out j x hx.out
        have HPE : Hid (p = some ⟨b, o, none⟩) := hpe
        rw [HPE.out]
        clear hpe
        have d0 := cell_keep hc0 BW
        have P3 := P.set j x.val
        rw [pRow_set hx.out] at P3
        have A3 := A.setOther (a := ⟨w.heap.size + 1, j, none⟩) (by show w.heap.size ≠ w.heap.size + 1; omega) x.val
        have B3 := BW.setCell (p := ⟨w.heap.size + 1, j, none⟩) (Nat.le_succ _) x.val
        have cj : wr.cell? ⟨w.heap.size + 1, j, none⟩ = some .nilIface := (P.cell j).trans (pRow_at hlt)
        have fj := P.frozen j
        obtain ⟨m, k, xp, xq, xb⟩ := x
        simp only at hxm d0 cj fj P3 A3 B3
        subst hxm
        simp only [Pi.val, Bool.false_eq_true, if_false] at P3 A3 B3
        clear P A BW hc0 hx
        go_wp2_with fail
        go_roundw
        case rel => exact ⟨j + 1, by omega, by go_num, P3, A3, B3⟩
        case measure => simp [intOf]; omega
      · have e : j = ps.length := by omega
        subst e
        rw [pRow_all] at P
        have HP : Hid (Pis wr (w.heap.size + 1) 0 ps) := fun i x hx => by
          rw [Nat.zero_add, P.cell, List.getElem?_map, hx]
          exact ⟨rfl, (HPS.out i x hx).2.1.keep BW⟩
        clear hlt P
        go_wp2_with fail
        refine (K.out _ HP.out).mono ?_
        rintro e w3 ⟨u3, rfl, k3, hb3⟩
        have hlt3 : Hid (w.heap.size < wr.heap.size) := A.lt
        have BW3 := Below.step BW hb3
        have A3 := A.stay hb3
        obtain ⟨p3, q3, rfl, -⟩ := k3.rd
        have c0 := A3.cell 0
        have c1 := A3.cell 1
        have fz := A3.frozen
        simp at c0 c1
        clear A A3 BW HP K hb3
        go_wp2_with fail
        refine bodyPost_ret (v := .agg #[.int .i64 pc, .slice p3 pl.length q3]) (by simp [results, Tryz.results213, go_sem, c0, c1]) rfl ⟨_, rfl, ?_, (BW3.setCell (Nat.le_refl _) _).setCell (Nat.le_refl _) _⟩
        exact ((k3.set (a := ⟨w.heap.size, 0, none⟩) hlt3.out _).set (a := ⟨w.heap.size, 1, none⟩) hlt3.out _).lower (B' := w.heap.size) (Nat.le_of_lt hlt3.out)
  · have hlI : 8 < (l.length : Int) := by omega
    rw [(pbC_over hl).1, (pbC_over hl).2]
    go_enter Tryz.func213, Tryz.ntmps213
    go_wp2
    exact bodyPost_ret (v := .agg #[.int .i64 2, .slice none 0 0]) (by simp [results, Tryz.results213, go_sem]) rfl ⟨_, rfl, Own_nil _ _, alloc_below _ _⟩
end Go.Proofs.YtiabacnmmojfjabGreatDoor

