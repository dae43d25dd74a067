/- The draws of chapter 12 on certificates: l12Right, l12Bent, DrawUnpackCert, DrawPackCert, DrawLookCert: what comes out owns its memory; its bounds, no more (written by tools/draw_ct.py). -/
import Derived.Test.YtflhoefocjmihaaGreatDoorJoint9
import Derived.Test.YtflhoefocjmihaaGreatDoorCertS
import Derived.Test.YtflhoefocjmihaaGreatDoorJoint5
namespace Go.Proofs.YtflhoefocjmihaaGreatDoor
open Go.ChangeShapes Go.WideShapes Go.ChangeAt Go.RowKit

theorem OwnL.drawC {α : Type} {e : TypeId} {c : Cod α} {w w' : World} {B b : Nat} {v : Value} {l : List α} {xs : List Value} {fp : List Nat} (h : OwnL e c w B v l xs fp) (hg : w.grownBy w' (some b)) (hb : b < B) : OwnL e c w' B v l xs fp :=
  h.other (Only.grown hg) (fun k hk e => by have := (h.ins k hk).1; simp at e; omega)
theorem grown_newC {w v v' : World} {r row : Option Nat} (h : w.grownBy v r) (k : v.grownBy v' row) (hr : ∀ j, row = some j → w.heap.size ≤ j) : w.grownBy v' r :=
  ⟨k.os.trans h.os, k.tape.trans h.tape, k.output.trans h.output, Nat.le_trans h.size k.size, fun i hi hn => (k.block i (Nat.lt_of_lt_of_le hi h.size) (fun e => by have := hr i e.symm; omega)).trans (h.block i hi hn)⟩
theorem none_ownC (w : World) (B : Nat) (h : B ≤ w.heap.size) : OwnL 41 certC (w.alloc (.cells #[] 41)) B (.slice (some ⟨w.heap.size, 0, none⟩) 0 0) [] [] [] :=
  ⟨World.ownsRow_lit (base := B) (e := 41) (size := 3) w #[] 0 h (by unfold maxLen; decide) (by simp), ⟨rfl, rfl⟩, by simp [Value.ownBlock]⟩
theorem ownAll_same {α : Type} {c : Cod α} {w : World} {B : Nat} {a : α} {us : List Value} (h : c.own w B a us []) : ∀ n, OwnAll c w B (List.replicate n a) (List.replicate n us).flatten []
  | 0 => ⟨rfl, rfl⟩
  | n + 1 => by
    have h1 := OwnAll.snoc (ownAll_same h n) h
    rw [← List.replicate_succ', List.append_nil] at h1
    rw [show (List.replicate (n + 1) us).flatten = (List.replicate n us).flatten ++ us by rw [List.replicate_succ', List.flatten_append]; simp]
    exact h1
def allOk (l : List CertD) : Prop := 1 ≤ l.length ∧ ∀ c ∈ l, okC c = true
def anyC (l : List CertD) : Prop := 1 ≤ l.length
/-- A list of certificates of one's own that was drawn. -/
def DrawnC (w w' : World) (b : Nat) (p : Option Addr) (q : Nat) (cs : List UInt8) (t : Int) (d m : Nat) (v : Value) (P : List CertD → Prop) : Prop :=
  ∃ (l : List CertD) (xs : List Value) (fp : List Nat) (t' : Int), OwnL 41 certC w' w.heap.size v l xs fp ∧ l.length ≤ m ∧ P l ∧ t ≤ t' ∧ t' ≤ t + d ∧ Src w' b p q cs t' ∧ w.grownBy w' (some b)
def RightR (w wr : World) (b : Nat) (p : Option Addr) (q : Nat) (cs : List UInt8) (t n0 : Int) (v k : Value) : Prop :=
  ∃ (l : List CertD) (xs : List Value) (fp : List Nat) (t' : Int), (l.length : Int) ≤ 1 + n0 ∧ k = .int .i64 (1 + n0 - l.length) ∧ OwnL 41 certC wr w.heap.size v l xs fp ∧ (∀ c ∈ l, okC c = true) ∧ t ≤ t' ∧ t' ≤ t + 1 + 2 * l.length ∧ Src wr b p q cs t' ∧ w.grownBy wr (some b)
set_option maxRecDepth 4000 in
set_option maxHeartbeats 1000000 in
theorem l12Right_c (b : Nat) (p : Option Addr) (q : Nat) (cs : List UInt8) (t : Int) (w : World) (hs : Src w b p q cs t) (ht : 0 ≤ t) (ht2 : t ≤ 700000000) :
    Calls Tryz.prog 82 #[.pointer (some ⟨b, 0, none⟩)] w fun e w' => ∃ v, e = .returned v ∧ DrawnC w w' b p q cs t 20 4 v allOk := by
  have hb0 : Hid (b < w.heap.size) := hs.lt
  have O1 := none_ownC w w.heap.size (Nat.le_refl _)
  go_enter Tryz.func82, Tryz.ntmps82
  go_wp2_with fail
  refine (l1Next_c b p q cs t 4 _ (hs.keep (alloc_below _ _)) (by omega) (by omega) (by omega) (by omega)).mono ?_
  rintro e v0 ⟨n0, rfl, x0, y0, hs0, hg0⟩
  replace O1 := O1.drawC hg0 hb0.out
  have hg : w.grownBy v0 (some b) := grownBy_trans (World.grownBy_alloc _ _ _) hg0
  have hhs := hs0
  clear hg0 hs hs0
  go_wp2_with fail
  go_loopw [3, 4] (fun v k wr => RightR w wr b p q cs t n0 v k)
    (fun _ k _ => (intOf k).toNat)
  case atStart => exact ⟨[], [], [], t + 1, by simp; omega, by simp, O1, (fun _ h => by cases h), by omega, by simp, hhs, hg⟩
  case round =>
    clear O1 hg hhs
    obtain ⟨out, xs, fp, t1, hol, rfl, ho, hok, ht3, ht4, hs1, hg1⟩ := hrel
    by_cases hlt : (out.length : Int) < 1 + n0
    · have hI : 0 < 1 + n0 - (out.length : Int) := by omega
      obtain ⟨po, qo, rfl, hord⟩ := ho.rd
      have hqo1 : out.length ≤ qo := hord.1
      have hqo2 : qo ≤ 2 ^ 63 - 1 := hord.2.1
      have HOK : Hid (∀ c ∈ out, okC c = true) := hok
      clear hord hok
      go_wp2_with fail
      refine (l1Next_c b p q cs t1 3 _ hs1 (by omega) (by omega) (by omega) (by omega)).mono ?_
      rintro e v1 ⟨r1, rfl, x1, y1, hs2, hg2⟩
      replace ho := ho.drawC hg2 hb0.out
      replace hg1 := grownBy_trans hg1 hg2
      clear hs1 hg2
      go_wp2_with fail
      refine (l1Next_c b p q cs (t1 + 1) 40 _ hs2 (by omega) (by omega) (by omega) (by omega)).mono ?_
      rintro e v2 ⟨r2, rfl, x2, y2, hs3, hg3⟩
      replace ho := ho.drawC hg3 hb0.out
      replace hg1 := grownBy_trans hg1 hg3
      clear hs2 hg3
      have hal5 := alloc_below v2 (.cells #[.int .i64 ((out.length : Int) + 1), .int .i64 (1 + r1), .int .i64 (5 + r2)] 41)
      have hnew : ∀ j u, [Value.int .i64 ((out.length : Int) + 1), .int .i64 (1 + r1), .int .i64 (5 + r2)][j]? = some u → (v2.alloc (.cells #[.int .i64 ((out.length : Int) + 1), .int .i64 (1 + r1), .int .i64 (5 + r2)] 41)).cell? ((⟨v2.heap.size, 0, none⟩ : Addr).add j) = some u := fun j u hj => (Arr.new v2 [.int .i64 ((out.length : Int) + 1), .int .i64 (1 + r1), .int .i64 (5 + r2)] 41).cells j u hj
      have ho5 := ho.stay hal5
      have hs5 := hs3.keep hal5
      have hg5 : w.grownBy (v2.alloc (.cells #[.int .i64 ((out.length : Int) + 1), .int .i64 (1 + r1), .int .i64 (5 + r2)] 41)) (some b) := grownBy_trans hg1 (World.grownBy_alloc _ _ _)
      have hrow5 : Hid ((v2.alloc (.cells #[.int .i64 ((out.length : Int) + 1), .int .i64 (1 + r1), .int .i64 (5 + r2)] 41)).ownsRow w.heap.size 41 3 (.slice po out.length qo) out.length xs) := ho5.row
      obtain ⟨i0, hi, hz0, hz1, hz2⟩ := info_parts infoCert
      have HB5 : Hid (w.heap.size ≤ (v2.alloc (.cells #[.int .i64 ((out.length : Int) + 1), .int .i64 (1 + r1), .int .i64 (5 + r2)] 41)).heap.size) := hg5.size
      have hoI := ho5.ins
      clear hs3 hg1 hal5 ho
      go_wp2_with (at_builtin; refine wpList_append_lies _ rfl (.tmp 13) (.tmp 24) 33 rfl w.heap.size 41 i0 (.agg #[.int .i64 0, .int .i64 0, .int .i64 0]) 3 24 Tryz.underlying33 hi hz0 hz1 hz2 rfl (by decide) (.slice po out.length qo) out.length xs rfl hrow5.out ⟨v2.heap.size, 0, none⟩ 1 1 [.int .i64 ((out.length : Int) + 1), .int .i64 (1 + r1), .int .i64 (5 + r2)] rfl rfl hnew (by intro u hu; simp at hu; rcases hu with rfl | rfl | rfl <;> rfl) (by decide) (by unfold maxLen; omega) (by omega) HB5.out _ rfl ?_; intro g6 c6 w6 hown6 hgrow6 hat6 hlt6)
      have OP := ho5.push (cert_own (a := ((out.length : Int) + 1, 1 + r1, 5 + r2))) (fun j hj => by cases hj) (k := out.length + 1) (v' := .slice (some ⟨g6, 0, none⟩) (out.length + 1) c6) (g := g6) hown6 (by simp) hgrow6 rfl hat6
      have hs6 := hs5.other hgrow6 (fun k hk => by have h1 := (hoI k (List.mem_append_left _ (mem_opt.2 hk))).1; have := hb0.out; omega)
      have hg6 : w.grownBy w6 (some b) := grown_newC hg5 hgrow6 (fun k hk => (hoI k (List.mem_append_left _ (mem_opt.2 hk))).1)
      have HOK2 : Hid (∀ c ∈ out ++ [((out.length : Int) + 1, 1 + r1, 5 + r2)], okC c = true) := fun c hc => by
        rcases List.mem_append.1 hc with hc | hc
        · exact HOK.out c hc
        · rcases List.mem_singleton.1 hc with rfl
          exact okC_mk (by show 1 ≤ (out.length : Int) + 1; omega) (by show (out.length : Int) + 1 ≤ 99; omega) (by show 1 ≤ 1 + r1; omega) (by show 1 + r1 ≤ 9; omega) (by show 0 ≤ 5 + r2; omega) (by show 5 + r2 ≤ 9999; omega)
      clear ho5 hs5 hg5 hown6 hgrow6 hat6 hnew hrow5 hoI
      go_wp2_with fail
      go_roundw
      case rel => exact ⟨_, _, _, t1 + 1 + 1, by simp; omega, by simp; omega, OP, HOK2.out, by omega, by simp; omega, hs6, hg6⟩
      case measure => simp [intOf]; omega
    · have hI : ¬ (0 < 1 + n0 - (out.length : Int)) := by omega
      obtain ⟨po, qo, rfl, -⟩ := ho.rd
      go_wp2_with fail
      go_ret
      exact ⟨_, rfl, out, xs, fp, t1, ho, by omega, ⟨by omega, hok⟩, by omega, by omega, hs1, hg1⟩
set_option maxRecDepth 4000 in
set_option maxHeartbeats 1000000 in
theorem l12Bent_c (b : Nat) (p : Option Addr) (q : Nat) (cs : List UInt8) (t : Int) (w : World) (hs : Src w b p q cs t) (ht : 0 ≤ t) (ht2 : t ≤ 700000000) :
    Calls Tryz.prog 43 #[.pointer (some ⟨b, 0, none⟩)] w fun e w' => ∃ v, e = .returned v ∧ DrawnC w w' b p q cs t 60 9 v anyC := by
  have hb0 : Hid (b < w.heap.size) := hs.lt
  go_enter Tryz.func43, Tryz.ntmps43
  go_wp2_with fail
  refine (l12Right_c b p q cs t w hs ht (by omega)).mono ?_
  rintro e w1 ⟨v, rfl, out, xs, fp, t1, ho, hl, hok0, ht3, ht4, hs1, hg⟩
  have hone1 : Hid (1 ≤ out.length) := hok0.1
  clear hok0
  obtain ⟨po, qo, rfl, hord⟩ := ho.rd
  have hqo1 : out.length ≤ qo := hord.1
  have hqo2 : qo ≤ 2 ^ 63 - 1 := hord.2.1
  clear hord hs
  go_wp2_with fail
  refine (l1Next_c b p q cs t1 12 _ hs1 (by omega) (by omega) (by omega) (by omega)).mono ?_
  rintro e w2 ⟨r, rfl, x0, y0, hs2, hg2⟩
  replace ho := ho.drawC hg2 hb0.out
  replace hg := grownBy_trans hg hg2
  clear hs1 hg2
  by_cases h0 : r = 0
  · subst h0
    go_wp2_with fail
    refine (l1Pick_c b p q cs (t1 + 1) w2.heap.size [0, 1, 100, 7] 4 _ (hs2.keep (alloc_below _ _)) (by omega) (by omega) rfl (by decide) (by decide) (by have := hs2.lt; omega) (new_ints _ _ _ [0, 1, 100, 7] rfl)).mono ?_
    rintro e w3 ⟨a1, -, rfl, hs3, hgp⟩
    replace ho := (ho.stay (alloc_below _ _)).drawC hgp hb0.out
    replace hg := grownBy_trans hg (grownBy_trans (World.grownBy_alloc _ _ _) hgp)
    clear hgp hs2
    go_wp2_with fail
    refine (l1Pick_c b p q cs (t1 + 1 + 1) w3.heap.size [1, 0, 10] 3 _ (hs3.keep (alloc_below _ _)) (by omega) (by omega) rfl (by decide) (by decide) (by have := hs3.lt; omega) (new_ints _ _ _ [1, 0, 10] rfl)).mono ?_
    rintro e w4 ⟨a2, -, rfl, hs4, hgp⟩
    replace ho := (ho.stay (alloc_below _ _)).drawC hgp hb0.out
    replace hg := grownBy_trans hg (grownBy_trans (World.grownBy_alloc _ _ _) hgp)
    clear hgp hs3
    go_wp2_with fail
    refine (l1Pick_c b p q cs (t1 + 1 + 1 + 1) w4.heap.size [5, -1, 10000] 3 _ (hs4.keep (alloc_below _ _)) (by omega) (by omega) rfl (by decide) (by decide) (by have := hs4.lt; omega) (new_ints _ _ _ [5, -1, 10000] rfl)).mono ?_
    rintro e w5 ⟨a3, -, rfl, hs5, hgp⟩
    replace ho := (ho.stay (alloc_below _ _)).drawC hgp hb0.out
    replace hg := grownBy_trans hg (grownBy_trans (World.grownBy_alloc _ _ _) hgp)
    clear hgp hs4
    have hal5 := alloc_below w5 (.cells #[.int .i64 a1, .int .i64 a2, .int .i64 a3] 41)
    have hnew : ∀ j u, [Value.int .i64 a1, .int .i64 a2, .int .i64 a3][j]? = some u → (w5.alloc (.cells #[.int .i64 a1, .int .i64 a2, .int .i64 a3] 41)).cell? ((⟨w5.heap.size, 0, none⟩ : Addr).add j) = some u := fun j u hj => (Arr.new w5 [.int .i64 a1, .int .i64 a2, .int .i64 a3] 41).cells j u hj
    have ho5 := ho.stay hal5
    have hs6 := hs5.keep hal5
    have hg5 : w.grownBy (w5.alloc (.cells #[.int .i64 a1, .int .i64 a2, .int .i64 a3] 41)) (some b) := grownBy_trans hg (World.grownBy_alloc _ _ _)
    have hrow5 : Hid ((w5.alloc (.cells #[.int .i64 a1, .int .i64 a2, .int .i64 a3] 41)).ownsRow w.heap.size 41 3 (.slice po out.length qo) out.length xs) := ho5.row
    obtain ⟨i0, hi, hz0, hz1, hz2⟩ := info_parts infoCert
    have HB5 : Hid (w.heap.size ≤ (w5.alloc (.cells #[.int .i64 a1, .int .i64 a2, .int .i64 a3] 41)).heap.size) := hg5.size
    have hoI := ho5.ins
    clear hs5 hg hal5 ho
    go_wp2_with (at_builtin; refine wpList_append_lies _ rfl (.tmp 10) (.tmp 21) 33 rfl w.heap.size 41 i0 (.agg #[.int .i64 0, .int .i64 0, .int .i64 0]) 3 24 Tryz.underlying33 hi hz0 hz1 hz2 rfl (by decide) (.slice po out.length qo) out.length xs rfl hrow5.out ⟨w5.heap.size, 0, none⟩ 1 1 [.int .i64 a1, .int .i64 a2, .int .i64 a3] rfl rfl hnew (by intro u hu; simp at hu; rcases hu with rfl | rfl | rfl <;> rfl) (by decide) (by unfold maxLen; omega) (by omega) HB5.out _ rfl ?_; intro g6 c6 w6 hown6 hgrow6 hat6 hlt6)
    have OP := ho5.push (cert_own (a := (a1, a2, a3))) (fun j hj => by cases hj) (k := out.length + 1) (v' := .slice (some ⟨g6, 0, none⟩) (out.length + 1) c6) (g := g6) hown6 (by simp) hgrow6 rfl hat6
    have hs7 := hs6.other hgrow6 (fun k hk => by have h1 := (hoI k (List.mem_append_left _ (mem_opt.2 hk))).1; have := hb0.out; omega)
    have hg6 : w.grownBy w6 (some b) := grown_newC hg5 hgrow6 (fun k hk => (hoI k (List.mem_append_left _ (mem_opt.2 hk))).1)
    clear ho5 hs6 hg5 hown6 hgrow6 hat6 hnew hrow5 hoI
    go_wp2_with fail
    go_ret
    exact ⟨_, rfl, _, _, _, _, OP, by simp; omega, (by show 1 ≤ _; simp), by omega, by omega, hs7, hg6⟩
  · by_cases h1 : r = 1
    · subst h1
      obtain ⟨i0, hi, hz0, hz1, hz2⟩ := info_parts infoCert
      go_wp2_with (at_make; refine wpList_make_full _ rfl _ _ 33 rfl w.heap.size 41 i0 (.agg #[.int .i64 0, .int .i64 0, .int .i64 0]) 3 Tryz.underlying33 hi hz0 hz1 .i64 .i64 _ _ 9 rfl rfl rfl rfl (by rw [hz2]; decide) (by unfold maxLen; decide) hg.size ?_; intro w3 hown hgrow)
      have hs3 := hs2.other hgrow (fun k hk => by cases hk)
      have hg3 : w.grownBy w3 (some b) := grown_newC hg hgrow (fun k hk => by cases hk)
      rw [show (madeCells (Value.agg #[.int .i64 0, .int .i64 0, .int .i64 0]).cells (9 * 3)).toList = (List.replicate 9 [.int .i64 0, .int .i64 0, .int .i64 0]).flatten by kernel_rfl] at hown
      have OP : OwnL 41 certC w3 w.heap.size (.slice (some ⟨w2.heap.size, 0, none⟩) 9 9) (List.replicate 9 zC) (List.replicate 9 [.int .i64 0, .int .i64 0, .int .i64 0]).flatten [] := ⟨hown, ownAll_same (cert_own (a := zC)) 9, by simp [Value.ownBlock]⟩
      clear hown hgrow
      go_wp2_with fail
      go_ret
      exact ⟨_, rfl, _, _, _, _, OP, by simp, (by show 1 ≤ _; simp), by omega, by omega, hs3, hg3⟩
    · have d0 : (r == 0) = false := by rw [beq_eq_false_iff_ne]; exact h0
      have d1 : (r == 1) = false := by rw [beq_eq_false_iff_ne]; exact h1
      go_wp2_with fail
      go_ret
      exact ⟨_, rfl, out, xs, fp, _, ho, by omega, hone1.out, by omega, by omega, hs2, hg⟩
end Go.Proofs.YtflhoefocjmihaaGreatDoor

