/- The draw of lists of signatures (l12DrawSigns): what comes out owns its memory; its bounds, no more (written by tools/draw_sg.py). -/
import Derived.Test.YtflhoefocjmihaaGreatDoorJoint18
import Derived.Test.YtflhoefocjmihaaGreatDoorJoint10
namespace Go.Proofs.YtflhoefocjmihaaGreatDoor
open Go.ChangeShapes Go.WideShapes Go.ChangeAt Go.RowKit

def okS (l : List SignD) : Prop := ∀ s ∈ l, 0 ≤ s.1 ∧ s.1 ≤ 100 ∧ s.2.2.length ≤ 32
theorem okS_nil : okS [] := fun _ h => by cases h
theorem okS_snoc {l : List SignD} {a : SignD} (h : okS l) (h1 : 0 ≤ a.1) (h2 : a.1 ≤ 100) (h3 : a.2.2.length ≤ 32) : okS (l ++ [a]) := fun s hs => by
  rcases List.mem_append.1 hs with hs | hs
  · exact h s hs
  · rcases List.mem_singleton.1 hs with rfl
    exact ⟨h1, h2, h3⟩
theorem okS_zero (n : Nat) : okS (List.replicate n (0, 0, [])) := fun s hs => by
  rw [List.eq_of_mem_replicate hs]
  exact ⟨by decide, by decide, by decide⟩
def DrawnS (w w' : World) (b : Nat) (p : Option Addr) (q : Nat) (cs : List UInt8) (t : Int) (v : Value) : Prop :=
  ∃ (l : List SignD) (xs : List Value) (fp : List Nat) (t' : Int), OwnL 49 signC w' w.heap.size v l xs fp ∧ l.length ≤ 41 ∧ okS l ∧ t ≤ t' ∧ t' ≤ t + 2000 ∧ Src w' b p q cs t' ∧ w.grownBy w' (some b)
def SignR (w wr : World) (b : Nat) (p : Option Addr) (q : Nat) (cs : List UInt8) (t n0 : Int) (v k : Value) : Prop :=
  ∃ (l : List SignD) (xs : List Value) (fp : List Nat) (t' : Int), (l.length : Int) ≤ n0 ∧ k = .int .i64 (n0 - l.length) ∧ OwnL 49 signC wr w.heap.size v l xs fp ∧ okS l ∧ t ≤ t' ∧ t' ≤ t + 1 + 3 * l.length ∧ Src wr b p q cs t' ∧ w.grownBy wr (some b)
set_option maxRecDepth 4000 in
set_option maxHeartbeats 2000000 in
theorem l12DrawSigns_c (b : Nat) (p : Option Addr) (q : Nat) (cs : List UInt8) (t : Int) (w : World) (hs : Src w b p q cs t) (ht : 0 ≤ t) (ht2 : t ≤ 700000000) :
    Calls Tryz.prog 45 #[.pointer (some ⟨b, 0, none⟩)] w fun e w' => ∃ v, e = .returned v ∧ DrawnS w w' b p q cs t v := by
  have hb0 : Hid (b < w.heap.size) := hs.lt
  have O1 := none_ownS w w.heap.size (Nat.le_refl _)
  go_enter Tryz.func45, Tryz.ntmps45
  go_wp2_with fail
  refine (l1Next_c b p q cs t 5 _ (hs.keep (alloc_below _ _)) (by omega) (by omega) (by omega) (by omega)).mono ?_
  rintro e v0 ⟨n0, rfl, x0, y0, hs0, hg0⟩
  replace O1 := O1.drawC hg0 hb0.out
  have hg : w.grownBy v0 (some b) := grownBy_trans (World.grownBy_alloc _ _ _) hg0
  have hhs := hs0
  clear hg0 hs hs0
  go_wp2_with fail
  go_loopw [3, 4] (fun v k wr => SignR w wr b p q cs t n0 v k)
    (fun _ k _ => (intOf k).toNat)
  case atStart => exact ⟨[], [], [], t + 1, by simp; omega, by simp, O1, okS_nil, by omega, by simp, hhs, hg⟩
  case round =>
    clear O1 hg hhs
    obtain ⟨out, xs, fp, t1, hol, rfl, ho, hok, ht3, ht4, hs1, hg1⟩ := hrel
    by_cases hlt : (out.length : Int) < n0
    · have hI : 0 < n0 - (out.length : Int) := by omega
      obtain ⟨po, qo, rfl, hord⟩ := ho.rd
      have hqo1 : out.length ≤ qo := hord.1
      have hqo2 : qo ≤ 2 ^ 63 - 1 := hord.2.1
      have HOK : Hid (okS out) := hok
      clear hord hok
      obtain ⟨j0, hj, hy0, hy1, hy2⟩ := info_parts info8
      go_wp2_with (at_make; refine wpList_make_full _ rfl _ _ 22 rfl w.heap.size 5 j0 (.int .u8 0) 1 Tryz.underlying22 hj hy0 hy1 .i64 .i64 _ _ 32 rfl rfl rfl rfl (by rw [hy2]; decide) (by unfold maxLen; decide) hg1.size ?_; intro w2 hown hgrow)
      have kd := made_zeros hown
      obtain ⟨gd, hgw⟩ : ∃ gd, Hid (wr.heap.size = gd) := ⟨_, rfl⟩
      have hoin : Hid (∀ j, j ∈ (Value.slice po out.length qo).ownBlock.toList ++ fp → j < gd) := fun j hj => by rw [← hgw.out]; exact (ho.ins j hj).2
      rw [hgw.out] at kd
      have hgd : Hid (∀ k, (Value.slice (some ⟨gd, 0, none⟩) 32 32).ownBlock = some k → w.heap.size ≤ k) := fun k hk => kd.ge k hk
      have hgd2 : Hid (w.heap.size ≤ gd) := hgd.out gd rfl
      replace ho := ho.other (Only.grown hgrow) (fun k hk e => by cases e)
      replace hs1 := hs1.other hgrow (fun k hk => by cases hk)
      replace hg1 : w.grownBy w2 (some b) := grown_newC hg1 hgrow (fun k hk => by cases hk)
      rw [hgw.out]
      clear hown hgrow hj hy0 hy1 hy2
      go_wp2_with fail
      refine (l1Next_c b p q cs (t1) 3 _ hs1 (by omega) (by omega) (by omega) (by omega)).mono ?_
      rintro e w3 ⟨r0, rfl, z0, z0b, hs3, hgn⟩
      replace ho := ho.drawC hgn hb0.out
      replace hg1 := grownBy_trans hg1 hgn
      replace kd := kd.other hgn (fun k hk e => by have := hgd.out k hk; have := hb0.out; simp at e; omega)
      clear hgn hs1
      obtain ⟨m0, rfl⟩ := Int.eq_ofNat_of_zero_le z0
      have kd5 : w3.ownsRow w.heap.size 5 1 (.slice (some ⟨gd, 0, none⟩) 32 32) 32 ((zs 32).map u8v) := kd
      have cn := (World.ownsRow.cellAt kd5 0 (by omega)).trans (show _ = some _ from rfl)
      have fz := World.ownsRow.frozenAt kd5
      have R1 := World.ownsRow.stored kd5 0 (u8v (UInt8.ofNat m0))
      rw [show ((zs 32).map u8v).set 0 (u8v (UInt8.ofNat m0)) = ((zs 32).set 0 (UInt8.ofNat m0)).map u8v by rw [List.map_set]] at R1
      have hu : u8v (UInt8.ofNat m0) = .int .u8 (m0 : Int) := by unfold u8v; rw [UInt8.toNat_ofNat']; congr 1; omega
      rw [hu] at R1
      obtain ⟨dd, hdd⟩ : ∃ dd, Hid ((zs 32).set 0 (UInt8.ofNat m0) = dd) := ⟨_, rfl⟩
      have HD32 : Hid (dd.length = 32) := by show _ = _; rw [← hdd.out, List.length_set]; exact zs_len _
      rw [hdd.out] at R1
      replace kd : Own (w3.setCell ⟨gd, 0, none⟩ (.int .u8 (m0 : Int))) w.heap.size (.slice (some ⟨gd, 0, none⟩) 32 32) dd := by
        unfold Own
        rw [HD32.out]
        exact R1.1
      have hgs := R1.2
      replace ho := ho.other (Only.grown hgs) (fun k hk e => by have := hoin.out k hk; simp at e; omega)
      replace hs3 := hs3.other hgs (fun k hk => by simp at hk; have := hgd2.out; have := hb0.out; omega)
      replace hg1 : w.grownBy _ (some b) := grown_newC hg1 hgs (fun k hk => by simp at hk; have := hgd2.out; omega)
      clear kd5 R1 hgs hu
      go_wp2_with fail
      generalize hW3 : w3.setCell ⟨gd, 0, none⟩ (.int .u8 (m0 : Int)) = W3 at *
      clear hW3 cn fz
      refine (l1Next_c b p q cs (t1 + 1) 3 _ hs3 (by omega) (by omega) (by omega) (by omega)).mono ?_
      rintro e w4 ⟨r1, rfl, x1, y1, hs4, hgn⟩
      replace ho := ho.drawC hgn hb0.out
      replace hg1 := grownBy_trans hg1 hgn
      replace kd := kd.other hgn (fun k hk e => by have := hgd.out k hk; have := hb0.out; simp at e; omega)
      clear hgn hs3
      go_wp2_with fail
      refine (l1Next_c b p q cs (t1 + 1 + 1) 3 _ hs4 (by omega) (by omega) (by omega) (by omega)).mono ?_
      rintro e w5 ⟨r2, rfl, x2, y2, hs5, hgn⟩
      replace ho := ho.drawC hgn hb0.out
      replace hg1 := grownBy_trans hg1 hgn
      replace kd := kd.other hgn (fun k hk e => by have := hgd.out k hk; have := hb0.out; simp at e; omega)
      clear hgn hs4
      have HDJ : Hid (∀ j, (Value.slice (some ⟨gd, 0, none⟩) 32 32).ownBlock = some j → j ∈ (Value.slice po out.length qo).ownBlock.toList ++ fp → False) := fun j hj hj2 => by have := hoin.out j hj2; simp [Value.ownBlock] at hj; omega
      have hal5 := alloc_below w5 (.cells #[.int .i64 (1 + r1), .int .i64 (1 + r2), .slice (some ⟨gd, 0, none⟩) 32 32] 49)
      have hnew : ∀ j u, ([.int .i64 (1 + r1), .int .i64 (1 + r2), .slice (some ⟨gd, 0, none⟩) 32 32] : List Value)[j]? = some u → (w5.alloc (.cells #[.int .i64 (1 + r1), .int .i64 (1 + r2), .slice (some ⟨gd, 0, none⟩) 32 32] 49)).cell? ((⟨w5.heap.size, 0, none⟩ : Addr).add j) = some u := fun j u hj => (Arr.new w5 [.int .i64 (1 + r1), .int .i64 (1 + r2), .slice (some ⟨gd, 0, none⟩) 32 32] 49).cells j u hj
      have ho5 := ho.stay hal5
      have hs6 := hs5.keep hal5
      have kd6 := kd.stay hal5
      have hg5 : w.grownBy (w5.alloc (.cells #[.int .i64 (1 + r1), .int .i64 (1 + r2), .slice (some ⟨gd, 0, none⟩) 32 32] 49)) (some b) := grownBy_trans hg1 (World.grownBy_alloc _ _ _)
      have hrow5 : Hid ((w5.alloc (.cells #[.int .i64 (1 + r1), .int .i64 (1 + r2), .slice (some ⟨gd, 0, none⟩) 32 32] 49)).ownsRow w.heap.size 49 3 (.slice po out.length qo) out.length xs) := ho5.row
      obtain ⟨i0, hi, hz0, hz1, hz2⟩ := info_parts infoSign
      have HB5 : Hid (w.heap.size ≤ (w5.alloc (.cells #[.int .i64 (1 + r1), .int .i64 (1 + r2), .slice (some ⟨gd, 0, none⟩) 32 32] 49)).heap.size) := hg5.size
      have hoI := ho5.ins
      clear hs5 hg1 hal5 ho kd
      go_wp2_with (at_builtin; refine wpList_append_lies _ rfl (.tmp 19) (.tmp 28) 34 rfl w.heap.size 49 i0 (.agg #[.int .i64 0, .int .i64 0, .slice none 0 0]) 3 40 Tryz.underlying34 hi hz0 hz1 hz2 rfl (by decide) (.slice po out.length qo) out.length xs rfl hrow5.out ⟨w5.heap.size, 0, none⟩ 1 1 [.int .i64 (1 + r1), .int .i64 (1 + r2), .slice (some ⟨gd, 0, none⟩) 32 32] rfl rfl hnew (by intro u hu; simp at hu; rcases hu with rfl | rfl | rfl <;> rfl) (by decide) (by unfold maxLen; omega) (by omega) HB5.out _ rfl ?_; intro g6 c6 w6 hown6 hgrow6 hat6 hlt6)
      have OP := ho5.push (sign_own_mk (a := (1 + r1, 1 + r2, dd)) kd6) (fun j hj hj2 => HDJ.out j (mem_opt.1 hj) hj2) (k := out.length + 1) (v' := .slice (some ⟨g6, 0, none⟩) (out.length + 1) c6) (g := g6) hown6 (by simp) hgrow6 rfl hat6
      have hs7 := hs6.other hgrow6 (fun k hk => by have h1 := (hoI k (List.mem_append_left _ (mem_opt.2 hk))).1; have := hb0.out; omega)
      have hg6 : w.grownBy w6 (some b) := grown_newC hg5 hgrow6 (fun k hk => (hoI k (List.mem_append_left _ (mem_opt.2 hk))).1)
      have HOK2 : Hid (okS (out ++ [(1 + r1, 1 + r2, dd)])) := okS_snoc HOK.out (by show 0 ≤ 1 + r1; omega) (by show 1 + r1 ≤ 100; omega) (by show dd.length ≤ 32; rw [HD32.out]; exact Nat.le_refl _)
      clear ho5 hs6 hg5 kd6 hown6 hgrow6 hat6 hnew hrow5 hoI
      go_wp2_with fail
      go_roundw
      case rel => exact ⟨_, _, _, t1 + 1 + 1 + 1, by simp; omega, by simp; omega, OP, HOK2.out, by omega, by simp; omega, hs7, hg6⟩
      case measure => simp [intOf]; omega
    · have hI : ¬ (0 < n0 - (out.length : Int)) := by omega
      obtain ⟨po, qo, rfl, hord⟩ := ho.rd
      have hqo1 : out.length ≤ qo := hord.1
      have hqo2 : qo ≤ 2 ^ 63 - 1 := hord.2.1
      have HOK : Hid (okS out) := hok
      clear hord hok
      go_wp2_with fail
      refine (l1Next_c b p q cs (t1) 14 _ hs1 (by omega) (by omega) (by omega) (by omega)).mono ?_
      rintro e w2 ⟨r, rfl, x3, y3, hs2, hgn⟩
      replace ho := ho.drawC hgn hb0.out
      replace hg1 := grownBy_trans hg1 hgn
      clear hgn hs1
      by_cases h0 : r = 0
      · subst h0
        go_wp2_with fail
        refine (l1Pick_c b p q cs (t1 + 1) w2.heap.size [0, 1, 100] 3 _ (hs2.keep (alloc_below _ _)) (by omega) (by omega) rfl (by decide) (by decide) (by have := hs2.lt; omega) (new_ints _ _ _ [0, 1, 100] rfl)).mono ?_
        rintro e w3 ⟨a1, ha1, rfl, hs3, hgp⟩
        replace ho := (ho.stay (alloc_below _ _)).drawC hgp hb0.out
        replace hg1 := grownBy_trans hg1 (grownBy_trans (World.grownBy_alloc _ _ _) hgp)
        clear hgp hs2
        go_wp2_with fail
        refine (l1Pick_c b p q cs (t1 + 1 + 1) w3.heap.size [1, 10] 2 _ (hs3.keep (alloc_below _ _)) (by omega) (by omega) rfl (by decide) (by decide) (by have := hs3.lt; omega) (new_ints _ _ _ [1, 10] rfl)).mono ?_
        rintro e w4 ⟨a2, ha2, rfl, hs4, hgp⟩
        replace ho := (ho.stay (alloc_below _ _)).drawC hgp hb0.out
        replace hg1 := grownBy_trans hg1 (grownBy_trans (World.grownBy_alloc _ _ _) hgp)
        clear hgp hs3
        have ha1b : Hid (0 ≤ a1 ∧ a1 ≤ 100) := by show _ ∧ _; simp only [List.mem_cons, List.not_mem_nil, or_false] at ha1; omega
        clear ha1 ha2
        go_wp2_with fail
        refine (l4Key_c b p q cs (t1 + 1 + 1 + 1) _ hs4 (by omega) (by omega)).mono ?_
        rintro e w5 ⟨u5, d5, t5, rfl, hdl, ht5, ht6, kd, hs5, hgk⟩
        have HDJ0 : Hid (∀ j, j ∈ (Value.slice po out.length qo).ownBlock.toList ++ fp → j < w4.heap.size) := fun j hj => (ho.ins j hj).2
        have hkg : Hid (∀ j, u5.ownBlock = some j → w4.heap.size ≤ j) := fun j hj => kd.ge j hj
        have hw4 : Hid (w.heap.size ≤ w4.heap.size) := hg1.size
        replace ho := ho.drawC hgk hb0.out
        replace hg1 := grownBy_trans hg1 hgk
        replace kd := kd.lower (B' := w.heap.size) hw4.out
        obtain ⟨pd, qd, rfl, -⟩ := kd.rd
        clear hgk hs4
        have HDJ : Hid (∀ j, (Value.slice pd d5.length qd).ownBlock = some j → j ∈ (Value.slice po out.length qo).ownBlock.toList ++ fp → False) := fun j hj hj2 => by have := HDJ0.out j hj2; have := hkg.out j hj; omega
        have hal5 := alloc_below w5 (.cells #[.int .i64 a1, .int .i64 a2, .slice pd d5.length qd] 49)
        have hnew : ∀ j u, ([.int .i64 a1, .int .i64 a2, .slice pd d5.length qd] : List Value)[j]? = some u → (w5.alloc (.cells #[.int .i64 a1, .int .i64 a2, .slice pd d5.length qd] 49)).cell? ((⟨w5.heap.size, 0, none⟩ : Addr).add j) = some u := fun j u hj => (Arr.new w5 [.int .i64 a1, .int .i64 a2, .slice pd d5.length qd] 49).cells j u hj
        have ho5 := ho.stay hal5
        have hs6 := hs5.keep hal5
        have kd6 := kd.stay hal5
        have hg5 : w.grownBy (w5.alloc (.cells #[.int .i64 a1, .int .i64 a2, .slice pd d5.length qd] 49)) (some b) := grownBy_trans hg1 (World.grownBy_alloc _ _ _)
        have hrow5 : Hid ((w5.alloc (.cells #[.int .i64 a1, .int .i64 a2, .slice pd d5.length qd] 49)).ownsRow w.heap.size 49 3 (.slice po out.length qo) out.length xs) := ho5.row
        obtain ⟨i0, hi, hz0, hz1, hz2⟩ := info_parts infoSign
        have HB5 : Hid (w.heap.size ≤ (w5.alloc (.cells #[.int .i64 a1, .int .i64 a2, .slice pd d5.length qd] 49)).heap.size) := hg5.size
        have hoI := ho5.ins
        clear hs5 hg1 hal5 ho kd
        go_wp2_with (at_builtin; refine wpList_append_lies _ rfl (.tmp 34) (.tmp 44) 34 rfl w.heap.size 49 i0 (.agg #[.int .i64 0, .int .i64 0, .slice none 0 0]) 3 40 Tryz.underlying34 hi hz0 hz1 hz2 rfl (by decide) (.slice po out.length qo) out.length xs rfl hrow5.out ⟨w5.heap.size, 0, none⟩ 1 1 [.int .i64 a1, .int .i64 a2, .slice pd d5.length qd] rfl rfl hnew (by intro u hu; simp at hu; rcases hu with rfl | rfl | rfl <;> rfl) (by decide) (by unfold maxLen; omega) (by omega) HB5.out _ rfl ?_; intro g6 c6 w6 hown6 hgrow6 hat6 hlt6)
        have OP := ho5.push (sign_own_mk (a := (a1, a2, d5)) kd6) (fun j hj hj2 => HDJ.out j (mem_opt.1 hj) hj2) (k := out.length + 1) (v' := .slice (some ⟨g6, 0, none⟩) (out.length + 1) c6) (g := g6) hown6 (by simp) hgrow6 rfl hat6
        have hs7 := hs6.other hgrow6 (fun k hk => by have h1 := (hoI k (List.mem_append_left _ (mem_opt.2 hk))).1; have := hb0.out; omega)
        have hg6 : w.grownBy w6 (some b) := grown_newC hg5 hgrow6 (fun k hk => (hoI k (List.mem_append_left _ (mem_opt.2 hk))).1)
        have HOK2 : Hid (okS (out ++ [(a1, a2, d5)])) := okS_snoc HOK.out ha1b.out.1 ha1b.out.2 hdl
        clear ho5 hs6 hg5 kd6 hown6 hgrow6 hat6 hnew hrow5 hoI
        go_wp2_with fail
        go_ret
        exact ⟨_, rfl, _, _, _, _, OP, by simp; omega, HOK2.out, by omega, by omega, hs7, hg6⟩
      · by_cases h1 : r = 1
        · subst h1
          obtain ⟨i0, hi, hz0, hz1, hz2⟩ := info_parts infoSign
          go_wp2_with (at_make; refine wpList_make_full _ rfl _ _ 34 rfl w.heap.size 49 i0 (.agg #[.int .i64 0, .int .i64 0, .slice none 0 0]) 3 Tryz.underlying34 hi hz0 hz1 .i64 .i64 _ _ 41 rfl rfl rfl rfl (by rw [hz2]; decide) (by unfold maxLen; decide) hg1.size ?_; intro w3 hown hgrow)
          have hs3 := hs2.other hgrow (fun k hk => by cases hk)
          have hg3 : w.grownBy w3 (some b) := grown_newC hg1 hgrow (fun k hk => by cases hk)
          rw [show (madeCells (Value.agg #[.int .i64 0, .int .i64 0, .slice none 0 0]).cells (41 * 3)).toList = (List.replicate 41 [.int .i64 0, .int .i64 0, .slice none 0 0]).flatten by kernel_rfl] at hown
          have OP : OwnL 49 signC w3 w.heap.size (.slice (some ⟨w2.heap.size, 0, none⟩) 41 41) (List.replicate 41 (0, 0, [])) (List.replicate 41 [.int .i64 0, .int .i64 0, .slice none 0 0]).flatten [] := ⟨hown, ownAll_same (sign_own_mk (a := (0, 0, [])) (Own_nil _ _)) 41, by simp [Value.ownBlock]⟩
          clear hown hgrow
          go_wp2_with fail
          go_ret
          exact ⟨_, rfl, _, _, _, _, OP, by simp, okS_zero 41, by omega, by omega, hs3, hg3⟩
        · have d0 : (r == 0) = false := by rw [beq_eq_false_iff_ne]; exact h0
          have d1 : (r == 1) = false := by rw [beq_eq_false_iff_ne]; exact h1
          go_wp2_with fail
          go_ret
          exact ⟨_, rfl, out, xs, fp, _, ho, by omega, HOK.out, by omega, by omega, hs2, hg1⟩
end Go.Proofs.YtflhoefocjmihaaGreatDoor

