/- The functions of chapter 9 in the program that go by keys: KeysOf, ownStream, keyAndNonce, at every argument that they are called at, where the two tables hold what the program's text lays (Tabs). What was there stays. -/
import Derived.Test.YtdemfbbjdnjolabDoorJoint7
import Derived.Test.YtdemfbbjdnjolabDoorRecT
import Derived.Test.YtdemfbbjdnjolabDoorKeyI
namespace Go.Proofs.YtdemfbbjdnjolabDoor
open Go.ChangeShapes Go.WideShapes Go.ChangeAt Go.RowKit

theorem expR_c (l : List UInt8) (n : Nat) (hl : labelOk l = true) (hn : n ≤ 255) (p : Option Addr) (q : Nat) (s : List UInt8) (w : World) (hr : Rd w p q s) (hk : s.length = 32) (hT : Tabs w) :
    Calls Tryd.prog 31 #[.slice p s.length q, .string (strB l), .slice none 0 0, .int .i64 n] w fun e w' => ∃ u, e = .returned (.agg #[.int .i64 0, u]) ∧ Own w' w.heap.size u (expLabN s l [] n) ∧ Below w.heap.size w w' := by
  have hl2 : l.length ≤ 1048576 := by
    have h := hl
    unfold labelOk at h
    simp at h
    omega
  have h := implExpL_c p none q 0 s l [] n w hr (rd_nix w) hl2 hT
  have hc : elC s l [] (n : Int) = 0 := by
    unfold elC labelC
    simp [keyB, hk, hl, inB]
    omega
  have hL : elL s l [] (n : Int) = expLabN s l [] n := by
    unfold elL
    rw [if_pos hc]
    rfl
  rw [hc, hL] at h
  exact h
set_option maxRecDepth 4000 in
set_option maxHeartbeats 1000000 in
theorem ownStream_c (x : StreamD) (p : Option Addr) (q : Nat) (w : World) (hr : Rd w p q x.1) (hl : x.1.length ≤ 1000) :
    Calls Tryd.prog 19 #[.agg #[.slice p x.1.length q, .int .i64 x.2.1, .int .i64 x.2.2]] w fun e w' => ∃ u b, e = .returned (.pointer (some ⟨b, 0, none⟩)) ∧ Own w' w.heap.size u x.1 ∧ Arr w' b 26 [u, .int .i64 x.2.1, .int .i64 x.2.2] ∧ w.heap.size < b ∧ (∀ k, u.ownBlock = some k → k < b) ∧ Below w.heap.size w w' := by
  have BW := alloc_below w (.cells #[.slice p x.1.length q, .int .i64 x.2.1, .int .i64 x.2.2] 26)
  have A := Arr.new w [.slice p x.1.length q, .int .i64 x.2.1, .int .i64 x.2.2] 26
  have hz0 : Hid ((w.alloc (.cells #[.slice p x.1.length q, .int .i64 x.2.1, .int .i64 x.2.2] 26)).heap.size = w.heap.size + 1) := size_alloc _ _
  have r1 := hr.keep BW
  have g0 := HW.at ((A.cell 0).trans (show _ = some _ from rfl))
  have g1 := HW.at ((A.cell 1).trans (show _ = some _ from rfl))
  have g2 := HW.at ((A.cell 2).trans (show _ = some _ from rfl))
  have hne := HW.some (w.alloc (.cells #[.slice p x.1.length q, .int .i64 x.2.1, .int .i64 x.2.2] 26))
  clear hr A
  go_enter Tryd.func19, Tryd.ntmps19
  go_wp2_with fail
  refine wp_region_pick [0, 1, 3, 4, 5, 6] 7 1 3 rfl rfl rfl (by kernel_rfl) (by kernel_rfl) (by kernel_rfl) (by kernel_rfl) ?_
  simp only [opsAt, List.getElem?_toArray, List.getElem?_cons_zero, List.getElem?_cons_succ]
  repeat (go_big_quiet_step (fail))
  refine wpQuiet_nil ?_
  refine wpM_only (i := 2) (by kernel_rfl) ?_
  refine mOp_call rfl (by go_simp) 30 _ #[.slice p x.1.length q] (fun w => by go_simp) rfl ?_
  rintro _ ⟨s1, rfl⟩
  refine (bytesClone_c p q x.1 _ (r1.keep s1.h) (by omega)).mono ?_
  rintro e w1 ⟨u, rfl, ho, hb⟩
  refine ⟨_, rfl, ⟨⟨_, hb⟩, rfl⟩, ?_⟩
  have hbg := Below.step s1.h hb
  replace BW := Below.step BW hbg
  replace ho := ho.lower (B' := w.heap.size + 1) (by have h := s1.h.size; rw [hz0.out] at h; exact h)
  have hz1 : Hid (w.heap.size + 1 ≤ w1.heap.size) := by have h := hbg.size; rw [hz0.out] at h; exact h
  obtain ⟨pu, qu, rfl, -⟩ := ho.rd
  clear hbg hb r1 g0 g1 g2 hne
  refine wpM_end (by kernel_rfl) rfl (by kernel_rfl) (by decide) ?_
  rintro _ ⟨sz, rfl⟩
  simp only [List.drop_succ_cons, List.drop_zero]
  have hbz := sz.h
  replace BW := Below.step BW hbz
  have hz2 : Hid (w.heap.size + 1 ≤ sz.w.heap.size) := Nat.le_trans hz1.out hbz.size
  replace ho := ho.stay hbz
  generalize sz.w = w2 at *
  go_wp2_with fail
  go_ret
  exact ⟨_, w2.heap.size, rfl, (ho.lower (Nat.le_succ _)).stay (alloc_below _ _), Arr.new w2 [_, _, _] _, hz2.out, ho.lt, Below.mk BW _⟩
end Go.Proofs.YtdemfbbjdnjolabDoor

