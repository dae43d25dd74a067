/- What the rows' list of package-level variables gives: the two tables of the digest hold what the program's text lays (Tabs). -/
import Derived.Test.YtdbpnibcblelbaaGreatDoorJoint16
import Derived.Test.YtdbpnibcblelbaaGreatDoorRows
import Derived.Lib.LaidTab
import Derived.Stop.LaidErr
import Derived.Test.YtdbpnibcblelbaaGreatDoorJoint20
import Derived.Test.YtdbpnibcblelbaaGreatDoorSchF
namespace Go.Proofs.YtdbpnibcblelbaaGreatDoor
open Go.RowKit
theorem gStart : Tryz.prog.globalNamed "loop.example/g00375/impl.digestStart" = some 0 := by kernel_rfl
theorem gKeys : Tryz.prog.globalNamed "loop.example/g00375/impl.roundKeys" = some 1 := by kernel_rfl
theorem gStartT : (Tryz.prog.globals[0]?).map (·.type) = some 169 := by kernel_rfl
theorem gKeysT : (Tryz.prog.globals[1]?).map (·.type) = some 233 := by kernel_rfl
theorem cellsU : Tryz.prog.cellsOf 167 = 1 := by kernel_rfl
theorem cellsE : Tryz.prog.cellsOf 169 = 8 := by kernel_rfl
theorem cellsK : Tryz.prog.cellsOf 233 = 64 := by kernel_rfl
theorem heap_of_tab {P : Program} {w : World} {name : String} {k : IntKind} {zs : List Int} {g : Nat} (h : Lib.TabIs P w name k zs) (hg : P.globalNamed name = some g) :
    ∃ t fr, w.heap[g]? = some (.cells (zs.map fun z => Value.int k z).toArray t fr) := by
  unfold Lib.TabIs World.var? at h
  rw [hg, Option.bind_some] at h
  split at h
  · rename_i cs t fr e
    rw [Option.some.inj h] at e
    exact ⟨t, fr, e⟩
  · cases h
theorem u32_list (l : List Nat) : (l.map Int.ofNat).map (fun z => Value.int .u32 z) = l.map u32v := by simp [u32v]
theorem tabs_of {W : World} (h : laidMet Tryz.prog [("loop.example/g00375/impl.digestStart", Rows.laid_loop_example_g00375_impl_digestStart), ("loop.example/g00375/impl.roundKeys", Rows.laid_loop_example_g00375_impl_roundKeys)] W) : Tabs W := by
  have h1 := heap_of_tab (Lib.tabIs_of_head (k := .u32) (zs := startN.list.map Int.ofNat) gStart gStartT Tryz.underlying169 Tryz.underlying167 cellsU cellsE h) gStart
  have h2 := heap_of_tab (Lib.tabIs_of_head (k := .u32) (zs := keysN.map Int.ofNat) gKeys gKeysT Tryz.underlying233 Tryz.underlying167 cellsU cellsK h.tail) gKeys
  rw [u32_list] at h1 h2
  exact ⟨h1, h2⟩
end Go.Proofs.YtdbpnibcblelbaaGreatDoor
/- The contract of SecretsOf in the program, its answer as one datum (SecretsResultC), where the two tables hold what the program's text lays (Tabs). What was there stays. -/
namespace Go.Proofs.YtdbpnibcblelbaaGreatDoor
open Go.ChangeShapes Go.WideShapes Go.ChangeAt Go.RowKit
set_option maxRecDepth 4000 in
set_option maxHeartbeats 1000000 in
theorem implSc_c (p p2 : Option Addr) (q q2 : Nat) (master digest : List UInt8) (w : World) (hr : Rd w p q master) (hr2 : Rd w p2 q2 digest) (hT : Tabs w) :
    Calls Tryz.prog 173 #[.slice p master.length q, .slice p2 digest.length q2] w fun e w' => ∃ u1 u2 u3 u4, e = .returned (.agg #[.int .i64 (scC master digest), u1, u2, u3, u4]) ∧ Own w' w.heap.size u1 (scL master digest cApB) ∧ Own w' w.heap.size u2 (scL master digest sApB) ∧ Own w' w.heap.size u3 (scL master digest expMB) ∧ Own w' w.heap.size u4 (scL master digest resMB) ∧ (u1.ownBlock.toList ++ (u2.ownBlock.toList ++ (u3.ownBlock.toList ++ u4.ownBlock.toList))).Nodup ∧ Below w.heap.size w w' := by
  cases h1 : is32 master
  · have hc : scC master digest = 1 := by simp [scC, h1]
    have hn : ∀ l, scL master digest l = [] := fun l => by rw [scL, if_neg (by rw [hc]; decide)]
    rw [hc, hn, hn, hn, hn]
    go_enter Tryz.func173, Tryz.ntmps173
    go_wp2_with fail
    refine (isKey_c p q master _).mono ?_
    rintro e w' ⟨rfl, hw⟩
    subst hw
    rw [h1]
    go_wp2
    exact bodyPost_ret (v := .agg #[.int .i64 1, .slice none 0 0, .slice none 0 0, .slice none 0 0, .slice none 0 0]) (by simp [results, Tryz.results173, go_sem]) rfl ⟨_, _, _, _, rfl, Own_nil _ _, Own_nil _ _, Own_nil _ _, Own_nil _ _, by simp [Value.ownBlock], alloc_below _ _⟩
  · cases h2 : is32 digest
    · have hc : scC master digest = 1 := by simp [scC, h1, h2]
      have hn : ∀ l, scL master digest l = [] := fun l => by rw [scL, if_neg (by rw [hc]; decide)]
      rw [hc, hn, hn, hn, hn]
      go_enter Tryz.func173, Tryz.ntmps173
      go_wp2_with fail
      refine (isKey_c p q master _).mono ?_
      rintro e w' ⟨rfl, hw⟩
      subst hw
      rw [h1]
      go_wp2_with fail
      refine (isKey_c p2 q2 digest _).mono ?_
      rintro e w' ⟨rfl, hw⟩
      subst hw
      rw [h2]
      go_wp2
      exact bodyPost_ret (v := .agg #[.int .i64 1, .slice none 0 0, .slice none 0 0, .slice none 0 0, .slice none 0 0]) (by simp [results, Tryz.results173, go_sem]) rfl ⟨_, _, _, _, rfl, Own_nil _ _, Own_nil _ _, Own_nil _ _, Own_nil _ _, by simp [Value.ownBlock], alloc_below _ _⟩
    · have l1 : master.length = 32 := by simpa [is32] using h1
      have l2 : digest.length = 32 := by simpa [is32] using h2
      have hc : scC master digest = 0 := by simp [scC, h1, h2]
      have hn : ∀ l, scL master digest l = trafN master l digest := fun l => by rw [scL, if_pos hc]
      rw [hc, hn, hn, hn, hn]
      have K1 : Hid (∀ w, Rd w p q master → Rd w p2 q2 digest → Tabs w → Calls Tryz.prog 223 #[.slice p master.length q, .string ⟨#[99, 32, 97, 112, 32, 116, 114, 97, 102, 102, 105, 99]⟩, .slice p2 digest.length q2] w fun e w' => ∃ u, e = .returned (.agg #[.int .i64 0, u]) ∧ Own w' w.heap.size u (trafN master cApB digest) ∧ Below w.heap.size w w') := fun w h h' h'' => by
        have g := implTf_c p p2 q q2 master cApB digest w h h' (by decide) h''
        have e3 : labelOk cApB = true := by decide
        rw [show tfC master cApB digest = 0 by simp [tfC, h1, h2, e3], show tfL master cApB digest = trafN master cApB digest by simp [tfL, tfC, h1, h2, e3]] at g
        rw [cAp_str]
        exact g
      obtain ⟨t1, T1⟩ : ∃ t, Hid (t = trafN master cApB digest) := ⟨_, rfl⟩
      rw [← T1.out] at K1 ⊢
      have K2 : Hid (∀ w, Rd w p q master → Rd w p2 q2 digest → Tabs w → Calls Tryz.prog 223 #[.slice p master.length q, .string ⟨#[115, 32, 97, 112, 32, 116, 114, 97, 102, 102, 105, 99]⟩, .slice p2 digest.length q2] w fun e w' => ∃ u, e = .returned (.agg #[.int .i64 0, u]) ∧ Own w' w.heap.size u (trafN master sApB digest) ∧ Below w.heap.size w w') := fun w h h' h'' => by
        have g := implTf_c p p2 q q2 master sApB digest w h h' (by decide) h''
        have e3 : labelOk sApB = true := by decide
        rw [show tfC master sApB digest = 0 by simp [tfC, h1, h2, e3], show tfL master sApB digest = trafN master sApB digest by simp [tfL, tfC, h1, h2, e3]] at g
        rw [sAp_str]
        exact g
      obtain ⟨t2, T2⟩ : ∃ t, Hid (t = trafN master sApB digest) := ⟨_, rfl⟩
      rw [← T2.out] at K2 ⊢
      have K3 : Hid (∀ w, Rd w p q master → Rd w p2 q2 digest → Tabs w → Calls Tryz.prog 223 #[.slice p master.length q, .string ⟨#[101, 120, 112, 32, 109, 97, 115, 116, 101, 114]⟩, .slice p2 digest.length q2] w fun e w' => ∃ u, e = .returned (.agg #[.int .i64 0, u]) ∧ Own w' w.heap.size u (trafN master expMB digest) ∧ Below w.heap.size w w') := fun w h h' h'' => by
        have g := implTf_c p p2 q q2 master expMB digest w h h' (by decide) h''
        have e3 : labelOk expMB = true := by decide
        rw [show tfC master expMB digest = 0 by simp [tfC, h1, h2, e3], show tfL master expMB digest = trafN master expMB digest by simp [tfL, tfC, h1, h2, e3]] at g
        rw [expM_str]
        exact g
      obtain ⟨t3, T3⟩ : ∃ t, Hid (t = trafN master expMB digest) := ⟨_, rfl⟩
      rw [← T3.out] at K3 ⊢
      have K4 : Hid (∀ w, Rd w p q master → Rd w p2 q2 digest → Tabs w → Calls Tryz.prog 223 #[.slice p master.length q, .string ⟨#[114, 101, 115, 32, 109, 97, 115, 116, 101, 114]⟩, .slice p2 digest.length q2] w fun e w' => ∃ u, e = .returned (.agg #[.int .i64 0, u]) ∧ Own w' w.heap.size u (trafN master resMB digest) ∧ Below w.heap.size w w') := fun w h h' h'' => by
        have g := implTf_c p p2 q q2 master resMB digest w h h' (by decide) h''
        have e3 : labelOk resMB = true := by decide
        rw [show tfC master resMB digest = 0 by simp [tfC, h1, h2, e3], show tfL master resMB digest = trafN master resMB digest by simp [tfL, tfC, h1, h2, e3]] at g
        rw [resM_str]
        exact g
      obtain ⟨t4, T4⟩ : ∃ t, Hid (t = trafN master resMB digest) := ⟨_, rfl⟩
      rw [← T4.out] at K4 ⊢
      have HR : Hid (Rd w p q master) := hr
      have HR2 : Hid (Rd w p2 q2 digest) := hr2
      have HT : Hid (Tabs w) := hT
      clear l1 l2 hc hn hr hr2 hT T1 T2 T3 T4
      go_enter Tryz.func173, Tryz.ntmps173
      go_wp2_with fail
      refine (isKey_c p q master _).mono ?_
      rintro e w' ⟨rfl, hw⟩
      subst hw
      rw [h1]
      go_wp2_with fail
      refine (isKey_c p2 q2 digest _).mono ?_
      rintro e w' ⟨rfl, hw⟩
      subst hw
      rw [h2]
      go_wp2_with fail
      refine (K1.out _ (HR.out.keep (alloc_below _ _)) (HR2.out.keep (alloc_below _ _)) (HT.out.keep (alloc_below _ _))).mono ?_
      rintro e w1 ⟨u1, rfl, k1, hb⟩
      have C := (Arr.new w [.int .i64 0, .slice none 0 0, .slice none 0 0, .slice none 0 0, .slice none 0 0] 202).stay hb
      have BW := Below.res hb
      have hz : Hid (w.heap.size < w1.heap.size) := size_lt hb
      rw [size_alloc] at k1
      have b1 : Hid (∀ k, u1.ownBlock = some k → k < w1.heap.size) := fun k e => k1.lt k e
      obtain ⟨a1, c1, rfl, -⟩ := k1.rd
      have f1 := bytes_f1 0 a1 t1.length c1
      clear hb
      go_wp2_with fail
      refine (K2.out _ (HR.out.keep BW) (HR2.out.keep BW) (HT.out.keep BW)).mono ?_
      rintro e w2 ⟨u2, rfl, k2, hb⟩
      replace C := C.stay hb
      replace BW := Below.step BW hb
      replace k1 := k1.stay hb
      have g2 : Hid (∀ k, u2.ownBlock = some k → w1.heap.size ≤ k) := fun k e => k2.ge k e
      have l2 : Hid (w1.heap.size ≤ w2.heap.size) := hb.size
      have b2 : Hid (∀ k, u2.ownBlock = some k → k < w2.heap.size) := fun k e => k2.lt k e
      obtain ⟨a2, c2, rfl, -⟩ := k2.rd
      have f2 := bytes_f1 0 a2 t2.length c2
      clear hb f1
      go_wp2_with fail
      refine (K3.out _ (HR.out.keep BW) (HR2.out.keep BW) (HT.out.keep BW)).mono ?_
      rintro e w3 ⟨u3, rfl, k3, hb⟩
      replace C := C.stay hb
      replace BW := Below.step BW hb
      replace k1 := k1.stay hb
      replace k2 := k2.stay hb
      have g3 : Hid (∀ k, u3.ownBlock = some k → w2.heap.size ≤ k) := fun k e => k3.ge k e
      have l3 : Hid (w2.heap.size ≤ w3.heap.size) := hb.size
      have b3 : Hid (∀ k, u3.ownBlock = some k → k < w3.heap.size) := fun k e => k3.lt k e
      obtain ⟨a3, c3, rfl, -⟩ := k3.rd
      have f3 := bytes_f1 0 a3 t3.length c3
      clear hb f2
      go_wp2_with fail
      refine (K4.out _ (HR.out.keep BW) (HR2.out.keep BW) (HT.out.keep BW)).mono ?_
      rintro e w4 ⟨u4, rfl, k4, hb⟩
      replace C := C.stay hb
      replace BW := Below.step BW hb
      replace k1 := k1.stay hb
      replace k2 := k2.stay hb
      replace k3 := k3.stay hb
      have g4 : Hid (∀ k, u4.ownBlock = some k → w3.heap.size ≤ k) := fun k e => k4.ge k e
      have l4 : Hid (w3.heap.size ≤ w4.heap.size) := hb.size
      have b4 : Hid (∀ k, u4.ownBlock = some k → k < w4.heap.size) := fun k e => k4.lt k e
      obtain ⟨a4, c4, rfl, -⟩ := k4.rd
      have f4 := bytes_f1 0 a4 t4.length c4
      clear hb f3
      have e0 := C.cell 0
      have e1 := C.cell 1
      have e2 := C.cell 2
      have e3 := C.cell 3
      have e4 := C.cell 4
      simp at e0 e1 e2 e3 e4
      have fz := C.frozen
      have HN : Hid (((Value.slice a1 t1.length c1).ownBlock.toList ++ ((Value.slice a2 t2.length c2).ownBlock.toList ++ ((Value.slice a3 t3.length c3).ownBlock.toList ++ (Value.slice a4 t4.length c4).ownBlock.toList))).Nodup) := by
        have z2 := l2.out; have z3 := l3.out; have z4 := l4.out
        refine List.nodup_append.2 ⟨nodup_opt _, List.nodup_append.2 ⟨nodup_opt _, List.nodup_append.2 ⟨nodup_opt _, nodup_opt _, fun x hx y hy e => ?_⟩, fun x hx y hy e => ?_⟩, fun x hx y hy e => ?_⟩
        · have h1 := b3.out x (mem_opt.1 hx); have h2 := g4.out y (mem_opt.1 hy); omega
        · have h1 := b2.out x (mem_opt.1 hx)
          rcases List.mem_append.1 hy with h | h
          · have h2 := g3.out y (mem_opt.1 h); omega
          · have h2 := g4.out y (mem_opt.1 h); omega
        · have h1 := b1.out x (mem_opt.1 hx)
          rcases List.mem_append.1 hy with h | h
          · have h2 := g2.out y (mem_opt.1 h); omega
          · rcases List.mem_append.1 h with h | h
            · have h2 := g3.out y (mem_opt.1 h); omega
            · have h2 := g4.out y (mem_opt.1 h); omega
      have hz2 : w.heap.size + 1 ≤ w1.heap.size := hz.out
      have hz3 : w.heap.size + 1 ≤ w2.heap.size := Nat.le_trans hz2 l2.out
      have hz4 : w.heap.size + 1 ≤ w3.heap.size := Nat.le_trans hz3 l3.out
      replace k1 := k1.lower (B' := w.heap.size + 1) (Nat.le_refl _)
      replace k2 := k2.lower hz2
      replace k3 := k3.lower hz3
      replace k4 := k4.lower hz4
      clear g2 g3 g4 b1 b2 b3 b4 hz2 hz3 hz4 K1 K2 K3 K4 HR HR2 HT
      go_wp2
      have hlt : w.heap.size < w.heap.size + 1 := Nat.lt_succ_self _
      have S : ∀ {v : Value} {bs : List UInt8}, Own w4 (w.heap.size + 1) v bs → ∀ x0 x1 x2 x3 x4, Own (((((w4.setCell ⟨w.heap.size, 0, none⟩ x0).setCell ⟨w.heap.size, 1, none⟩ x1).setCell ⟨w.heap.size, 2, none⟩ x2).setCell ⟨w.heap.size, 3, none⟩ x3).setCell ⟨w.heap.size, 4, none⟩ x4) w.heap.size v bs := fun k x0 x1 x2 x3 x4 =>
        (((((k.set (a := ⟨w.heap.size, 0, none⟩) hlt x0).set (a := ⟨w.heap.size, 1, none⟩) hlt x1).set (a := ⟨w.heap.size, 2, none⟩) hlt x2).set (a := ⟨w.heap.size, 3, none⟩) hlt x3).set (a := ⟨w.heap.size, 4, none⟩) hlt x4).lower (Nat.le_succ _)
      refine bodyPost_ret (v := .agg #[.int .i64 0, .slice a1 t1.length c1, .slice a2 t2.length c2, .slice a3 t3.length c3, .slice a4 t4.length c4]) (by simp [results, Tryz.results173, go_sem, e0, e1, e2, e3, e4]) rfl ⟨_, _, _, _, rfl, S k1 _ _ _ _ _, S k2 _ _ _ _ _, S k3 _ _ _ _ _, S k4 _ _ _ _ _, HN.out, ?_⟩
      exact ((((BW.setCell (p := ⟨w.heap.size, 0, none⟩) (Nat.le_refl _) _).setCell (p := ⟨w.heap.size, 1, none⟩) (Nat.le_refl _) _).setCell (p := ⟨w.heap.size, 2, none⟩) (Nat.le_refl _) _).setCell (p := ⟨w.heap.size, 3, none⟩) (Nat.le_refl _) _).setCell (p := ⟨w.heap.size, 4, none⟩) (Nat.le_refl _) _
theorem implSc_k (p p2 : Option Addr) (q q2 : Nat) (master digest : List UInt8) (w : World) (hr : Rd w p q master) (hr2 : Rd w p2 q2 digest) (hT : Tabs w) :
    Calls Tryz.prog 173 #[.slice p master.length q, .slice p2 digest.length q2] w fun e w' => ∃ us fp, e = .returned (.agg us.toArray) ∧ secretsResultC.own w' w.heap.size (scD master digest) us fp ∧ Below w.heap.size w w' := by
  refine (implSc_c p p2 q q2 master digest w hr hr2 hT).mono ?_
  rintro e w' ⟨u1, u2, u3, u4, rfl, o1, o2, o3, o4, hn, hb⟩
  exact ⟨_, _, rfl, secretsResult_of (a := scD master digest) o1 o2 o3 o4 hn, hb⟩
end Go.Proofs.YtdbpnibcblelbaaGreatDoor
