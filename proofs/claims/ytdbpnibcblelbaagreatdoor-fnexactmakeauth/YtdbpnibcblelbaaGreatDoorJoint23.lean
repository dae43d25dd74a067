/- Chapter 13 of the specification: the digest that is signed (l13Digest). For right arguments. -/
import Derived.Test.YtdbpnibcblelbaaGreatDoorJoint22
import Derived.Test.YtdbpnibcblelbaaGreatDoorJoint12
import Derived.Test.YtdbpnibcblelbaaGreatDoorJoint15
import Derived.Test.YtdbpnibcblelbaaGreatDoorJoint14
import Derived.Test.YtdbpnibcblelbaaGreatDoorJoint6
namespace Go.Proofs.YtdbpnibcblelbaaGreatDoor
open Go.RowKit

set_option maxRecDepth 4000 in
set_option maxHeartbeats 1000000 in
theorem l13Digest_c (p p2 : Option Addr) (q q2 b o : Nat) (x ctx : List UInt8) (r : Int) (c : CertD) (w : World) (hr : Rd w p q x) (hr2 : Rd w p2 q2 ctx) (c0 : w.cell? ⟨b, o, none⟩ = some (.int .i64 c.1)) (c1 : w.cell? ⟨b, o + 1, none⟩ = some (.int .i64 c.2.1)) (c2 : w.cell? ⟨b, o + 2, none⟩ = some (.int .i64 c.2.2)) (hx : x.length ≤ 64) (hl : ctx.length ≤ 20) (hc : okC c = true) :
    Calls Tryz.prog 77 #[.slice p x.length q, .int .i64 r, .slice p2 ctx.length q2, .pointer (some ⟨b, o, none⟩)] w fun e w' => ∃ u, e = .returned u ∧ Own w' w.heap.size u (dgN x r ctx c) ∧ Below w.heap.size w w' := by
  have HD : Hid (dgN x r ctx c = digestN (kyN x r false ++ [UInt8.ofNat ctx.length] ++ ctx ++ pcL c)) := rfl
  have KK : Hid (∀ W, Rd W p q x → Calls Tryz.prog 150 #[.slice p x.length q, .int .i64 r, .bool false] W fun e w' => ∃ u, e = .returned u ∧ Own w' W.heap.size u (kyN x r false) ∧ Below W.heap.size W w') := fun W h => l13Key_c p q x r false W h hx
  have KP : Hid (∀ W, Below w.heap.size w W → Calls Tryz.prog 132 #[.pointer (some ⟨b, o, none⟩)] W fun e w' => ∃ u, e = .returned u ∧ Own w' W.heap.size u (pcL c) ∧ Below W.heap.size W w') := fun W h => l12Pack_c b o c W (cell_keep c0 h) (cell_keep c1 h) (cell_keep c2 h) hc
  have HL1 : (kyN x r false).length = 32 := kyN_len _ _ _
  have HL2 : (pcL c).length ≤ 20 := by exact (show (4 : Nat) ≤ 20 by decide)
  obtain ⟨kk, HK⟩ : ∃ kk, Hid (kyN x r false = kk) := ⟨_, rfl⟩
  obtain ⟨pc, HP⟩ : ∃ pc, Hid (pcL c = pc) := ⟨_, rfl⟩
  rw [HK.out] at HD KK HL1
  rw [HP.out] at HD KP HL2
  have HJL : Hid ((kk ++ [UInt8.ofNat ctx.length] ++ ctx ++ pc).length ≤ 600) := by show _ ≤ _; simp; omega
  have KD : Hid (∀ (W : World) (a : Option Addr) (d : Nat), Rd W a d (kk ++ [UInt8.ofNat ctx.length] ++ ctx ++ pc) → Calls Tryz.prog 148 #[.slice a (kk ++ [UInt8.ofNat ctx.length] ++ ctx ++ pc).length d] W fun e w' => ∃ u, e = .returned u ∧ Own w' W.heap.size u (dgN x r ctx c) ∧ Below W.heap.size W w') := fun W a d h => by rw [HD.out]; exact l2Digest_c a d _ W h HJL.out
  obtain ⟨js, HJS⟩ : ∃ js, Hid (kk ++ [UInt8.ofNat ctx.length] ++ ctx ++ pc = js) := ⟨_, rfl⟩
  rw [HJS.out] at KD HJL
  have HCB : Hid ((UInt8.ofNat ctx.length).toNat = ctx.length) := by show _ = _; rw [UInt8.toNat_ofNat', Nat.mod_eq_of_lt (by omega)]
  obtain ⟨dg, HG⟩ : ∃ dg, Hid (dgN x r ctx c = dg) := ⟨_, rfl⟩
  rw [HG.out] at KD ⊢
  have HR : Hid (Rd w p q x) := hr
  have HR2 : Hid (Rd w p2 q2 ctx) := hr2
  clear hr hr2 c0 c1 c2 hx hc HD HL1 HL2 HK HP HG
  go_enter Tryz.func77, Tryz.ntmps77
  go_wp2_with fail
  refine (KK.out _ HR.out).mono ?_
  rintro e w1 ⟨u1, rfl, k1, hb1⟩
  obtain ⟨pa, qa, rfl, ra⟩ := k1.rd
  clear k1
  have rk := rd_new w1 [.int .u8 (ctx.length : Int)] [UInt8.ofNat ctx.length] 5 1 (by simp only [List.map_cons, List.map_nil, u8v]; rw [HCB.out]) rfl (by decide)
  have hbk := alloc_below w1 (.cells #[.int .u8 (ctx.length : Int)] 5)
  replace ra := ra.keep hbk
  replace hb1 := Below.step hb1 hbk
  clear hbk
  go_wp2_with fail
  refine (KP.out _ hb1).mono ?_
  rintro e w2 ⟨u2, rfl, k2, hb2⟩
  obtain ⟨pb, qb, rfl, rb⟩ := k2.rd
  replace ra := ra.keep hb2
  replace rk := rk.keep hb2
  replace hb1 := Below.step hb1 hb2
  clear k2 hb2
  have Pj := pcs_four w2 ⟨pa, qa, kk⟩ ⟨some ⟨w1.heap.size, 0, none⟩, 1, [UInt8.ofNat ctx.length]⟩ ⟨p2, q2, ctx⟩ ⟨pb, qb, pc⟩ 22 ra rk (HR2.out.keep hb1) rb
  have hbj := Below.step hb1 (alloc_below w2 (.cells #[.slice pa kk.length qa, .slice (some ⟨w1.heap.size, 0, none⟩) 1 1, .slice p2 ctx.length q2, .slice pb pc.length qb] 22))
  have KJ := l1Join_c [⟨pa, qa, kk⟩, ⟨some ⟨w1.heap.size, 0, none⟩, 1, [UInt8.ofNat ctx.length]⟩, ⟨p2, q2, ctx⟩, ⟨pb, qb, pc⟩] w2.heap.size 0 4 _ Pj (by rw [flat_four]; dsimp only; rw [HJS.out]; exact Nat.le_trans HJL.out (by decide)) (by simp)
  rw [flat_four] at KJ
  dsimp only at KJ
  rw [HJS.out] at KJ
  clear ra rb rk Pj hb1
  go_wp2_with fail
  refine KJ.mono ?_
  rintro e w3 ⟨u3, rfl, k3, hb3⟩
  obtain ⟨pj, qj, rfl, rj⟩ := k3.rd
  replace hbj := Below.step hbj hb3
  clear k3 hb3 KJ
  go_wp2_with fail
  refine (KD.out _ _ _ rj).mono ?_
  rintro e w4 ⟨u4, rfl, k4, hb4⟩
  go_wp2
  go_ret
  exact ⟨_, rfl, k4.lower hbj.size, Below.step hbj hb4⟩
set_option maxRecDepth 4000 in
set_option maxHeartbeats 1000000 in
theorem l13Mac_c (p p2 : Option Addr) (q q2 b o : Nat) (x ctx : List UInt8) (r : Int) (c : CertD) (place : Int) (w : World) (hr : Rd w p q x) (hr2 : Rd w p2 q2 ctx) (c0 : w.cell? ⟨b, o, none⟩ = some (.int .i64 c.1)) (c1 : w.cell? ⟨b, o + 1, none⟩ = some (.int .i64 c.2.1)) (c2 : w.cell? ⟨b, o + 2, none⟩ = some (.int .i64 c.2.2)) (hx : x.length ≤ 64) (hl : ctx.length ≤ 20) (hc : okC c = true) (hp0 : 0 ≤ place) (hp1 : place ≤ 255) :
    Calls Tryz.prog 133 #[.slice p x.length q, .int .i64 r, .slice p2 ctx.length q2, .pointer (some ⟨b, o, none⟩), .int .i64 place] w fun e w' => ∃ u, e = .returned u ∧ Own w' w.heap.size u (mcN x r ctx c place) ∧ Below w.heap.size w w' := by
  have HM : Hid (mcN x r ctx c place = macN (kyN x r true) (dgN x r ctx c ++ [UInt8.ofNat place.toNat])) := rfl
  have KK : Hid (∀ W, Rd W p q x → Calls Tryz.prog 150 #[.slice p x.length q, .int .i64 r, .bool true] W fun e w' => ∃ u, e = .returned u ∧ Own w' W.heap.size u (kyN x r true) ∧ Below W.heap.size W w') := fun W h => l13Key_c p q x r true W h hx
  have KD : Hid (∀ W, Below w.heap.size w W → Calls Tryz.prog 77 #[.slice p x.length q, .int .i64 r, .slice p2 ctx.length q2, .pointer (some ⟨b, o, none⟩)] W fun e w' => ∃ u, e = .returned u ∧ Own w' W.heap.size u (dgN x r ctx c) ∧ Below W.heap.size W w') := fun W h => l13Digest_c p p2 q q2 b o x ctx r c W (hr.keep h) (hr2.keep h) (cell_keep c0 h) (cell_keep c1 h) (cell_keep c2 h) hx hl hc
  have HL1 : (kyN x r true).length = 32 := kyN_len _ _ _
  have HL2 : (dgN x r ctx c).length = 32 := dgN_len _ _ _ _
  obtain ⟨kk, HK⟩ : ∃ kk, Hid (kyN x r true = kk) := ⟨_, rfl⟩
  obtain ⟨dg, HG⟩ : ∃ dg, Hid (dgN x r ctx c = dg) := ⟨_, rfl⟩
  rw [HK.out] at HM KK HL1
  rw [HG.out] at HM KD HL2
  have HDL : Hid (dg.length = 32) := HL2
  have HPB : Hid ((((UInt8.ofNat place.toNat).toNat : Nat) : Int) = place) := by show _ = _; rw [UInt8.toNat_ofNat', Nat.mod_eq_of_lt (by omega)]; omega
  obtain ⟨js, HJS⟩ : ∃ js, Hid (dg ++ [UInt8.ofNat place.toNat] = js) := ⟨_, rfl⟩
  have HJL : Hid (js.length ≤ 536) := by show _ ≤ _; rw [← HJS.out]; simp; omega
  rw [HJS.out] at HM
  have KM : Hid (∀ (W : World) (a a' : Option Addr) (d d' : Nat), Rd W a d kk → Rd W a' d' js → Calls Tryz.prog 195 #[.slice a kk.length d, .slice a' js.length d'] W fun e w' => ∃ u, e = .returned u ∧ Own w' W.heap.size u (mcN x r ctx c place) ∧ Below W.heap.size W w') := fun W a a' d d' h h' => by rw [HM.out]; exact l3Mac_c a a' d d' kk js W h h' (by omega) HJL.out
  obtain ⟨mc, HC⟩ : ∃ mc, Hid (mcN x r ctx c place = mc) := ⟨_, rfl⟩
  rw [HC.out] at KM ⊢
  have HR : Hid (Rd w p q x) := hr
  clear hr hr2 c0 c1 c2 hx hc hl HM HL1 HL2 HK HG HC
  go_enter Tryz.func133, Tryz.ntmps133
  go_wp2_with fail
  refine (KK.out _ HR.out).mono ?_
  rintro e w1 ⟨u1, rfl, k1, hb1⟩
  obtain ⟨pa, qa, rfl, ra⟩ := k1.rd
  clear k1
  go_wp2_with fail
  refine (KD.out _ hb1).mono ?_
  rintro e w2 ⟨u2, rfl, kd, hb2⟩
  obtain ⟨pd, qd, rfl, -⟩ := kd.rd
  have rk := rd_new w2 [.int .u8 place] [UInt8.ofNat place.toNat] 5 1 (by simp only [List.map_cons, List.map_nil, u8v]; rw [HPB.out]) rfl (by decide)
  have hbk := alloc_below w2 (.cells #[.int .u8 place] 5)
  have kd' := kd.stay hbk
  replace hb2 := Below.step hb2 hbk
  clear hbk kd
  go_wp2_with (at_builtin; go_loud (refine wpList_append_rd rfl (.tmp 18) (.tmp 21) rfl w1.heap.size _ dg rfl kd' _ 1 [UInt8.ofNat place.toNat] rfl rk (by have := HDL.out; simp; omega) hb2.size ?_); intro v6 w6 ho6 hg6)
  have B6 := hb2.grown hg6 hb2.size (fun k hk => kd'.ge k hk)
  rw [HJS.out] at ho6
  obtain ⟨p6, q6, rfl, r6⟩ := ho6.rd
  replace ra := ra.keep B6
  replace hb1 := Below.step hb1 B6
  clear hb2 rk kd' hg6 B6 ho6
  go_wp2_with fail
  refine (KM.out _ _ _ _ _ ra r6).mono ?_
  rintro e w4 ⟨u4, rfl, k4, hb4⟩
  go_wp2
  go_ret
  exact ⟨_, rfl, k4.lower hb1.size, Below.step hb1 hb4⟩
theorem rdl_four (w : World) (x y z v : Pc) (t : TypeId) (hx : Rd w x.p x.q x.bs) (hy : Rd w y.p y.q y.bs) (hz : Rd w z.p z.q z.bs) (hv : Rd w v.p v.q v.bs) :
    RdL bytC (w.alloc (.cells #[x.val, y.val, z.val, v.val] t)) (some ⟨w.heap.size, 0, none⟩) 4 [x.bs, y.bs, z.bs, v.bs] := by
  have hb := alloc_below w (.cells #[x.val, y.val, z.val, v.val] t)
  have A := Arr.new w [x.val, y.val, z.val, v.val] t
  refine ⟨by simp, by unfold maxLen; decide, (fun e => by cases e), fun _ => ⟨w.heap.size, 0, rfl, fun i a hi => ?_⟩⟩
  match i, hi with
  | 0, hi => cases hi; exact ⟨[x.val], ⟨x.p, x.q, rfl, hx.keep hb⟩, fun j u hj => by
      match j, hj with
      | 0, hj => cases hj; exact A.cell 0⟩
  | 1, hi => cases hi; exact ⟨[y.val], ⟨y.p, y.q, rfl, hy.keep hb⟩, fun j u hj => by
      match j, hj with
      | 0, hj => cases hj; exact A.cell 1⟩
  | 2, hi => cases hi; exact ⟨[z.val], ⟨z.p, z.q, rfl, hz.keep hb⟩, fun j u hj => by
      match j, hj with
      | 0, hj => cases hj; exact A.cell 2⟩
  | 3, hi => cases hi; exact ⟨[v.val], ⟨v.p, v.q, rfl, hv.keep hb⟩, fun j u hj => by
      match j, hj with
      | 0, hj => cases hj; exact A.cell 3⟩
set_option maxRecDepth 4000 in
set_option maxHeartbeats 1000000 in
theorem l13Make_c (p p2 : Option Addr) (q q2 b o : Nat) (x ctx : List UInt8) (r : Int) (c : CertD) (place : Int) (w : World) (hr : Rd w p q x) (hr2 : Rd w p2 q2 ctx) (c0 : w.cell? ⟨b, o, none⟩ = some (.int .i64 c.1)) (c1 : w.cell? ⟨b, o + 1, none⟩ = some (.int .i64 c.2.1)) (c2 : w.cell? ⟨b, o + 2, none⟩ = some (.int .i64 c.2.2)) (hx : x.length ≤ 64) (hl : ctx.length ≤ 20) (hc : okC c = true) (hp0 : 0 ≤ place) (hp1 : place ≤ 255) :
    Calls Tryz.prog 58 #[.slice p x.length q, .int .i64 r, .slice p2 ctx.length q2, .pointer (some ⟨b, o, none⟩), .int .i64 place] w fun e w' => ∃ u, e = .returned u ∧ Own w' w.heap.size u (mkN x r ctx c place) ∧ Below w.heap.size w w' := by
  have HM : Hid (mkN x r ctx c place = blksN [ctx, pcL c, [UInt8.ofNat place.toNat], mcN x r ctx c place]) := rfl
  have HLN : (mkN x r ctx c place).length = ctx.length + 41 := mkN_len x r ctx c place
  have KP : Hid (∀ W, Below w.heap.size w W → Calls Tryz.prog 132 #[.pointer (some ⟨b, o, none⟩)] W fun e w' => ∃ u, e = .returned u ∧ Own w' W.heap.size u (pcL c) ∧ Below W.heap.size W w') := fun W h => l12Pack_c b o c W (cell_keep c0 h) (cell_keep c1 h) (cell_keep c2 h) hc
  have KC : Hid (∀ W, Below w.heap.size w W → Calls Tryz.prog 133 #[.slice p x.length q, .int .i64 r, .slice p2 ctx.length q2, .pointer (some ⟨b, o, none⟩), .int .i64 place] W fun e w' => ∃ u, e = .returned u ∧ Own w' W.heap.size u (mcN x r ctx c place) ∧ Below W.heap.size W w') := fun W h => l13Mac_c p p2 q q2 b o x ctx r c place W (hr.keep h) (hr2.keep h) (cell_keep c0 h) (cell_keep c1 h) (cell_keep c2 h) hx hl hc hp0 hp1
  obtain ⟨mc, HC⟩ : ∃ mc, Hid (mcN x r ctx c place = mc) := ⟨_, rfl⟩
  obtain ⟨pc, HP⟩ : ∃ pc, Hid (pcL c = pc) := ⟨_, rfl⟩
  rw [HC.out, HP.out] at HM
  rw [HC.out] at KC
  rw [HP.out] at KP
  have HML : Hid ((blksN [ctx, pc, [UInt8.ofNat place.toNat], mc]).length ≤ 1000000) := by show _ ≤ _; rw [← HM.out]; omega
  obtain ⟨mk, HK⟩ : ∃ mk, Hid (mkN x r ctx c place = mk) := ⟨_, rfl⟩
  rw [HK.out] at HM ⊢
  have HPB : Hid ((((UInt8.ofNat place.toNat).toNat : Nat) : Int) = place) := by show _ = _; rw [UInt8.toNat_ofNat', Nat.mod_eq_of_lt (by omega)]; omega
  have HR2 : Hid (Rd w p2 q2 ctx) := hr2
  clear hr hr2 c0 c1 c2 hx hc hl HK HC HP HLN
  go_enter Tryz.func58, Tryz.ntmps58
  go_wp2_with fail
  refine (KP.out _ (Below.refl _ _)).mono ?_
  rintro e w1 ⟨u1, rfl, k1, hb1⟩
  obtain ⟨pa, qa, rfl, ra⟩ := k1.rd
  clear k1
  have rk := rd_new w1 [.int .u8 place] [UInt8.ofNat place.toNat] 5 1 (by simp only [List.map_cons, List.map_nil, u8v]; rw [HPB.out]) rfl (by decide)
  have hbk := alloc_below w1 (.cells #[.int .u8 place] 5)
  replace ra := ra.keep hbk
  replace hb1 := Below.step hb1 hbk
  clear hbk
  go_wp2_with fail
  refine (KC.out _ hb1).mono ?_
  rintro e w2 ⟨u2, rfl, k2, hb2⟩
  obtain ⟨pb, qb, rfl, rb⟩ := k2.rd
  replace ra := ra.keep hb2
  replace rk := rk.keep hb2
  replace hb1 := Below.step hb1 hb2
  clear k2 hb2
  have R4 := rdl_four w2 ⟨p2, q2, ctx⟩ ⟨pa, qa, pc⟩ ⟨some ⟨w1.heap.size, 0, none⟩, 1, [UInt8.ofNat place.toNat]⟩ ⟨pb, qb, mc⟩ 22 (HR2.out.keep hb1) ra rk rb
  have hbj := Below.step hb1 (alloc_below w2 (.cells #[.slice p2 ctx.length q2, .slice pa pc.length qa, .slice (some ⟨w1.heap.size, 0, none⟩) 1 1, .slice pb mc.length qb] 22))
  have KB := l6Blocks_c [ctx, pc, [UInt8.ofNat place.toNat], mc] (some ⟨w2.heap.size, 0, none⟩) 4 _ R4 HML.out
  rw [← HM.out] at KB
  clear ra rb rk R4 hb1
  go_wp2_with fail
  refine KB.mono ?_
  rintro e w3 ⟨u3, rfl, k3, hb3⟩
  go_wp2
  go_ret
  exact ⟨_, rfl, k3.lower hbj.size, Below.step hbj hb3⟩
end Go.Proofs.YtdbpnibcblelbaaGreatDoor

/- Chapter 13 of the specification: faults (l13Fault), AuthKey, AuthDigest, MakeAuth: code and bytes at every argument. What was there stays. -/
namespace Go.Proofs.YtdbpnibcblelbaaGreatDoor
open Go.RowKit

theorem akC_len {x : List UInt8} {r : Int} (h : akC x r = 0) : x.length = 32 := by
  unfold akC at h
  cases h1 : is32 x
  · rw [h1] at h; cases h
  · simpa [is32] using h1
set_option maxRecDepth 4000 in
set_option maxHeartbeats 1000000 in
theorem l13Fault_c (p p2 : Option Addr) (q q2 b o : Nat) (x ctx : List UInt8) (r : Int) (c : CertD) (w : World) (c0 : w.cell? ⟨b, o, none⟩ = some (.int .i64 c.1)) (c1 : w.cell? ⟨b, o + 1, none⟩ = some (.int .i64 c.2.1)) (c2 : w.cell? ⟨b, o + 2, none⟩ = some (.int .i64 c.2.2)) :
    Calls Tryz.prog 56 #[.slice p x.length q, .int .i64 r, .slice p2 ctx.length q2, .pointer (some ⟨b, o, none⟩)] w fun e w' => e = .returned (.int .i64 (adC x r ctx c)) ∧ w' = w := by
  have KA : Hid (Calls Tryz.prog 72 #[.slice p x.length q, .int .i64 r] w fun e w' => e = .returned (.int .i64 (akC x r)) ∧ w' = w) := l13Asked_c p q x r w
  have KC := l13Context_c p2 q2 ctx w
  have KO := l12One_c b o c w c0 c1 c2
  have HD : adC x r ctx c = (if akC x r = 0 then (if ctxB ctx then (if okC c then 0 else 3) else 2) else akC x r) := rfl
  rw [HD]
  clear HD c0 c1 c2
  obtain ⟨k, HK⟩ : ∃ k, Hid (akC x r = k) := ⟨_, rfl⟩
  rw [HK.out] at KA ⊢
  clear HK
  by_cases h1 : k = 0
  · subst h1
    rw [if_pos rfl]
    cases h2 : ctxB ctx
    · rw [h2] at KC
      have KC : Hid _ := KC
      rw [if_neg (by decide)]
      clear KO
      go_enter Tryz.func56, Tryz.ntmps56
      go_wp2_with fail
      refine Calls.mono KA.out ?_
      rintro e w0 ⟨rfl, hw⟩
      subst hw
      go_wp2_with fail
      refine Calls.mono KC.out ?_
      rintro e w1 ⟨rfl, hw⟩
      subst hw
      go_wp2
      go_ret
      exact ⟨rfl, rfl⟩
    · rw [h2] at KC
      have KC : Hid _ := KC
      rw [if_pos rfl]
      cases h3 : okC c
      · rw [h3] at KO
        have KO : Hid _ := KO
        rw [if_neg (by decide)]
        go_enter Tryz.func56, Tryz.ntmps56
        go_wp2_with fail
        refine Calls.mono KA.out ?_
        rintro e w0 ⟨rfl, hw⟩
        subst hw
        go_wp2_with fail
        refine Calls.mono KC.out ?_
        rintro e w1 ⟨rfl, hw⟩
        subst hw
        go_wp2_with fail
        refine Calls.mono KO.out ?_
        rintro e w2 ⟨rfl, hw⟩
        subst hw
        go_wp2
        go_ret
        exact ⟨rfl, rfl⟩
      · rw [h3] at KO
        have KO : Hid _ := KO
        rw [if_pos rfl]
        go_enter Tryz.func56, Tryz.ntmps56
        go_wp2_with fail
        refine Calls.mono KA.out ?_
        rintro e w0 ⟨rfl, hw⟩
        subst hw
        go_wp2_with fail
        refine Calls.mono KC.out ?_
        rintro e w1 ⟨rfl, hw⟩
        subst hw
        go_wp2_with fail
        refine Calls.mono KO.out ?_
        rintro e w2 ⟨rfl, hw⟩
        subst hw
        go_wp2
        go_ret
        exact ⟨rfl, rfl⟩
  · rw [if_neg h1]
    clear KC KO
    go_enter Tryz.func56, Tryz.ntmps56
    go_wp2_with fail
    refine Calls.mono KA.out ?_
    rintro e w0 ⟨rfl, hw⟩
    subst hw
    go_wp2
    go_ret
    exact ⟨rfl, rfl⟩
set_option maxRecDepth 4000 in
set_option maxHeartbeats 1000000 in
theorem specMa_c (p p2 : Option Addr) (q q2 : Nat) (x ctx : List UInt8) (r : Int) (c : CertD) (place : Int) (w : World) (hr : Rd w p q x) (hr2 : Rd w p2 q2 ctx) :
    Calls Tryz.prog 16 #[.slice p x.length q, .int .i64 r, .slice p2 ctx.length q2, .agg #[.int .i64 c.1, .int .i64 c.2.1, .int .i64 c.2.2], .int .i64 place] w fun e w' => ∃ u, e = .returned (.agg #[.int .i64 (maD x r ctx c place).1, u]) ∧ Own w' w.heap.size u (maD x r ctx c place).2 ∧ Below w.heap.size w w' := by
  have BW := Below.mk (alloc_below w (.cells #[.int .i64 c.1, .int .i64 c.2.1, .int .i64 c.2.2] 46)) (.cells #[.int .i64 0, .slice none 0 0] 43)
  have A := (Arr.new w [.int .i64 c.1, .int .i64 c.2.1, .int .i64 c.2.2] 46).old _ (.cells #[.int .i64 0, .slice none 0 0] 43)
  have R := Arr.new (w.alloc (.cells #[.int .i64 c.1, .int .i64 c.2.1, .int .i64 c.2.2] 46)) [.int .i64 0, .slice none 0 0] 43
  rw [size_alloc] at R
  have KA : Hid _ := l13Fault_c p p2 q q2 w.heap.size 0 x ctx r c ((w.alloc (.cells #[.int .i64 c.1, .int .i64 c.2.1, .int .i64 c.2.2] 46)).alloc (.cells #[.int .i64 0, .slice none 0 0] 43)) (A.cell 0) (A.cell 1) (A.cell 2)
  by_cases h0 : adC x r ctx c = 0
  · cases h1 : inB place 0 39
    · rw [show maD x r ctx c place = (3, []) by rw [maD, maC, if_pos h0, h1]; rfl]
      rw [h0] at KA
      clear hr hr2 A R BW h0
      go_enter Tryz.func16, Tryz.ntmps16
      go_wp2_with fail
      refine Calls.mono KA.out ?_
      rintro e w2 ⟨rfl, hw⟩
      subst hw
      go_wp2_with fail
      refine (l1In_c _ _ _ _).mono ?_
      rintro e w2 ⟨rfl, hw⟩
      subst hw
      rw [h1]
      go_wp2
      exact bodyPost_ret (v := .agg #[.int .i64 3, .slice none 0 0]) (by simp [results, Tryz.results16, go_sem]) rfl ⟨_, rfl, Own_nil _ _, Below.mk (alloc_below _ _) _⟩
    · rw [show maD x r ctx c place = (0, mkN x r ctx c place) by rw [maD, maC, if_pos h0, h1]; rfl]
      obtain ⟨hk, hct, hoc⟩ := adC_ok h0
      have hx := akC_len hk
      have hcl := (ctxB_parts hct).2
      have hpl : 0 ≤ place ∧ place ≤ 39 := by simp only [inB, decide_eq_true_eq] at h1; exact h1
      have KK : Hid (Calls Tryz.prog 58 #[.slice p x.length q, .int .i64 r, .slice p2 ctx.length q2, .pointer (some ⟨w.heap.size, 0, none⟩), .int .i64 place] ((w.alloc (.cells #[.int .i64 c.1, .int .i64 c.2.1, .int .i64 c.2.2] 46)).alloc (.cells #[.int .i64 0, .slice none 0 0] 43)) fun e w' => ∃ u, e = .returned u ∧ Own w' ((w.alloc (.cells #[.int .i64 c.1, .int .i64 c.2.1, .int .i64 c.2.2] 46)).alloc (.cells #[.int .i64 0, .slice none 0 0] 43)).heap.size u (mkN x r ctx c place) ∧ Below ((w.alloc (.cells #[.int .i64 c.1, .int .i64 c.2.1, .int .i64 c.2.2] 46)).alloc (.cells #[.int .i64 0, .slice none 0 0] 43)).heap.size ((w.alloc (.cells #[.int .i64 c.1, .int .i64 c.2.1, .int .i64 c.2.2] 46)).alloc (.cells #[.int .i64 0, .slice none 0 0] 43)) w') := l13Make_c p p2 q q2 w.heap.size 0 x ctx r c place _ (hr.keep BW) (hr2.keep BW) (A.cell 0) (A.cell 1) (A.cell 2) (by omega) hcl hoc (by omega) (by omega)
      obtain ⟨pw, HP⟩ : ∃ pw, Hid (mkN x r ctx c place = pw) := ⟨_, rfl⟩
      rw [HP.out] at KK ⊢
      rw [h0] at KA
      clear HP hk hct hoc hx hcl h0 hr hr2 A hpl
      go_enter Tryz.func16, Tryz.ntmps16
      go_wp2_with fail
      refine Calls.mono KA.out ?_
      rintro e w2 ⟨rfl, hw⟩
      subst hw
      go_wp2_with fail
      refine (l1In_c _ _ _ _).mono ?_
      rintro e w2 ⟨rfl, hw⟩
      subst hw
      rw [h1]
      go_wp2_with fail
      refine Calls.mono KK.out ?_
      rintro e w3 ⟨u3, rfl, k3, hb3⟩
      have BW3 := Below.step BW hb3
      have R3 := R.stay hb3
      have hlt : Hid (w.heap.size + 1 < ((w.alloc (.cells #[.int .i64 c.1, .int .i64 c.2.1, .int .i64 c.2.2] 46)).alloc (.cells #[.int .i64 0, .slice none 0 0] 43)).heap.size) := R.lt
      obtain ⟨p3, q3, rfl, -⟩ := k3.rd
      have c0 := R3.cell 0
      have c1 := R3.cell 1
      have fz := R3.frozen
      simp at c0 c1
      clear R KK KA hb3 R3
      go_wp2
      refine bodyPost_ret (v := .agg #[.int .i64 0, .slice p3 pw.length q3]) (by simp [results, Tryz.results16, go_sem, c0, c1]) rfl ⟨_, rfl, ?_, (BW3.setCell (by show w.heap.size ≤ w.heap.size + 1; omega) _).setCell (by show w.heap.size ≤ w.heap.size + 1; omega) _⟩
      exact ((k3.set (a := ⟨w.heap.size + 1, 0, none⟩) hlt.out _).set (a := ⟨w.heap.size + 1, 1, none⟩) hlt.out _).lower (B' := w.heap.size) (by have := hlt.out; omega)
  · rw [show maD x r ctx c place = (adC x r ctx c, []) by rw [maD, maC, if_neg h0, if_neg h0]]
    obtain ⟨k, HK⟩ : ∃ k, Hid (adC x r ctx c = k) := ⟨_, rfl⟩
    rw [HK.out] at KA h0 ⊢
    clear HK hr hr2 A R BW
    go_enter Tryz.func16, Tryz.ntmps16
    go_wp2_with fail
    refine Calls.mono KA.out ?_
    rintro e w2 ⟨rfl, hw⟩
    subst hw
    go_wp2
    exact bodyPost_ret (v := .agg #[.int .i64 k, .slice none 0 0]) (by simp [results, Tryz.results16, go_sem]) rfl ⟨_, rfl, Own_nil _ _, Below.mk (alloc_below _ _) _⟩
end Go.Proofs.YtdbpnibcblelbaaGreatDoor

/- Chapter 13 of the specification: the binding (l13Bind, BindOf): code and bytes at every argument. What was there stays. -/
namespace Go.Proofs.YtdbpnibcblelbaaGreatDoor
open Go.RowKit

theorem binding_str : (⟨#[99, 104, 97, 110, 110, 101, 108, 32, 98, 105, 110, 100, 105, 110, 103]⟩ : ByteArray) = strB bindingB := rfl
end Go.Proofs.YtdbpnibcblelbaaGreatDoor

/- The contracts of the specification's l12Unpack, UnpackCert, LookCert, at every argument (written by tools/cert_t.py). What was there stays. -/
namespace Go.Proofs.YtdbpnibcblelbaaGreatDoor
open Go.ChangeShapes Go.WideShapes Go.ChangeAt Go.RowKit

abbrev aggC (r : Int × CertD) : Value := .agg #[.int .i64 r.1, .int .i64 r.2.1, .int .i64 r.2.2.1, .int .i64 r.2.2.2]
theorem wrap_u8 (x : UInt8) : wrap64 (x.toNat : Int) = x.toNat := by unfold wrap64; have := x.toNat_lt; omega
theorem getB_two (c d : UInt8) : ((getB [c, d] : Nat) : Int) = c.toNat * 256 + d.toNat := by simp [getB]
theorem ucD_bad {a b c d : UInt8} (h : okC (rdC a b c d) = false) : ucD [a, b, c, d] = (5, zC) := by show (if okC (rdC a b c d) then _ else _) = _; rw [h]; rfl
theorem ucD_good {a b c d : UInt8} (h : okC (rdC a b c d) = true) : ucD [a, b, c, d] = (0, rdC a b c d) := by show (if okC (rdC a b c d) then _ else _) = _; rw [h]; rfl
set_option maxRecDepth 4000 in
set_option maxHeartbeats 1000000 in
theorem l12Unpack_c (bs : List UInt8) (p : Option Addr) (q : Nat) (w : World) (hr : Rd w p q bs) :
    Calls Tryz.prog 154 #[.slice p bs.length q] w fun e w' => ∃ (c : CertD) (t : Bool), e = .returned (.tuple #[.agg #[.int .i64 c.1, .int .i64 c.2.1, .int .i64 c.2.2], .bool t]) ∧ Below w.heap.size w w' ∧ ucD bs = (if t then (0, c) else (5, zC)) := by
  have BW := alloc_below w (.cells #[.int .i64 0, .int .i64 0, .int .i64 0] 46)
  have R := Arr.new w [.int .i64 0, .int .i64 0, .int .i64 0] 46
  by_cases h4 : bs.length = 4
  · obtain ⟨x0, x1, x2, x3, rfl⟩ := four_of h4
    obtain ⟨b0, o0, rfl, hc⟩ := hr.2.2.2 (by simp)
    have hq : 4 ≤ q := hr.1
    have hqm : q ≤ 2 ^ 63 - 1 := hr.2.1
    have hr2 := hr.keep BW
    obtain ⟨b0', o0', e0, hc⟩ := hr2.2.2.2 (by simp)
    cases e0
    have d0 := hc 0 (by simp)
    have d1 := hc 1 (by simp)
    rw [Nat.add_zero] at d0
    rw [show at8 [x0, x1, x2, x3] 0 = x0.toNat from rfl] at d0
    rw [show at8 [x0, x1, x2, x3] 1 = x1.toNat from rfl] at d1
    have KG : Hid (∀ W : World, Below (w.alloc (.cells #[.int .i64 0, .int .i64 0, .int .i64 0] 46)).heap.size (w.alloc (.cells #[.int .i64 0, .int .i64 0, .int .i64 0] 46)) W → Calls Tryz.prog 207 #[.slice (some ⟨b0, o0 + 2, none⟩) 2 (q - 2)] W fun e w' => e = .returned (.int .i64 (x2.toNat * 256 + x3.toNat)) ∧ Below W.heap.size W w') := fun W hW => by
      have h := l1Get_c (some ⟨b0, o0 + 2, none⟩) (q - 2) [x2, x3] W ((hr2.cut 2 2 (q - 2) (by simp) (by omega) (by unfold maxLen; omega)).keep hW) (by simp)
      rw [getB_two] at h
      refine Calls.mono h ?_
      rintro e w' ⟨rfl, rfl⟩
      exact ⟨rfl, Below.refl _ _⟩
    clear hc h4 hr hr2
    go_enter Tryz.func154, Tryz.ntmps154
    go_wp2_with fail
    generalize hV : w.alloc (.cells #[.int .i64 0, .int .i64 0, .int .i64 0] 46) = V at *
    apply share
    case h =>
      intro JN
      have BB := Below.refl V.heap.size V
      have hne := HW.some V
      have g0 := HW.at (d0)
      have g1 := HW.at (d1)
      refine wp_region_pick [0, 1, 2, 3, 4, 5, 6, 7, 8, 9] 13 3 1 rfl rfl rfl (by kernel_rfl) (by kernel_rfl) (by kernel_rfl) (by kernel_rfl) ?_
      simp only [opsAt, List.getElem?_toArray, List.getElem?_cons_zero, List.getElem?_cons_succ]
      repeat (go_big_quiet_step (fail))
      refine wpQuiet_nil ?_
      clear g0 g1
      refine wpM_two (i := 10) (j := 12) (by kernel_rfl) ?_ ?_
      · skip
        refine mOp_call rfl (by go_simp) 207 _ #[.slice (some ⟨b0, o0 + 2, none⟩) 2 (q - 2)] (fun w => by go_simp) rfl ?_
        rintro _ ⟨sg, rfl⟩
        refine (KG.out _ (Below.step BB sg.h)).mono ?_
        rintro e wg1 ⟨rfl, hbx⟩
        have hbg := Below.step sg.h hbx
        refine ⟨_, rfl, ⟨⟨wg1, hbx⟩, rfl⟩, ?_⟩
        replace BB := Below.step BB hbg
        clear hbg hbx sg
        replace hne := HW.some wg1
        refine wpM_more [11] 2 1 rfl (by kernel_rfl) (by kernel_rfl) (by kernel_rfl) (by kernel_rfl) ?_
        simp only [opsAt, List.getElem?_toArray, List.getElem?_cons_zero, List.getElem?_cons_succ]
        go_simp
        repeat (go_big_quiet_step (fail))
        refine wpQuiet_nil ?_
        refine wpM_only (i := 12) (by kernel_rfl) ?_
        refine mOp_make rfl (by go_simp) ?_
        rintro _ ⟨sg, rfl⟩
        refine ⟨.pointer (some ⟨sg.w.heap.size, 0, none⟩), sg.w.alloc (.cells #[.int .i64 0, .int .i64 0, .int .i64 0] 46), by go_simp, ⟨⟨_, alloc_below _ _⟩, rfl⟩, ?_⟩
        have hbg := Below.step sg.h (alloc_below sg.w (.cells #[.int .i64 0, .int .i64 0, .int .i64 0] 46))
        have AA := Arr.new sg.w [.int .i64 0, .int .i64 0, .int .i64 0] 46
        have GG := (Below.step BB sg.h).size
        replace BB := Below.step BB hbg
        clear hbg
        replace hne := HW.some (sg.w.alloc (.cells #[.int .i64 0, .int .i64 0, .int .i64 0] 46))
        generalize hW : (sg.w.alloc (.cells #[.int .i64 0, .int .i64 0, .int .i64 0] 46)) = wg2 at *
        clear hW
        generalize sg.w.heap.size = gg at *
        clear sg
        refine wpM_end (by kernel_rfl) rfl (by kernel_rfl) (by decide) ?_
        rintro _ ⟨sz, rfl⟩
        simp only [List.drop_succ_cons, List.drop_zero]
        go_simp
        replace AA := AA.stay sz.h
        replace BB := Below.step BB sz.h
        clear hne
        generalize sz.w = W at *
        clear sz
        revert GG
        revert AA
        revert BB
        revert gg
        revert W
        exact JN.out
      · skip
        refine mOp_make rfl (by go_simp) ?_
        rintro _ ⟨sg, rfl⟩
        refine ⟨.pointer (some ⟨sg.w.heap.size, 0, none⟩), sg.w.alloc (.cells #[.int .i64 0, .int .i64 0, .int .i64 0] 46), by go_simp, ⟨⟨_, alloc_below _ _⟩, rfl⟩, ?_⟩
        have hbg := Below.step sg.h (alloc_below sg.w (.cells #[.int .i64 0, .int .i64 0, .int .i64 0] 46))
        have AA := Arr.new sg.w [.int .i64 0, .int .i64 0, .int .i64 0] 46
        have GG := (Below.step BB sg.h).size
        replace BB := Below.step BB hbg
        clear hbg
        replace hne := HW.some (sg.w.alloc (.cells #[.int .i64 0, .int .i64 0, .int .i64 0] 46))
        generalize hW : (sg.w.alloc (.cells #[.int .i64 0, .int .i64 0, .int .i64 0] 46)) = wg3 at *
        clear hW
        generalize sg.w.heap.size = gg at *
        clear sg
        refine wpM_only (i := 10) (by kernel_rfl) ?_
        refine mOp_call rfl (by go_simp) 207 _ #[.slice (some ⟨b0, o0 + 2, none⟩) 2 (q - 2)] (fun w => by go_simp) rfl ?_
        rintro _ ⟨sg, rfl⟩
        refine (KG.out _ (Below.step BB sg.h)).mono ?_
        rintro e wg4 ⟨rfl, hbx⟩
        have hbg := Below.step sg.h hbx
        refine ⟨_, rfl, ⟨⟨wg4, hbx⟩, rfl⟩, ?_⟩
        replace AA := AA.stay hbg
        replace BB := Below.step BB hbg
        clear hbg hbx sg
        replace hne := HW.some wg4
        refine wpM_more [11] 1 0 rfl (by kernel_rfl) (by kernel_rfl) (by kernel_rfl) (by kernel_rfl) ?_
        simp only [opsAt, List.getElem?_toArray, List.getElem?_cons_zero, List.getElem?_cons_succ]
        go_simp
        repeat (go_big_quiet_step (fail))
        refine wpQuiet_nil ?_
        refine wpM_end (by kernel_rfl) rfl (by kernel_rfl) (by decide) ?_
        rintro _ ⟨sz, rfl⟩
        simp only [List.drop_succ_cons, List.drop_zero]
        go_simp
        replace AA := AA.stay sz.h
        replace BB := Below.step BB sz.h
        clear hne
        generalize sz.w = W at *
        clear sz
        revert GG
        revert AA
        revert BB
        revert gg
        revert W
        exact JN.out
    case hj =>
    intro W gg BB AA GG
    rw [wrap_u8, wrap_u8]
    have a0 := AA.cell 0
    have a1 := AA.cell 1
    have a2 := AA.cell 2
    have fa := AA.frozen
    simp at a0 a1 a2
    have RW := R.stay BB
    have hne : Hid (w.heap.size ≠ gg) := by show _ ≠ _; have := R.lt; omega
    have A3 := ((AA.set 0 (.int .i64 (x0.toNat : Int))).set 1 (.int .i64 (x1.toNat : Int))).set 2 (.int .i64 ((x2.toNat : Int) * 256 + x3.toNat))
    have R3 := ((RW.setOther (a := ⟨gg, 0, none⟩) hne.out (.int .i64 (x0.toNat : Int))).setOther (a := ⟨gg, 1, none⟩) hne.out (.int .i64 (x1.toNat : Int))).setOther (a := ⟨gg, 2, none⟩) hne.out (.int .i64 ((x2.toNat : Int) * 256 + x3.toNat))
    have B3 := (((Below.step BW BB).setCell (p := ⟨gg, 0, none⟩) (by have := BW.size; show w.heap.size ≤ gg; omega) (.int .i64 (x0.toNat : Int))).setCell (p := ⟨gg, 1, none⟩) (by have := BW.size; show w.heap.size ≤ gg; omega) (.int .i64 (x1.toNat : Int))).setCell (p := ⟨gg, 2, none⟩) (by have := BW.size; show w.heap.size ≤ gg; omega) (.int .i64 ((x2.toNat : Int) * 256 + x3.toNat))
    clear AA R RW BB d0 d1 KG
    go_wp2_with fail
    generalize hV2 : ((W.setCell ⟨gg, 0, none⟩ (.int .i64 (x0.toNat : Int))).setCell ⟨gg, 1, none⟩ (.int .i64 (x1.toNat : Int))).setCell ⟨gg, 2, none⟩ (.int .i64 ((x2.toNat : Int) * 256 + x3.toNat)) = V2 at *
    clear hV2 a0 a1 a2 fa hV
    have l0 := (A3.cell 0).trans (show _ = some _ from rfl)
    have l1 := (A3.cell 1).trans (show _ = some _ from rfl)
    have l2 := (A3.cell 2).trans (show _ = some _ from rfl)
    have KO : Hid (∀ W2 : World, Below V2.heap.size V2 W2 → Calls Tryz.prog 130 #[.pointer (some ⟨gg, 0, none⟩)] W2 fun e w' => e = .returned (.bool (okC (rdC x0 x1 x2 x3))) ∧ Below W2.heap.size W2 w') := fun W2 h2 => by
      have A4 := A3.stay h2
      refine Calls.mono (l12One_c gg 0 (rdC x0 x1 x2 x3) W2 ((A4.cell 0).trans rfl) ((A4.cell 1).trans rfl) ((A4.cell 2).trans rfl)) ?_
      rintro e w' ⟨rfl, rfl⟩
      exact ⟨rfl, Below.refl _ _⟩
    clear A3
    apply share
    case h =>
      intro JN
      have BB := Below.refl V2.heap.size V2
      have hne := HW.some V2
      have g0 := HW.at (l0)
      have g1 := HW.at (l1)
      have g2 := HW.at (l2)
      refine wp_region_pick [0] 2 1 2 rfl rfl rfl (by kernel_rfl) (by kernel_rfl) (by kernel_rfl) (by kernel_rfl) ?_
      simp only [opsAt, List.getElem?_toArray, List.getElem?_cons_zero]
      repeat (go_big_quiet_step (fail))
      refine wpQuiet_nil ?_
      clear g0 g1 g2
      refine wpM_only (i := 1) (by kernel_rfl) ?_
      refine mOp_call rfl (by go_simp) 130 _ #[.pointer (some ⟨gg, 0, none⟩)] (fun w => by go_simp) rfl ?_
      rintro _ ⟨sg, rfl⟩
      refine (KO.out _ (Below.step BB sg.h)).mono ?_
      rintro e wg1 ⟨rfl, hbx⟩
      have hbg := Below.step sg.h hbx
      refine ⟨_, rfl, ⟨⟨wg1, hbx⟩, rfl⟩, ?_⟩
      replace BB := Below.step BB hbg
      clear hbg hbx sg
      replace hne := HW.some wg1
      refine wpM_end (by kernel_rfl) rfl (by kernel_rfl) (by decide) ?_
      rintro _ ⟨sz, rfl⟩
      simp only [List.drop_succ_cons, List.drop_zero]
      go_simp
      replace BB := Below.step BB sz.h
      clear hne
      generalize sz.w = W2 at *
      clear sz
      revert BB
      revert W2
      exact JN.out
    case hj =>
    intro W2 BB
    have R5 := R3.stay BB
    have B5 := Below.step B3 BB
    have r0 := R5.cell 0
    have r1 := R5.cell 1
    have r2 := R5.cell 2
    have fr := R5.frozen
    simp at r0 r1 r2
    clear l0 l1 l2 KO R3 B3 BB
    go_wp2_with fail
    refine bodyPost_ret (v := .tuple #[.agg #[.int .i64 (x0.toNat : Int), .int .i64 (x1.toNat : Int), .int .i64 ((x2.toNat : Int) * 256 + x3.toNat)], .bool (okC (rdC x0 x1 x2 x3))]) (by simp [results, Tryz.results154, go_sem, r0, r1, r2]) rfl ⟨rdC x0 x1 x2 x3, okC (rdC x0 x1 x2 x3), rfl, ((B5.setCell (Nat.le_refl _) _).setCell (Nat.le_refl _) _).setCell (Nat.le_refl _) _, ?_⟩
    rfl
  · have d : ((bs.length : Int) != 4) = true := by rw [bne_iff_ne]; omega
    have HU : Hid (ucD bs = (5, zC)) := ucD_long h4
    go_enter Tryz.func154, Tryz.ntmps154
    go_wp2
    exact bodyPost_ret (v := .tuple #[.agg #[.int .i64 0, .int .i64 0, .int .i64 0], .bool false]) (by simp [results, Tryz.results154, go_sem]) rfl ⟨zC, false, rfl, BW, HU.out⟩
end Go.Proofs.YtdbpnibcblelbaaGreatDoor

/- The contracts of the certificates in the program: isCertId, isOwner, isGiver, isCertUntil, isCert, certOf, CertsFault, PackCert, UnpackCert, LookCert, at every argument. What was there stays. -/
namespace Go.Proofs.YtdbpnibcblelbaaGreatDoor
open Go.ChangeShapes Go.WideShapes Go.ChangeAt Go.RowKit

theorem isCertId_c (v : Int) (w : World) : Calls Tryz.prog 155 #[.int .i64 v] w fun e w' => e = .returned (.bool (inB v 1 99)) ∧ w' = w := by
  by_cases h1 : 1 ≤ v
  · by_cases h2 : v ≤ 99
    · rw [inB_true h1 h2]
      go_enter Tryz.func155, Tryz.ntmps155
      go_wp2
      go_ret
      exact ⟨rfl, rfl⟩
    · rw [inB_false (by omega)]
      go_enter Tryz.func155, Tryz.ntmps155
      go_wp2
      go_ret
      exact ⟨rfl, rfl⟩
  · rw [inB_false (by omega)]
    go_enter Tryz.func155, Tryz.ntmps155
    go_wp2
    go_ret
    exact ⟨rfl, rfl⟩
theorem isOwner_c (v : Int) (w : World) : Calls Tryz.prog 190 #[.int .i64 v] w fun e w' => e = .returned (.bool (inB v 1 9)) ∧ w' = w := by
  by_cases h1 : 1 ≤ v
  · by_cases h2 : v ≤ 9
    · rw [inB_true h1 h2]
      go_enter Tryz.func190, Tryz.ntmps190
      go_wp2
      go_ret
      exact ⟨rfl, rfl⟩
    · rw [inB_false (by omega)]
      go_enter Tryz.func190, Tryz.ntmps190
      go_wp2
      go_ret
      exact ⟨rfl, rfl⟩
  · rw [inB_false (by omega)]
    go_enter Tryz.func190, Tryz.ntmps190
    go_wp2
    go_ret
    exact ⟨rfl, rfl⟩
theorem isCertUntil_c (v : Int) (w : World) : Calls Tryz.prog 191 #[.int .i64 v] w fun e w' => e = .returned (.bool (inB v 0 9999)) ∧ w' = w := by
  by_cases h1 : 0 ≤ v
  · by_cases h2 : v ≤ 9999
    · rw [inB_true h1 h2]
      go_enter Tryz.func191, Tryz.ntmps191
      go_wp2
      go_ret
      exact ⟨rfl, rfl⟩
    · rw [inB_false (by omega)]
      go_enter Tryz.func191, Tryz.ntmps191
      go_wp2
      go_ret
      exact ⟨rfl, rfl⟩
  · rw [inB_false (by omega)]
    go_enter Tryz.func191, Tryz.ntmps191
    go_wp2
    go_ret
    exact ⟨rfl, rfl⟩
set_option maxRecDepth 4000 in
set_option maxHeartbeats 400000 in
theorem isCert_c (c : CertD) (w : World) :
    Calls Tryz.prog 124 #[.agg #[.int .i64 c.1, .int .i64 c.2.1, .int .i64 c.2.2]] w fun e w' => e = .returned (.bool (okC c)) ∧ Below w.heap.size w w' := by
  cases h1 : inB c.1 1 99
  · rw [show okC c = false by simp [okC, h1]]
    go_enter Tryz.func124, Tryz.ntmps124
    go_wp2_with fail
    refine (isCertId_c _ _).mono ?_
    rintro e w' ⟨rfl, hw⟩
    subst hw
    rw [h1]
    go_wp2
    go_ret
    exact ⟨rfl, alloc_below _ _⟩
  · cases h2 : inB c.2.1 1 9
    · rw [show okC c = false by simp [okC, h2]]
      go_enter Tryz.func124, Tryz.ntmps124
      go_wp2_with fail
      refine (isCertId_c _ _).mono ?_
      rintro e w' ⟨rfl, hw⟩
      subst hw
      rw [h1]
      go_wp2_with fail
      refine (isOwner_c _ _).mono ?_
      rintro e w' ⟨rfl, hw⟩
      subst hw
      rw [h2]
      go_wp2
      go_ret
      exact ⟨rfl, alloc_below _ _⟩
    · rw [show okC c = inB c.2.2 0 9999 by simp [okC, h1, h2]]
      go_enter Tryz.func124, Tryz.ntmps124
      go_wp2_with fail
      refine (isCertId_c _ _).mono ?_
      rintro e w' ⟨rfl, hw⟩
      subst hw
      rw [h1]
      go_wp2_with fail
      refine (isOwner_c _ _).mono ?_
      rintro e w' ⟨rfl, hw⟩
      subst hw
      rw [h2]
      go_wp2_with fail
      refine (isCertUntil_c _ _).mono ?_
      rintro e w' ⟨rfl, hw⟩
      subst hw
      go_wp2
      go_ret
      exact ⟨rfl, alloc_below _ _⟩
set_option maxRecDepth 4000 in
set_option maxHeartbeats 1000000 in
theorem certOf_c (l : List CertD) (p : Option Addr) (q : Nat) (id : Int) (w : World) (hr : RdL certC w p q l) :
    Calls Tryz.prog 82 #[.slice p l.length q, .int .i64 id] w fun e w' => e = .returned (.agg #[.int .i64 (foC l id).1, .int .i64 (foC l id).2.1, .int .i64 (foC l id).2.2]) ∧ Below w.heap.size w w' := by
  have HR : Hid (RdL certC w p q l) := hr
  have hq1 : l.length ≤ q := hr.1
  have hq2 : q ≤ 2 ^ 63 - 1 := hr.2.1
  have BW := alloc_below w (.cells #[.int .i64 0, .int .i64 0, .int .i64 0] 46)
  have R := Arr.new w [.int .i64 0, .int .i64 0, .int .i64 0] 46
  clear hr
  go_enter Tryz.func82, Tryz.ntmps82
  go_wp2
  go_loopw [9] (fun i wr => ∃ k : Nat, k ≤ l.length ∧ i = .int .i64 k ∧ hasC (l.take k) id = false ∧ Arr wr w.heap.size 46 [.int .i64 0, .int .i64 0, .int .i64 0] ∧ Below w.heap.size w wr)
    (fun i _ => l.length - (intOf i).toNat)
  case atStart => exact ⟨0, Nat.zero_le _, rfl, hasC_zero _ _, R, BW⟩
  case round =>
    clear R BW
    obtain ⟨k, hk, rfl, hn, R, BW⟩ := hrel
    by_cases hlt : k < l.length
    · have hI : (k : Int) < (l.length : Int) := by omega
      obtain ⟨b, o, e1, hc⟩ := (HR.out.keep BW).2.2.2 (by omega)
      subst e1
      obtain ⟨a, ha⟩ : ∃ a, l[k]? = some a := ⟨l[k], by simp [hlt]⟩
      obtain ⟨us, hrep, hcell⟩ := hc k a ha
      obtain rfl := cert_rep hrep
      have c0 := hcell 0 _ rfl
      have c1 := hcell 1 _ rfl
      have c2 := hcell 2 _ rfl
      rw [show certC.n = 3 from rfl] at c0 c1 c2
      rw [Nat.add_zero] at c0
      have R2 := R.old _ (.cells #[.int .i64 a.1, .int .i64 a.2.1, .int .i64 a.2.2] 46)
      have B2 := Below.mk BW (.cells #[.int .i64 a.1, .int .i64 a.2.1, .int .i64 a.2.2] 46)
      have r0 := R2.cell 0
      have r1 := R2.cell 1
      have r2 := R2.cell 2
      have fr := R2.frozen
      simp at r0 r1 r2
      clear hc hcell hrep R
      by_cases he : a.1 = id
      · have d : (a.1 == id) = true := by rw [beq_iff_eq]; exact he
        have HE : Hid (foC l id = a) := foC_at ha hn he
        clear he hn
        go_wp2_with fail
        refine bodyPost_ret (v := .agg #[.int .i64 a.1, .int .i64 a.2.1, .int .i64 a.2.2]) (by simp [results, Tryz.results82, go_sem, r0, r1, r2]) rfl ⟨by rw [HE.out], ?_⟩
        exact ((B2.setCell (Nat.le_refl _) _).setCell (Nat.le_refl _) _).setCell (Nat.le_refl _) _
      · have d : (a.1 == id) = false := by rw [beq_eq_false_iff_ne]; exact he
        have hn2 : Hid (hasC (l.take (k + 1)) id = false) := by show _ = _; rw [hasC_take ha, hn, d]; rfl
        clear he hn
        go_wp2_with fail
        go_roundw
        case rel => exact ⟨k + 1, by omega, by go_num, hn2.out, R2, B2⟩
        case measure => simp [intOf]; omega
    · have e : k = l.length := by omega
      subst e
      rw [List.take_length] at hn
      have HE : Hid (foC l id = zC) := foC_none hn
      have r0 := R.cell 0
      have r1 := R.cell 1
      have r2 := R.cell 2
      have fr := R.frozen
      simp at r0 r1 r2
      go_wp2_with fail
      refine bodyPost_ret (v := .agg #[.int .i64 0, .int .i64 0, .int .i64 0]) (by simp [results, Tryz.results82, go_sem, r0, r1, r2]) rfl ⟨by rw [HE.out]; rfl, ?_⟩
      exact ((BW.setCell (Nat.le_refl _) _).setCell (Nat.le_refl _) _).setCell (Nat.le_refl _) _
end Go.Proofs.YtdbpnibcblelbaaGreatDoor

