/- Chapter 13 of the specification: what is asked (l13Role, l13Asked, l13Context) and the key (l13Key), AuthKey. No condition but lengths within the model's. -/
import Derived.Test.YtflhoefocjmihaaGreatDoorJoint17
import Derived.Test.YtflhoefocjmihaaGreatDoorCertS
import Derived.Test.YtflhoefocjmihaaGreatDoorJoint12
import Derived.Test.YtflhoefocjmihaaGreatDoorJoint11
import Derived.Test.YtflhoefocjmihaaGreatDoorMacS
import Derived.Test.YtflhoefocjmihaaGreatDoorJoint13
namespace Go.Proofs.YtflhoefocjmihaaGreatDoor
open Go.RowKit

theorem l13Role_c (r : Int) (w : World) : Calls Tryz.prog 134 #[.int .i64 r] w fun e w' => e = .returned (.bool (roleB r)) ∧ w' = w := by
  by_cases h1 : r = 1
  · subst h1
    go_enter Tryz.func134, Tryz.ntmps134
    go_wp2
    go_ret
    exact ⟨rfl, rfl⟩
  · by_cases h2 : r = 2
    · subst h2
      go_enter Tryz.func134, Tryz.ntmps134
      go_wp2
      go_ret
      exact ⟨rfl, rfl⟩
    · have d1 : (r == 1) = false := by simpa using h1
      have d2 : (r == 2) = false := by simpa using h2
      rw [show roleB r = false by simp [roleB, h1, h2]]
      go_enter Tryz.func134, Tryz.ntmps134
      go_wp2
      go_ret
      exact ⟨rfl, rfl⟩
theorem l13Asked_c (p : Option Addr) (q : Nat) (x : List UInt8) (r : Int) (w : World) : Calls Tryz.prog 80 #[.slice p x.length q, .int .i64 r] w fun e w' => e = .returned (.int .i64 (akC x r)) ∧ w' = w := by
  unfold akC
  cases h1 : is32 x
  · go_enter Tryz.func80, Tryz.ntmps80
    go_wp2_with fail
    refine (l7Secret_c p q x _).mono ?_
    rintro e w1 ⟨rfl, rfl⟩
    rw [h1]
    go_wp2
    go_ret
    exact ⟨rfl, rfl⟩
  · cases h2 : roleB r
    · go_enter Tryz.func80, Tryz.ntmps80
      go_wp2_with fail
      refine (l7Secret_c p q x _).mono ?_
      rintro e w1 ⟨rfl, rfl⟩
      rw [h1]
      go_wp2_with fail
      refine (l13Role_c r _).mono ?_
      rintro e w1 ⟨rfl, rfl⟩
      rw [h2]
      go_wp2
      go_ret
      exact ⟨rfl, rfl⟩
    · go_enter Tryz.func80, Tryz.ntmps80
      go_wp2_with fail
      refine (l7Secret_c p q x _).mono ?_
      rintro e w1 ⟨rfl, rfl⟩
      rw [h1]
      go_wp2_with fail
      refine (l13Role_c r _).mono ?_
      rintro e w1 ⟨rfl, rfl⟩
      rw [h2]
      go_wp2
      go_ret
      exact ⟨rfl, rfl⟩
theorem l13Context_c (p : Option Addr) (q : Nat) (c : List UInt8) (w : World) : Calls Tryz.prog 40 #[.slice p c.length q] w fun e w' => e = .returned (.bool (ctxB c)) ∧ w' = w := by
  unfold ctxB
  go_enter Tryz.func40, Tryz.ntmps40
  go_wp2_with fail
  refine (l1In_c _ _ _ _).mono ?_
  rintro e w1 ⟨rfl, rfl⟩
  go_wp2
  go_ret
  exact ⟨rfl, rfl⟩
set_option maxRecDepth 4000 in
set_option maxHeartbeats 1000000 in
theorem l13Key_c (p : Option Addr) (q : Nat) (x : List UInt8) (r : Int) (fin : Bool) (w : World) (hr : Rd w p q x) (hx : x.length ≤ 64) :
    Calls Tryz.prog 105 #[.slice p x.length q, .int .i64 r, .bool fin] w fun e w' => ∃ u, e = .returned u ∧ Own w' w.heap.size u (kyN x r fin) ∧ Below w.heap.size w w' := by
  have K : Hid (∀ (l : List UInt8) (w : World), l.length ≤ 40 → Rd w p q x → Calls Tryz.prog 147 #[.slice p x.length q, .string (strB l), .slice none 0 0, .int .i64 32] w fun e w' => ∃ u, e = .returned u ∧ Own w' w.heap.size u (exportN x l [] 32) ∧ Below w.heap.size w w') := fun l w h1 h2 => l7Export_c p none q 0 x l [] 32 w h2 (rd_nil _) hx h1 (by decide) (by decide)
  have HD : Hid (kyN x r fin = exportN x ((if r = 2 then serverB else clientB) ++ (if fin then finishB else contextB)) [] 32) := rfl
  rw [HD.out]
  clear HD hx
  by_cases h2 : r = 2
  · subst h2
    rw [if_pos rfl]
    cases fin
    · go_enter Tryz.func105, Tryz.ntmps105
      go_wp2_with fail
      refine (K.out (serverB ++ contextB) _ (by decide) hr).mono ?_
      rintro e w1 ⟨u, rfl, k, hb⟩
      go_wp2
      go_ret
      exact ⟨_, rfl, k, hb⟩
    · go_enter Tryz.func105, Tryz.ntmps105
      go_wp2_with fail
      refine (K.out (serverB ++ finishB) _ (by decide) hr).mono ?_
      rintro e w1 ⟨u, rfl, k, hb⟩
      go_wp2
      go_ret
      exact ⟨_, rfl, k, hb⟩
  · have d2 : (r == 2) = false := by simpa using h2
    rw [if_neg h2]
    clear h2
    cases fin
    · go_enter Tryz.func105, Tryz.ntmps105
      go_wp2_with fail
      refine (K.out (clientB ++ contextB) _ (by decide) hr).mono ?_
      rintro e w1 ⟨u, rfl, k, hb⟩
      go_wp2
      go_ret
      exact ⟨_, rfl, k, hb⟩
    · go_enter Tryz.func105, Tryz.ntmps105
      go_wp2_with fail
      refine (K.out (clientB ++ finishB) _ (by decide) hr).mono ?_
      rintro e w1 ⟨u, rfl, k, hb⟩
      go_wp2
      go_ret
      exact ⟨_, rfl, k, hb⟩
end Go.Proofs.YtflhoefocjmihaaGreatDoor

/- Chapter 13 of the specification: the digest that is signed (l13Digest). For right arguments. -/
namespace Go.Proofs.YtflhoefocjmihaaGreatDoor
open Go.RowKit

set_option maxRecDepth 4000 in
set_option maxHeartbeats 1000000 in
theorem l13Digest_c (p p2 : Option Addr) (q q2 b o : Nat) (x ctx : List UInt8) (r : Int) (c : CertD) (w : World) (hr : Rd w p q x) (hr2 : Rd w p2 q2 ctx) (c0 : w.cell? ⟨b, o, none⟩ = some (.int .i64 c.1)) (c1 : w.cell? ⟨b, o + 1, none⟩ = some (.int .i64 c.2.1)) (c2 : w.cell? ⟨b, o + 2, none⟩ = some (.int .i64 c.2.2)) (hx : x.length ≤ 64) (hl : ctx.length ≤ 20) (hc : okC c = true) :
    Calls Tryz.prog 49 #[.slice p x.length q, .int .i64 r, .slice p2 ctx.length q2, .pointer (some ⟨b, o, none⟩)] w fun e w' => ∃ u, e = .returned u ∧ Own w' w.heap.size u (dgN x r ctx c) ∧ Below w.heap.size w w' := by
  have HD : Hid (dgN x r ctx c = digestN (kyN x r false ++ [UInt8.ofNat ctx.length] ++ ctx ++ pcL c)) := rfl
  have KK : Hid (∀ W, Rd W p q x → Calls Tryz.prog 105 #[.slice p x.length q, .int .i64 r, .bool false] W fun e w' => ∃ u, e = .returned u ∧ Own w' W.heap.size u (kyN x r false) ∧ Below W.heap.size W w') := fun W h => l13Key_c p q x r false W h hx
  have KP : Hid (∀ W, Below w.heap.size w W → Calls Tryz.prog 106 #[.pointer (some ⟨b, o, none⟩)] W fun e w' => ∃ u, e = .returned u ∧ Own w' W.heap.size u (pcL c) ∧ Below W.heap.size W w') := fun W h => l12Pack_c b o c W (cell_keep c0 h) (cell_keep c1 h) (cell_keep c2 h) hc
  have HL1 : (kyN x r false).length = 32 := kyN_len _ _ _
  have HL2 : (pcL c).length ≤ 20 := by exact (show (4 : Nat) ≤ 20 by decide)
  obtain ⟨kk, HK⟩ : ∃ kk, Hid (kyN x r false = kk) := ⟨_, rfl⟩
  obtain ⟨pc, HP⟩ : ∃ pc, Hid (pcL c = pc) := ⟨_, rfl⟩
  rw [HK.out] at HD KK HL1
  rw [HP.out] at HD KP HL2
  have HJL : Hid ((kk ++ [UInt8.ofNat ctx.length] ++ ctx ++ pc).length ≤ 600) := by show _ ≤ _; simp; omega
  have KD : Hid (∀ (W : World) (a : Option Addr) (d : Nat), Rd W a d (kk ++ [UInt8.ofNat ctx.length] ++ ctx ++ pc) → Calls Tryz.prog 103 #[.slice a (kk ++ [UInt8.ofNat ctx.length] ++ ctx ++ pc).length d] W fun e w' => ∃ u, e = .returned u ∧ Own w' W.heap.size u (dgN x r ctx c) ∧ Below W.heap.size W w') := fun W a d h => by rw [HD.out]; exact l2Digest_c a d _ W h HJL.out
  obtain ⟨js, HJS⟩ : ∃ js, Hid (kk ++ [UInt8.ofNat ctx.length] ++ ctx ++ pc = js) := ⟨_, rfl⟩
  rw [HJS.out] at KD HJL
  have HCB : Hid ((UInt8.ofNat ctx.length).toNat = ctx.length) := by show _ = _; rw [UInt8.toNat_ofNat', Nat.mod_eq_of_lt (by omega)]
  obtain ⟨dg, HG⟩ : ∃ dg, Hid (dgN x r ctx c = dg) := ⟨_, rfl⟩
  rw [HG.out] at KD ⊢
  have HR : Hid (Rd w p q x) := hr
  have HR2 : Hid (Rd w p2 q2 ctx) := hr2
  clear hr hr2 c0 c1 c2 hx hc HD HL1 HL2 HK HP HG
  go_enter Tryz.func49, Tryz.ntmps49
  go_wp2_with fail
  refine (KK.out _ HR.out).mono ?_
  rintro e w1 ⟨u1, rfl, k1, hb1⟩
  obtain ⟨pa, qa, rfl, ra⟩ := k1.rd
  clear k1
  have rk := rd_new w1 [.int .u8 (ctx.length : Int)] [UInt8.ofNat ctx.length] 5 1 (by simp only [List.map_cons, List.map_nil, u8v]; rw [HCB.out]) rfl (by decide)
  have hbk := alloc_below w1 (.cells #[.int .u8 (ctx.length : Int)] 5)
  replace ra := ra.keep hbk
  replace hb1 := Below.step hb1 hbk
  clear hbk
  go_wp2_with fail
  refine (KP.out _ hb1).mono ?_
  rintro e w2 ⟨u2, rfl, k2, hb2⟩
  obtain ⟨pb, qb, rfl, rb⟩ := k2.rd
  replace ra := ra.keep hb2
  replace rk := rk.keep hb2
  replace hb1 := Below.step hb1 hb2
  clear k2 hb2
  have Pj := pcs_four w2 ⟨pa, qa, kk⟩ ⟨some ⟨w1.heap.size, 0, none⟩, 1, [UInt8.ofNat ctx.length]⟩ ⟨p2, q2, ctx⟩ ⟨pb, qb, pc⟩ 22 ra rk (HR2.out.keep hb1) rb
  have hbj := Below.step hb1 (alloc_below w2 (.cells #[.slice pa kk.length qa, .slice (some ⟨w1.heap.size, 0, none⟩) 1 1, .slice p2 ctx.length q2, .slice pb pc.length qb] 22))
  have KJ := l1Join_c [⟨pa, qa, kk⟩, ⟨some ⟨w1.heap.size, 0, none⟩, 1, [UInt8.ofNat ctx.length]⟩, ⟨p2, q2, ctx⟩, ⟨pb, qb, pc⟩] w2.heap.size 0 4 _ Pj (by rw [flat_four]; dsimp only; rw [HJS.out]; exact Nat.le_trans HJL.out (by decide)) (by simp)
  rw [flat_four] at KJ
  dsimp only at KJ
  rw [HJS.out] at KJ
  clear ra rb rk Pj hb1
  go_wp2_with fail
  refine KJ.mono ?_
  rintro e w3 ⟨u3, rfl, k3, hb3⟩
  obtain ⟨pj, qj, rfl, rj⟩ := k3.rd
  replace hbj := Below.step hbj hb3
  clear k3 hb3 KJ
  go_wp2_with fail
  refine (KD.out _ _ _ rj).mono ?_
  rintro e w4 ⟨u4, rfl, k4, hb4⟩
  go_wp2
  go_ret
  exact ⟨_, rfl, k4.lower hbj.size, Below.step hbj hb4⟩
set_option maxRecDepth 4000 in
set_option maxHeartbeats 1000000 in
theorem l13Mac_c (p p2 : Option Addr) (q q2 b o : Nat) (x ctx : List UInt8) (r : Int) (c : CertD) (place : Int) (w : World) (hr : Rd w p q x) (hr2 : Rd w p2 q2 ctx) (c0 : w.cell? ⟨b, o, none⟩ = some (.int .i64 c.1)) (c1 : w.cell? ⟨b, o + 1, none⟩ = some (.int .i64 c.2.1)) (c2 : w.cell? ⟨b, o + 2, none⟩ = some (.int .i64 c.2.2)) (hx : x.length ≤ 64) (hl : ctx.length ≤ 20) (hc : okC c = true) (hp0 : 0 ≤ place) (hp1 : place ≤ 255) :
    Calls Tryz.prog 108 #[.slice p x.length q, .int .i64 r, .slice p2 ctx.length q2, .pointer (some ⟨b, o, none⟩), .int .i64 place] w fun e w' => ∃ u, e = .returned u ∧ Own w' w.heap.size u (mcN x r ctx c place) ∧ Below w.heap.size w w' := by
  have HM : Hid (mcN x r ctx c place = macN (kyN x r true) (dgN x r ctx c ++ [UInt8.ofNat place.toNat])) := rfl
  have KK : Hid (∀ W, Rd W p q x → Calls Tryz.prog 105 #[.slice p x.length q, .int .i64 r, .bool true] W fun e w' => ∃ u, e = .returned u ∧ Own w' W.heap.size u (kyN x r true) ∧ Below W.heap.size W w') := fun W h => l13Key_c p q x r true W h hx
  have KD : Hid (∀ W, Below w.heap.size w W → Calls Tryz.prog 49 #[.slice p x.length q, .int .i64 r, .slice p2 ctx.length q2, .pointer (some ⟨b, o, none⟩)] W fun e w' => ∃ u, e = .returned u ∧ Own w' W.heap.size u (dgN x r ctx c) ∧ Below W.heap.size W w') := fun W h => l13Digest_c p p2 q q2 b o x ctx r c W (hr.keep h) (hr2.keep h) (cell_keep c0 h) (cell_keep c1 h) (cell_keep c2 h) hx hl hc
  have HL1 : (kyN x r true).length = 32 := kyN_len _ _ _
  have HL2 : (dgN x r ctx c).length = 32 := dgN_len _ _ _ _
  obtain ⟨kk, HK⟩ : ∃ kk, Hid (kyN x r true = kk) := ⟨_, rfl⟩
  obtain ⟨dg, HG⟩ : ∃ dg, Hid (dgN x r ctx c = dg) := ⟨_, rfl⟩
  rw [HK.out] at HM KK HL1
  rw [HG.out] at HM KD HL2
  have HDL : Hid (dg.length = 32) := HL2
  have HPB : Hid ((((UInt8.ofNat place.toNat).toNat : Nat) : Int) = place) := by show _ = _; rw [UInt8.toNat_ofNat', Nat.mod_eq_of_lt (by omega)]; omega
  obtain ⟨js, HJS⟩ : ∃ js, Hid (dg ++ [UInt8.ofNat place.toNat] = js) := ⟨_, rfl⟩
  have HJL : Hid (js.length ≤ 536) := by show _ ≤ _; rw [← HJS.out]; simp; omega
  rw [HJS.out] at HM
  have KM : Hid (∀ (W : World) (a a' : Option Addr) (d d' : Nat), Rd W a d kk → Rd W a' d' js → Calls Tryz.prog 148 #[.slice a kk.length d, .slice a' js.length d'] W fun e w' => ∃ u, e = .returned u ∧ Own w' W.heap.size u (mcN x r ctx c place) ∧ Below W.heap.size W w') := fun W a a' d d' h h' => by rw [HM.out]; exact l3Mac_c a a' d d' kk js W h h' (by omega) HJL.out
  obtain ⟨mc, HC⟩ : ∃ mc, Hid (mcN x r ctx c place = mc) := ⟨_, rfl⟩
  rw [HC.out] at KM ⊢
  have HR : Hid (Rd w p q x) := hr
  clear hr hr2 c0 c1 c2 hx hc hl HM HL1 HL2 HK HG HC
  go_enter Tryz.func108, Tryz.ntmps108
  go_wp2_with fail
  refine (KK.out _ HR.out).mono ?_
  rintro e w1 ⟨u1, rfl, k1, hb1⟩
  obtain ⟨pa, qa, rfl, ra⟩ := k1.rd
  clear k1
  go_wp2_with fail
  refine (KD.out _ hb1).mono ?_
  rintro e w2 ⟨u2, rfl, kd, hb2⟩
  obtain ⟨pd, qd, rfl, -⟩ := kd.rd
  have rk := rd_new w2 [.int .u8 place] [UInt8.ofNat place.toNat] 5 1 (by simp only [List.map_cons, List.map_nil, u8v]; rw [HPB.out]) rfl (by decide)
  have hbk := alloc_below w2 (.cells #[.int .u8 place] 5)
  have kd' := kd.stay hbk
  replace hb2 := Below.step hb2 hbk
  clear hbk kd
  go_wp2_with (at_builtin; go_loud (refine wpList_append_rd rfl (.tmp 18) (.tmp 21) rfl w1.heap.size _ dg rfl kd' _ 1 [UInt8.ofNat place.toNat] rfl rk (by have := HDL.out; simp; omega) hb2.size ?_); intro v6 w6 ho6 hg6)
  have B6 := hb2.grown hg6 hb2.size (fun k hk => kd'.ge k hk)
  rw [HJS.out] at ho6
  obtain ⟨p6, q6, rfl, r6⟩ := ho6.rd
  replace ra := ra.keep B6
  replace hb1 := Below.step hb1 B6
  clear hb2 rk kd' hg6 B6 ho6
  go_wp2_with fail
  refine (KM.out _ _ _ _ _ ra r6).mono ?_
  rintro e w4 ⟨u4, rfl, k4, hb4⟩
  go_wp2
  go_ret
  exact ⟨_, rfl, k4.lower hb1.size, Below.step hb1 hb4⟩
theorem rdl_four (w : World) (x y z v : Pc) (t : TypeId) (hx : Rd w x.p x.q x.bs) (hy : Rd w y.p y.q y.bs) (hz : Rd w z.p z.q z.bs) (hv : Rd w v.p v.q v.bs) :
    RdL bytC (w.alloc (.cells #[x.val, y.val, z.val, v.val] t)) (some ⟨w.heap.size, 0, none⟩) 4 [x.bs, y.bs, z.bs, v.bs] := by
  have hb := alloc_below w (.cells #[x.val, y.val, z.val, v.val] t)
  have A := Arr.new w [x.val, y.val, z.val, v.val] t
  refine ⟨by simp, by unfold maxLen; decide, (fun e => by cases e), fun _ => ⟨w.heap.size, 0, rfl, fun i a hi => ?_⟩⟩
  match i, hi with
  | 0, hi => cases hi; exact ⟨[x.val], ⟨x.p, x.q, rfl, hx.keep hb⟩, fun j u hj => by
      match j, hj with
      | 0, hj => cases hj; exact A.cell 0⟩
  | 1, hi => cases hi; exact ⟨[y.val], ⟨y.p, y.q, rfl, hy.keep hb⟩, fun j u hj => by
      match j, hj with
      | 0, hj => cases hj; exact A.cell 1⟩
  | 2, hi => cases hi; exact ⟨[z.val], ⟨z.p, z.q, rfl, hz.keep hb⟩, fun j u hj => by
      match j, hj with
      | 0, hj => cases hj; exact A.cell 2⟩
  | 3, hi => cases hi; exact ⟨[v.val], ⟨v.p, v.q, rfl, hv.keep hb⟩, fun j u hj => by
      match j, hj with
      | 0, hj => cases hj; exact A.cell 3⟩
set_option maxRecDepth 4000 in
set_option maxHeartbeats 1000000 in
theorem l13Make_c (p p2 : Option Addr) (q q2 b o : Nat) (x ctx : List UInt8) (r : Int) (c : CertD) (place : Int) (w : World) (hr : Rd w p q x) (hr2 : Rd w p2 q2 ctx) (c0 : w.cell? ⟨b, o, none⟩ = some (.int .i64 c.1)) (c1 : w.cell? ⟨b, o + 1, none⟩ = some (.int .i64 c.2.1)) (c2 : w.cell? ⟨b, o + 2, none⟩ = some (.int .i64 c.2.2)) (hx : x.length ≤ 64) (hl : ctx.length ≤ 20) (hc : okC c = true) (hp0 : 0 ≤ place) (hp1 : place ≤ 255) :
    Calls Tryz.prog 50 #[.slice p x.length q, .int .i64 r, .slice p2 ctx.length q2, .pointer (some ⟨b, o, none⟩), .int .i64 place] w fun e w' => ∃ u, e = .returned u ∧ Own w' w.heap.size u (mkN x r ctx c place) ∧ Below w.heap.size w w' := by
  have HM : Hid (mkN x r ctx c place = blksN [ctx, pcL c, [UInt8.ofNat place.toNat], mcN x r ctx c place]) := rfl
  have HLN : (mkN x r ctx c place).length = ctx.length + 41 := mkN_len x r ctx c place
  have KP : Hid (∀ W, Below w.heap.size w W → Calls Tryz.prog 106 #[.pointer (some ⟨b, o, none⟩)] W fun e w' => ∃ u, e = .returned u ∧ Own w' W.heap.size u (pcL c) ∧ Below W.heap.size W w') := fun W h => l12Pack_c b o c W (cell_keep c0 h) (cell_keep c1 h) (cell_keep c2 h) hc
  have KC : Hid (∀ W, Below w.heap.size w W → Calls Tryz.prog 108 #[.slice p x.length q, .int .i64 r, .slice p2 ctx.length q2, .pointer (some ⟨b, o, none⟩), .int .i64 place] W fun e w' => ∃ u, e = .returned u ∧ Own w' W.heap.size u (mcN x r ctx c place) ∧ Below W.heap.size W w') := fun W h => l13Mac_c p p2 q q2 b o x ctx r c place W (hr.keep h) (hr2.keep h) (cell_keep c0 h) (cell_keep c1 h) (cell_keep c2 h) hx hl hc hp0 hp1
  obtain ⟨mc, HC⟩ : ∃ mc, Hid (mcN x r ctx c place = mc) := ⟨_, rfl⟩
  obtain ⟨pc, HP⟩ : ∃ pc, Hid (pcL c = pc) := ⟨_, rfl⟩
  rw [HC.out, HP.out] at HM
  rw [HC.out] at KC
  rw [HP.out] at KP
  have HML : Hid ((blksN [ctx, pc, [UInt8.ofNat place.toNat], mc]).length ≤ 1000000) := by show _ ≤ _; rw [← HM.out]; omega
  obtain ⟨mk, HK⟩ : ∃ mk, Hid (mkN x r ctx c place = mk) := ⟨_, rfl⟩
  rw [HK.out] at HM ⊢
  have HPB : Hid ((((UInt8.ofNat place.toNat).toNat : Nat) : Int) = place) := by show _ = _; rw [UInt8.toNat_ofNat', Nat.mod_eq_of_lt (by omega)]; omega
  have HR2 : Hid (Rd w p2 q2 ctx) := hr2
  clear hr hr2 c0 c1 c2 hx hc hl HK HC HP HLN
  go_enter Tryz.func50, Tryz.ntmps50
  go_wp2_with fail
  refine (KP.out _ (Below.refl _ _)).mono ?_
  rintro e w1 ⟨u1, rfl, k1, hb1⟩
  obtain ⟨pa, qa, rfl, ra⟩ := k1.rd
  clear k1
  have rk := rd_new w1 [.int .u8 place] [UInt8.ofNat place.toNat] 5 1 (by simp only [List.map_cons, List.map_nil, u8v]; rw [HPB.out]) rfl (by decide)
  have hbk := alloc_below w1 (.cells #[.int .u8 place] 5)
  replace ra := ra.keep hbk
  replace hb1 := Below.step hb1 hbk
  clear hbk
  go_wp2_with fail
  refine (KC.out _ hb1).mono ?_
  rintro e w2 ⟨u2, rfl, k2, hb2⟩
  obtain ⟨pb, qb, rfl, rb⟩ := k2.rd
  replace ra := ra.keep hb2
  replace rk := rk.keep hb2
  replace hb1 := Below.step hb1 hb2
  clear k2 hb2
  have R4 := rdl_four w2 ⟨p2, q2, ctx⟩ ⟨pa, qa, pc⟩ ⟨some ⟨w1.heap.size, 0, none⟩, 1, [UInt8.ofNat place.toNat]⟩ ⟨pb, qb, mc⟩ 22 (HR2.out.keep hb1) ra rk rb
  have hbj := Below.step hb1 (alloc_below w2 (.cells #[.slice p2 ctx.length q2, .slice pa pc.length qa, .slice (some ⟨w1.heap.size, 0, none⟩) 1 1, .slice pb mc.length qb] 22))
  have KB := l6Blocks_c [ctx, pc, [UInt8.ofNat place.toNat], mc] (some ⟨w2.heap.size, 0, none⟩) 4 _ R4 HML.out
  rw [← HM.out] at KB
  clear ra rb rk R4 hb1
  go_wp2_with fail
  refine KB.mono ?_
  rintro e w3 ⟨u3, rfl, k3, hb3⟩
  go_wp2
  go_ret
  exact ⟨_, rfl, k3.lower hbj.size, Below.step hbj hb3⟩
end Go.Proofs.YtflhoefocjmihaaGreatDoor

/- Chapter 13 of the specification: faults (l13Fault), AuthKey, AuthDigest, MakeAuth: code and bytes at every argument. What was there stays. -/
namespace Go.Proofs.YtflhoefocjmihaaGreatDoor
open Go.RowKit

theorem akC_len {x : List UInt8} {r : Int} (h : akC x r = 0) : x.length = 32 := by
  unfold akC at h
  cases h1 : is32 x
  · rw [h1] at h; cases h
  · simpa [is32] using h1
set_option maxRecDepth 4000 in
set_option maxHeartbeats 1000000 in
theorem l13Fault_c (p p2 : Option Addr) (q q2 b o : Nat) (x ctx : List UInt8) (r : Int) (c : CertD) (w : World) (c0 : w.cell? ⟨b, o, none⟩ = some (.int .i64 c.1)) (c1 : w.cell? ⟨b, o + 1, none⟩ = some (.int .i64 c.2.1)) (c2 : w.cell? ⟨b, o + 2, none⟩ = some (.int .i64 c.2.2)) :
    Calls Tryz.prog 67 #[.slice p x.length q, .int .i64 r, .slice p2 ctx.length q2, .pointer (some ⟨b, o, none⟩)] w fun e w' => e = .returned (.int .i64 (adC x r ctx c)) ∧ w' = w := by
  have KA : Hid (Calls Tryz.prog 80 #[.slice p x.length q, .int .i64 r] w fun e w' => e = .returned (.int .i64 (akC x r)) ∧ w' = w) := l13Asked_c p q x r w
  have KC := l13Context_c p2 q2 ctx w
  have KO := l12One_c b o c w c0 c1 c2
  have HD : adC x r ctx c = (if akC x r = 0 then (if ctxB ctx then (if okC c then 0 else 3) else 2) else akC x r) := rfl
  rw [HD]
  clear HD c0 c1 c2
  obtain ⟨k, HK⟩ : ∃ k, Hid (akC x r = k) := ⟨_, rfl⟩
  rw [HK.out] at KA ⊢
  clear HK
  by_cases h1 : k = 0
  · subst h1
    rw [if_pos rfl]
    cases h2 : ctxB ctx
    · rw [h2] at KC
      have KC : Hid _ := KC
      rw [if_neg (by decide)]
      clear KO
      go_enter Tryz.func67, Tryz.ntmps67
      go_wp2_with fail
      refine Calls.mono KA.out ?_
      rintro e w0 ⟨rfl, hw⟩
      subst hw
      go_wp2_with fail
      refine Calls.mono KC.out ?_
      rintro e w1 ⟨rfl, hw⟩
      subst hw
      go_wp2
      go_ret
      exact ⟨rfl, rfl⟩
    · rw [h2] at KC
      have KC : Hid _ := KC
      rw [if_pos rfl]
      cases h3 : okC c
      · rw [h3] at KO
        have KO : Hid _ := KO
        rw [if_neg (by decide)]
        go_enter Tryz.func67, Tryz.ntmps67
        go_wp2_with fail
        refine Calls.mono KA.out ?_
        rintro e w0 ⟨rfl, hw⟩
        subst hw
        go_wp2_with fail
        refine Calls.mono KC.out ?_
        rintro e w1 ⟨rfl, hw⟩
        subst hw
        go_wp2_with fail
        refine Calls.mono KO.out ?_
        rintro e w2 ⟨rfl, hw⟩
        subst hw
        go_wp2
        go_ret
        exact ⟨rfl, rfl⟩
      · rw [h3] at KO
        have KO : Hid _ := KO
        rw [if_pos rfl]
        go_enter Tryz.func67, Tryz.ntmps67
        go_wp2_with fail
        refine Calls.mono KA.out ?_
        rintro e w0 ⟨rfl, hw⟩
        subst hw
        go_wp2_with fail
        refine Calls.mono KC.out ?_
        rintro e w1 ⟨rfl, hw⟩
        subst hw
        go_wp2_with fail
        refine Calls.mono KO.out ?_
        rintro e w2 ⟨rfl, hw⟩
        subst hw
        go_wp2
        go_ret
        exact ⟨rfl, rfl⟩
  · rw [if_neg h1]
    clear KC KO
    go_enter Tryz.func67, Tryz.ntmps67
    go_wp2_with fail
    refine Calls.mono KA.out ?_
    rintro e w0 ⟨rfl, hw⟩
    subst hw
    go_wp2
    go_ret
    exact ⟨rfl, rfl⟩
set_option maxRecDepth 4000 in
set_option maxHeartbeats 1000000 in
theorem specMa_c (p p2 : Option Addr) (q q2 : Nat) (x ctx : List UInt8) (r : Int) (c : CertD) (place : Int) (w : World) (hr : Rd w p q x) (hr2 : Rd w p2 q2 ctx) :
    Calls Tryz.prog 17 #[.slice p x.length q, .int .i64 r, .slice p2 ctx.length q2, .agg #[.int .i64 c.1, .int .i64 c.2.1, .int .i64 c.2.2], .int .i64 place] w fun e w' => ∃ u, e = .returned (.agg #[.int .i64 (maD x r ctx c place).1, u]) ∧ Own w' w.heap.size u (maD x r ctx c place).2 ∧ Below w.heap.size w w' := by
  have BW := Below.mk (alloc_below w (.cells #[.int .i64 c.1, .int .i64 c.2.1, .int .i64 c.2.2] 41)) (.cells #[.int .i64 0, .slice none 0 0] 45)
  have A := (Arr.new w [.int .i64 c.1, .int .i64 c.2.1, .int .i64 c.2.2] 41).old _ (.cells #[.int .i64 0, .slice none 0 0] 45)
  have R := Arr.new (w.alloc (.cells #[.int .i64 c.1, .int .i64 c.2.1, .int .i64 c.2.2] 41)) [.int .i64 0, .slice none 0 0] 45
  rw [size_alloc] at R
  have KA : Hid _ := l13Fault_c p p2 q q2 w.heap.size 0 x ctx r c ((w.alloc (.cells #[.int .i64 c.1, .int .i64 c.2.1, .int .i64 c.2.2] 41)).alloc (.cells #[.int .i64 0, .slice none 0 0] 45)) (A.cell 0) (A.cell 1) (A.cell 2)
  by_cases h0 : adC x r ctx c = 0
  · cases h1 : inB place 0 39
    · rw [show maD x r ctx c place = (3, []) by rw [maD, maC, if_pos h0, h1]; rfl]
      rw [h0] at KA
      clear hr hr2 A R BW h0
      go_enter Tryz.func17, Tryz.ntmps17
      go_wp2_with fail
      refine Calls.mono KA.out ?_
      rintro e w2 ⟨rfl, hw⟩
      subst hw
      go_wp2_with fail
      refine (l1In_c _ _ _ _).mono ?_
      rintro e w2 ⟨rfl, hw⟩
      subst hw
      rw [h1]
      go_wp2
      exact bodyPost_ret (v := .agg #[.int .i64 3, .slice none 0 0]) (by simp [results, Tryz.results17, go_sem]) rfl ⟨_, rfl, Own_nil _ _, Below.mk (alloc_below _ _) _⟩
    · rw [show maD x r ctx c place = (0, mkN x r ctx c place) by rw [maD, maC, if_pos h0, h1]; rfl]
      obtain ⟨hk, hct, hoc⟩ := adC_ok h0
      have hx := akC_len hk
      have hcl := (ctxB_parts hct).2
      have hpl : 0 ≤ place ∧ place ≤ 39 := by simp only [inB, decide_eq_true_eq] at h1; exact h1
      have KK : Hid (Calls Tryz.prog 50 #[.slice p x.length q, .int .i64 r, .slice p2 ctx.length q2, .pointer (some ⟨w.heap.size, 0, none⟩), .int .i64 place] ((w.alloc (.cells #[.int .i64 c.1, .int .i64 c.2.1, .int .i64 c.2.2] 41)).alloc (.cells #[.int .i64 0, .slice none 0 0] 45)) fun e w' => ∃ u, e = .returned u ∧ Own w' ((w.alloc (.cells #[.int .i64 c.1, .int .i64 c.2.1, .int .i64 c.2.2] 41)).alloc (.cells #[.int .i64 0, .slice none 0 0] 45)).heap.size u (mkN x r ctx c place) ∧ Below ((w.alloc (.cells #[.int .i64 c.1, .int .i64 c.2.1, .int .i64 c.2.2] 41)).alloc (.cells #[.int .i64 0, .slice none 0 0] 45)).heap.size ((w.alloc (.cells #[.int .i64 c.1, .int .i64 c.2.1, .int .i64 c.2.2] 41)).alloc (.cells #[.int .i64 0, .slice none 0 0] 45)) w') := l13Make_c p p2 q q2 w.heap.size 0 x ctx r c place _ (hr.keep BW) (hr2.keep BW) (A.cell 0) (A.cell 1) (A.cell 2) (by omega) hcl hoc (by omega) (by omega)
      obtain ⟨pw, HP⟩ : ∃ pw, Hid (mkN x r ctx c place = pw) := ⟨_, rfl⟩
      rw [HP.out] at KK ⊢
      rw [h0] at KA
      clear HP hk hct hoc hx hcl h0 hr hr2 A hpl
      go_enter Tryz.func17, Tryz.ntmps17
      go_wp2_with fail
      refine Calls.mono KA.out ?_
      rintro e w2 ⟨rfl, hw⟩
      subst hw
      go_wp2_with fail
      refine (l1In_c _ _ _ _).mono ?_
      rintro e w2 ⟨rfl, hw⟩
      subst hw
      rw [h1]
      go_wp2_with fail
      refine Calls.mono KK.out ?_
      rintro e w3 ⟨u3, rfl, k3, hb3⟩
      have BW3 := Below.step BW hb3
      have R3 := R.stay hb3
      have hlt : Hid (w.heap.size + 1 < ((w.alloc (.cells #[.int .i64 c.1, .int .i64 c.2.1, .int .i64 c.2.2] 41)).alloc (.cells #[.int .i64 0, .slice none 0 0] 45)).heap.size) := R.lt
      obtain ⟨p3, q3, rfl, -⟩ := k3.rd
      have c0 := R3.cell 0
      have c1 := R3.cell 1
      have fz := R3.frozen
      simp at c0 c1
      clear R KK KA hb3 R3
      go_wp2
      refine bodyPost_ret (v := .agg #[.int .i64 0, .slice p3 pw.length q3]) (by simp [results, Tryz.results17, go_sem, c0, c1]) rfl ⟨_, rfl, ?_, (BW3.setCell (by show w.heap.size ≤ w.heap.size + 1; omega) _).setCell (by show w.heap.size ≤ w.heap.size + 1; omega) _⟩
      exact ((k3.set (a := ⟨w.heap.size + 1, 0, none⟩) hlt.out _).set (a := ⟨w.heap.size + 1, 1, none⟩) hlt.out _).lower (B' := w.heap.size) (by have := hlt.out; omega)
  · rw [show maD x r ctx c place = (adC x r ctx c, []) by rw [maD, maC, if_neg h0, if_neg h0]]
    obtain ⟨k, HK⟩ : ∃ k, Hid (adC x r ctx c = k) := ⟨_, rfl⟩
    rw [HK.out] at KA h0 ⊢
    clear HK hr hr2 A R BW
    go_enter Tryz.func17, Tryz.ntmps17
    go_wp2_with fail
    refine Calls.mono KA.out ?_
    rintro e w2 ⟨rfl, hw⟩
    subst hw
    go_wp2
    exact bodyPost_ret (v := .agg #[.int .i64 k, .slice none 0 0]) (by simp [results, Tryz.results17, go_sem]) rfl ⟨_, rfl, Own_nil _ _, Below.mk (alloc_below _ _) _⟩
end Go.Proofs.YtflhoefocjmihaaGreatDoor

