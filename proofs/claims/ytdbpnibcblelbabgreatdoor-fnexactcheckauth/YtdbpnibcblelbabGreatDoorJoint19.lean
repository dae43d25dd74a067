/- Chapter 13 of the specification: the digest that is signed (l13Digest). For right arguments. -/
import Derived.Test.YtdbpnibcblelbabGreatDoorJoint18
import Derived.Test.YtdbpnibcblelbabGreatDoorCertS
import Derived.Test.YtdbpnibcblelbabGreatDoorJoint13
import Derived.Test.YtdbpnibcblelbabGreatDoorPad
import Derived.Test.YtdbpnibcblelbabGreatDoorMacS
import Derived.Test.YtdbpnibcblelbabGreatDoorJoint14
import Derived.Test.YtdbpnibcblelbabGreatDoorSignsK
import Derived.Test.YtdbpnibcblelbabGreatDoorJoint17
import Derived.Test.YtdbpnibcblelbabGreatDoorJoint8
import Derived.Test.YtdbpnibcblelbabGreatDoorJoint3
namespace Go.Proofs.YtdbpnibcblelbabGreatDoor
open Go.RowKit

set_option maxRecDepth 4000 in
set_option maxHeartbeats 1000000 in
theorem l13Digest_c (p p2 : Option Addr) (q q2 b o : Nat) (x ctx : List UInt8) (r : Int) (c : CertD) (w : World) (hr : Rd w p q x) (hr2 : Rd w p2 q2 ctx) (c0 : w.cell? ⟨b, o, none⟩ = some (.int .i64 c.1)) (c1 : w.cell? ⟨b, o + 1, none⟩ = some (.int .i64 c.2.1)) (c2 : w.cell? ⟨b, o + 2, none⟩ = some (.int .i64 c.2.2)) (hx : x.length ≤ 64) (hl : ctx.length ≤ 20) (hc : okC c = true) :
    Calls Tryz.prog 43 #[.slice p x.length q, .int .i64 r, .slice p2 ctx.length q2, .pointer (some ⟨b, o, none⟩)] w fun e w' => ∃ u, e = .returned u ∧ Own w' w.heap.size u (dgN x r ctx c) ∧ Below w.heap.size w w' := by
  have HD : Hid (dgN x r ctx c = digestN (kyN x r false ++ [UInt8.ofNat ctx.length] ++ ctx ++ pcL c)) := rfl
  have KK : Hid (∀ W, Rd W p q x → Calls Tryz.prog 63 #[.slice p x.length q, .int .i64 r, .bool false] W fun e w' => ∃ u, e = .returned u ∧ Own w' W.heap.size u (kyN x r false) ∧ Below W.heap.size W w') := fun W h => l13Key_c p q x r false W h hx
  have KP : Hid (∀ W, Below w.heap.size w W → Calls Tryz.prog 64 #[.pointer (some ⟨b, o, none⟩)] W fun e w' => ∃ u, e = .returned u ∧ Own w' W.heap.size u (pcL c) ∧ Below W.heap.size W w') := fun W h => l12Pack_c b o c W (cell_keep c0 h) (cell_keep c1 h) (cell_keep c2 h) hc
  have HL1 : (kyN x r false).length = 32 := kyN_len _ _ _
  have HL2 : (pcL c).length ≤ 20 := by exact (show (4 : Nat) ≤ 20 by decide)
  obtain ⟨kk, HK⟩ : ∃ kk, Hid (kyN x r false = kk) := ⟨_, rfl⟩
  obtain ⟨pc, HP⟩ : ∃ pc, Hid (pcL c = pc) := ⟨_, rfl⟩
  rw [HK.out] at HD KK HL1
  rw [HP.out] at HD KP HL2
  have HJL : Hid ((kk ++ [UInt8.ofNat ctx.length] ++ ctx ++ pc).length ≤ 600) := by show _ ≤ _; simp; omega
  have KD : Hid (∀ (W : World) (a : Option Addr) (d : Nat), Rd W a d (kk ++ [UInt8.ofNat ctx.length] ++ ctx ++ pc) → Calls Tryz.prog 61 #[.slice a (kk ++ [UInt8.ofNat ctx.length] ++ ctx ++ pc).length d] W fun e w' => ∃ u, e = .returned u ∧ Own w' W.heap.size u (dgN x r ctx c) ∧ Below W.heap.size W w') := fun W a d h => by rw [HD.out]; exact l2Digest_c a d _ W h HJL.out
  obtain ⟨js, HJS⟩ : ∃ js, Hid (kk ++ [UInt8.ofNat ctx.length] ++ ctx ++ pc = js) := ⟨_, rfl⟩
  rw [HJS.out] at KD HJL
  have HCB : Hid ((UInt8.ofNat ctx.length).toNat = ctx.length) := by show _ = _; rw [UInt8.toNat_ofNat', Nat.mod_eq_of_lt (by omega)]
  obtain ⟨dg, HG⟩ : ∃ dg, Hid (dgN x r ctx c = dg) := ⟨_, rfl⟩
  rw [HG.out] at KD ⊢
  have HR : Hid (Rd w p q x) := hr
  have HR2 : Hid (Rd w p2 q2 ctx) := hr2
  clear hr hr2 c0 c1 c2 hx hc HD HL1 HL2 HK HP HG
  go_enter Tryz.func43, Tryz.ntmps43
  go_wp2_with fail
  refine (KK.out _ HR.out).mono ?_
  rintro e w1 ⟨u1, rfl, k1, hb1⟩
  obtain ⟨pa, qa, rfl, ra⟩ := k1.rd
  clear k1
  have rk := rd_new w1 [.int .u8 (ctx.length : Int)] [UInt8.ofNat ctx.length] 5 1 (by simp only [List.map_cons, List.map_nil, u8v]; rw [HCB.out]) rfl (by decide)
  have hbk := alloc_below w1 (.cells #[.int .u8 (ctx.length : Int)] 5)
  replace ra := ra.keep hbk
  replace hb1 := Below.step hb1 hbk
  clear hbk
  go_wp2_with fail
  refine (KP.out _ hb1).mono ?_
  rintro e w2 ⟨u2, rfl, k2, hb2⟩
  obtain ⟨pb, qb, rfl, rb⟩ := k2.rd
  replace ra := ra.keep hb2
  replace rk := rk.keep hb2
  replace hb1 := Below.step hb1 hb2
  clear k2 hb2
  have Pj := pcs_four w2 ⟨pa, qa, kk⟩ ⟨some ⟨w1.heap.size, 0, none⟩, 1, [UInt8.ofNat ctx.length]⟩ ⟨p2, q2, ctx⟩ ⟨pb, qb, pc⟩ 22 ra rk (HR2.out.keep hb1) rb
  have hbj := Below.step hb1 (alloc_below w2 (.cells #[.slice pa kk.length qa, .slice (some ⟨w1.heap.size, 0, none⟩) 1 1, .slice p2 ctx.length q2, .slice pb pc.length qb] 22))
  have KJ := l1Join_c [⟨pa, qa, kk⟩, ⟨some ⟨w1.heap.size, 0, none⟩, 1, [UInt8.ofNat ctx.length]⟩, ⟨p2, q2, ctx⟩, ⟨pb, qb, pc⟩] w2.heap.size 0 4 _ Pj (by rw [flat_four]; dsimp only; rw [HJS.out]; exact Nat.le_trans HJL.out (by decide)) (by simp)
  rw [flat_four] at KJ
  dsimp only at KJ
  rw [HJS.out] at KJ
  clear ra rb rk Pj hb1
  go_wp2_with fail
  refine KJ.mono ?_
  rintro e w3 ⟨u3, rfl, k3, hb3⟩
  obtain ⟨pj, qj, rfl, rj⟩ := k3.rd
  replace hbj := Below.step hbj hb3
  clear k3 hb3 KJ
  go_wp2_with fail
  refine (KD.out _ _ _ rj).mono ?_
  rintro e w4 ⟨u4, rfl, k4, hb4⟩
  go_wp2
  go_ret
  exact ⟨_, rfl, k4.lower hbj.size, Below.step hbj hb4⟩
set_option maxRecDepth 4000 in
set_option maxHeartbeats 1000000 in
theorem l13Mac_c (p p2 : Option Addr) (q q2 b o : Nat) (x ctx : List UInt8) (r : Int) (c : CertD) (place : Int) (w : World) (hr : Rd w p q x) (hr2 : Rd w p2 q2 ctx) (c0 : w.cell? ⟨b, o, none⟩ = some (.int .i64 c.1)) (c1 : w.cell? ⟨b, o + 1, none⟩ = some (.int .i64 c.2.1)) (c2 : w.cell? ⟨b, o + 2, none⟩ = some (.int .i64 c.2.2)) (hx : x.length ≤ 64) (hl : ctx.length ≤ 20) (hc : okC c = true) (hp0 : 0 ≤ place) (hp1 : place ≤ 255) :
    Calls Tryz.prog 46 #[.slice p x.length q, .int .i64 r, .slice p2 ctx.length q2, .pointer (some ⟨b, o, none⟩), .int .i64 place] w fun e w' => ∃ u, e = .returned u ∧ Own w' w.heap.size u (mcN x r ctx c place) ∧ Below w.heap.size w w' := by
  have HM : Hid (mcN x r ctx c place = macN (kyN x r true) (dgN x r ctx c ++ [UInt8.ofNat place.toNat])) := rfl
  have KK : Hid (∀ W, Rd W p q x → Calls Tryz.prog 63 #[.slice p x.length q, .int .i64 r, .bool true] W fun e w' => ∃ u, e = .returned u ∧ Own w' W.heap.size u (kyN x r true) ∧ Below W.heap.size W w') := fun W h => l13Key_c p q x r true W h hx
  have KD : Hid (∀ W, Below w.heap.size w W → Calls Tryz.prog 43 #[.slice p x.length q, .int .i64 r, .slice p2 ctx.length q2, .pointer (some ⟨b, o, none⟩)] W fun e w' => ∃ u, e = .returned u ∧ Own w' W.heap.size u (dgN x r ctx c) ∧ Below W.heap.size W w') := fun W h => l13Digest_c p p2 q q2 b o x ctx r c W (hr.keep h) (hr2.keep h) (cell_keep c0 h) (cell_keep c1 h) (cell_keep c2 h) hx hl hc
  have HL1 : (kyN x r true).length = 32 := kyN_len _ _ _
  have HL2 : (dgN x r ctx c).length = 32 := dgN_len _ _ _ _
  obtain ⟨kk, HK⟩ : ∃ kk, Hid (kyN x r true = kk) := ⟨_, rfl⟩
  obtain ⟨dg, HG⟩ : ∃ dg, Hid (dgN x r ctx c = dg) := ⟨_, rfl⟩
  rw [HK.out] at HM KK HL1
  rw [HG.out] at HM KD HL2
  have HDL : Hid (dg.length = 32) := HL2
  have HPB : Hid ((((UInt8.ofNat place.toNat).toNat : Nat) : Int) = place) := by show _ = _; rw [UInt8.toNat_ofNat', Nat.mod_eq_of_lt (by omega)]; omega
  obtain ⟨js, HJS⟩ : ∃ js, Hid (dg ++ [UInt8.ofNat place.toNat] = js) := ⟨_, rfl⟩
  have HJL : Hid (js.length ≤ 536) := by show _ ≤ _; rw [← HJS.out]; simp; omega
  rw [HJS.out] at HM
  have KM : Hid (∀ (W : World) (a a' : Option Addr) (d d' : Nat), Rd W a d kk → Rd W a' d' js → Calls Tryz.prog 65 #[.slice a kk.length d, .slice a' js.length d'] W fun e w' => ∃ u, e = .returned u ∧ Own w' W.heap.size u (mcN x r ctx c place) ∧ Below W.heap.size W w') := fun W a a' d d' h h' => by rw [HM.out]; exact l3Mac_c a a' d d' kk js W h h' (by omega) HJL.out
  obtain ⟨mc, HC⟩ : ∃ mc, Hid (mcN x r ctx c place = mc) := ⟨_, rfl⟩
  rw [HC.out] at KM ⊢
  have HR : Hid (Rd w p q x) := hr
  clear hr hr2 c0 c1 c2 hx hc hl HM HL1 HL2 HK HG HC
  go_enter Tryz.func46, Tryz.ntmps46
  go_wp2_with fail
  refine (KK.out _ HR.out).mono ?_
  rintro e w1 ⟨u1, rfl, k1, hb1⟩
  obtain ⟨pa, qa, rfl, ra⟩ := k1.rd
  clear k1
  go_wp2_with fail
  refine (KD.out _ hb1).mono ?_
  rintro e w2 ⟨u2, rfl, kd, hb2⟩
  obtain ⟨pd, qd, rfl, -⟩ := kd.rd
  have rk := rd_new w2 [.int .u8 place] [UInt8.ofNat place.toNat] 5 1 (by simp only [List.map_cons, List.map_nil, u8v]; rw [HPB.out]) rfl (by decide)
  have hbk := alloc_below w2 (.cells #[.int .u8 place] 5)
  have kd' := kd.stay hbk
  replace hb2 := Below.step hb2 hbk
  clear hbk kd
  go_wp2_with (at_builtin; go_loud (refine wpList_append_rd rfl (.tmp 18) (.tmp 21) rfl w1.heap.size _ dg rfl kd' _ 1 [UInt8.ofNat place.toNat] rfl rk (by have := HDL.out; simp; omega) hb2.size ?_); intro v6 w6 ho6 hg6)
  have B6 := hb2.grown hg6 hb2.size (fun k hk => kd'.ge k hk)
  rw [HJS.out] at ho6
  obtain ⟨p6, q6, rfl, r6⟩ := ho6.rd
  replace ra := ra.keep B6
  replace hb1 := Below.step hb1 B6
  clear hb2 rk kd' hg6 B6 ho6
  go_wp2_with fail
  refine (KM.out _ _ _ _ _ ra r6).mono ?_
  rintro e w4 ⟨u4, rfl, k4, hb4⟩
  go_wp2
  go_ret
  exact ⟨_, rfl, k4.lower hb1.size, Below.step hb1 hb4⟩
theorem rdl_four (w : World) (x y z v : Pc) (t : TypeId) (hx : Rd w x.p x.q x.bs) (hy : Rd w y.p y.q y.bs) (hz : Rd w z.p z.q z.bs) (hv : Rd w v.p v.q v.bs) :
    RdL bytC (w.alloc (.cells #[x.val, y.val, z.val, v.val] t)) (some ⟨w.heap.size, 0, none⟩) 4 [x.bs, y.bs, z.bs, v.bs] := by
  have hb := alloc_below w (.cells #[x.val, y.val, z.val, v.val] t)
  have A := Arr.new w [x.val, y.val, z.val, v.val] t
  refine ⟨by simp, by unfold maxLen; decide, (fun e => by cases e), fun _ => ⟨w.heap.size, 0, rfl, fun i a hi => ?_⟩⟩
  match i, hi with
  | 0, hi => cases hi; exact ⟨[x.val], ⟨x.p, x.q, rfl, hx.keep hb⟩, fun j u hj => by
      match j, hj with
      | 0, hj => cases hj; exact A.cell 0⟩
  | 1, hi => cases hi; exact ⟨[y.val], ⟨y.p, y.q, rfl, hy.keep hb⟩, fun j u hj => by
      match j, hj with
      | 0, hj => cases hj; exact A.cell 1⟩
  | 2, hi => cases hi; exact ⟨[z.val], ⟨z.p, z.q, rfl, hz.keep hb⟩, fun j u hj => by
      match j, hj with
      | 0, hj => cases hj; exact A.cell 2⟩
  | 3, hi => cases hi; exact ⟨[v.val], ⟨v.p, v.q, rfl, hv.keep hb⟩, fun j u hj => by
      match j, hj with
      | 0, hj => cases hj; exact A.cell 3⟩
end Go.Proofs.YtdbpnibcblelbabGreatDoor

/- Chapter 13 of the specification: faults (l13Fault), AuthKey, AuthDigest, MakeAuth: code and bytes at every argument. What was there stays. -/
namespace Go.Proofs.YtdbpnibcblelbabGreatDoor
open Go.RowKit

theorem akC_len {x : List UInt8} {r : Int} (h : akC x r = 0) : x.length = 32 := by
  unfold akC at h
  cases h1 : is32 x
  · rw [h1] at h; cases h
  · simpa [is32] using h1
end Go.Proofs.YtdbpnibcblelbabGreatDoor

/- The contracts of signatures in the specification that only read: l12Signs, SignsFault, l12Leaked, l12Check, CheckSign, at every argument. What was there stays. -/
namespace Go.Proofs.YtdbpnibcblelbabGreatDoor
open Go.ChangeShapes Go.WideShapes Go.ChangeAt Go.RowKit

set_option maxRecDepth 4000 in
set_option maxHeartbeats 1000000 in
theorem l12Signs_c (l : List SignD) (p : Option Addr) (q : Nat) (w : World) (hr : RdL signC w p q l) :
    Calls Tryz.prog 23 #[.slice p l.length q] w fun e w' => e = .returned (.int .i64 (sgC l)) ∧ w' = w := by
  have HR : Hid (RdL signC w p q l) := hr
  have hq1 : l.length ≤ q := hr.1
  have hq2 : q ≤ 2 ^ 63 - 1 := hr.2.1
  clear hr
  by_cases hl : l.length ≤ 40
  · have hlI : ¬ (40 < (l.length : Int)) := by omega
    have HC : Hid (sgC l = sgF l) := by show _ = _; rw [sgC, if_pos hl]
    go_enter Tryz.func23, Tryz.ntmps23
    go_wp2
    go_loopw [3] (fun i wr => wr = w ∧ ∃ k : Nat, k ≤ l.length ∧ i = .int .i64 k ∧ sgC l = sgF (l.drop k))
      (fun i _ => l.length - (intOf i).toNat)
    case atStart => exact ⟨rfl, 0, Nat.zero_le _, rfl, HC.out⟩
    case round =>
      obtain ⟨rfl, k, hk, rfl, hn⟩ := hrel
      by_cases hlt : k < l.length
      · have hI : (k : Int) < (l.length : Int) := by omega
        obtain ⟨b, o, e1, hc⟩ := HR.out.2.2.2 (by omega)
        subst e1
        obtain ⟨a, ha⟩ : ∃ a, l[k]? = some a := ⟨l[k], by simp [hlt]⟩
        obtain ⟨us, hrep, hcell⟩ := hc k a ha
        obtain ⟨pa, qa, rfl, ra⟩ := sign_rep hrep
        have c0 := hcell 0 _ rfl
        have c1 := hcell 1 _ rfl
        have c2 := hcell 2 _ rfl
        rw [show signC.n = 3 from rfl] at c0 c1 c2
        rw [Nat.add_zero] at c0
        clear hc hcell hrep ra
        have HO : Hid (sgO a = if inB a.1 1 99 && inB a.2.1 0 9 then (if is32 a.2.2 then 0 else 1) else 3) := rfl
        have H0 : Hid (sgO a = 0 → sgC l = sgF (l.drop (k + 1))) := fun h => hn.trans (sgF_step ha h)
        have H1 : Hid (sgO a ≠ 0 → sgC l = sgO a) := fun h => hn.trans (sgF_bad ha h)
        clear hn
        cases h1 : inB a.1 1 99
        · have hz : Hid (sgO a = 3) := by show _ = _; rw [HO.out, h1]; rfl
          have hz2 : Hid (sgC l = 3) := (H1.out (by rw [hz.out]; decide)).trans hz.out
          go_wp2_with fail
          refine (l1In_c _ _ _ _).mono ?_
          rintro e w2 ⟨rfl, rfl⟩
          rw [h1]
          go_wp2
          go_ret
          exact ⟨by rw [hz2.out]; rfl, rfl⟩
        · cases h2 : inB a.2.1 0 9
          · have hz : Hid (sgO a = 3) := by show _ = _; rw [HO.out, h1, h2]; rfl
            have hz2 : Hid (sgC l = 3) := (H1.out (by rw [hz.out]; decide)).trans hz.out
            go_wp2_with fail
            refine (l1In_c _ _ _ _).mono ?_
            rintro e w2 ⟨rfl, rfl⟩
            rw [h1]
            go_wp2_with fail
            refine (l1In_c _ _ _ _).mono ?_
            rintro e w2 ⟨rfl, rfl⟩
            rw [h2]
            go_wp2
            go_ret
            exact ⟨by rw [hz2.out]; rfl, rfl⟩
          · cases h3 : is32 a.2.2
            · have hz : Hid (sgO a = 1) := by show _ = _; rw [HO.out, h1, h2, h3]; rfl
              have hz2 : Hid (sgC l = 1) := (H1.out (by rw [hz.out]; decide)).trans hz.out
              go_wp2_with fail
              refine (l1In_c _ _ _ _).mono ?_
              rintro e w2 ⟨rfl, rfl⟩
              rw [h1]
              go_wp2_with fail
              refine (l1In_c _ _ _ _).mono ?_
              rintro e w2 ⟨rfl, rfl⟩
              rw [h2]
              go_wp2_with fail
              refine (l7Secret_c pa qa a.2.2 _).mono ?_
              rintro e w2 ⟨rfl, rfl⟩
              rw [h3]
              go_wp2
              go_ret
              exact ⟨by rw [hz2.out]; rfl, rfl⟩
            · have hz : Hid (sgO a = 0) := by show _ = _; rw [HO.out, h1, h2, h3]; rfl
              have hz2 : Hid (sgC l = sgF (l.drop (k + 1))) := H0.out hz.out
              go_wp2_with fail
              refine (l1In_c _ _ _ _).mono ?_
              rintro e w2 ⟨rfl, rfl⟩
              rw [h1]
              go_wp2_with fail
              refine (l1In_c _ _ _ _).mono ?_
              rintro e w2 ⟨rfl, rfl⟩
              rw [h2]
              go_wp2_with fail
              refine (l7Secret_c pa qa a.2.2 _).mono ?_
              rintro e w2 ⟨rfl, rfl⟩
              rw [h3]
              go_wp2_with fail
              go_roundw
              case rel => exact ⟨trivial, k + 1, by omega, by go_num, hz2.out⟩
              case measure => simp [intOf]; omega
      · have e : k = l.length := by omega
        subst e
        have hn2 : Hid (sgC l = 0) := hn.trans (sgF_end l)
        clear hn
        go_wp2
        go_ret
        exact ⟨by rw [hn2.out]; rfl, rfl⟩
  · have hlI : 40 < (l.length : Int) := by omega
    rw [show sgC l = 2 by rw [sgC, if_neg hl]]
    clear hl
    go_enter Tryz.func23, Tryz.ntmps23
    go_wp2
    go_ret
    exact ⟨rfl, rfl⟩
theorem atI_some {l : List Int} {k : Nat} {a : Int} (h : l[k]? = some a) : atI l k = a := by unfold atI; rw [List.getD_eq_getElem?_getD, h]; rfl
theorem lkB_at {l : List Int} {k : Nat} {id : Int} (h : l[k]? = some id) : lkB l id = true := by
  simp only [lkB, List.any_eq_true]; exact ⟨id, List.mem_of_getElem? h, by simp⟩
set_option maxRecDepth 4000 in
set_option maxHeartbeats 1000000 in
theorem l12Check_c (l : List SignD) (p p2 : Option Addr) (q q2 : Nat) (place id : Int) (d : List UInt8) (w : World) (hr : RdL signC w p q l) (hd : Rd w p2 q2 d) (hpl : (Lit.int .i64 place).wf = true) :
    Calls Tryz.prog 44 #[.slice p l.length q, .int .i64 place, .int .i64 id, .slice p2 d.length q2] w fun e w' => e = .returned (.bool (ckA l place id d)) ∧ w' = w := by
  have HR : Hid (RdL signC w p q l) := hr
  have HD : Hid (Rd w p2 q2 d) := hd
  have hq1 : l.length ≤ q := hr.1
  have hq2 : q ≤ 2 ^ 63 - 1 := hr.2.1
  have hw : wrap64 ((l.length : Int) - 1) = (l.length : Int) - 1 := by unfold wrap64; omega
  clear hr hd
  by_cases h0 : 0 ≤ place ∧ place < (l.length : Int)
  · obtain ⟨k, rfl⟩ : ∃ k : Nat, place = (k : Int) := ⟨place.toNat, by omega⟩
    have hk : k < l.length := by omega
    have hkI : (k : Int) < (l.length : Int) := by omega
    obtain ⟨a, ha⟩ : ∃ a, l[k]? = some a := ⟨l[k], by simp [hk]⟩
    have HB : Hid (inB (k : Int) 0 ((l.length : Int) - 1) = true) := inB_true (by omega) (by omega)
    obtain ⟨b, o, e1, hc⟩ := HR.out.2.2.2 (by omega)
    subst e1
    obtain ⟨us, hrep, hcell⟩ := hc k a ha
    obtain ⟨pa, qa, rfl, ra⟩ := sign_rep hrep
    have c0 := hcell 0 _ rfl
    have c2 := hcell 2 _ rfl
    rw [show signC.n = 3 from rfl] at c0 c2
    rw [Nat.add_zero] at c0
    rw [ckA_at ha]
    clear hc hcell hrep h0
    cases he : (a.1 == id)
    · go_enter Tryz.func44, Tryz.ntmps44
      go_wp2_with fail
      try rw [hw]
      refine (l1In_c _ _ _ _).mono ?_
      rintro e w2 ⟨rfl, rfl⟩
      rw [HB.out]
      go_wp2
      go_ret
      exact ⟨rfl, rfl⟩
    · go_enter Tryz.func44, Tryz.ntmps44
      go_wp2_with fail
      try rw [hw]
      refine (l1In_c _ _ _ _).mono ?_
      rintro e w2 ⟨rfl, rfl⟩
      rw [HB.out]
      go_wp2_with fail
      refine (l1Same_c pa p2 qa q2 a.2.2 d _ ra HD.out).mono ?_
      rintro e w2 ⟨rfl, rfl⟩
      go_wp2
      go_ret
      exact ⟨by simp; exact Bool.eq_iff_iff.2 (by simp [sameB]), rfl⟩
  · have HB : Hid (inB place 0 ((l.length : Int) - 1) = false) := inB_false (by omega)
    rw [ckA_out h0]
    clear h0
    go_enter Tryz.func44, Tryz.ntmps44
    go_wp2_with fail
    try rw [hw]
    refine (l1In_c _ _ _ _).mono ?_
    rintro e w2 ⟨rfl, rfl⟩
    rw [HB.out]
    go_wp2
    go_ret
    exact ⟨rfl, rfl⟩
end Go.Proofs.YtdbpnibcblelbabGreatDoor

