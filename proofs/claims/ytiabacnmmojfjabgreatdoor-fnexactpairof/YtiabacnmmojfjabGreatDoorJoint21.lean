import Derived.Test.YtiabacnmmojfjabGreatDoorJoint20
import Derived.Test.YtiabacnmmojfjabGreatDoorJoint14
import Derived.Test.YtiabacnmmojfjabGreatDoorCod
import Derived.Test.YtiabacnmmojfjabGreatDoorJoint5
set_option maxHeartbeats 1000000
set_option maxRecDepth 4000
open Go.Proofs.Tryz
namespace Go.Proofs.YtiabacnmmojfjabGreatDoor
open Go.ChangeShapes Go.WideShapes Go.ChangeAt Go.RowKit
theorem zA3 {w:World} {B:Nat} {c:Int} {h:zX} {u:Value} (k:Own w B u h.1):helloResultC.own w B (c,h) [.int .i64 c,u,.int .i64 h.2.1,.int .i64 h.2.2] ([]++(u.ownBlock.toList++([]++[]))):=
 zBb 0 zBB (zLI k) zE7 (fun _ _=>Nat.zero_le _)
theorem zFY (k:Int) (m:MsgD) (us:List Value) (w:World) (r:msgC.rep w m us):
  Calls prog 38 #[.int .i64 k,.agg us.toArray] w fun e w'=>∃ us fp,e=.returned (.agg us.toArray)∧helloResultC.own w' w.heap.size (uhD k m) us fp∧Below w.heap.size w w':=by
 obtain⟨p,q,rfl,rr⟩:=zAf r;have HR:Hid (Rd w p q m.2):=rr;have hq1:m.2.length≤q:=rr.1;have hq2:q≤2 ^ 63-1:=rr.2.1;have BW:=yr (zA w (.cells #[.int .i64 m.1,.slice p m.2.length q] 53)) (.cells #[.int .i64 0,.slice none 0 0,.int .i64 0,.int .i64 0] 76);have A:=(yp w [.int .i64 m.1,.slice p m.2.length q] 53).old _ (.cells #[.int .i64 0,.slice none 0 0,.int .i64 0,.int .i64 0] 76);have R:=yp (w.alloc (.cells #[.int .i64 m.1,.slice p m.2.length q] 53)) [.int .i64 0,.slice none 0 0,.int .i64 0,.int .i64 0] 76;rw[zB] at R;clear r rr;have KF:=zEL w.heap.size 0 m.2.length q p m.1 _ (zQ (A.cell 0) rfl) (zQ (A.cell 1) rfl);cases hk:hkB k
 ·have HE:Hid (uhD k m=(3,zB9)):=by show _=_;unfold uhD uhC;simp[hk]
  go_enter func38,ntmps38;go_wp2_with fail;refine(zET k _).mono ?_;rintro e w1 ⟨rfl,hw⟩;subst w1;rw[hk];clear R A;go_wp2_with fail;exact bodyPost_ret (v:=.agg #[.int .i64 3,.slice none 0 0,.int .i64 0,.int .i64 0]) (by simp[results,results38,go_sem]) rfl ⟨[.int .i64 3,.slice none 0 0,.int .i64 0,.int .i64 0],_,rfl,by rw[HE.out];exact zA3 (h:=zB9) (zK _ _),yr (zA _ _) _⟩
 ·by_cases hc:zD m.1 m.2.length=0
  ·rw[hc] at KF;have hm160:=(zAx hc).2
   by_cases hmk:m.1=k
   ·have dk:(m.1 != k)=false:=by rw[bne_eq_false_iff_eq];exact hmk
    have KU:=zIe p q m.2 _ (HR.out.keep BW) (by omega)
    have hz:Hid (((w.alloc (.cells #[.int .i64 m.1,.slice p m.2.length q] 53)).alloc (.cells #[.int .i64 0,.slice none 0 0,.int .i64 0,.int .i64 0] 76)).heap.size=w.heap.size+2):=by show _=_;rw[zB,zB]
    rw[hz.out] at KU;obtain⟨a0,a1⟩:=zc2 A
    have HEN:Hid ((huR m.2).isSome=false→uhD k m=(5,zB9)):=fun h=>by have e:uhC k m=5:=(by unfold uhC;rw[hk,if_pos rfl,if_pos hc,if_pos hmk,h];rfl);unfold uhD;rw[e];rfl
    have HES:Hid ((huR m.2).isSome=true→uhD k m=(0,(huR m.2).getD zB9)):=fun h=>by have e:uhC k m=0:=(by unfold uhC;rw[hk,if_pos rfl,if_pos hc,if_pos hmk,h];rfl);unfold uhD;rw[e];rfl
    clear hc hmk;go_enter func38,ntmps38;go_wp2_with fail;refine(zET k _).mono ?_;rintro e w1 ⟨rfl,hw⟩;subst w1;rw[hk];go_wp2_with fail;refine KF.mono ?_;rintro e w1 ⟨rfl,hw⟩;subst w1;go_wp2_with fail;refine KU.mono ?_;rintro e w2 ⟨u2,s2,k2,rfl,hO,⟨pu,nu,qu,rfl⟩,hb2⟩;rw[← hz.out] at hb2;replace R:=R.stay hb2;replace BW:=yn BW hb2
    have hz2:Hid (w.heap.size+2≤w2.heap.size):=by have h:=hb2.size;rw[hz.out] at h;exact h
    have L:=zA w2 (.cells #[.slice pu nu qu,.int .i64 s2,.int .i64 k2] 74);replace R:=R.stay L;replace BW:=yn BW L;cases hs:(huR m.2).isSome
    ·have HE:Hid (uhD k m=(5,zB9)):=HEN.out hs;rw[hs] at *;clear hO hb2 HEN HES KU KF a0 a1;obtain⟨c0,c1,c2,c3⟩:=zc4 R;have fc:=R.frozen;clear R A;go_wp2_with fail;exact bodyPost_ret (v:=.agg #[.int .i64 5,.slice none 0 0,.int .i64 0,.int .i64 0]) (by simp[results,results38,go_sem,c0,c1,c2,c3]) rfl ⟨[.int .i64 5,.slice none 0 0,.int .i64 0,.int .i64 0],_,rfl,by rw[HE.out];exact zA3 (h:=zB9) (zK _ _),((((BW.setCell (yh _) _).setCell (yh _) _).setCell (yh _) _).setCell (yh _) _)⟩
    ·have HE:Hid (uhD k m=(0,(huR m.2).getD zB9)):=HES.out hs;obtain⟨hO1,rfl,rfl⟩:=hO hs;rw[hs] at *;have HO:Hid (Own _ (w.heap.size+2) (.slice pu nu qu) ((huR m.2).getD zB9).1):=hO1.stay L;clear hb2 HEN HES KU KF a0 a1 hO1 hO L;obtain⟨c0,c1,c2,c3⟩:=zc4 R;have fc:=R.frozen;clear R A;go_wp2_with fail;exact bodyPost_ret (v:=.agg #[.int .i64 0,.slice pu nu qu,.int .i64 ((huR m.2).getD zB9).2.1,.int .i64 ((huR m.2).getD zB9).2.2]) (by simp[results,results38,go_sem,c0,c1,c2,c3]) rfl ⟨[.int .i64 0,.slice pu nu qu,.int .i64 ((huR m.2).getD zB9).2.1,.int .i64 ((huR m.2).getD zB9).2.2],_,rfl,by rw[HE.out];exact zA3 (((((HO.out.set (yg _) _).set (yg _) _).set (yg _) _).set (yg _) _).lower (Nat.le_add_right _ 2)),((((BW.setCell (yh _) _).setCell (yh _) _).setCell (yh _) _).setCell (yh _) _)⟩
   ·have dk:(m.1 != k)=true:=by rw[bne_iff_ne];exact hmk
    have HE:Hid (uhD k m=(1,zB9)):=by show _=_;unfold uhD uhC;simp[hk,hc,hmk]
    have a0:=zQ (A.cell 0) rfl;clear hc hmk;go_enter func38,ntmps38;go_wp2_with fail;refine(zET k _).mono ?_;rintro e w1 ⟨rfl,hw⟩;subst w1;rw[hk];go_wp2_with fail;refine KF.mono ?_;rintro e w1 ⟨rfl,hw⟩;subst w1;clear R A;go_wp2_with fail;exact bodyPost_ret (v:=.agg #[.int .i64 1,.slice none 0 0,.int .i64 0,.int .i64 0]) (by simp[results,results38,go_sem]) rfl ⟨[.int .i64 1,.slice none 0 0,.int .i64 0,.int .i64 0],_,rfl,by rw[HE.out];exact zA3 (h:=zB9) (zK _ _),yr (zA _ _) _⟩
  ·have HE:Hid (uhD k m=(zD m.1 m.2.length,zB9)):=by show _=_;unfold uhD uhC;simp[hk,hc]
   have hne:(zD m.1 m.2.length != 0)=true:=by rw[bne_iff_ne];exact hc
   clear hc;generalize zD m.1 m.2.length=ac at *;go_enter func38,ntmps38;go_wp2_with fail;refine(zET k _).mono ?_;rintro e w1 ⟨rfl,hw⟩;subst w1;rw[hk];go_wp2_with fail;refine KF.mono ?_;rintro e w1 ⟨rfl,hw⟩;subst w1;clear R A;go_wp2_with fail;exact bodyPost_ret (v:=.agg #[.int .i64 ac,.slice none 0 0,.int .i64 0,.int .i64 0]) (by simp[results,results38,go_sem]) rfl ⟨[.int .i64 ac,.slice none 0 0,.int .i64 0,.int .i64 0],_,rfl,by rw[HE.out];exact zA3 (h:=zB9) (zK _ _),yr (zA _ _) _⟩
theorem rd_nil (w:World):Rd w none 0 []:=⟨yf _,by unfold maxLen;decide,fun _=>rfl,fun hp=>by simp at hp⟩
theorem zEu (p:Option Addr) (q:Nat) (s:List UInt8) (w:World):Calls prog 128 #[.slice p s.length q] w fun e w'=>e=.returned (.bool (is32 s))∧w'=w:=by
 by_cases h:s.length=32
 ·have d1:((s.length:Int)==32)=true:=by rw[beq_iff_eq];omega
  rw[show is32 s=true by simp[is32,h]];clear h;go_enter func128,ntmps128;go_wp2;go_ret;exact⟨rfl,rfl⟩
 ·have d1:((s.length:Int)==32)=false:=by rw[beq_eq_false_iff_ne];omega
  rw[show is32 s=false by simp[is32,h]];clear h;go_enter func128,ntmps128;go_wp2;go_ret;exact⟨rfl,rfl⟩
theorem zH6 (p:Option Addr) (q:Nat) (psk:List UInt8) (w:World) (hr:Rd w p q psk) (hl:psk.length≤500):
  Calls prog 82 #[.slice p psk.length q] w fun e w'=>∃ u,e=.returned u∧Own w' w.heap.size u (zAp psk)∧Below w.heap.size w w':=by
 obtain⟨i0,hi,hz0,hz1,hz2⟩:=info_parts zDl
 by_cases h0:psk.length=0
 ·have HE:Hid (zAp psk=zAE [] (zs 32)):=by show _=_;simp[zAp,pskN,h0]
  rw[h0];go_enter func82,ntmps82;go_wp2_with (at_make;refine wpList_make_full _ rfl (.const (.int .i64 32)) (.const (.int .i64 32)) 22 rfl w.heap.size 5 i0 (.int .u8 0) 1 underlying22 hi hz0 hz1 .i64 .i64 _ _ 32 rfl rfl rfl rfl (by rw[hz2];decide) (by unfold maxLen;decide) (yf _) ?_;intro w1 hown hgrow);have hb1:Below w.heap.size w w1:=(Below.refl _ _).grown hgrow (yf _) (fun k hk=>by simp at hk);have k1:=zAm hown;have K:=zCw none (some ⟨w.heap.size,0,none⟩) 0 32 [] (zs 32) w1 (rd_nil _) (Rd.own k1) (by decide) (by rw[zAs];decide);rw[zAs] at K;have hz:=hb1.size;refine K.mono ?_;rintro e w2 ⟨u2,rfl,k2,hb2⟩;replace hb1:=yn hb1 hb2;go_wp2;go_ret;exact⟨_,rfl,by rw[HE.out];exact k2.lower hz,hb1⟩
 ·have HE:Hid (zAp psk=zAE [] psk):=by show _=_;simp[zAp,pskN,h0]
  have hne:((psk.length:Int)==0)=false:=by rw[beq_eq_false_iff_ne];omega
  have K:=zCw none p 0 q [] psk w (rd_nil _) hr (by decide) (by omega);clear h0;go_enter func82,ntmps82;go_wp2_with fail;refine K.mono ?_;rintro e w2 ⟨u2,rfl,k2,hb2⟩;go_wp2;go_ret;exact⟨_,rfl,by rw[HE.out];exact k2,hb2⟩
theorem zEV (p p2:Option Addr) (q q2:Nat) (early shared:List UInt8) (w:World) (hr:Rd w p q early) (hr2:Rd w p2 q2 shared) (hl:early.length≤64) (hl2:shared.length≤500):
  Calls prog 81 #[.slice p early.length q,.slice p2 shared.length q2] w fun e w'=>∃ u,e=.returned u∧Own w' w.heap.size u (zEp early shared)∧Below w.heap.size w w':=by
 have HE:Hid (zEp early shared=zAE (zAD early zAc []) shared):=rfl
 have K:Hid (∀ w,Rd w p q early→Calls prog 94 #[.slice p early.length q,.string ⟨#[100,101,114,105,118,101,100]⟩,.slice none 0 0] w fun e w'=>∃ u,e=.returned u∧Own w' w.heap.size u (zAD early zAc [])∧Below w.heap.size w w'):=fun w h=>by
  rw[zCx];exact zGh p none q 0 early zAc [] w h (rd_nil _) hl (by decide) (by decide)
 have HL:Hid ((zAD early zAc []).length=32):=zCy _ _ _;clear hl;go_enter func81,ntmps81;go_wp2_with fail;refine(K.out _ hr).mono ?_;rintro e w1 ⟨u1,rfl,k1,hb1⟩;obtain⟨a1,c1,rfl,rd1⟩:=k1.rd;generalize zAD early zAc []=ek at *;have hz:=hb1.size;clear k1;go_wp2_with fail;refine(zCw a1 p2 c1 q2 ek shared _ rd1 (hr2.keep hb1) (by rw[HL.out];decide) (by omega)).mono ?_;rintro e w2 ⟨u2,rfl,k2,hb2⟩;go_wp2;go_ret;exact⟨_,rfl,by rw[HE.out];exact k2.lower hz,yn hb1 hb2⟩
theorem zBq (p:Option Addr) (q:Nat) (hand:List UInt8) (w:World) (hr:Rd w p q hand) (hl:hand.length≤64):
  Calls prog 46 #[.slice p hand.length q] w fun e w'=>∃ u,e=.returned u∧Own w' w.heap.size u (zF hand)∧Below w.heap.size w w':=by
 have HE:Hid (zF hand=zAE (zAD hand zAc []) (zs 32)):=rfl
 have K:Hid (∀ w,Rd w p q hand→Calls prog 94 #[.slice p hand.length q,.string ⟨#[100,101,114,105,118,101,100]⟩,.slice none 0 0] w fun e w'=>∃ u,e=.returned u∧Own w' w.heap.size u (zAD hand zAc [])∧Below w.heap.size w w'):=fun w h=>by
  rw[zCx];exact zGh p none q 0 hand zAc [] w h (rd_nil _) hl (by decide) (by decide)
 have KX:Hid (∀ (W:World) (a1:Option Addr) (gm c1:Nat),Rd W a1 c1 (zAD hand zAc [])→Rd W (some ⟨gm,0,none⟩) 32 (zs 32)→Calls prog 93 #[.slice a1 (zAD hand zAc []).length c1,.slice (some ⟨gm,0,none⟩) 32 32] W fun e w'=>∃ u,e=.returned u∧Own w' W.heap.size u (zF hand)∧Below W.heap.size W w'):=fun W a1 gm c1 h h'=>by
  have g:=zCw a1 _ c1 32 _ (zs 32) W h h' (by rw[zCy];decide) (by rw[zAs];decide);rw[zAs] at g;exact g
 clear hl HE;obtain⟨i0,hi,hz0,hz1,hz2⟩:=info_parts zDl;generalize zAD hand zAc []=ek at *;go_enter func46,ntmps46;go_wp2_with fail;have hne:=yo w;refine zWr [0] 3 2 2 ?_;simp only[zH,ya,yb]
 repeat (go_big_quiet_step (fail))
 refine wpQuiet_nil ?_;refine zAJ (i:=1) (j:=2) (by kernel_rfl) ?_ ?_
 case' refine_1=>
  refine mOp_call rfl (by go_simp) 94 _ #[.slice p hand.length q,.string ⟨#[100,101,114,105,118,101,100]⟩,.slice none 0 0] (fun w=>by go_simp) rfl ?_;rintro _ ⟨s1,rfl⟩;refine(K.out _ (hr.keep s1.h)).mono ?_;rintro e w1 ⟨u1,rfl,k1,hb1⟩;obtain⟨a1,c1,rfl,rd1⟩:=k1.rd;refine⟨_,rfl,⟨⟨w1,hb1⟩,rfl⟩,?_⟩;refine zWo 2 ?_;refine zMo rfl (by go_simp) (by kernel_rfl) ?_;rintro _ ⟨sm,rfl⟩;refine wpList_make_full _ rfl (.const (.int .i64 32)) (.const (.int .i64 32)) 22 rfl sm.w.heap.size 5 i0 (.int .u8 0) 1 underlying22 hi hz0 hz1 .i64 .i64 _ _ 32 rfl rfl rfl rfl (by rw[hz2];decide) (by unfold maxLen;decide) (yf _) ?_;intro wm hown hgrow;have hbm:Below sm.w.heap.size sm.w wm:=(Below.refl _ _).grown hgrow (yf _) (fun k hk=>by simp at hk);have rmk:=Rd.own (zAm hown);refine zEG ⟨rfl,hbm,?_⟩;refine zWe ?_;rintro _ ⟨sz,rfl⟩;have R1:=((rd1.keep sm.h).keep hbm).keep sz.h;have R2:=rmk.keep sz.h;have BW:=yn (yn (yn (yn s1.h hb1) sm.h) hbm) sz.h;generalize sz.w=W at *;generalize sm.w.heap.size=gm at *;clear hne hown hgrow hbm rmk sz sm rd1 k1 hb1 s1
 case' refine_2=>
  refine zMo rfl (by go_simp) (by kernel_rfl) ?_;rintro _ ⟨sm,rfl⟩;refine wpList_make_full _ rfl (.const (.int .i64 32)) (.const (.int .i64 32)) 22 rfl sm.w.heap.size 5 i0 (.int .u8 0) 1 underlying22 hi hz0 hz1 .i64 .i64 _ _ 32 rfl rfl rfl rfl (by rw[hz2];decide) (by unfold maxLen;decide) (yf _) ?_;intro wm hown hgrow;have hbm:Below sm.w.heap.size sm.w wm:=(Below.refl _ _).grown hgrow (yf _) (fun k hk=>by simp at hk);have rmk:=Rd.own (zAm hown);refine zEG ⟨rfl,hbm,?_⟩;refine zWc 1 rfl 94 #[.slice p hand.length q,.string ⟨#[100,101,114,105,118,101,100]⟩,.slice none 0 0] ?_;rintro _ ⟨s1,rfl⟩;refine(K.out _ (hr.keep (yn (yn sm.h hbm) s1.h))).mono ?_;rintro e w1 ⟨u1,rfl,k1,hb1⟩;obtain⟨a1,c1,rfl,rd1⟩:=k1.rd;refine⟨_,rfl,⟨⟨w1,hb1⟩,rfl⟩,?_⟩;refine zWe ?_;rintro _ ⟨sz,rfl⟩;have R1:=rd1.keep sz.h;have R2:=((rmk.keep s1.h).keep hb1).keep sz.h;have BW:=yn (yn (yn (yn sm.h hbm) s1.h) hb1) sz.h;generalize sz.w=W at *;generalize sm.w.heap.size=gm at *;clear hne sz rd1 k1 hb1 s1 rmk hown hgrow hbm sm
 all_goals
  simp only[yd,ye]
  go_simp
  go_wp2_with fail;refine(KX.out _ a1 gm c1 R1 R2).mono ?_;rintro e w9 ⟨u9,rfl,k9,hb9⟩;have k9':=k9.lower (B':=w.heap.size) (by have:=BW.size;omega);have BW9:=yn BW hb9;go_wp2_with fail;go_ret;exact⟨_,rfl,k9',BW9⟩
theorem zBE (p p2:Option Addr) (q q2:Nat) (secret l digest:List UInt8) (w:World) (hr:Rd w p q secret) (hr2:Rd w p2 q2 digest) (hk:secret.length≤64) (hl:l.length≤40) (hl2:digest.length≤100):
  Calls prog 42 #[.slice p secret.length q,.string (strB l),.slice p2 digest.length q2] w fun e w'=>∃ u,e=.returned u∧Own w' w.heap.size u (zAG secret l digest)∧Below w.heap.size w w':=by
 go_enter func42,ntmps42;go_wp2_with fail;refine(zCQ p p2 q q2 secret l digest 32 _ hr hr2 hk hl hl2 (by decide)).mono ?_;rintro e w1 ⟨u,rfl,k,hb⟩;go_wp2;go_ret;exact⟨_,rfl,k,hb⟩
theorem zIf (p p2:Option Addr) (q q2:Nat) (master digest:List UInt8) (w:World) (hr:Rd w p q master) (hr2:Rd w p2 q2 digest) (hk:master.length≤64) (hl2:digest.length≤100):
  Calls prog 92 #[.slice p master.length q,.slice p2 digest.length q2] w fun e w'=>∃ u1 u2 u3 u4,e=.returned (.agg #[u1,u2,u3,u4])∧Own w' w.heap.size u1 (zAG master cApB digest)∧Own w' w.heap.size u2 (zAG master sApB digest)∧Own w' w.heap.size u3 (zAG master zC8 digest)∧Own w' w.heap.size u4 (zAG master zC9 digest)∧(u1.ownBlock.toList++(u2.ownBlock.toList++(u3.ownBlock.toList++u4.ownBlock.toList))).Nodup∧Below w.heap.size w w':=by
 have K1:Hid (∀ w,Rd w p q master→Rd w p2 q2 digest→Calls prog 42 #[.slice p master.length q,.string ⟨#[99,32,97,112,32,116,114,97,102,102,105,99]⟩,.slice p2 digest.length q2] w fun e w'=>∃ u,e=.returned u∧Own w' w.heap.size u (zAG master cApB digest)∧Below w.heap.size w w'):=fun w h h'=>by
  rw[zKy];exact zBE p p2 q q2 master cApB digest w h h' hk (by decide) hl2
 obtain⟨t1,T1⟩:∃ t,Hid (t=zAG master cApB digest):=⟨_,rfl⟩;rw[← T1.out] at K1 ⊢
 have K2:Hid (∀ w,Rd w p q master→Rd w p2 q2 digest→Calls prog 42 #[.slice p master.length q,.string ⟨#[115,32,97,112,32,116,114,97,102,102,105,99]⟩,.slice p2 digest.length q2] w fun e w'=>∃ u,e=.returned u∧Own w' w.heap.size u (zAG master sApB digest)∧Below w.heap.size w w'):=fun w h h'=>by
  rw[zKz];exact zBE p p2 q q2 master sApB digest w h h' hk (by decide) hl2
 obtain⟨t2,T2⟩:∃ t,Hid (t=zAG master sApB digest):=⟨_,rfl⟩;rw[← T2.out] at K2 ⊢
 have K3:Hid (∀ w,Rd w p q master→Rd w p2 q2 digest→Calls prog 42 #[.slice p master.length q,.string ⟨#[101,120,112,32,109,97,115,116,101,114]⟩,.slice p2 digest.length q2] w fun e w'=>∃ u,e=.returned u∧Own w' w.heap.size u (zAG master zC8 digest)∧Below w.heap.size w w'):=fun w h h'=>by
  rw[zJD];exact zBE p p2 q q2 master zC8 digest w h h' hk (by decide) hl2
 obtain⟨t3,T3⟩:∃ t,Hid (t=zAG master zC8 digest):=⟨_,rfl⟩;rw[← T3.out] at K3 ⊢
 have K4:Hid (∀ w,Rd w p q master→Rd w p2 q2 digest→Calls prog 42 #[.slice p master.length q,.string ⟨#[114,101,115,32,109,97,115,116,101,114]⟩,.slice p2 digest.length q2] w fun e w'=>∃ u,e=.returned u∧Own w' w.heap.size u (zAG master zC9 digest)∧Below w.heap.size w w'):=fun w h h'=>by
  rw[zJE];exact zBE p p2 q q2 master zC9 digest w h h' hk (by decide) hl2
 obtain⟨t4,T4⟩:∃ t,Hid (t=zAG master zC9 digest):=⟨_,rfl⟩;rw[← T4.out] at K4 ⊢;have HR:Hid (Rd w p q master):=hr;have HR2:Hid (Rd w p2 q2 digest):=hr2;clear hk hl2 hr hr2 T1 T2 T3 T4;go_enter func92,ntmps92;go_wp2_with fail;refine(K1.out _ (HR.out.keep (zA _ _)) (HR2.out.keep (zA _ _))).mono ?_;rintro e w1 ⟨u1,rfl,k1,hb⟩;have C:=(yp w [.slice none 0 0,.slice none 0 0,.slice none 0 0,.slice none 0 0] 34).stay hb;have BW:=yt hb;have hz:Hid (w.heap.size<w1.heap.size):=zBj hb;rw[zB] at k1
 have b1:Hid (∀ k,u1.ownBlock=some k→k<w1.heap.size):=fun k e=>k1.lt k e
 obtain⟨a1,c1,rfl,-⟩:=k1.rd;clear hb;go_wp2_with fail;refine(K2.out _ (HR.out.keep BW) (HR2.out.keep BW)).mono ?_;rintro e w2 ⟨u2,rfl,k2,hb⟩;replace C:=C.stay hb;replace BW:=yn BW hb;replace k1:=k1.stay hb
 have g2:Hid (∀ k,u2.ownBlock=some k→w1.heap.size≤k):=fun k e=>k2.ge k e
 have l2:Hid (w1.heap.size≤w2.heap.size):=hb.size
 have b2:Hid (∀ k,u2.ownBlock=some k→k<w2.heap.size):=fun k e=>k2.lt k e
 obtain⟨a2,c2,rfl,-⟩:=k2.rd;clear hb;go_wp2_with fail;refine(K3.out _ (HR.out.keep BW) (HR2.out.keep BW)).mono ?_;rintro e w3 ⟨u3,rfl,k3,hb⟩;replace C:=C.stay hb;replace BW:=yn BW hb;replace k1:=k1.stay hb;replace k2:=k2.stay hb
 have g3:Hid (∀ k,u3.ownBlock=some k→w2.heap.size≤k):=fun k e=>k3.ge k e
 have l3:Hid (w2.heap.size≤w3.heap.size):=hb.size
 have b3:Hid (∀ k,u3.ownBlock=some k→k<w3.heap.size):=fun k e=>k3.lt k e
 obtain⟨a3,c3,rfl,-⟩:=k3.rd;clear hb;go_wp2_with fail;refine(K4.out _ (HR.out.keep BW) (HR2.out.keep BW)).mono ?_;rintro e w4 ⟨u4,rfl,k4,hb⟩;replace C:=C.stay hb;replace BW:=yn BW hb;replace k1:=k1.stay hb;replace k2:=k2.stay hb;replace k3:=k3.stay hb
 have g4:Hid (∀ k,u4.ownBlock=some k→w3.heap.size≤k):=fun k e=>k4.ge k e
 have l4:Hid (w3.heap.size≤w4.heap.size):=hb.size;obtain⟨a4,c4,rfl,-⟩:=k4.rd;clear hb;have c0:=C.cell 0;have c1':=C.cell 1;have c2':=C.cell 2;have c3':=C.cell 3;simp at c0 c1' c2' c3';have fz:=C.frozen
 have HN:Hid (((Value.slice a1 t1.length c1).ownBlock.toList++((Value.slice a2 t2.length c2).ownBlock.toList++((Value.slice a3 t3.length c3).ownBlock.toList++(Value.slice a4 t4.length c4).ownBlock.toList))).Nodup):=by
  have z2:=l2.out;have z3:=l3.out;have z4:=l4.out;refine List.nodup_append.2 ⟨zAo _,List.nodup_append.2 ⟨zAo _,List.nodup_append.2 ⟨zAo _,zAo _,fun x hx y hy e=>?_⟩,fun x hx y hy e=>?_⟩,fun x hx y hy e=>?_⟩
  ·have h1:=b3.out x (mem_opt.1 hx);have h2:=g4.out y (mem_opt.1 hy);omega
  ·have h1:=b2.out x (mem_opt.1 hx);rcases List.mem_append.1 hy with h | h
   ·have h2:=g3.out y (mem_opt.1 h);omega
   ·have h2:=g4.out y (mem_opt.1 h);omega
  ·have h1:=b1.out x (mem_opt.1 hx);rcases List.mem_append.1 hy with h | h
   ·have h2:=g2.out y (mem_opt.1 h);omega
   ·rcases List.mem_append.1 h with h | h
    ·have h2:=g3.out y (mem_opt.1 h);omega
    ·have h2:=g4.out y (mem_opt.1 h);omega
 have hz2:w.heap.size+1≤w1.heap.size:=hz.out;have hz3:w.heap.size+1≤w2.heap.size:=yi hz2 l2.out;have hz4:w.heap.size+1≤w3.heap.size:=yi hz3 l3.out;replace k2:=k2.lower hz2;replace k3:=k3.lower hz3;replace k4:=k4.lower hz4;clear g2 g3 g4 b1 b2 b3 hz2 hz3 hz4 K1 K2 K3 K4;go_wp2;have hlt:w.heap.size<w.heap.size+1:=yg _
 have S:∀ {v:Value} {bs:List UInt8},Own w4 (w.heap.size+1) v bs→∀ x1 x2 x3 x4,Own ((((w4.setCell ⟨w.heap.size,0,none⟩ x1).setCell ⟨w.heap.size,1,none⟩ x2).setCell ⟨w.heap.size,2,none⟩ x3).setCell ⟨w.heap.size,3,none⟩ x4) w.heap.size v bs:=fun k x1 x2 x3 x4=>
  ((((k.set (a:=⟨w.heap.size,0,none⟩) hlt x1).set (a:=⟨w.heap.size,1,none⟩) hlt x2).set (a:=⟨w.heap.size,2,none⟩) hlt x3).set (a:=⟨w.heap.size,3,none⟩) hlt x4).lower (yh _)
 refine bodyPost_ret (v:=.agg #[.slice a1 t1.length c1,.slice a2 t2.length c2,.slice a3 t3.length c3,.slice a4 t4.length c4]) (by simp[results,results92,go_sem,c0,c1',c2',c3']) rfl ⟨_,_,_,_,rfl,S k1 _ _ _ _,S k2 _ _ _ _,S k3 _ _ _ _,S k4 _ _ _ _,HN.out,?_⟩;exact(((BW.setCell (p:=⟨w.heap.size,0,none⟩) (yf _) _).setCell (p:=⟨w.heap.size,1,none⟩) (yf _) _).setCell (p:=⟨w.heap.size,2,none⟩) (yf _) _).setCell (p:=⟨w.heap.size,3,none⟩) (yf _) _
end Go.Proofs.YtiabacnmmojfjabGreatDoor
