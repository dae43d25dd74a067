import Derived.Test.YtiabacnmmojfjabGreatDoorJoint17
import Derived.Test.YtiabacnmmojfjabGreatDoorJoint6
import Derived.Test.YtiabacnmmojfjabGreatDoorJoint13
import Derived.Test.YtiabacnmmojfjabGreatDoorJoint11
set_option maxHeartbeats 2000000
set_option maxRecDepth 4000
open Go.Proofs.Tryz
namespace Go.Proofs.YtiabacnmmojfjabGreatDoor
open Go.ChangeShapes Go.WideShapes Go.ChangeAt Go.RowKit
theorem zJ0 (b:Nat) (h:zX) (p:Option Addr) (q:Nat) (w:World) (A:Has w b [.slice p h.1.length q,.int .i64 h.2.1,.int .i64 h.2.2]):
  Calls prog 127 #[.pointer (some ⟨b,0,none⟩)] w fun e w'=>e=.returned (.int .i64 (hfC h))∧w'=w:=by
 have c0:=A 0 _ rfl;have c1:=A 1 _ rfl;have c2:=A 2 _ rfl;clear A
 by_cases h1:h.1.length=8
 ·have d1:((h.1.length:Int) != 8)=false:=by rw[bne_eq_false_iff_eq];omega
  cases h2:inB h.2.1 1 65520
  ·rw[show hfC h=3 by simp[hfC,h1,h2]];clear h1;go_enter func127,ntmps127;go_wp2_with fail;refine(zDy _ _).mono ?_;rintro e w' ⟨rfl,hw⟩;subst hw;rw[h2];go_wp2;go_ret;exact⟨rfl,rfl⟩
  ·cases h3:inB h.2.2 0 9
   ·rw[show hfC h=3 by simp[hfC,h1,h2,h3]];clear h1;go_enter func127,ntmps127;go_wp2_with fail;refine(zDy _ _).mono ?_;rintro e w' ⟨rfl,hw⟩;subst hw;rw[h2];go_wp2_with fail;refine(zBW _ _ _ _).mono ?_;rintro e w' ⟨rfl,hw⟩;subst hw;rw[h3];go_wp2;go_ret;exact⟨rfl,rfl⟩
   ·rw[show hfC h=0 by simp[hfC,h1,h2,h3]];clear h1;go_enter func127,ntmps127;go_wp2_with fail;refine(zDy _ _).mono ?_;rintro e w' ⟨rfl,hw⟩;subst hw;rw[h2];go_wp2_with fail;refine(zBW _ _ _ _).mono ?_;rintro e w' ⟨rfl,hw⟩;subst hw;rw[h3];go_wp2;go_ret;exact⟨rfl,rfl⟩
 ·have d1:((h.1.length:Int) != 8)=true:=by rw[bne_iff_ne];omega
  rw[show hfC h=1 by simp[hfC,h1]];clear h1;go_enter func127,ntmps127;go_wp2;go_ret;exact⟨rfl,rfl⟩
theorem zET (k:Int) (w:World):Calls prog 79 #[.int .i64 k] w fun e w'=>e=.returned (.bool (hkB k))∧w'=w:=by
 by_cases h1:k=1
 ·rw[show hkB k=true by simp[hkB,h1]]
  have d1:(k==1)=true:=by rw[beq_iff_eq];exact h1
  clear h1;go_enter func79,ntmps79;go_wp2;go_ret;exact⟨rfl,rfl⟩
 ·have d1:(k==1)=false:=by rw[beq_eq_false_iff_ne];exact h1
  by_cases h2:k=2
  ·rw[show hkB k=true by simp[hkB,h2]]
   have d2:(k==2)=true:=by rw[beq_iff_eq];exact h2
   clear h1 h2;go_enter func79,ntmps79;go_wp2;go_ret;exact⟨rfl,rfl⟩
  ·rw[show hkB k=false by simp[hkB,h1,h2]]
   have d2:(k==2)=false:=by rw[beq_eq_false_iff_ne];exact h2
   clear h1 h2;go_enter func79,ntmps79;go_wp2;go_ret;exact⟨rfl,rfl⟩
theorem zF5 (w:World) (x y z:Pc) (t:TypeId) (hx:Rd w x.p x.q x.bs) (hy:Rd w y.p y.q y.bs) (hz:Rd w z.p z.q z.bs):
  RdL bytC (w.alloc (.cells #[x.val,y.val,z.val] t)) (some ⟨w.heap.size,0,none⟩) 3 [x.bs,y.bs,z.bs]:=by
 have hb:=zA w (.cells #[x.val,y.val,z.val] t);have A:=yp w [x.val,y.val,z.val] t;refine⟨by simp,by unfold maxLen;decide,(fun e=>by cases e),fun _=>⟨w.heap.size,0,rfl,fun i a hi=>?_⟩⟩
 match i,hi with
 | 0,hi=>cases hi;exact⟨[x.val],⟨x.p,x.q,rfl,hx.keep hb⟩,fun j u hj=>by
   match j,hj with
   | 0,hj=>cases hj;exact A.cell 0⟩
 | 1,hi=>cases hi;exact⟨[y.val],⟨y.p,y.q,rfl,hy.keep hb⟩,fun j u hj=>by
   match j,hj with
   | 0,hj=>cases hj;exact A.cell 1⟩
 | 2,hi=>cases hi;exact⟨[z.val],⟨z.p,z.q,rfl,hz.keep hb⟩,fun j u hj=>by
   match j,hj with
   | 0,hj=>cases hj;exact A.cell 2⟩
theorem zLH (k:Int) (b:Nat) (h:zX) (p:Option Addr) (q:Nat) (w:World) (A:Arr w b 74 [.slice p h.1.length q,.int .i64 h.2.1,.int .i64 h.2.2]) (hr:Rd w p q h.1) (hc:hfC h=0):
  Calls prog 158 #[.int .i64 k,.pointer (some ⟨b,0,none⟩)] w fun e w'=>∃ u,e=.returned (.agg #[.int .i64 k,u])∧Own w' w.heap.size u (hpL h)∧Below w.heap.size w w':=by
 obtain⟨p1,p2,p3,p4,p5⟩:=zBP hc;have HLen:Hid ((hpL h).length=14):=zF0 hc;have HR:Hid (Rd w p q h.1):=hr;have BW:=zA w (.cells #[.int .i64 0,.slice none 0 0] 53);have R:=yp w [.int .i64 0,.slice none 0 0] 53;replace A:=A.stay BW;have hz0:Hid ((w.alloc (.cells #[.int .i64 0,.slice none 0 0] 53)).heap.size=w.heap.size+1):=zB _ _
 have KP:Hid (∀ w,Calls prog 83 #[.int .i64 h.2.1,.int .i64 2] w fun e w'=>∃ u,e=.returned u∧Own w' w.heap.size u (putB h.2.1.toNat 2)∧Below w.heap.size w w'):=fun w=>by
  have hh:=zFl h.2.1.toNat 2 w (by omega) (by decide);rw[show((h.2.1.toNat:Nat):Int)=h.2.1 by omega] at hh;exact hh
 have HKB:Hid (h.2.2=((UInt8.ofNat h.2.2.toNat).toNat:Int)):=by show _=_;rw[UInt8.toNat_ofNat'];omega
 clear hr hc p1;have g0:=yq (zQ (A.cell 0) rfl);have g1:=yq (zQ (A.cell 1) rfl);have g2:=yq (zQ (A.cell 2) rfl);have hne:=yo (w.alloc (.cells #[.int .i64 0,.slice none 0 0] 53));go_enter func158,ntmps158;go_wp2_with fail;refine zWr [0,1,2,3,4,5,6,7,8,10,11,12,13,14] 18 4 2 ?_;simp only[zH,ya,yb,yc]
 repeat (go_big_quiet_step (fail))
 refine wpQuiet_nil ?_;clear g0 g1 g2;refine zAJ (i:=9) (j:=15) (by kernel_rfl) ?_ ?_
 ·refine mOp_call rfl (by go_simp) 83 _ #[.int .i64 h.2.1,.int .i64 2] (fun w=>by go_simp) rfl ?_;rintro _ ⟨s9,rfl⟩;refine(KP.out _).mono ?_;rintro e w9 ⟨u9,rfl,k9,hb9⟩;obtain⟨a9,c9,rfl,-⟩:=k9.rd;rw[zM] at k9 ⊢;refine⟨_,rfl,⟨⟨_,hb9⟩,rfl⟩,?_⟩;have hbc:=yn s9.h hb9;have hne2:=yo w9;refine zWk 15 rfl ?_;rintro _ ⟨sa,rfl⟩;refine⟨.slice (some ⟨sa.w.heap.size,0,none⟩) 1 1,sa.w.alloc (.cells #[.int .u8 h.2.2] 5),by go_simp,⟨⟨_,zA _ _⟩,rfl⟩,?_⟩;have hba:=yn sa.h (zA sa.w (.cells #[.int .u8 h.2.2] 5));have rk:=zFs sa.w [.int .u8 h.2.2] [UInt8.ofNat h.2.2.toNat] 5 1 (by simp only[List.map_cons,List.map_nil,u8v];rw[← HKB.out]) rfl (by decide);have rp:=(Rd.own k9).keep hba;have BV:=yn BW (yn hbc hba);replace R:=R.stay (yn hbc hba);generalize sa.w.heap.size=gk at *;generalize sa.w.alloc (.cells #[.int .u8 h.2.2] 5)=wk at *;clear hba hbc hb9 k9 hne hne2 A;have hne3:=yo wk;refine zWk 16 rfl ?_;rintro _ ⟨sb,rfl⟩;refine⟨.slice (some ⟨sb.w.heap.size,0,none⟩) 3 3,sb.w.alloc (.cells #[.slice p h.1.length q,.slice a9 2 c9,.slice (some ⟨gk,0,none⟩) 1 1] 22),by go_simp,⟨⟨_,zA _ _⟩,rfl⟩,?_⟩;have r3:=zF5 sb.w ⟨p,q,h.1⟩ ⟨a9,c9,putB h.2.1.toNat 2⟩ ⟨some ⟨gk,0,none⟩,1,[UInt8.ofNat h.2.2.toNat]⟩ 22 (HR.out.keep (yn BV sb.h)) (rp.keep sb.h) (rk.keep sb.h);simp only[Pc.val,zM,List.length_singleton] at r3;have hbb:=yn sb.h (zA sb.w (.cells #[.slice p h.1.length q,.slice a9 2 c9,.slice (some ⟨gk,0,none⟩) 1 1] 22));replace R:=R.stay hbb;replace BV:=yn BV hbb;generalize sb.w.heap.size=gb at *;generalize sb.w.alloc (.cells #[.slice p h.1.length q,.slice a9 2 c9,.slice (some ⟨gk,0,none⟩) 1 1] 22)=wb at *;clear hbb;have hne4:=yo wb;refine zWc 17 rfl 188 #[.slice (some ⟨gb,0,none⟩) 3 3] ?_;rintro _ ⟨sc,rfl⟩;refine(zGe (hpB h) (some ⟨gb,0,none⟩) 3 _ (r3.keep sc.h) (by have:=HLen.out;unfold hpL at this;omega)).mono ?_;rintro e wc ⟨uc,rfl,kc,hbx⟩;obtain⟨ac,cc,rfl,-⟩:=kc.rd;refine⟨_,rfl,⟨⟨_,hbx⟩,rfl⟩,?_⟩;have hbd:=yn sc.h hbx;replace kc:=kc.lower (show w.heap.size+1≤sc.w.heap.size from yi (show w.heap.size+1≤wb.heap.size from R.lt) sc.h.size);replace R:=R.stay hbd;replace BV:=yn BV hbd;clear hbd hbx;refine zWe ?_;rintro _ ⟨sz,rfl⟩;simp only[yd,ye];replace R:=R.stay sz.h;replace kc:=kc.stay sz.h;replace BV:=yn BV sz.h;generalize sz.w=wz at *;obtain⟨t0,t1⟩:=zc2 R;have ft:=R.frozen;go_wp2_with fail;exact bodyPost_ret (v:=.agg #[.int .i64 k,.slice ac (zA1 (hpB h)).length cc]) (by simp[results,results158,go_sem,t0,t1]) rfl ⟨_,rfl,((kc.set (yg _) _).set (yg _) _).lower (yh _),(BV.setCell (yf _) _).setCell (yf _) _⟩
 ·refine mOp_make rfl (by go_simp) ?_;rintro _ ⟨sa,rfl⟩;refine⟨.slice (some ⟨sa.w.heap.size,0,none⟩) 1 1,sa.w.alloc (.cells #[.int .u8 h.2.2] 5),by go_simp,⟨⟨_,zA _ _⟩,rfl⟩,?_⟩;have hba:=yn sa.h (zA sa.w (.cells #[.int .u8 h.2.2] 5));have rk:=zFs sa.w [.int .u8 h.2.2] [UInt8.ofNat h.2.2.toNat] 5 1 (by simp only[List.map_cons,List.map_nil,u8v];rw[← HKB.out]) rfl (by decide);generalize sa.w.heap.size=gk at *;generalize sa.w.alloc (.cells #[.int .u8 h.2.2] 5)=wk at *;have hne2:=yo wk;refine zWc 9 rfl 83 #[.int .i64 h.2.1,.int .i64 2] ?_;rintro _ ⟨s9,rfl⟩;refine(KP.out _).mono ?_;rintro e w9 ⟨u9,rfl,k9,hb9⟩;obtain⟨a9,c9,rfl,-⟩:=k9.rd;rw[zM] at k9 ⊢;refine⟨_,rfl,⟨⟨_,hb9⟩,rfl⟩,?_⟩;have hbc:=yn s9.h hb9;have rp:=Rd.own k9;replace rk:=rk.keep hbc;have BV:=yn BW (yn hba hbc);replace R:=R.stay (yn hba hbc);clear hba hbc hb9 k9 hne hne2 A;have hne3:=yo w9;refine zWk 16 rfl ?_;rintro _ ⟨sb,rfl⟩;refine⟨.slice (some ⟨sb.w.heap.size,0,none⟩) 3 3,sb.w.alloc (.cells #[.slice p h.1.length q,.slice a9 2 c9,.slice (some ⟨gk,0,none⟩) 1 1] 22),by go_simp,⟨⟨_,zA _ _⟩,rfl⟩,?_⟩;have r3:=zF5 sb.w ⟨p,q,h.1⟩ ⟨a9,c9,putB h.2.1.toNat 2⟩ ⟨some ⟨gk,0,none⟩,1,[UInt8.ofNat h.2.2.toNat]⟩ 22 (HR.out.keep (yn BV sb.h)) (rp.keep sb.h) (rk.keep sb.h);simp only[Pc.val,zM,List.length_singleton] at r3;have hbb:=yn sb.h (zA sb.w (.cells #[.slice p h.1.length q,.slice a9 2 c9,.slice (some ⟨gk,0,none⟩) 1 1] 22));replace R:=R.stay hbb;replace BV:=yn BV hbb;generalize sb.w.heap.size=gb at *;generalize sb.w.alloc (.cells #[.slice p h.1.length q,.slice a9 2 c9,.slice (some ⟨gk,0,none⟩) 1 1] 22)=wb at *;clear hbb;have hne4:=yo wb;refine zWc 17 rfl 188 #[.slice (some ⟨gb,0,none⟩) 3 3] ?_;rintro _ ⟨sc,rfl⟩;refine(zGe (hpB h) (some ⟨gb,0,none⟩) 3 _ (r3.keep sc.h) (by have:=HLen.out;unfold hpL at this;omega)).mono ?_;rintro e wc ⟨uc,rfl,kc,hbx⟩;obtain⟨ac,cc,rfl,-⟩:=kc.rd;refine⟨_,rfl,⟨⟨_,hbx⟩,rfl⟩,?_⟩;have hbd:=yn sc.h hbx;replace kc:=kc.lower (show w.heap.size+1≤sc.w.heap.size from yi (show w.heap.size+1≤wb.heap.size from R.lt) sc.h.size);replace R:=R.stay hbd;replace BV:=yn BV hbd;clear hbd hbx;refine zWe ?_;rintro _ ⟨sz,rfl⟩;simp only[yd,ye];replace R:=R.stay sz.h;replace kc:=kc.stay sz.h;replace BV:=yn BV sz.h;generalize sz.w=wz at *;obtain⟨t0,t1⟩:=zc2 R;have ft:=R.frozen;go_wp2_with fail;exact bodyPost_ret (v:=.agg #[.int .i64 k,.slice ac (zA1 (hpB h)).length cc]) (by simp[results,results158,go_sem,t0,t1]) rfl ⟨_,rfl,((kc.set (yg _) _).set (yg _) _).lower (yh _),(BV.setCell (yf _) _).setCell (yf _) _⟩
def AtS (w:World) (b o:Nat) (p:Option Addr) (q:Nat) (p2:Option Addr) (q2:Nat) (s:zO):Prop:=
 w.cell? ⟨b,o,none⟩=some (.int .i64 s.1)∧w.cell? ⟨b,o+1,none⟩=some (.slice p s.2.1.length q)∧w.cell? ⟨b,o+2,none⟩=some (.int .i64 s.2.2.1)∧w.cell? ⟨b,o+3,none⟩=some (.slice p2 s.2.2.2.length q2)
theorem AtS.keep {w w':World} {b o q q2:Nat} {p p2:Option Addr} {s:zO} (h:AtS w b o p q p2 q2 s) (hb:Below w.heap.size w w'):AtS w' b o p q p2 q2 s:=
 ⟨zL h.1 hb,zL h.2.1 hb,zL h.2.2.1 hb,zL h.2.2.2 hb⟩
theorem zF6 (b o:Nat) (s:zO) (p p2:Option Addr) (q q2:Nat) (w:World) (hA:AtS w b o p q p2 q2 s):
  Calls prog 75 #[.pointer (some ⟨b,o,none⟩)] w fun e w'=>e=.returned (.int .i64 (sfC s))∧w'=w:=by
 obtain⟨c0,c1,c2,c3⟩:=hA;cases h1:inB s.1 1 65519
 ·rw[show sfC s=3 by simp[sfC,h1]];go_enter func75,ntmps75;go_wp2_with fail;refine(zBo _ _).mono ?_;rintro e w' ⟨rfl,rfl⟩;rw[h1];go_wp2;go_ret;exact⟨rfl,rfl⟩
 ·cases h2:inB s.2.2.1 0 9
  ·rw[show sfC s=3 by simp[sfC,h2]];go_enter func75,ntmps75;go_wp2_with fail;refine(zBo _ _).mono ?_;rintro e w' ⟨rfl,rfl⟩;rw[h1];go_wp2_with fail;refine(zBW _ _ _ _).mono ?_;rintro e w' ⟨rfl,rfl⟩;rw[h2];go_wp2;go_ret;exact⟨rfl,rfl⟩
  ·have HF:Hid (sfC s=if s.2.1.length=8∧s.2.2.2.length=keyW s.2.2.1 then 0 else 1):=by show _=_;simp[sfC,h1,h2]
   by_cases h8:s.2.1.length=8
   ·have d8:((s.2.1.length:Int) != 8)=false:=by rw[bne_eq_false_iff_eq];omega
    by_cases hp:s.2.2.1=0
    ·have dp:(s.2.2.1==0)=true:=by rw[beq_iff_eq];exact hp
     have dn:(s.2.2.1 != 0)=false:=by rw[bne_eq_false_iff_eq];exact hp
     by_cases hk:s.2.2.2.length=0
     ·have dk:((s.2.2.2.length:Int) != 0)=false:=by rw[bne_eq_false_iff_eq];omega
      rw[HF.out,if_pos ⟨h8,by rw[hk,hp];rfl⟩];clear h8 hp hk HF;go_enter func75,ntmps75;go_wp2_with fail;refine(zBo _ _).mono ?_;rintro e w' ⟨rfl,rfl⟩;rw[h1];go_wp2_with fail;refine(zBW _ _ _ _).mono ?_;rintro e w' ⟨rfl,rfl⟩;rw[h2];go_wp2;go_ret;exact⟨rfl,rfl⟩
     ·have dk:((s.2.2.2.length:Int) != 0)=true:=by rw[bne_iff_ne];omega
      rw[HF.out,if_neg (fun h=>hk (by rw[h.2,hp];rfl))];clear h8 hp hk HF;go_enter func75,ntmps75;go_wp2_with fail;refine(zBo _ _).mono ?_;rintro e w' ⟨rfl,rfl⟩;rw[h1];go_wp2_with fail;refine(zBW _ _ _ _).mono ?_;rintro e w' ⟨rfl,rfl⟩;rw[h2];go_wp2;go_ret;exact⟨rfl,rfl⟩
    ·have dp:(s.2.2.1==0)=false:=by rw[beq_eq_false_iff_ne];exact hp
     have dn:(s.2.2.1 != 0)=true:=by rw[bne_iff_ne];exact hp
     by_cases hk:s.2.2.2.length=32
     ·have dk:((s.2.2.2.length:Int) != 32)=false:=by rw[bne_eq_false_iff_eq];omega
      rw[HF.out,if_pos ⟨h8,by rw[hk,keyW,if_neg hp]⟩];clear h8 hp hk HF;go_enter func75,ntmps75;go_wp2_with fail;refine(zBo _ _).mono ?_;rintro e w' ⟨rfl,rfl⟩;rw[h1];go_wp2_with fail;refine(zBW _ _ _ _).mono ?_;rintro e w' ⟨rfl,rfl⟩;rw[h2];go_wp2;go_ret;exact⟨rfl,rfl⟩
     ·have dk:((s.2.2.2.length:Int) != 32)=true:=by rw[bne_iff_ne];omega
      rw[HF.out,if_neg (fun h=>hk (by rw[h.2,keyW,if_neg hp]))];clear h8 hp hk HF;go_enter func75,ntmps75;go_wp2_with fail;refine(zBo _ _).mono ?_;rintro e w' ⟨rfl,rfl⟩;rw[h1];go_wp2_with fail;refine(zBW _ _ _ _).mono ?_;rintro e w' ⟨rfl,rfl⟩;rw[h2];go_wp2;go_ret;exact⟨rfl,rfl⟩
   ·have d8:((s.2.1.length:Int) != 8)=true:=by rw[bne_iff_ne];omega
    rw[HF.out,if_neg (fun h=>h8 h.1)];clear h8 HF;go_enter func75,ntmps75;go_wp2_with fail;refine(zBo _ _).mono ?_;rintro e w' ⟨rfl,rfl⟩;rw[h1];go_wp2_with fail;refine(zBW _ _ _ _).mono ?_;rintro e w' ⟨rfl,rfl⟩;rw[h2];go_wp2;go_ret;exact⟨rfl,rfl⟩
theorem zH5 (b o n:Nat) (x:zZ) (p1 p2 p3 p4:Option Addr) (q1 q2 q3 q4:Nat) (w:World) (c0:w.cell? ⟨b,o,none⟩=some (.slice p1 x.1.length q1)) (c1:w.cell? ⟨b,o+1,none⟩=some (.slice p2 x.2.1.length q2)) (c2:w.cell? ⟨b,o+2,none⟩=some (.slice p3 x.2.2.1.length q3)) (c3:w.cell? ⟨b,o+3,none⟩=some (.slice p4 x.2.2.2.length q4)):
  Calls prog 78 #[.pointer (some ⟨b,o,none⟩),.int .i64 (n:Int)] w fun e w'=>e=.returned (.bool (seB x n))∧w'=w:=by
 have F:Hid (∀ m:Nat,((m:Int)==(n:Int))=decide (m=n)):=fun m=>by
  by_cases h:m=n
  ·rw[decide_eq_true h,beq_iff_eq,h]
  ·rw[decide_eq_false h,beq_eq_false_iff_ne];omega
 have d1:=F.out x.1.length;have d2:=F.out x.2.1.length;have d3:=F.out x.2.2.1.length;have d4:=F.out x.2.2.2.length;unfold seB
 cases e1:decide (x.1.length=n) <;> cases e2:decide (x.2.1.length=n) <;> cases e3:decide (x.2.2.1.length=n) <;> cases e4:decide (x.2.2.2.length=n)
 all_goals
  rw[e1] at d1;rw[e2] at d2;rw[e3] at d3;rw[e4] at d4;clear e1 e2 e3 e4;go_enter func78,ntmps78;go_wp2;go_ret;exact⟨rfl,rfl⟩
theorem zEt (b:Nat) (e:EndD) (p1 p2 p3 p4 p5 p6 p7 p8:Option Addr) (q1 q2 q3 q4 q5 q6 q7 q8:Nat) (w:World)
  (A:Has w b [.int .i64 e.1.1,.slice p1 e.1.2.1.length q1,.int .i64 e.1.2.2.1,.slice p2 e.1.2.2.2.length q2,.int .i64 e.2.1,.int .i64 e.2.2.1,.slice p3 e.2.2.2.1.length q3,.slice p4 e.2.2.2.2.1.length q4,.slice p5 e.2.2.2.2.2.1.length q5,.slice p6 e.2.2.2.2.2.2.1.length q6,.slice p7 e.2.2.2.2.2.2.2.1.length q7,.slice p8 e.2.2.2.2.2.2.2.2.length q8]) (hr:RdL msgC w p3 q3 e.2.2.2.1):
  Calls prog 36 #[.pointer (some ⟨b,0,none⟩)] w fun x w'=>x=.returned (.int .i64 (efC e))∧w'=w:=by
 have KS:Hid (∀ w',w'=w→Calls prog 75 #[.pointer (some ⟨b,0,none⟩)] w' fun x w'=>x=.returned (.int .i64 (sfC e.1))∧w'=w):=fun w' h=>by
  subst h;exact zF6 b 0 e.1 p1 p2 q1 q2 w' ⟨A 0 _ rfl,A 1 _ rfl,A 2 _ rfl,A 3 _ rfl⟩
 have KL:Hid (∀ n:Nat,Calls prog 78 #[.pointer (some ⟨b,8,none⟩),.int .i64 (n:Int)] w fun x w'=>x=.returned (.bool (seB e.2.2.2.2.2 n))∧w'=w):=fun n=>
  zH5 b 8 n e.2.2.2.2.2 p5 p6 p7 p8 q5 q6 q7 q8 w (A 8 _ rfl) (A 9 _ rfl) (A 10 _ rfl) (A 11 _ rfl)
 have c4:=A 4 _ rfl;have c5:=A 5 _ rfl;have c6:=A 6 _ rfl;have c7:=A 7 _ rfl;clear A;have HR:Hid (RdL msgC w p3 q3 e.2.2.2.1):=hr;have hq1:e.2.2.2.1.length≤q3:=hr.1;have hq2:q3≤2 ^ 63-1:=hr.2.1;clear hr
 suffices H:∀ Q:Ending→World→Prop,Hid (∀ c w',c=efC e→w'=w→Q (.returned (.int .i64 c)) w')→Calls prog 36 #[.pointer (some ⟨b,0,none⟩)] w Q from H _ (show Hid _ from fun c w' hc hb=>⟨by rw[hc],hb⟩)
 intro Q HQ
 by_cases h0:sfC e.1=0
 ·have HE:Hid (efC e=if inB e.2.1 1 3&&inB e.2.2.1 0 2 then (if e.2.2.2.1.length≤4 then (if zAH e.2.2.2.1=0 then (if (e.2.2.2.2.1.length=0∨e.2.2.2.2.1.length=32)∧seB e.2.2.2.2.2 (zBi e.2.1)=true then 0 else 1) else zAH e.2.2.2.1) else 2) else 3):=by show _=_;rw[efC,if_pos h0]
  rw[h0] at KS;clear h0;cases h1:inB e.2.1 1 3
  ·have HE2:Hid (efC e=3):=by show _=_;rw[HE.out,h1];rfl
   go_enter func36,ntmps36;go_wp2_with fail;refine(KS.out _ rfl).mono ?_;rintro x w' ⟨rfl,rfl⟩;go_wp2_with fail;refine(zBW _ _ _ _).mono ?_;rintro x w' ⟨rfl,hw⟩;subst hw;rw[h1];go_wp2;exact HQ.out _ _ HE2.out.symm rfl
  ·cases h2:inB e.2.2.1 0 2
   ·have HE2:Hid (efC e=3):=by show _=_;rw[HE.out,h2,h1];rfl
    go_enter func36,ntmps36;go_wp2_with fail;refine(KS.out _ rfl).mono ?_;rintro x w' ⟨rfl,rfl⟩;go_wp2_with fail;refine(zBW _ _ _ _).mono ?_;rintro x w' ⟨rfl,hw⟩;subst hw;rw[h1];go_wp2_with fail;refine(zBW _ _ _ _).mono ?_;rintro x w' ⟨rfl,hw⟩;subst hw;rw[h2];go_wp2;exact HQ.out _ _ HE2.out.symm rfl
   ·replace HE:Hid (efC e=if e.2.2.2.1.length≤4 then (if zAH e.2.2.2.1=0 then (if (e.2.2.2.2.1.length=0∨e.2.2.2.2.1.length=32)∧seB e.2.2.2.2.2 (zBi e.2.1)=true then 0 else 1) else zAH e.2.2.2.1) else 2):=by show _=_;rw[HE.out,h1,h2];rfl
    by_cases h4:e.2.2.2.1.length≤4
    ·replace HE:Hid (efC e=if zAH e.2.2.2.1=0 then (if (e.2.2.2.2.1.length=0∨e.2.2.2.2.1.length=32)∧seB e.2.2.2.2.2 (zBi e.2.1)=true then 0 else 1) else zAH e.2.2.2.1):=by show _=_;rw[HE.out,if_pos h4]
     have h4I:¬ (4<(e.2.2.2.1.length:Int)):=by omega
     have H4:Hid (e.2.2.2.1.length≤4):=h4;clear h4;generalize e.2.2.2.1=l at *;go_enter func36,ntmps36;go_wp2_with fail;refine(KS.out _ rfl).mono ?_;rintro x w' ⟨rfl,rfl⟩;go_wp2_with fail;refine(zBW _ _ _ _).mono ?_;rintro x w' ⟨rfl,hw⟩;subst hw;rw[h1];go_wp2_with fail;refine(zBW _ _ _ _).mono ?_;rintro x w' ⟨rfl,hw⟩;subst hw;rw[h2];go_wp2_with fail
     go_loopw [4] (fun i wr=>∃ k:Nat,k≤l.length∧i=.int .i64 k∧(∀ (j:Nat) (b:Int×List UInt8),j<k→l[j]?=some b→zD b.1 b.2.length=0)∧wr=w')
      (fun i _=>l.length-(intOf i).toNat)
     case atStart=>exact⟨0,Nat.zero_le _,rfl,fun j b hj=>absurd hj (Nat.not_lt_zero _),rfl⟩
     case round=>
      obtain⟨k,hk,rfl,hall,rfl⟩:=hrel
      by_cases hlt:k<l.length
      ·have hI:(k:Int)<(l.length:Int):=by omega
       obtain⟨bb,o,e1,hc⟩:=HR.out.2.2.2 (by omega);subst e1;obtain⟨a,ha⟩:∃ a,l[k]?=some a:=⟨l[k],by simp[hlt]⟩;obtain⟨us,hrep,hcell⟩:=hc k a ha;obtain⟨pa,qa,rfl,ra⟩:=zAf hrep;have m0:=hcell 0 _ rfl;have m1:=hcell 1 _ rfl;rw[show msgC.n=2 from rfl] at m0 m1;rw[Nat.add_zero] at m0;have KF:Hid (Calls prog 77 #[.pointer (some ⟨bb,o+k*2,none⟩)] wr fun e w'=>e=.returned (.int .i64 (zD a.1 a.2.length))∧w'=wr):=zEL bb (o+k*2) a.2.length qa pa a.1 wr m0 m1;clear hc hcell hrep m0 m1
       by_cases hf:zD a.1 a.2.length=0
       ·have hall2:Hid (∀ (j:Nat) (b:Int×List UInt8),j<k+1→l[j]?=some b→zD b.1 b.2.length=0):=fun j b hj hb=>by
         by_cases h:j<k
         ·exact hall j b h hb
         ·rw[show j=k by omega,ha] at hb;cases hb;exact hf
        rw[hf] at KF;clear hf hall;go_wp2_with fail;refine KF.out.mono ?_;rintro e w2 ⟨rfl,hw⟩;subst hw;go_wp2_with fail;go_roundw
        case rel=>exact⟨k+1,by omega,by go_num,hall2.out,trivial⟩
        case measure=>simp[intOf];omega
       ·have hFF:Hid (zAH l=zD a.1 a.2.length):=zFb ha hall hf
        have HE2:Hid (efC e=zD a.1 a.2.length):=by show _=_;rw[HE.out,if_neg (by rw[hFF.out];exact hf),hFF.out]
        obtain⟨fc,hfc⟩:∃ fc,Hid (zD a.1 a.2.length=fc):=⟨_,rfl⟩
        have hz:(fc != 0)=true:=by rw[bne_iff_ne,← hfc.out];exact hf
        rw[hfc.out] at KF HE2;clear hf hall hFF HE;go_wp2_with fail;refine KF.out.mono ?_;rintro e w2 ⟨rfl,hw⟩;subst hw;go_wp2;exact HQ.out _ _ HE2.out.symm rfl
      ·have ek:k=l.length:=by omega
       subst ek
       have hF0:Hid (zAH l=0):=zCp fun j b hb=>hall j b (List.getElem?_eq_some_iff.1 hb).1 hb
       replace HE:Hid (efC e=if (e.2.2.2.2.1.length=0∨e.2.2.2.2.1.length=32)∧seB e.2.2.2.2.2 (zBi e.2.1)=true then 0 else 1):=by show _=_;rw[HE.out,if_pos hF0.out]
       clear hF0 hall hlt;obtain⟨n,HN⟩:∃ n,Hid (n=e.2.2.2.2.1.length):=⟨_,rfl⟩;rw[← HN.out] at HE c7
       by_cases hb:n=0∨n=32
       ·have d:((n:Int) != 0)=false∨((n:Int) != 0)=true∧((n:Int) != 32)=false:=by
         rcases hb with h | h
         ·left;rw[bne_eq_false_iff_eq];omega
         ·right;exact⟨by rw[bne_iff_ne];omega,by rw[bne_eq_false_iff_eq];omega⟩
        replace HE:Hid (efC e=if seB e.2.2.2.2.2 (zBi e.2.1)=true then 0 else 1):=by
         show _=_
         rw[HE.out]
         by_cases h:seB e.2.2.2.2.2 (zBi e.2.1)=true
         ·rw[if_pos ⟨hb,h⟩,if_pos h]
         ·rw[if_neg (fun x=>h x.2),if_neg h]
        clear hb;have KW:=KL.out (zBi e.2.1)
        by_cases h3:e.2.1=3
        ·have d3:(e.2.1==3)=true:=by rw[beq_iff_eq];exact h3
         rw[show zBi e.2.1=32 by rw[zBi,if_pos h3]] at KW HE;clear h3;rcases d with d | ⟨d,d2⟩
         all_goals
          go_wp2_with fail;refine KW.mono ?_;rintro x w2 ⟨rfl,hw⟩;subst hw;cases hs:seB e.2.2.2.2.2 32
          ·have HE2:Hid (efC e=1):=by show _=_;rw[HE.out,hs];rfl
           go_wp2;exact HQ.out _ _ HE2.out.symm rfl
          ·have HE2:Hid (efC e=0):=by show _=_;rw[HE.out,hs];rfl
           go_wp2;exact HQ.out _ _ HE2.out.symm rfl
        ·have d3:(e.2.1==3)=false:=by rw[beq_eq_false_iff_ne];exact h3
         rw[show zBi e.2.1=0 by rw[zBi,if_neg h3]] at KW HE;clear h3;rcases d with d | ⟨d,d2⟩
         all_goals
          go_wp2_with fail;refine KW.mono ?_;rintro x w2 ⟨rfl,hw⟩;subst hw;cases hs:seB e.2.2.2.2.2 0
          ·have HE2:Hid (efC e=1):=by show _=_;rw[HE.out,hs];rfl
           go_wp2;exact HQ.out _ _ HE2.out.symm rfl
          ·have HE2:Hid (efC e=0):=by show _=_;rw[HE.out,hs];rfl
           go_wp2;exact HQ.out _ _ HE2.out.symm rfl
       ·have d:((n:Int) != 0)=true:=by rw[bne_iff_ne];omega
        have d2:((n:Int) != 32)=true:=by rw[bne_iff_ne];omega
        replace HE:Hid (efC e=1):=by show _=_;rw[HE.out,if_neg (fun x=>hb x.1)]
        clear hb;go_wp2;exact HQ.out _ _ HE.out.symm rfl
    ·have h4I:4<(e.2.2.2.1.length:Int):=by omega
     have HE2:Hid (efC e=2):=by show _=_;rw[HE.out,if_neg h4]
     clear h4 HE;go_enter func36,ntmps36;go_wp2_with fail;refine(KS.out _ rfl).mono ?_;rintro x w' ⟨rfl,rfl⟩;go_wp2_with fail;refine(zBW _ _ _ _).mono ?_;rintro x w' ⟨rfl,hw⟩;subst hw;rw[h1];go_wp2_with fail;refine(zBW _ _ _ _).mono ?_;rintro x w' ⟨rfl,hw⟩;subst hw;rw[h2];go_wp2;exact HQ.out _ _ HE2.out.symm rfl
 ·have HE2:Hid (efC e=sfC e.1):=by show _=_;rw[efC,if_neg h0]
  have hd:(sfC e.1 != 0)=true:=by rw[bne_iff_ne];exact h0
  clear h0;generalize sfC e.1=cc at *;go_enter func36,ntmps36;go_wp2_with fail;refine(KS.out _ rfl).mono ?_;rintro x w' ⟨rfl,rfl⟩;go_wp2;exact HQ.out _ _ HE2.out.symm rfl
end Go.Proofs.YtiabacnmmojfjabGreatDoor
