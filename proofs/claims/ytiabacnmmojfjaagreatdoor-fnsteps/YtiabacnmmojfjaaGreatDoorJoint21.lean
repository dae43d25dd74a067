import Derived.Test.YtiabacnmmojfjaaGreatDoorJoint20
import Derived.Test.YtiabacnmmojfjaaGreatDoorJoint7
import Derived.Test.YtiabacnmmojfjaaGreatDoorJoint14
import Derived.Test.YtiabacnmmojfjaaGreatDoorJoint12
import Derived.Test.YtiabacnmmojfjaaGreatDoorJoint6
set_option maxHeartbeats 2000000
set_option maxRecDepth 4000
open Go.Proofs.Tryz
namespace Go.Proofs.YtiabacnmmojfjaaGreatDoor
open Go.ChangeShapes Go.WideShapes Go.ChangeAt Go.RowKit
theorem zJb (b:Nat) (h:zAB) (p:Option Addr) (q:Nat) (w:World) (A:Has w b [.slice p h.1.length q,.int .i64 h.2.1,.int .i64 h.2.2]):
  Calls prog 162 #[.pointer (some ⟨b,0,none⟩)] w fun e w'=>e=.returned (.int .i64 (hfC h))∧w'=w:=by
 have c0:=A 0 _ rfl;have c1:=A 1 _ rfl;have c2:=A 2 _ rfl;clear A
 by_cases h1:h.1.length=8
 ·have d1:((h.1.length:Int) != 8)=false:=by rw[bne_eq_false_iff_eq];omega
  cases h2:inB h.2.1 1 65520
  ·rw[show hfC h=3 by simp[hfC,h1,h2]];clear h1;go_enter func162,ntmps162;go_wp2_with fail;refine(zDv _ _).mono ?_;rintro e w' ⟨rfl,hw⟩;subst hw;rw[h2];go_wp2;go_ret;exact⟨rfl,rfl⟩
  ·cases h3:inB h.2.2 0 9
   ·rw[show hfC h=3 by simp[hfC,h1,h2,h3]];clear h1;go_enter func162,ntmps162;go_wp2_with fail;refine(zDv _ _).mono ?_;rintro e w' ⟨rfl,hw⟩;subst hw;rw[h2];go_wp2_with fail;refine(zBW _ _ _ _).mono ?_;rintro e w' ⟨rfl,hw⟩;subst hw;rw[h3];go_wp2;go_ret;exact⟨rfl,rfl⟩
   ·rw[show hfC h=0 by simp[hfC,h1,h2,h3]];clear h1;go_enter func162,ntmps162;go_wp2_with fail;refine(zDv _ _).mono ?_;rintro e w' ⟨rfl,hw⟩;subst hw;rw[h2];go_wp2_with fail;refine(zBW _ _ _ _).mono ?_;rintro e w' ⟨rfl,hw⟩;subst hw;rw[h3];go_wp2;go_ret;exact⟨rfl,rfl⟩
 ·have d1:((h.1.length:Int) != 8)=true:=by rw[bne_iff_ne];omega
  rw[show hfC h=1 by simp[hfC,h1]];clear h1;go_enter func162,ntmps162;go_wp2;go_ret;exact⟨rfl,rfl⟩
theorem zEM (k:Int) (w:World):Calls prog 118 #[.int .i64 k] w fun e w'=>e=.returned (.bool (hkB k))∧w'=w:=by
 by_cases h1:k=1
 ·rw[show hkB k=true by simp[hkB,h1]]
  have d1:(k==1)=true:=by rw[beq_iff_eq];exact h1
  clear h1;go_enter func118,ntmps118;go_wp2;go_ret;exact⟨rfl,rfl⟩
 ·have d1:(k==1)=false:=by rw[beq_eq_false_iff_ne];exact h1
  by_cases h2:k=2
  ·rw[show hkB k=true by simp[hkB,h2]]
   have d2:(k==2)=true:=by rw[beq_iff_eq];exact h2
   clear h1 h2;go_enter func118,ntmps118;go_wp2;go_ret;exact⟨rfl,rfl⟩
  ·rw[show hkB k=false by simp[hkB,h1,h2]]
   have d2:(k==2)=false:=by rw[beq_eq_false_iff_ne];exact h2
   clear h1 h2;go_enter func118,ntmps118;go_wp2;go_ret;exact⟨rfl,rfl⟩
theorem zFt (w:World) (x y z:Pc) (t:TypeId) (hx:Rd w x.p x.q x.bs) (hy:Rd w y.p y.q y.bs) (hz:Rd w z.p z.q z.bs):
  RdL bytC (w.alloc (.cells #[x.val,y.val,z.val] t)) (some ⟨w.heap.size,0,none⟩) 3 [x.bs,y.bs,z.bs]:=by
 have hb:=zA w (.cells #[x.val,y.val,z.val] t);have A:=yr w [x.val,y.val,z.val] t;refine⟨by simp,by unfold maxLen;decide,(fun e=>by cases e),fun _=>⟨w.heap.size,0,rfl,fun i a hi=>?_⟩⟩
 match i,hi with
 | 0,hi=>cases hi;exact⟨[x.val],⟨x.p,x.q,rfl,hx.keep hb⟩,fun j u hj=>by
   match j,hj with
   | 0,hj=>cases hj;exact A.cell 0⟩
 | 1,hi=>cases hi;exact⟨[y.val],⟨y.p,y.q,rfl,hy.keep hb⟩,fun j u hj=>by
   match j,hj with
   | 0,hj=>cases hj;exact A.cell 1⟩
 | 2,hi=>cases hi;exact⟨[z.val],⟨z.p,z.q,rfl,hz.keep hb⟩,fun j u hj=>by
   match j,hj with
   | 0,hj=>cases hj;exact A.cell 2⟩
theorem zKk (k:Int) (b:Nat) (h:zAB) (p:Option Addr) (q:Nat) (w:World) (A:Arr w b 84 [.slice p h.1.length q,.int .i64 h.2.1,.int .i64 h.2.2]) (hr:Rd w p q h.1) (hc:hfC h=0):
  Calls prog 137 #[.int .i64 k,.pointer (some ⟨b,0,none⟩)] w fun e w'=>∃ u,e=.returned (.agg #[.int .i64 k,u])∧Own w' w.heap.size u (hpL h)∧Below w.heap.size w w':=by
 obtain⟨p1,p2,p3,p4,p5⟩:=zBR hc;have HLen:Hid ((hpL h).length=14):=zFm hc;have HR:Hid (Rd w p q h.1):=hr;have BW:=zA w (.cells #[.int .i64 0,.slice none 0 0] 46);have R:=yr w [.int .i64 0,.slice none 0 0] 46;replace A:=A.stay BW;have hz0:Hid ((w.alloc (.cells #[.int .i64 0,.slice none 0 0] 46)).heap.size=w.heap.size+1):=zB _ _
 have KP:Hid (∀ w,Calls prog 122 #[.int .i64 h.2.1,.int .i64 2] w fun e w'=>∃ u,e=.returned u∧Own w' w.heap.size u (putB h.2.1.toNat 2)∧Below w.heap.size w w'):=fun w=>by
  have hh:=zFY h.2.1.toNat 2 w (by omega) (by decide);rw[show((h.2.1.toNat:Nat):Int)=h.2.1 by omega] at hh;exact hh
 have HKB:Hid (h.2.2=((UInt8.ofNat h.2.2.toNat).toNat:Int)):=by show _=_;rw[UInt8.toNat_ofNat'];omega
 clear hr hc p1;have g0:=yo (zQ (A.cell 0) rfl);have g1:=yo (zQ (A.cell 1) rfl);have g2:=yo (zQ (A.cell 2) rfl);have hne:=yq (w.alloc (.cells #[.int .i64 0,.slice none 0 0] 46));go_enter func137,ntmps137;go_wp2_with fail;refine zWr [0,1,2,3,4,5,6,7,8,10,11,12,13,14] 18 4 2 ?_;simp only[zD,ya,yb,yc]
 repeat (go_big_quiet_step (fail))
 refine wpQuiet_nil ?_;clear g0 g1 g2;refine zAs (i:=9) (j:=15) (by kernel_rfl) ?_ ?_
 ·refine mOp_call rfl (by go_simp) 122 _ #[.int .i64 h.2.1,.int .i64 2] (fun w=>by go_simp) rfl ?_;rintro _ ⟨s9,rfl⟩;refine(KP.out _).mono ?_;rintro e w9 ⟨u9,rfl,k9,hb9⟩;obtain⟨a9,c9,rfl,-⟩:=k9.rd;rw[zP] at k9 ⊢;refine⟨_,rfl,⟨⟨_,hb9⟩,rfl⟩,?_⟩;have hbc:=yn s9.h hb9;have hne2:=yq w9;refine zWk 15 rfl ?_;rintro _ ⟨sa,rfl⟩;refine⟨.slice (some ⟨sa.w.heap.size,0,none⟩) 1 1,sa.w.alloc (.cells #[.int .u8 h.2.2] 5),by go_simp,⟨⟨_,zA _ _⟩,rfl⟩,?_⟩;have hba:=yn sa.h (zA sa.w (.cells #[.int .u8 h.2.2] 5));have rk:=zFd sa.w [.int .u8 h.2.2] [UInt8.ofNat h.2.2.toNat] 5 1 (by simp only[List.map_cons,List.map_nil,u8v];rw[← HKB.out]) rfl (by decide);have rp:=(Rd.own k9).keep hba;have BV:=yn BW (yn hbc hba);replace R:=R.stay (yn hbc hba);generalize sa.w.heap.size=gk at *;generalize sa.w.alloc (.cells #[.int .u8 h.2.2] 5)=wk at *;clear hba hbc hb9 k9 hne hne2 A;have hne3:=yq wk;refine zWk 16 rfl ?_;rintro _ ⟨sb,rfl⟩;refine⟨.slice (some ⟨sb.w.heap.size,0,none⟩) 3 3,sb.w.alloc (.cells #[.slice p h.1.length q,.slice a9 2 c9,.slice (some ⟨gk,0,none⟩) 1 1] 22),by go_simp,⟨⟨_,zA _ _⟩,rfl⟩,?_⟩;have r3:=zFt sb.w ⟨p,q,h.1⟩ ⟨a9,c9,putB h.2.1.toNat 2⟩ ⟨some ⟨gk,0,none⟩,1,[UInt8.ofNat h.2.2.toNat]⟩ 22 (HR.out.keep (yn BV sb.h)) (rp.keep sb.h) (rk.keep sb.h);simp only[Pc.val,zP,List.length_singleton] at r3;have hbb:=yn sb.h (zA sb.w (.cells #[.slice p h.1.length q,.slice a9 2 c9,.slice (some ⟨gk,0,none⟩) 1 1] 22));replace R:=R.stay hbb;replace BV:=yn BV hbb;generalize sb.w.heap.size=gb at *;generalize sb.w.alloc (.cells #[.slice p h.1.length q,.slice a9 2 c9,.slice (some ⟨gk,0,none⟩) 1 1] 22)=wb at *;clear hbb;have hne4:=yq wb;refine zWc 17 rfl 176 #[.slice (some ⟨gb,0,none⟩) 3 3] ?_;rintro _ ⟨sc,rfl⟩;refine(zGU (hpB h) (some ⟨gb,0,none⟩) 3 _ (r3.keep sc.h) (by have:=HLen.out;unfold hpL at this;omega)).mono ?_;rintro e wc ⟨uc,rfl,kc,hbx⟩;obtain⟨ac,cc,rfl,-⟩:=kc.rd;refine⟨_,rfl,⟨⟨_,hbx⟩,rfl⟩,?_⟩;have hbd:=yn sc.h hbx;replace kc:=kc.lower (show w.heap.size+1≤sc.w.heap.size from yi (show w.heap.size+1≤wb.heap.size from R.lt) sc.h.size);replace R:=R.stay hbd;replace BV:=yn BV hbd;clear hbd hbx;refine zWe ?_;rintro _ ⟨sz,rfl⟩;simp only[yd,ye];replace R:=R.stay sz.h;replace kc:=kc.stay sz.h;replace BV:=yn BV sz.h;generalize sz.w=wz at *;obtain⟨t0,t1⟩:=zc2 R;have ft:=R.frozen;go_wp2_with fail;exact bodyPost_ret (v:=.agg #[.int .i64 k,.slice ac (zA2 (hpB h)).length cc]) (by simp[results,results137,go_sem,t0,t1]) rfl ⟨_,rfl,((kc.set (yg _) _).set (yg _) _).lower (yh _),(BV.setCell (yf _) _).setCell (yf _) _⟩
 ·refine mOp_make rfl (by go_simp) ?_;rintro _ ⟨sa,rfl⟩;refine⟨.slice (some ⟨sa.w.heap.size,0,none⟩) 1 1,sa.w.alloc (.cells #[.int .u8 h.2.2] 5),by go_simp,⟨⟨_,zA _ _⟩,rfl⟩,?_⟩;have hba:=yn sa.h (zA sa.w (.cells #[.int .u8 h.2.2] 5));have rk:=zFd sa.w [.int .u8 h.2.2] [UInt8.ofNat h.2.2.toNat] 5 1 (by simp only[List.map_cons,List.map_nil,u8v];rw[← HKB.out]) rfl (by decide);generalize sa.w.heap.size=gk at *;generalize sa.w.alloc (.cells #[.int .u8 h.2.2] 5)=wk at *;have hne2:=yq wk;refine zWc 9 rfl 122 #[.int .i64 h.2.1,.int .i64 2] ?_;rintro _ ⟨s9,rfl⟩;refine(KP.out _).mono ?_;rintro e w9 ⟨u9,rfl,k9,hb9⟩;obtain⟨a9,c9,rfl,-⟩:=k9.rd;rw[zP] at k9 ⊢;refine⟨_,rfl,⟨⟨_,hb9⟩,rfl⟩,?_⟩;have hbc:=yn s9.h hb9;have rp:=Rd.own k9;replace rk:=rk.keep hbc;have BV:=yn BW (yn hba hbc);replace R:=R.stay (yn hba hbc);clear hba hbc hb9 k9 hne hne2 A;have hne3:=yq w9;refine zWk 16 rfl ?_;rintro _ ⟨sb,rfl⟩;refine⟨.slice (some ⟨sb.w.heap.size,0,none⟩) 3 3,sb.w.alloc (.cells #[.slice p h.1.length q,.slice a9 2 c9,.slice (some ⟨gk,0,none⟩) 1 1] 22),by go_simp,⟨⟨_,zA _ _⟩,rfl⟩,?_⟩;have r3:=zFt sb.w ⟨p,q,h.1⟩ ⟨a9,c9,putB h.2.1.toNat 2⟩ ⟨some ⟨gk,0,none⟩,1,[UInt8.ofNat h.2.2.toNat]⟩ 22 (HR.out.keep (yn BV sb.h)) (rp.keep sb.h) (rk.keep sb.h);simp only[Pc.val,zP,List.length_singleton] at r3;have hbb:=yn sb.h (zA sb.w (.cells #[.slice p h.1.length q,.slice a9 2 c9,.slice (some ⟨gk,0,none⟩) 1 1] 22));replace R:=R.stay hbb;replace BV:=yn BV hbb;generalize sb.w.heap.size=gb at *;generalize sb.w.alloc (.cells #[.slice p h.1.length q,.slice a9 2 c9,.slice (some ⟨gk,0,none⟩) 1 1] 22)=wb at *;clear hbb;have hne4:=yq wb;refine zWc 17 rfl 176 #[.slice (some ⟨gb,0,none⟩) 3 3] ?_;rintro _ ⟨sc,rfl⟩;refine(zGU (hpB h) (some ⟨gb,0,none⟩) 3 _ (r3.keep sc.h) (by have:=HLen.out;unfold hpL at this;omega)).mono ?_;rintro e wc ⟨uc,rfl,kc,hbx⟩;obtain⟨ac,cc,rfl,-⟩:=kc.rd;refine⟨_,rfl,⟨⟨_,hbx⟩,rfl⟩,?_⟩;have hbd:=yn sc.h hbx;replace kc:=kc.lower (show w.heap.size+1≤sc.w.heap.size from yi (show w.heap.size+1≤wb.heap.size from R.lt) sc.h.size);replace R:=R.stay hbd;replace BV:=yn BV hbd;clear hbd hbx;refine zWe ?_;rintro _ ⟨sz,rfl⟩;simp only[yd,ye];replace R:=R.stay sz.h;replace kc:=kc.stay sz.h;replace BV:=yn BV sz.h;generalize sz.w=wz at *;obtain⟨t0,t1⟩:=zc2 R;have ft:=R.frozen;go_wp2_with fail;exact bodyPost_ret (v:=.agg #[.int .i64 k,.slice ac (zA2 (hpB h)).length cc]) (by simp[results,results137,go_sem,t0,t1]) rfl ⟨_,rfl,((kc.set (yg _) _).set (yg _) _).lower (yh _),(BV.setCell (yf _) _).setCell (yf _) _⟩
def AtS (w:World) (b o:Nat) (p:Option Addr) (q:Nat) (p2:Option Addr) (q2:Nat) (s:zT):Prop:=
 w.cell? ⟨b,o,none⟩=some (.int .i64 s.1)∧w.cell? ⟨b,o+1,none⟩=some (.slice p s.2.1.length q)∧w.cell? ⟨b,o+2,none⟩=some (.int .i64 s.2.2.1)∧w.cell? ⟨b,o+3,none⟩=some (.slice p2 s.2.2.2.length q2)
theorem AtS.keep {w w':World} {b o q q2:Nat} {p p2:Option Addr} {s:zT} (h:AtS w b o p q p2 q2 s) (hb:Below w.heap.size w w'):AtS w' b o p q p2 q2 s:=
 ⟨zN h.1 hb,zN h.2.1 hb,zN h.2.2.1 hb,zN h.2.2.2 hb⟩
theorem zFu (b o:Nat) (s:zT) (p p2:Option Addr) (q q2:Nat) (w:World) (hA:AtS w b o p q p2 q2 s):
  Calls prog 83 #[.pointer (some ⟨b,o,none⟩)] w fun e w'=>e=.returned (.int .i64 (sfC s))∧w'=w:=by
 obtain⟨c0,c1,c2,c3⟩:=hA;cases h1:inB s.1 1 65519
 ·rw[show sfC s=3 by simp[sfC,h1]];go_enter func83,ntmps83;go_wp2_with fail;refine(zBo _ _).mono ?_;rintro e w' ⟨rfl,rfl⟩;rw[h1];go_wp2;go_ret;exact⟨rfl,rfl⟩
 ·cases h2:inB s.2.2.1 0 9
  ·rw[show sfC s=3 by simp[sfC,h2]];go_enter func83,ntmps83;go_wp2_with fail;refine(zBo _ _).mono ?_;rintro e w' ⟨rfl,rfl⟩;rw[h1];go_wp2_with fail;refine(zBW _ _ _ _).mono ?_;rintro e w' ⟨rfl,rfl⟩;rw[h2];go_wp2;go_ret;exact⟨rfl,rfl⟩
  ·have HF:Hid (sfC s=if s.2.1.length=8∧s.2.2.2.length=keyW s.2.2.1 then 0 else 1):=by show _=_;simp[sfC,h1,h2]
   by_cases h8:s.2.1.length=8
   ·have d8:((s.2.1.length:Int) != 8)=false:=by rw[bne_eq_false_iff_eq];omega
    by_cases hp:s.2.2.1=0
    ·have dp:(s.2.2.1==0)=true:=by rw[beq_iff_eq];exact hp
     have dn:(s.2.2.1 != 0)=false:=by rw[bne_eq_false_iff_eq];exact hp
     by_cases hk:s.2.2.2.length=0
     ·have dk:((s.2.2.2.length:Int) != 0)=false:=by rw[bne_eq_false_iff_eq];omega
      rw[HF.out,if_pos ⟨h8,by rw[hk,hp];rfl⟩];clear h8 hp hk HF;go_enter func83,ntmps83;go_wp2_with fail;refine(zBo _ _).mono ?_;rintro e w' ⟨rfl,rfl⟩;rw[h1];go_wp2_with fail;refine(zBW _ _ _ _).mono ?_;rintro e w' ⟨rfl,rfl⟩;rw[h2];go_wp2;go_ret;exact⟨rfl,rfl⟩
     ·have dk:((s.2.2.2.length:Int) != 0)=true:=by rw[bne_iff_ne];omega
      rw[HF.out,if_neg (fun h=>hk (by rw[h.2,hp];rfl))];clear h8 hp hk HF;go_enter func83,ntmps83;go_wp2_with fail;refine(zBo _ _).mono ?_;rintro e w' ⟨rfl,rfl⟩;rw[h1];go_wp2_with fail;refine(zBW _ _ _ _).mono ?_;rintro e w' ⟨rfl,rfl⟩;rw[h2];go_wp2;go_ret;exact⟨rfl,rfl⟩
    ·have dp:(s.2.2.1==0)=false:=by rw[beq_eq_false_iff_ne];exact hp
     have dn:(s.2.2.1 != 0)=true:=by rw[bne_iff_ne];exact hp
     by_cases hk:s.2.2.2.length=32
     ·have dk:((s.2.2.2.length:Int) != 32)=false:=by rw[bne_eq_false_iff_eq];omega
      rw[HF.out,if_pos ⟨h8,by rw[hk,keyW,if_neg hp]⟩];clear h8 hp hk HF;go_enter func83,ntmps83;go_wp2_with fail;refine(zBo _ _).mono ?_;rintro e w' ⟨rfl,rfl⟩;rw[h1];go_wp2_with fail;refine(zBW _ _ _ _).mono ?_;rintro e w' ⟨rfl,rfl⟩;rw[h2];go_wp2;go_ret;exact⟨rfl,rfl⟩
     ·have dk:((s.2.2.2.length:Int) != 32)=true:=by rw[bne_iff_ne];omega
      rw[HF.out,if_neg (fun h=>hk (by rw[h.2,keyW,if_neg hp]))];clear h8 hp hk HF;go_enter func83,ntmps83;go_wp2_with fail;refine(zBo _ _).mono ?_;rintro e w' ⟨rfl,rfl⟩;rw[h1];go_wp2_with fail;refine(zBW _ _ _ _).mono ?_;rintro e w' ⟨rfl,rfl⟩;rw[h2];go_wp2;go_ret;exact⟨rfl,rfl⟩
   ·have d8:((s.2.1.length:Int) != 8)=true:=by rw[bne_iff_ne];omega
    rw[HF.out,if_neg (fun h=>h8 h.1)];clear h8 HF;go_enter func83,ntmps83;go_wp2_with fail;refine(zBo _ _).mono ?_;rintro e w' ⟨rfl,rfl⟩;rw[h1];go_wp2_with fail;refine(zBW _ _ _ _).mono ?_;rintro e w' ⟨rfl,rfl⟩;rw[h2];go_wp2;go_ret;exact⟨rfl,rfl⟩
theorem zHp (b o n:Nat) (x:zAQ) (p1 p2 p3 p4:Option Addr) (q1 q2 q3 q4:Nat) (w:World) (c0:w.cell? ⟨b,o,none⟩=some (.slice p1 x.1.length q1)) (c1:w.cell? ⟨b,o+1,none⟩=some (.slice p2 x.2.1.length q2)) (c2:w.cell? ⟨b,o+2,none⟩=some (.slice p3 x.2.2.1.length q3)) (c3:w.cell? ⟨b,o+3,none⟩=some (.slice p4 x.2.2.2.length q4)):
  Calls prog 117 #[.pointer (some ⟨b,o,none⟩),.int .i64 (n:Int)] w fun e w'=>e=.returned (.bool (seB x n))∧w'=w:=by
 have F:Hid (∀ m:Nat,((m:Int)==(n:Int))=decide (m=n)):=fun m=>by
  by_cases h:m=n
  ·rw[decide_eq_true h,beq_iff_eq,h]
  ·rw[decide_eq_false h,beq_eq_false_iff_ne];omega
 have d1:=F.out x.1.length;have d2:=F.out x.2.1.length;have d3:=F.out x.2.2.1.length;have d4:=F.out x.2.2.2.length;unfold seB
 cases e1:decide (x.1.length=n) <;> cases e2:decide (x.2.1.length=n) <;> cases e3:decide (x.2.2.1.length=n) <;> cases e4:decide (x.2.2.2.length=n)
 all_goals
  rw[e1] at d1;rw[e2] at d2;rw[e3] at d3;rw[e4] at d4;clear e1 e2 e3 e4;go_enter func117,ntmps117;go_wp2;go_ret;exact⟨rfl,rfl⟩
theorem zEr (b:Nat) (e:EndD) (p1 p2 p3 p4 p5 p6 p7 p8:Option Addr) (q1 q2 q3 q4 q5 q6 q7 q8:Nat) (w:World)
  (A:Has w b [.int .i64 e.1.1,.slice p1 e.1.2.1.length q1,.int .i64 e.1.2.2.1,.slice p2 e.1.2.2.2.length q2,.int .i64 e.2.1,.int .i64 e.2.2.1,.slice p3 e.2.2.2.1.length q3,.slice p4 e.2.2.2.2.1.length q4,.slice p5 e.2.2.2.2.2.1.length q5,.slice p6 e.2.2.2.2.2.2.1.length q6,.slice p7 e.2.2.2.2.2.2.2.1.length q7,.slice p8 e.2.2.2.2.2.2.2.2.length q8]) (hr:RdL msgC w p3 q3 e.2.2.2.1):
  Calls prog 61 #[.pointer (some ⟨b,0,none⟩)] w fun x w'=>x=.returned (.int .i64 (efC e))∧w'=w:=by
 have KS:Hid (∀ w',w'=w→Calls prog 83 #[.pointer (some ⟨b,0,none⟩)] w' fun x w'=>x=.returned (.int .i64 (sfC e.1))∧w'=w):=fun w' h=>by
  subst h;exact zFu b 0 e.1 p1 p2 q1 q2 w' ⟨A 0 _ rfl,A 1 _ rfl,A 2 _ rfl,A 3 _ rfl⟩
 have KL:Hid (∀ n:Nat,Calls prog 117 #[.pointer (some ⟨b,8,none⟩),.int .i64 (n:Int)] w fun x w'=>x=.returned (.bool (seB e.2.2.2.2.2 n))∧w'=w):=fun n=>
  zHp b 8 n e.2.2.2.2.2 p5 p6 p7 p8 q5 q6 q7 q8 w (A 8 _ rfl) (A 9 _ rfl) (A 10 _ rfl) (A 11 _ rfl)
 have c4:=A 4 _ rfl;have c5:=A 5 _ rfl;have c6:=A 6 _ rfl;have c7:=A 7 _ rfl;clear A;have HR:Hid (RdL msgC w p3 q3 e.2.2.2.1):=hr;have hq1:e.2.2.2.1.length≤q3:=hr.1;have hq2:q3≤2 ^ 63-1:=hr.2.1;clear hr
 suffices H:∀ Q:Ending→World→Prop,Hid (∀ c w',c=efC e→w'=w→Q (.returned (.int .i64 c)) w')→Calls prog 61 #[.pointer (some ⟨b,0,none⟩)] w Q from H _ (show Hid _ from fun c w' hc hb=>⟨by rw[hc],hb⟩)
 intro Q HQ
 by_cases h0:sfC e.1=0
 ·have HE:Hid (efC e=if inB e.2.1 1 3&&inB e.2.2.1 0 2 then (if e.2.2.2.1.length≤4 then (if zAJ e.2.2.2.1=0 then (if (e.2.2.2.2.1.length=0∨e.2.2.2.2.1.length=32)∧seB e.2.2.2.2.2 (zBj e.2.1)=true then 0 else 1) else zAJ e.2.2.2.1) else 2) else 3):=by show _=_;rw[efC,if_pos h0]
  rw[h0] at KS;clear h0;cases h1:inB e.2.1 1 3
  ·have HE2:Hid (efC e=3):=by show _=_;rw[HE.out,h1];rfl
   go_enter func61,ntmps61;go_wp2_with fail;refine(KS.out _ rfl).mono ?_;rintro x w' ⟨rfl,rfl⟩;go_wp2_with fail;refine(zBW _ _ _ _).mono ?_;rintro x w' ⟨rfl,hw⟩;subst hw;rw[h1];go_wp2;exact HQ.out _ _ HE2.out.symm rfl
  ·cases h2:inB e.2.2.1 0 2
   ·have HE2:Hid (efC e=3):=by show _=_;rw[HE.out,h2,h1];rfl
    go_enter func61,ntmps61;go_wp2_with fail;refine(KS.out _ rfl).mono ?_;rintro x w' ⟨rfl,rfl⟩;go_wp2_with fail;refine(zBW _ _ _ _).mono ?_;rintro x w' ⟨rfl,hw⟩;subst hw;rw[h1];go_wp2_with fail;refine(zBW _ _ _ _).mono ?_;rintro x w' ⟨rfl,hw⟩;subst hw;rw[h2];go_wp2;exact HQ.out _ _ HE2.out.symm rfl
   ·replace HE:Hid (efC e=if e.2.2.2.1.length≤4 then (if zAJ e.2.2.2.1=0 then (if (e.2.2.2.2.1.length=0∨e.2.2.2.2.1.length=32)∧seB e.2.2.2.2.2 (zBj e.2.1)=true then 0 else 1) else zAJ e.2.2.2.1) else 2):=by show _=_;rw[HE.out,h1,h2];rfl
    by_cases h4:e.2.2.2.1.length≤4
    ·replace HE:Hid (efC e=if zAJ e.2.2.2.1=0 then (if (e.2.2.2.2.1.length=0∨e.2.2.2.2.1.length=32)∧seB e.2.2.2.2.2 (zBj e.2.1)=true then 0 else 1) else zAJ e.2.2.2.1):=by show _=_;rw[HE.out,if_pos h4]
     have h4I:¬ (4<(e.2.2.2.1.length:Int)):=by omega
     have H4:Hid (e.2.2.2.1.length≤4):=h4;clear h4;generalize e.2.2.2.1=l at *;go_enter func61,ntmps61;go_wp2_with fail;refine(KS.out _ rfl).mono ?_;rintro x w' ⟨rfl,rfl⟩;go_wp2_with fail;refine(zBW _ _ _ _).mono ?_;rintro x w' ⟨rfl,hw⟩;subst hw;rw[h1];go_wp2_with fail;refine(zBW _ _ _ _).mono ?_;rintro x w' ⟨rfl,hw⟩;subst hw;rw[h2];go_wp2_with fail
     go_loopw [4] (fun i wr=>∃ k:Nat,k≤l.length∧i=.int .i64 k∧(∀ (j:Nat) (b:Int×List UInt8),j<k→l[j]?=some b→zF b.1 b.2.length=0)∧wr=w')
      (fun i _=>l.length-(intOf i).toNat)
     case atStart=>exact⟨0,Nat.zero_le _,rfl,fun j b hj=>absurd hj (Nat.not_lt_zero _),rfl⟩
     case round=>
      obtain⟨k,hk,rfl,hall,rfl⟩:=hrel
      by_cases hlt:k<l.length
      ·have hI:(k:Int)<(l.length:Int):=by omega
       obtain⟨bb,o,e1,hc⟩:=HR.out.2.2.2 (by omega);subst e1;obtain⟨a,ha⟩:∃ a,l[k]?=some a:=⟨l[k],by simp[hlt]⟩;obtain⟨us,hrep,hcell⟩:=hc k a ha;obtain⟨pa,qa,rfl,ra⟩:=zAc hrep;have m0:=hcell 0 _ rfl;have m1:=hcell 1 _ rfl;rw[show msgC.n=2 from rfl] at m0 m1;rw[Nat.add_zero] at m0;have KF:Hid (Calls prog 116 #[.pointer (some ⟨bb,o+k*2,none⟩)] wr fun e w'=>e=.returned (.int .i64 (zF a.1 a.2.length))∧w'=wr):=zED bb (o+k*2) a.2.length qa pa a.1 wr m0 m1;clear hc hcell hrep m0 m1
       by_cases hf:zF a.1 a.2.length=0
       ·have hall2:Hid (∀ (j:Nat) (b:Int×List UInt8),j<k+1→l[j]?=some b→zF b.1 b.2.length=0):=fun j b hj hb=>by
         by_cases h:j<k
         ·exact hall j b h hb
         ·rw[show j=k by omega,ha] at hb;cases hb;exact hf
        rw[hf] at KF;clear hf hall;go_wp2_with fail;refine KF.out.mono ?_;rintro e w2 ⟨rfl,hw⟩;subst hw;go_wp2_with fail;go_roundw
        case rel=>exact⟨k+1,by omega,by go_num,hall2.out,trivial⟩
        case measure=>simp[intOf];omega
       ·have hFF:Hid (zAJ l=zF a.1 a.2.length):=zFS ha hall hf
        have HE2:Hid (efC e=zF a.1 a.2.length):=by show _=_;rw[HE.out,if_neg (by rw[hFF.out];exact hf),hFF.out]
        obtain⟨fc,hfc⟩:∃ fc,Hid (zF a.1 a.2.length=fc):=⟨_,rfl⟩
        have hz:(fc != 0)=true:=by rw[bne_iff_ne,← hfc.out];exact hf
        rw[hfc.out] at KF HE2;clear hf hall hFF HE;go_wp2_with fail;refine KF.out.mono ?_;rintro e w2 ⟨rfl,hw⟩;subst hw;go_wp2;exact HQ.out _ _ HE2.out.symm rfl
      ·have ek:k=l.length:=by omega
       subst ek
       have hF0:Hid (zAJ l=0):=zCm fun j b hb=>hall j b (List.getElem?_eq_some_iff.1 hb).1 hb
       replace HE:Hid (efC e=if (e.2.2.2.2.1.length=0∨e.2.2.2.2.1.length=32)∧seB e.2.2.2.2.2 (zBj e.2.1)=true then 0 else 1):=by show _=_;rw[HE.out,if_pos hF0.out]
       clear hF0 hall hlt;obtain⟨n,HN⟩:∃ n,Hid (n=e.2.2.2.2.1.length):=⟨_,rfl⟩;rw[← HN.out] at HE c7
       by_cases hb:n=0∨n=32
       ·have d:((n:Int) != 0)=false∨((n:Int) != 0)=true∧((n:Int) != 32)=false:=by
         rcases hb with h | h
         ·left;rw[bne_eq_false_iff_eq];omega
         ·right;exact⟨by rw[bne_iff_ne];omega,by rw[bne_eq_false_iff_eq];omega⟩
        replace HE:Hid (efC e=if seB e.2.2.2.2.2 (zBj e.2.1)=true then 0 else 1):=by
         show _=_
         rw[HE.out]
         by_cases h:seB e.2.2.2.2.2 (zBj e.2.1)=true
         ·rw[if_pos ⟨hb,h⟩,if_pos h]
         ·rw[if_neg (fun x=>h x.2),if_neg h]
        clear hb;have KW:=KL.out (zBj e.2.1)
        by_cases h3:e.2.1=3
        ·have d3:(e.2.1==3)=true:=by rw[beq_iff_eq];exact h3
         rw[show zBj e.2.1=32 by rw[zBj,if_pos h3]] at KW HE;clear h3;rcases d with d | ⟨d,d2⟩
         all_goals
          go_wp2_with fail;refine KW.mono ?_;rintro x w2 ⟨rfl,hw⟩;subst hw;cases hs:seB e.2.2.2.2.2 32
          ·have HE2:Hid (efC e=1):=by show _=_;rw[HE.out,hs];rfl
           go_wp2;exact HQ.out _ _ HE2.out.symm rfl
          ·have HE2:Hid (efC e=0):=by show _=_;rw[HE.out,hs];rfl
           go_wp2;exact HQ.out _ _ HE2.out.symm rfl
        ·have d3:(e.2.1==3)=false:=by rw[beq_eq_false_iff_ne];exact h3
         rw[show zBj e.2.1=0 by rw[zBj,if_neg h3]] at KW HE;clear h3;rcases d with d | ⟨d,d2⟩
         all_goals
          go_wp2_with fail;refine KW.mono ?_;rintro x w2 ⟨rfl,hw⟩;subst hw;cases hs:seB e.2.2.2.2.2 0
          ·have HE2:Hid (efC e=1):=by show _=_;rw[HE.out,hs];rfl
           go_wp2;exact HQ.out _ _ HE2.out.symm rfl
          ·have HE2:Hid (efC e=0):=by show _=_;rw[HE.out,hs];rfl
           go_wp2;exact HQ.out _ _ HE2.out.symm rfl
       ·have d:((n:Int) != 0)=true:=by rw[bne_iff_ne];omega
        have d2:((n:Int) != 32)=true:=by rw[bne_iff_ne];omega
        replace HE:Hid (efC e=1):=by show _=_;rw[HE.out,if_neg (fun x=>hb x.1)]
        clear hb;go_wp2;exact HQ.out _ _ HE.out.symm rfl
    ·have h4I:4<(e.2.2.2.1.length:Int):=by omega
     have HE2:Hid (efC e=2):=by show _=_;rw[HE.out,if_neg h4]
     clear h4 HE;go_enter func61,ntmps61;go_wp2_with fail;refine(KS.out _ rfl).mono ?_;rintro x w' ⟨rfl,rfl⟩;go_wp2_with fail;refine(zBW _ _ _ _).mono ?_;rintro x w' ⟨rfl,hw⟩;subst hw;rw[h1];go_wp2_with fail;refine(zBW _ _ _ _).mono ?_;rintro x w' ⟨rfl,hw⟩;subst hw;rw[h2];go_wp2;exact HQ.out _ _ HE2.out.symm rfl
 ·have HE2:Hid (efC e=sfC e.1):=by show _=_;rw[efC,if_neg h0]
  have hd:(sfC e.1 != 0)=true:=by rw[bne_iff_ne];exact h0
  clear h0;generalize sfC e.1=cc at *;go_enter func61,ntmps61;go_wp2_with fail;refine(KS.out _ rfl).mono ?_;rintro x w' ⟨rfl,rfl⟩;go_wp2;exact HQ.out _ _ HE2.out.symm rfl
theorem zIO {l:List MsgD} {k:Nat} {a:MsgD} (h:l[k]?=some a) (hl:zBD l≤1000000):a.2.length≤1000000:=yi (zGp h) hl
theorem zAN (l:List MsgD) (p:Option Addr) (q:Nat) (w:World) (hr:RdL msgC w p q l) (hl:zBD l≤1000000):
  Calls prog 65 #[.slice p l.length q] w fun e w'=>∃ v xs fp,e=.returned v∧OwnL 46 msgC w' w.heap.size v l xs fp∧Below w.heap.size w w':=by
 have HR:Hid (RdL msgC w p q l):=hr;have hq1:l.length≤q:=hr.1;have hq2:q≤2 ^ 63-1:=hr.2.1;have HL:Hid (zBD l≤1000000):=hl
 have hln:(l.length:Int)≤1000000:=by
  have:l.length≤zBD l:=Nat.le_add_left _ _;omega
 have O1:=zHY w w.heap.size (yf _);have BW:=zA w (.cells #[] 46);clear hr hl;go_enter func65,ntmps65;go_wp2_with fail
 go_loopw [3,4] (fun v i wr=>∃ (k:Nat) (xs:List Value) (fp:List Nat),k≤l.length∧i=.int .i64 k∧OwnL 46 msgC wr w.heap.size v (l.take k) xs fp∧Below w.heap.size w wr)
  (fun _ i _=>l.length-(intOf i).toNat)
 case atStart=>exact⟨0,[],[],Nat.zero_le _,rfl,O1,BW⟩
 case round=>
  clear O1 BW;obtain⟨k,xs,fp,hk,rfl,ho,BW⟩:=hrel
  by_cases hlt:k<l.length
  ·have hI:(k:Int)<(l.length:Int):=by omega
   obtain⟨b,o,e1,hc⟩:=(HR.out.keep BW).2.2.2 (by omega);subst e1;obtain⟨a,ha⟩:∃ a,l[k]?=some a:=⟨l[k],by simp[hlt]⟩;obtain⟨us,hrep,hcell⟩:=hc k a ha;obtain⟨pa,qa,rfl,ra⟩:=zAc hrep;have m0:=hcell 0 _ rfl;have m1:=hcell 1 _ rfl;rw[show msgC.n=2 from rfl] at m0 m1;rw[Nat.add_zero] at m0
   have HTk:Hid (l.take (k+1)=l.take k++[a]):=by show _=_;rw[List.take_add_one,ha];rfl
   have HA:Hid (a.2.length≤1000000):=zIO ha HL.out;have HRA:Hid (Rd wr pa qa a.2):=ra;obtain⟨out,HO⟩:∃ out,Hid (out=l.take k):=⟨_,rfl⟩
   have hol:(out.length:Int)=(k:Int):=by rw[HO.out,List.length_take];omega
   have HOL:Hid (out.length=k):=by show _=_;omega
   rw[← HO.out] at ho;obtain⟨po,qo,rfl,hord⟩:=ho.rd;have hqo2:qo≤2 ^ 63-1:=hord.2.1;clear hc hcell hrep ra hord;go_wp2_with fail;have hc0:=yo m0;have hc1:=yo m1;have hne:=yq wr;refine wp_region_mix 11 3 2 rfl (by kernel_rfl) (by kernel_rfl) (by kernel_rfl) (by kernel_rfl) (by kernel_rfl) ?_;simp only[List.take_succ_cons,List.take_zero]
   repeat (go_big_quiet_step (fail))
   refine wpQuiet_nil ?_;refine wpM_call (k:=11) rfl (by kernel_rfl) (by kernel_rfl) (by go_simp) 77 _ #[.slice pa a.2.length qa] (fun w=>by go_simp) rfl ?_;rintro _ ⟨s1,rfl⟩;refine(zBe pa qa a.2 _ (HRA.out.keep s1.h) HA.out).mono ?_;rintro e w3 ⟨u3,rfl,k3,hb3⟩;refine⟨u3,rfl,⟨⟨_,hb3⟩,rfl⟩,?_⟩;obtain⟨pv,qv,rfl,-⟩:=k3.rd;refine wpM_make (k:=12) rfl (by kernel_rfl) (by kernel_rfl) (by go_simp) ?_;rintro _ ⟨s4,rfl⟩;refine⟨.agg #[.int .i64 a.1,.slice pv a.2.length qv],s4.w,by go_simp,⟨⟨_,Below.refl _ _⟩,rfl⟩,?_⟩;refine wpM_make (k:=13) rfl (by kernel_rfl) (by kernel_rfl) (by go_simp) ?_;rintro _ ⟨s5,rfl⟩;refine⟨.slice (some ⟨s5.w.heap.size,0,none⟩) 1 1,s5.w.alloc (.cells #[.int .i64 a.1,.slice pv a.2.length qv] 46),by go_simp,⟨⟨_,zA _ _⟩,rfl⟩,?_⟩;refine wpM_tail rfl (by kernel_rfl) (by decide) ?_;rintro _ ⟨s6,rfl⟩
   have hnew:∀ j u,[Value.int .i64 a.1,.slice pv a.2.length qv][j]?=some u→s6.w.cell? ((⟨s5.w.heap.size,0,none⟩:Addr).add j)=some u:=fun j u hj=>zN ((yr s5.w [.int .i64 a.1,.slice pv a.2.length qv] 46).cells j u hj) s6.h
   have hb4:=yn (yn s4.h s5.h) (yn (zA s5.w (.cells #[.int .i64 a.1,.slice pv a.2.length qv] 46)) s6.h);have k5:=k3.stay hb4;have hb5:=yn (yn s1.h hb3) hb4;have ho5:=ho.stay hb5;have BW5:=yn BW hb5;have hz4:Hid (wr.heap.size≤s1.w.heap.size):=s1.h.size;have hrow5:Hid (s6.w.ownsRow w.heap.size 46 2 (.slice po out.length qo) out.length xs):=ho5.row;generalize s6.w=W at *;generalize s5.w.heap.size=H5 at *;generalize s1.w.heap.size=H1 at *;clear hc0 hc1 hne;simp only[yd,ye];obtain⟨i0,hi,hz0,hz1,hz2⟩:=info_parts zBM
   go_simp
   go_wp2_with (at_builtin;refine wpList_append_lies _ rfl (.tmp 12) (.tmp 25) 28 rfl w.heap.size 46 i0 (.agg #[.int .i64 0,.slice none 0 0]) 2 32 underlying28 hi hz0 hz1 hz2 rfl (by decide) (.slice po out.length qo) out.length xs rfl hrow5.out ⟨H5,0,none⟩ 1 1 [.int .i64 a.1,.slice pv a.2.length qv] rfl rfl hnew (by intro u hu;simp at hu;rcases hu with rfl | rfl <;> rfl) (by decide) (by unfold maxLen;omega) (by omega) BW5.size W.heap.size rfl ?_;intro g6 c6 w6 hown6 hgrow6 hat6 hlt6)
   have hlow:Hid (∀ j,(Value.slice pv a.2.length qv).ownBlock=some j→H1≤j):=fun j hj=>k5.ge j hj
   have hinsO:Hid (∀ j,j∈(Value.slice po out.length qo).ownBlock.toList++fp→j<wr.heap.size):=fun j hj=>(ho.ins j hj).2
   have ka:=zAA (a:=a) (k5.lower (B':=w.heap.size) (by have:=hz4.out;have:=BW.size;omega))
   have OP:=ho5.push ka (fun j hj hj2=>by
    have h1:=hlow.out j (mem_opt.1 hj);have h2:=hinsO.out j hj2;have h3:=hz4.out
    omega) (k:=out.length+1) (v':=.slice (some ⟨g6,0,none⟩) (out.length+1) c6) (g:=g6) hown6 (by simp) hgrow6 rfl hat6
   have BW6:=BW5.grown hgrow6 BW5.size (fun k hk=>by have h:=hinsO.out k;have h2:=(ho5.ins k (List.mem_append_left _ (mem_opt.2 hk))).1;exact h2);rw[HO.out,← HTk.out] at OP;clear ho ho5 k3 k5 hown6 hgrow6 hat6 hnew hrow5 ka BW5 BW hb3 hb4 hb5 m0 m1;go_wp2_with fail;go_roundw
   case rel=>exact⟨k+1,_,_,by omega,by go_num,by first | exact OP | (rw[← HO.out] at OP;exact OP),BW6⟩
   case measure=>simp[intOf];omega
  ·have e:k=l.length:=by omega
   subst e;rw[List.take_length] at ho;obtain⟨po,qo,rfl,-⟩:=ho.rd;go_wp2_with fail;go_ret;exact⟨_,_,_,rfl,ho,BW⟩
theorem zCy (s:zT) (p p2:Option Addr) (q q2:Nat) (w:World) (hr:Rd w p q s.2.1) (hr2:Rd w p2 q2 s.2.2.2) (hl:s.2.1.length≤1000000) (hl2:s.2.2.2.length≤1000000):
  Calls prog 85 #[.agg #[.int .i64 s.1,.slice p s.2.1.length q,.int .i64 s.2.2.1,.slice p2 s.2.2.2.length q2]] w fun e w'=>∃ u v fp,e=.returned (.agg #[.int .i64 s.1,u,.int .i64 s.2.2.1,v])∧sideC.own w' w.heap.size s [.int .i64 s.1,u,.int .i64 s.2.2.1,v] fp∧Below w.heap.size w w':=by
 have HR2:Hid (Rd w p2 q2 s.2.2.2):=hr2;have BW:=yt (zA w (.cells #[.int .i64 s.1,.slice p s.2.1.length q,.int .i64 s.2.2.1,.slice p2 s.2.2.2.length q2] 25)) (.cells #[.int .i64 0,.slice none 0 0,.int .i64 0,.slice none 0 0] 25);have A:=(yr w [.int .i64 s.1,.slice p s.2.1.length q,.int .i64 s.2.2.1,.slice p2 s.2.2.2.length q2] 25).old _ (.cells #[.int .i64 0,.slice none 0 0,.int .i64 0,.slice none 0 0] 25);have R:=yr (w.alloc (.cells #[.int .i64 s.1,.slice p s.2.1.length q,.int .i64 s.2.2.1,.slice p2 s.2.2.2.length q2] 25)) [.int .i64 0,.slice none 0 0,.int .i64 0,.slice none 0 0] 25;rw[zB] at R;have K1:=zBe p q s.2.1 _ (hr.keep BW) hl;have HL2:Hid (s.2.2.2.length≤1000000):=hl2
 have hz0:Hid (((w.alloc (.cells #[.int .i64 s.1,.slice p s.2.1.length q,.int .i64 s.2.2.1,.slice p2 s.2.2.2.length q2] 25)).alloc (.cells #[.int .i64 0,.slice none 0 0,.int .i64 0,.slice none 0 0] 25)).heap.size=w.heap.size+2):=by show _=_;rw[zB,zB]
 clear hr hr2 hl hl2;go_enter func85,ntmps85;go_wp2_with fail;refine K1.mono ?_;rintro e w1 ⟨u1,rfl,k1,hb1⟩;rw[hz0.out] at k1;obtain⟨a1,c1,rfl,-⟩:=k1.rd;replace A:=A.stay hb1;replace R:=R.stay hb1;replace BW:=yn BW hb1;have f0:=A.frozen;have a1c:=zQ (A.cell 1) rfl;have a3c:=zQ (A.cell 3) rfl;have A2:=A.set 1 (.slice a1 s.2.1.length c1);have R2:=R.setOther (a:=⟨w.heap.size,1,none⟩) (by show w.heap.size+1≠w.heap.size;omega) (.slice a1 s.2.1.length c1);have BW2:=BW.setCell (p:=⟨w.heap.size,1,none⟩) (yf _) (.slice a1 s.2.1.length c1);have k12:=k1.set (a:=⟨w.heap.size,1,none⟩) (by show w.heap.size<w.heap.size+2;omega) (.slice a1 s.2.1.length c1)
 have HG:Hid (∀ k,(Value.slice a1 s.2.1.length c1).ownBlock=some k→k<w1.heap.size):=fun k hk=>k1.lt k hk
 have hz1:Hid (w.heap.size+2≤w1.heap.size):=by have h:=hb1.size;rw[hz0.out] at h;exact h
 clear hb1 K1 k1 A R BW;simp only[List.set_cons_zero,List.set_cons_succ] at A2;have hsz:Hid ((w1.setCell ⟨w.heap.size,1,none⟩ (.slice a1 s.2.1.length c1)).heap.size=w1.heap.size):=World.size_setCell _ _ _;have K2:=zBe p2 q2 s.2.2.2 _ (HR2.out.keep BW2) HL2.out;generalize eW:w1.setCell ⟨w.heap.size,1,none⟩ (.slice a1 s.2.1.length c1)=W1 at *;have a3d:=zQ (A2.cell 3) rfl;go_wp2_with fail;refine K2.mono ?_;rintro e w2 ⟨u2,rfl,k2,hb2⟩;obtain⟨a2,c2,rfl,-⟩:=k2.rd;rw[hsz.out] at k2
 have HG2:Hid (∀ k,(Value.slice a2 s.2.2.2.length c2).ownBlock=some k→w1.heap.size≤k):=fun k hk=>k2.ge k hk
 replace k2:=k2.lower hz1.out;replace k12:=k12.stay hb2;replace A2:=A2.stay hb2;replace R2:=R2.stay hb2;replace BW2:=yn BW2 hb2;obtain⟨d0,d1,d2,d3⟩:=zc4 A2;have fd:=A2.frozen;obtain⟨r0,r1,r2,r3⟩:=zc4 R2;have fr:=R2.frozen;clear A2 R2 K2 hb2 eW a1c a3c a3d f0;go_wp2_with fail;refine bodyPost_ret (v:=.agg #[.int .i64 s.1,.slice a1 s.2.1.length c1,.int .i64 s.2.2.1,.slice a2 s.2.2.2.length c2]) (by simp[results,results85,go_sem,r0,r1,r2,r3]) rfl ⟨_,_,_,rfl,sideC.low (zCV 0 zBd (zCV w1.heap.size (zB6 (u:=.slice a1 s.2.1.length c1) ?_) (zCV 0 zBd (zB6 (u:=.slice a2 s.2.2.2.length c2) ?_) zGN (fun _ _=>Nat.zero_le _)) (fun k hk=>HG.out k (mem_opt.1 hk)) (zMI zJ6 (fun k hk=>HG2.out k (mem_opt.1 hk)))) zGN (fun _ _=>Nat.zero_le _)) (Nat.le_add_right _ 2),?_⟩
 ·exact(((((k12.set (by show w.heap.size<_;omega) _).set (by show w.heap.size+1<_;omega) _).set (by show w.heap.size+1<_;omega) _).set (by show w.heap.size+1<_;omega) _).set (by show w.heap.size+1<_;omega) _)
 ·exact(((((k2.set (by show w.heap.size<_;omega) _).set (by show w.heap.size+1<_;omega) _).set (by show w.heap.size+1<_;omega) _).set (by show w.heap.size+1<_;omega) _).set (by show w.heap.size+1<_;omega) _)
 ·exact((((BW2.setCell (yf _) _).setCell zzA _).setCell zzA _).setCell zzA _).setCell zzA _
theorem zX {α β:Type} {c:Cod α} {d:Cod β} {w:World} {B:Nat} {a:α×β} {us ts:List Value} {f g:List Nat} (h1:c.own w B a.1 us f) (h2:d.own w B a.2 ts g) (hd:∀ k,k∈f→k∉g):(zCI c d).own w B a (us++ts) (f++g):=
 ⟨us,ts,f,g,rfl,rfl,List.nodup_append.2 ⟨c.nd h1,d.nd h2,fun _ ha _ hb e=>hd _ ha (e▸hb)⟩,h1,h2⟩
theorem zDM (w:World) (B:Nat):bytC.own w B [] [.slice none 0 0] []:=⟨_,rfl,zO _ _,rfl⟩
theorem zDN (w:World) (B:Nat):secretsC.own w B zeroX [.slice none 0 0,.slice none 0 0,.slice none 0 0,.slice none 0 0] []:=
 zX (a:=zeroX) (us:=[.slice none 0 0]) (f:=[]) (zDM w B) (zX (a:=zeroX.2) (us:=[.slice none 0 0]) (f:=[]) (zDM w B) (zX (a:=zeroX.2.2) (us:=[.slice none 0 0]) (f:=[]) (zDM w B) (zDM w B) (fun _ h=>by cases h)) (fun _ h=>by cases h)) (fun _ h=>by cases h)
theorem zEN {w:World} {B:Nat} {e:EndD} {us xs:List Value} {um ub:Value} {fs fm fb fx:List Nat} (ks:sideC.own w B e.1 us fs) (km:msgsC.own w B e.2.2.2.1 [um] fm) (kb:bytC.own w B e.2.2.2.2.1 [ub] fb) (kx:secretsC.own w B e.2.2.2.2.2 xs fx)
  (a1:∀ k,k∈fs→k∉fm) (a2:∀ k,k∈fs→k∉fb) (a3:∀ k,k∈fs→k∉fx) (a4:∀ k,k∈fm→k∉fb) (a5:∀ k,k∈fm→k∉fx) (a6:∀ k,k∈fb→k∉fx):
  endC.own w B e (us++([.int .i64 e.2.1]++([.int .i64 e.2.2.1]++([um]++([ub]++xs))))) (fs++([]++([]++(fm++(fb++fx))))):=
 zX (a:=e) ks (zX (a:=e.2) (us:=[.int .i64 e.2.1]) zBd (zX (a:=e.2.2) (us:=[.int .i64 e.2.2.1]) zBd (zX (a:=e.2.2.2) km (zX (a:=e.2.2.2.2) kb kx a6) (fun k h h2=>by
  rcases List.mem_append.1 h2 with h3 | h3
  ·exact a4 k h h3
  ·exact a5 k h h3)) (fun _ h=>by cases h)) (fun _ h=>by cases h)) (fun k h h2=>by
  simp only[yl,ym] at h2;rcases h2 with h3 | h3 | h3
  ·exact a1 k h h3
  ·exact a2 k h h3
  ·exact a3 k h h3)
theorem zCz {w:World} {B:Nat} {r:zAf} {us:List Value} {ud:Value} {fe fd:List Nat} (ke:endC.own w B r.2.1 us fe) (kd:msgsC.own w B r.2.2 [ud] fd) (hd:∀ k,k∈fe→k∉fd):
  endResultC.own w B r ([.int .i64 r.1]++(us++[ud])) ([]++(fe++fd)):=
 zX (a:=r) (us:=[.int .i64 r.1]) zBd (zX (a:=r.2) ke kd hd) (fun _ h=>by cases h)
theorem zKl (w:World) (B:Nat):endC.own w B zM6 xZ3 []:=
 zEN (e:=zM6) (us:=[.int .i64 0,.slice none 0 0,.int .i64 0,.slice none 0 0]) (fs:=[]) (fm:=[]) (fb:=[]) (fx:=[]) (zX (a:=zeroS) (us:=[.int .i64 0]) (f:=[]) zBd (zX (a:=zeroS.2) (us:=[.slice none 0 0]) (f:=[]) (zDM w B) (zX (a:=zeroS.2.2) (us:=[.int .i64 0]) (f:=[]) zBd (zDM w B) (fun _ h=>by cases h)) (fun _ h=>by cases h)) (fun _ h=>by cases h)) ⟨_,_,_,rfl,zEE w B,rfl⟩ (zDM w B) (zDN w B) (fun _ h=>by cases h) (fun _ h=>by cases h) (fun _ h=>by cases h) (fun _ h=>by cases h) (fun _ h=>by cases h) (fun _ h=>by cases h)
theorem zAO (w:World) (B:Nat) (c:Int):endResultC.own w B (badE c) [.int .i64 c,.int .i64 0,.slice none 0 0,.int .i64 0,.slice none 0 0,.int .i64 0,.int .i64 0,.slice none 0 0,.slice none 0 0,.slice none 0 0,.slice none 0 0,.slice none 0 0,.slice none 0 0,.slice none 0 0] []:=
 zCz (r:=badE c) (fe:=[]) (fd:=[]) (zKl w B) ⟨_,_,_,rfl,zEE w B,rfl⟩ (fun _ h=>by cases h)
theorem zI6 {w:World} {B g:Nat} {l:List MsgD} {xs:List Value} {fp:List Nat} (A:Arr w g 46 xs) (hg:B≤g) (hall:OwnAll msgC w B l xs fp) (hnd:fp.Nodup) (hne:g∉fp) (hn:l.length≤1000):
  OwnL 46 msgC w B (.slice (some ⟨g,0,none⟩) l.length l.length) l xs fp:=by
 have hl:=hall.len;refine⟨⟨hl,.inr ⟨g,l.length,xs.toArray,rfl,hg,A,yf _,by unfold maxLen;omega,by simpa using hl,?_⟩⟩,hall,?_⟩
 ·rw[List.take_of_length_le (by simp[hl])]
 ·show([g]++fp).Nodup
  exact List.nodup_append.2 ⟨by simp,hnd,fun x hx y hy e=>by
   rw[List.mem_singleton.1 hx] at e;subst e
   exact hne hy⟩
theorem zLj {w:World} {B g q:Nat} {k:Int} {p:Option Addr} {bs:List UInt8} (A:Arr w g 46 [.int .i64 k,.slice p bs.length q]) (hg:B≤g) (o:Own w B (.slice p bs.length q) bs) (hne:g∉(Value.slice p bs.length q).ownBlock.toList):
  msgsC.own w B [(k,bs)] [.slice (some ⟨g,0,none⟩) 1 1] (g :: (Value.slice p bs.length q).ownBlock.toList):=by
 have h:=zI6 (l:=[(k,bs)]) A hg ⟨_,[],_,[],by simp,by simp,zAA (a:=(k,bs)) o,rfl,rfl⟩ (zAo _) hne (by simp);exact⟨_,_,_,rfl,h,rfl⟩
theorem zAv {w:World} {g q:Nat} {k:Int} {p:Option Addr} {bs:List UInt8} (A:Arr w g 46 [.int .i64 k,.slice p bs.length q]) (r:Rd w p q bs):RdL msgC w (some ⟨g,0,none⟩) 1 [(k,bs)]:=by
 refine⟨yf _,by unfold maxLen;omega,(fun e=>by cases e),fun _=>⟨g,0,rfl,fun i a hi=>?_⟩⟩
 have h0:i=0:=by
  have:=(List.getElem?_eq_some_iff.1 hi).1;simp at this;exact this
 subst h0;cases hi;refine⟨_,zDp (a:=(k,bs)) r,fun j u hj=>?_⟩;rw[Nat.zero_mul,Nat.zero_add];exact(A.cell j).trans hj
end Go.Proofs.YtiabacnmmojfjaaGreatDoor
