import Derived.Test.YtiabacnmmojfjabGreatDoorJoint19
import Derived.Test.YtiabacnmmojfjabGreatDoorJoint14
import Derived.Test.YtiabacnmmojfjabGreatDoorJoint1
import Derived.Handy
import Derived.Test.YtiabacnmmojfjabGreatDoorJoint17
import Derived.Test.YtiabacnmmojfjabGreatDoorJoint6
import Derived.Test.YtiabacnmmojfjabGreatDoorJoint11
import Derived.Test.YtiabacnmmojfjabGreatDoorJoint18
import Derived.Test.YtiabacnmmojfjabGreatDoorJoint12
import Derived.Test.YtiabacnmmojfjabGreatDoorJoint7
import Derived.Test.YtiabacnmmojfjabGreatDoorJoint16
set_option maxHeartbeats 2000000
set_option maxRecDepth 4000
open Go.Proofs.Tryz
namespace Go.Proofs.YtiabacnmmojfjabGreatDoor
open Go.ChangeShapes Go.WideShapes Go.ChangeAt Go.RowKit
theorem zAd {w:World} {B:Nat} {r:zAb} {us:List Value} {v:Value} {fp:List Nat} (h:endResultC.own w B r ([.int .i64 r.1]++(us++[v])) fp) (hu:us.length=12):
  ∃ fe fd,endC.own w B r.2.1 us fe∧msgsC.own w B r.2.2 [v] fd∧∀ k,k∈fe→k∈fp:=by
 obtain⟨us0,ts0,f,g,e1,hf,-,⟨h1,hf0⟩,us1,ts1,f1,g1,e2,hg,-,hE,hM⟩:=h;subst h1
 have e3:us++[v]=ts0:=by simpa using e1
 have hl:=endC.len (endC.toRep hE);have e4:us++[v]=us1++ts1:=e3.trans e2;obtain⟨rfl,rfl⟩:=List.append_inj e4 (by rw[hu];exact hl.symm);exact⟨f1,g1,hE,hM,fun k hk=>by rw[hf,hg];exact List.mem_append_right _ (List.mem_append_left _ hk)⟩
theorem zHJ {w:World} {B:Nat} {r:zAW} {us vs:List Value} {fe fd:List Nat} (ke:endC.own w B r.2.1 us fe) (kd:endC.own w B r.2.2 vs fd) (hd:∀ k,k∈fe→k∉fd):
  pairResultC.own w B r ([.int .i64 r.1]++(us++vs)) ([]++(fe++fd)):=
 zR (a:=r) (us:=[.int .i64 r.1]) zBB (zR (a:=r.2) ke kd hd) (fun _ h=>by cases h)
theorem zCb (w:World) (B:Nat) (c:Int):pairResultC.own w B (badP c) [.int .i64 c,.int .i64 0,.slice none 0 0,.int .i64 0,.slice none 0 0,.int .i64 0,.int .i64 0,.slice none 0 0,.slice none 0 0,.slice none 0 0,.slice none 0 0,.slice none 0 0,.slice none 0 0,.int .i64 0,.slice none 0 0,.int .i64 0,.slice none 0 0,.int .i64 0,.int .i64 0,.slice none 0 0,.slice none 0 0,.slice none 0 0,.slice none 0 0,.slice none 0 0,.slice none 0 0] []:=
 zHJ (r:=badP c) (fe:=[]) (fd:=[]) (zF7 w B) (zF7 w B) (fun _ h=>by cases h)
theorem zHK {w:World} {B:Nat} {l:List MsgD} {v:Value} {fp:List Nat} (h:msgsC.own w B l [v] fp) (hl:0<l.length):
  ∃ g o q pm qm,v=.slice (some ⟨g,o,none⟩) l.length q∧l.length≤q∧q≤2 ^ 63-1∧w.cell? ⟨g,o,none⟩=some (.int .i64 (zAR l).1)∧w.cell? ⟨g,o+1,none⟩=some (.slice pm (zAR l).2.length qm)∧Rd w pm qm (zAR l).2:=by
 obtain⟨p,q,e,r⟩:=msgsC.toRep h;cases e;obtain⟨g,o,rfl,hc⟩:=r.2.2.2 hl
 have h0:l[0]?=some (zAR l):=by
  cases l with
  | nil=>simp at hl
  | cons a l=>rfl
 obtain⟨us,hr,hu⟩:=hc 0 _ h0;obtain⟨pm,qm,rfl,rm⟩:=zAf hr;have c0:=hu 0 _ rfl;have c1:=hu 1 _ rfl;rw[Nat.zero_mul,Nat.add_zero] at c0 c1;exact⟨g,o,q,pm,qm,rfl,r.1,r.2.1,c0,c1,rm⟩
theorem zJS {x:zO} (h:(stE x).1=0):(stE x).2.2.length=1:=by
 rw[zER] at h;rw[zH4 h];rfl
theorem zJT {e:EndD} {l:List MsgD} (h:(hvE e l).1=0):(hvE e l).2.2.length=1:=by
 obtain⟨a,b,c,-,-,-,-,-,h5⟩:=zJP h;rw[h5];rfl
theorem zFZ (p:Option Addr) (q:Nat) (bs:List UInt8) (w:World):Calls prog 141 #[.slice p bs.length q] w fun e w'=>e=.returned (.bool (is32 bs))∧w'=w:=by
 by_cases h:bs.length=32
 ·rw[show is32 bs=true by simp[is32,h]]
  have d1:((bs.length:Int)==32)=true:=by rw[beq_iff_eq];omega
  clear h;go_enter func141,ntmps141;go_wp2;go_ret;exact⟨rfl,rfl⟩
 ·rw[show is32 bs=false by simp[is32,h]]
  have d1:((bs.length:Int)==32)=false:=by rw[beq_eq_false_iff_ne];omega
  clear h;go_enter func141,ntmps141;go_wp2;go_ret;exact⟨rfl,rfl⟩
theorem zAq (k:Int) (w:World):Calls prog 169 #[.int .i64 k] w fun e w'=>e=.returned (.bool (hkB k))∧w'=w:=by
 by_cases h1:k=1
 ·rw[show hkB k=true by simp[hkB,h1]]
  have d1:(k==1)=true:=by rw[beq_iff_eq];exact h1
  clear h1;go_enter func169,ntmps169;go_wp2;go_ret;exact⟨rfl,rfl⟩
 ·have d1:(k==1)=false:=by rw[beq_eq_false_iff_ne];exact h1
  by_cases h2:k=2
  ·rw[show hkB k=true by simp[hkB,h2]]
   have d2:(k==2)=true:=by rw[beq_iff_eq];exact h2
   clear h1 h2;go_enter func169,ntmps169;go_wp2;go_ret;exact⟨rfl,rfl⟩
  ·rw[show hkB k=false by simp[hkB,h1,h2]]
   have d2:(k==2)=false:=by rw[beq_eq_false_iff_ne];exact h2
   clear h1 h2;go_enter func169,ntmps169;go_wp2;go_ret;exact⟨rfl,rfl⟩
theorem zEw (k:Int) (w:World):Calls prog 116 #[.int .i64 k] w fun e w'=>e=.returned (.bool (inB k 0 9))∧w'=w:=by
 by_cases h1:0≤k
 ·by_cases h2:k≤9
  ·rw[show inB k 0 9=true by simp[inB,h1,h2]];go_enter func116,ntmps116;go_wp2;go_ret;exact⟨rfl,rfl⟩
  ·rw[show inB k 0 9=false by simp[inB,h2];try omega];go_enter func116,ntmps116;go_wp2;go_ret;exact⟨rfl,rfl⟩
 ·rw[show inB k 0 9=false by simp[inB,h1];try omega];go_enter func116,ntmps116;go_wp2;go_ret;exact⟨rfl,rfl⟩
theorem zDU (p:Option Addr) (q:Nat) (bs:List UInt8) (w:World):Calls prog 117 #[.slice p bs.length q] w fun e w'=>e=.returned (.bool (decide (bs.length=8)))∧w'=w:=by
 by_cases h:bs.length=8
 ·rw[show decide (bs.length=8)=true by simp[h]]
  have d1:((bs.length:Int)==8)=true:=by rw[beq_iff_eq];omega
  clear h;go_enter func117,ntmps117;go_wp2;go_ret;exact⟨rfl,rfl⟩
 ·rw[show decide (bs.length=8)=false by simp[h]]
  have d1:((bs.length:Int)==8)=false:=by rw[beq_eq_false_iff_ne];omega
  clear h;go_enter func117,ntmps117;go_wp2;go_ret;exact⟨rfl,rfl⟩
theorem zDV (p:Option Addr) (q:Nat) (bs:List UInt8) (w:World) (hr:Rd w p q bs) (hl:bs.length≤1000000):Calls prog 194 #[.slice p bs.length q] w fun e w'=>∃ u,e=.returned u∧Own w' w.heap.size u bs∧Below w.heap.size w w':=by
 go_enter func194,ntmps194;go_wp2_with fail;refine(zAZ p q bs w hr hl).mono ?_;rintro e w1 ⟨u,rfl,k,hb⟩;go_wp2;go_ret;exact⟨_,rfl,k,hb⟩
theorem zH8 (h:zX) (p:Option Addr) (q:Nat) (w:World):Calls prog 205 #[.agg #[.slice p h.1.length q,.int .i64 h.2.1,.int .i64 h.2.2]] w fun e w'=>e=.returned (.agg #[.slice p h.1.length q,.int .i64 h.2.1,.int .i64 h.2.2])∧Below w.heap.size w w':=by
 go_enter func205,ntmps205;go_wp2;exact bodyPost_ret (v:=.agg #[.slice p h.1.length q,.int .i64 h.2.1,.int .i64 h.2.2]) (by simp[results,results205,go_sem]) rfl ⟨rfl,yr (zA _ _) _⟩
theorem zFJ (h:zX) (p:Option Addr) (q:Nat) (w:World):Calls prog 193 #[.agg #[.slice p h.1.length q,.int .i64 h.2.1,.int .i64 h.2.2]] w fun e w'=>e=.returned (.int .i64 (hfC h))∧Below w.heap.size w w':=by
 cases h1:decide (h.1.length=8)
 ·rw[show hfC h=1 by simp only[decide_eq_false_iff_not] at h1;simp[hfC,h1]];go_enter func193,ntmps193;go_wp2_with fail;refine(zDU _ _ _ _).mono ?_;rintro e w' ⟨rfl,hw⟩;subst hw;rw[h1];go_wp2;go_ret;exact⟨rfl,zA _ _⟩
 ·have h8:h.1.length=8:=by simpa using h1
  cases h2:inB h.2.1 1 65520
  ·rw[show hfC h=3 by simp[hfC,h8,h2]];clear h8;go_enter func193,ntmps193;go_wp2_with fail;refine(zDU _ _ _ _).mono ?_;rintro e w' ⟨rfl,hw⟩;subst hw;rw[h1];go_wp2_with fail;refine(zAV _ _).mono ?_;rintro e w' ⟨rfl,hw⟩;subst hw;rw[h2];go_wp2;go_ret;exact⟨rfl,zA _ _⟩
  ·cases h3:inB h.2.2 0 9
   ·rw[show hfC h=3 by simp[hfC,h8,h3]];clear h8;go_enter func193,ntmps193;go_wp2_with fail;refine(zDU _ _ _ _).mono ?_;rintro e w' ⟨rfl,hw⟩;subst hw;rw[h1];go_wp2_with fail;refine(zAV _ _).mono ?_;rintro e w' ⟨rfl,hw⟩;subst hw;rw[h2];go_wp2_with fail;refine(zEw _ _).mono ?_;rintro e w' ⟨rfl,hw⟩;subst hw;rw[h3];go_wp2;go_ret;exact⟨rfl,zA _ _⟩
   ·rw[show hfC h=0 by simp[hfC,h8,h2,h3]];clear h8;go_enter func193,ntmps193;go_wp2_with fail;refine(zDU _ _ _ _).mono ?_;rintro e w' ⟨rfl,hw⟩;subst hw;rw[h1];go_wp2_with fail;refine(zAV _ _).mono ?_;rintro e w' ⟨rfl,hw⟩;subst hw;rw[h2];go_wp2_with fail;refine(zEw _ _).mono ?_;rintro e w' ⟨rfl,hw⟩;subst hw;rw[h3];go_wp2;go_ret;exact⟨rfl,zA _ _⟩
theorem zDW (w:World) (pa pb:Option Addr) (qa qb gk:Nat) (h:zX) (ra:Rd w pa qa h.1) (rb:Rd w pb qb (putB h.2.1.toNat 2)) (rk:Rd w (some ⟨gk,0,none⟩) 1 [UInt8.ofNat h.2.2.toNat]):
  RdL bytC (w.alloc (.cells #[.slice pa h.1.length qa,.slice pb 2 qb,.slice (some ⟨gk,0,none⟩) 1 1] 22)) (some ⟨w.heap.size,0,none⟩) 3 (hpB h):=by
 have r3:=zF5 w ⟨pa,qa,h.1⟩ ⟨pb,qb,putB h.2.1.toNat 2⟩ ⟨some ⟨gk,0,none⟩,1,[UInt8.ofNat h.2.2.toNat]⟩ 22 ra rb rk;simp only[Pc.val,zM,List.length_singleton] at r3;exact r3
theorem zIg (h:zX) (p:Option Addr) (q:Nat) (w:World) (hr:Rd w p q h.1) (hc:hfC h=0):
  Calls prog 206 #[.agg #[.slice p h.1.length q,.int .i64 h.2.1,.int .i64 h.2.2]] w fun e w'=>∃ u,e=.returned u∧Own w' w.heap.size u (hpL h)∧Below w.heap.size w w':=by
 obtain⟨p1,p2,p3,p4,p5⟩:=zBP hc;have HL8:Hid (h.1.length=8):=p1;have HLen:Hid ((hpL h).length=14):=zF0 hc
 have HPB:Hid (pbC (hpB h)=0∧pbL (hpB h)=hpL h):=by
  have e1:pbC (hpB h)=0:=by
   have h14:=zF0 hc;unfold hpL at h14;rw[pbC,if_pos ⟨by simp[hpB],by simp[okBl,hpB,zM,p1],by omega⟩]
  exact⟨e1,by rw[pbL,if_pos e1];rfl⟩
 have HR:Hid (Rd w p q h.1):=hr;have BW:=zA w (.cells #[.slice p h.1.length q,.int .i64 h.2.1,.int .i64 h.2.2] 178);have A:=yp w [.slice p h.1.length q,.int .i64 h.2.1,.int .i64 h.2.2] 178
 have KP:Hid (∀ w,Calls prog 105 #[.int .i64 h.2.1] w fun e w'=>∃ u,e=.returned (.agg #[.int .i64 0,u])∧Own w' w.heap.size u (putB h.2.1.toNat 2)∧Below w.heap.size w w'):=fun w=>by
  have hh:=zI0 h.2.1 w
  have e1:shbC h.2.1=0:=by rw[shbC,if_pos (by simp[inB,p2,p3])]
  rw[e1,show shbL h.2.1=putB h.2.1.toNat 2 by rw[shbL,if_pos e1]] at hh;exact hh
 have HKB:Hid (h.2.2=((UInt8.ofNat h.2.2.toNat).toNat:Int)):=by show _=_;rw[UInt8.toNat_ofNat'];omega
 have F1:=zAk;clear hr hc p1;obtain⟨V,HV⟩:∃ V,Hid (V=w.alloc (.cells #[.slice p h.1.length q,.int .i64 h.2.1,.int .i64 h.2.2] 178)):=⟨_,rfl⟩
 have hz0:Hid (w.heap.size≤V.heap.size):=by show _≤_;rw[HV.out,zB];omega
 rw[← HV.out] at BW A;obtain⟨c0,c1,c2⟩:=zc3 A;go_enter func206,ntmps206;go_wp2_with fail;rw[← HV.out];apply share
 case h=>
  intro JN;have BB:=Below.refl V.heap.size V;have hne:=yo V;have g0:=yq (c0);have g1:=yq (c1);have g2:=yq (c2);refine zWr [0,1,3,4,7,8,9] 12 5 1 ?_;simp only[zH,ya,yb,yc]
  repeat (go_big_quiet_step (fail))
  refine wpQuiet_nil ?_;clear g0 g1 g2;refine zAJ (i:=2) (j:=10) (by kernel_rfl) ?_ ?_
  ·skip
   refine mOp_call rfl (by go_simp) 194 _ #[.slice p h.1.length q] (fun w=>by go_simp) rfl ?_;rintro _ ⟨sg,rfl⟩;refine(zDV p q h.1 _ (HR.out.keep (yn BW (yn BB sg.h))) (by have:=HL8.out;omega)).mono ?_;rintro e wg1 ⟨ua,rfl,ka,hbx⟩;obtain⟨pa,qa,rfl,-⟩:=ka.rd;have hbg:=yn sg.h hbx;refine⟨_,rfl,⟨⟨wg1,hbx⟩,rfl⟩,?_⟩;have Ra:=Rd.own ka;replace BB:=yn BB hbg;clear hbg hbx sg ka;replace hne:=yo wg1;refine zAJ (i:=5) (j:=10) (by kernel_rfl) ?_ ?_
   ·skip
    refine mOp_call rfl (by go_simp) 105 _ #[.int .i64 h.2.1] (fun w=>by go_simp) rfl ?_;rintro _ ⟨sg,rfl⟩;refine(KP.out _).mono ?_;rintro e wg2 ⟨ub,rfl,kb,hbx⟩;obtain⟨pb,qb,rfl,-⟩:=kb.rd;rw[zM] at kb ⊢;have hbg:=yn sg.h hbx;refine⟨_,rfl,⟨⟨wg2,hbx⟩,rfl⟩,?_⟩;have Rb:=Rd.own kb;replace Ra:=Ra.keep hbg;replace BB:=yn BB hbg;clear hbg hbx sg kb;replace hne:=yo wg2;refine wpM_more [6] 3 2 rfl (by kernel_rfl) (by kernel_rfl) (by kernel_rfl) (by kernel_rfl) ?_;simp only[zH,ya,yb,yc]
    go_simp
    repeat (go_big_quiet_step (fail))
    refine wpQuiet_nil ?_;refine zWk 10 rfl ?_;rintro _ ⟨sg,rfl⟩;refine⟨.slice (some ⟨sg.w.heap.size,0,none⟩) 1 1,sg.w.alloc (.cells #[.int .u8 h.2.2] 5),by go_simp,⟨⟨_,zA _ _⟩,rfl⟩,?_⟩;have hbg:=yn sg.h (zA sg.w (.cells #[.int .u8 h.2.2] 5));have Rk:=zFs sg.w [.int .u8 h.2.2] [UInt8.ofNat h.2.2.toNat] 5 1 (by simp only[List.map_cons,List.map_nil,u8v];rw[← HKB.out]) rfl (by decide);replace Ra:=Ra.keep hbg;replace Rb:=Rb.keep hbg;replace BB:=yn BB hbg;clear hbg;replace hne:=yo (sg.w.alloc (.cells #[.int .u8 h.2.2] 5));generalize hW:(sg.w.alloc (.cells #[.int .u8 h.2.2] 5))=wg3 at *;clear hW;generalize sg.w.heap.size=gk at *;clear sg;refine zWk 11 rfl ?_;rintro _ ⟨sg,rfl⟩;refine⟨.slice (some ⟨sg.w.heap.size,0,none⟩) 3 3,sg.w.alloc (.cells #[.slice pa h.1.length qa,.slice pb 2 qb,.slice (some ⟨gk,0,none⟩) 1 1] 22),by go_simp,⟨⟨_,zA _ _⟩,rfl⟩,?_⟩;have hbg:=yn sg.h (zA sg.w (.cells #[.slice pa h.1.length qa,.slice pb 2 qb,.slice (some ⟨gk,0,none⟩) 1 1] 22));have Rc:=zDW sg.w pa pb qa qb gk h (Ra.keep sg.h) (Rb.keep sg.h) (Rk.keep sg.h);replace Ra:=Ra.keep hbg;replace Rb:=Rb.keep hbg;replace Rk:=Rk.keep hbg;replace BB:=yn BB hbg;clear hbg;replace hne:=yo (sg.w.alloc (.cells #[.slice pa h.1.length qa,.slice pb 2 qb,.slice (some ⟨gk,0,none⟩) 1 1] 22));generalize hW:(sg.w.alloc (.cells #[.slice pa h.1.length qa,.slice pb 2 qb,.slice (some ⟨gk,0,none⟩) 1 1] 22))=wg4 at *;clear hW;generalize sg.w.heap.size=gb at *;clear sg;refine zWe ?_;rintro _ ⟨sz,rfl⟩;simp only[yd,ye]
    go_simp
    replace Ra:=Ra.keep sz.h;replace Rb:=Rb.keep sz.h;replace Rk:=Rk.keep sz.h;replace Rc:=Rc.keep sz.h;replace BB:=yn BB sz.h;clear hne;generalize sz.w=W at *;clear sz;revert Rc;revert Rk;revert Rb;revert Ra;revert BB;revert gb;revert gk;revert qb;revert pb;revert qa;revert pa;revert W;exact JN.out
   ·skip
    refine mOp_make rfl (by go_simp) ?_;rintro _ ⟨sg,rfl⟩;refine⟨.slice (some ⟨sg.w.heap.size,0,none⟩) 1 1,sg.w.alloc (.cells #[.int .u8 h.2.2] 5),by go_simp,⟨⟨_,zA _ _⟩,rfl⟩,?_⟩;have hbg:=yn sg.h (zA sg.w (.cells #[.int .u8 h.2.2] 5));have Rk:=zFs sg.w [.int .u8 h.2.2] [UInt8.ofNat h.2.2.toNat] 5 1 (by simp only[List.map_cons,List.map_nil,u8v];rw[← HKB.out]) rfl (by decide);replace Ra:=Ra.keep hbg;replace BB:=yn BB hbg;clear hbg;replace hne:=yo (sg.w.alloc (.cells #[.int .u8 h.2.2] 5));generalize hW:(sg.w.alloc (.cells #[.int .u8 h.2.2] 5))=wg5 at *;clear hW;generalize sg.w.heap.size=gk at *;clear sg;refine zWc 5 rfl 105 #[.int .i64 h.2.1] ?_;rintro _ ⟨sg,rfl⟩;refine(KP.out _).mono ?_;rintro e wg6 ⟨ub,rfl,kb,hbx⟩;obtain⟨pb,qb,rfl,-⟩:=kb.rd;rw[zM] at kb ⊢;have hbg:=yn sg.h hbx;refine⟨_,rfl,⟨⟨wg6,hbx⟩,rfl⟩,?_⟩;have Rb:=Rd.own kb;replace Ra:=Ra.keep hbg;replace Rk:=Rk.keep hbg;replace BB:=yn BB hbg;clear hbg hbx sg kb;replace hne:=yo wg6;refine wpM_more [6] 2 1 rfl (by kernel_rfl) (by kernel_rfl) (by kernel_rfl) (by kernel_rfl) ?_;simp only[zH,ya,yb,yc]
    go_simp
    repeat (go_big_quiet_step (fail))
    refine wpQuiet_nil ?_;refine zWk 11 rfl ?_;rintro _ ⟨sg,rfl⟩;refine⟨.slice (some ⟨sg.w.heap.size,0,none⟩) 3 3,sg.w.alloc (.cells #[.slice pa h.1.length qa,.slice pb 2 qb,.slice (some ⟨gk,0,none⟩) 1 1] 22),by go_simp,⟨⟨_,zA _ _⟩,rfl⟩,?_⟩;have hbg:=yn sg.h (zA sg.w (.cells #[.slice pa h.1.length qa,.slice pb 2 qb,.slice (some ⟨gk,0,none⟩) 1 1] 22));have Rc:=zDW sg.w pa pb qa qb gk h (Ra.keep sg.h) (Rb.keep sg.h) (Rk.keep sg.h);replace Ra:=Ra.keep hbg;replace Rk:=Rk.keep hbg;replace Rb:=Rb.keep hbg;replace BB:=yn BB hbg;clear hbg;replace hne:=yo (sg.w.alloc (.cells #[.slice pa h.1.length qa,.slice pb 2 qb,.slice (some ⟨gk,0,none⟩) 1 1] 22));generalize hW:(sg.w.alloc (.cells #[.slice pa h.1.length qa,.slice pb 2 qb,.slice (some ⟨gk,0,none⟩) 1 1] 22))=wg7 at *;clear hW;generalize sg.w.heap.size=gb at *;clear sg;refine zWe ?_;rintro _ ⟨sz,rfl⟩;simp only[yd,ye]
    go_simp
    replace Ra:=Ra.keep sz.h;replace Rk:=Rk.keep sz.h;replace Rb:=Rb.keep sz.h;replace Rc:=Rc.keep sz.h;replace BB:=yn BB sz.h;clear hne;generalize sz.w=W at *;clear sz;revert Rc;revert Rk;revert Rb;revert Ra;revert BB;revert gb;revert gk;revert qb;revert pb;revert qa;revert pa;revert W;exact JN.out
  ·skip
   refine mOp_make rfl (by go_simp) ?_;rintro _ ⟨sg,rfl⟩;refine⟨.slice (some ⟨sg.w.heap.size,0,none⟩) 1 1,sg.w.alloc (.cells #[.int .u8 h.2.2] 5),by go_simp,⟨⟨_,zA _ _⟩,rfl⟩,?_⟩;have hbg:=yn sg.h (zA sg.w (.cells #[.int .u8 h.2.2] 5));have Rk:=zFs sg.w [.int .u8 h.2.2] [UInt8.ofNat h.2.2.toNat] 5 1 (by simp only[List.map_cons,List.map_nil,u8v];rw[← HKB.out]) rfl (by decide);replace BB:=yn BB hbg;clear hbg;replace hne:=yo (sg.w.alloc (.cells #[.int .u8 h.2.2] 5));generalize hW:(sg.w.alloc (.cells #[.int .u8 h.2.2] 5))=wg8 at *;clear hW;generalize sg.w.heap.size=gk at *;clear sg;refine zWc 2 rfl 194 #[.slice p h.1.length q] ?_;rintro _ ⟨sg,rfl⟩;refine(zDV p q h.1 _ (HR.out.keep (yn BW (yn BB sg.h))) (by have:=HL8.out;omega)).mono ?_;rintro e wg9 ⟨ua,rfl,ka,hbx⟩;obtain⟨pa,qa,rfl,-⟩:=ka.rd;have hbg:=yn sg.h hbx;refine⟨_,rfl,⟨⟨wg9,hbx⟩,rfl⟩,?_⟩;have Ra:=Rd.own ka;replace Rk:=Rk.keep hbg;replace BB:=yn BB hbg;clear hbg hbx sg ka;replace hne:=yo wg9;refine zWc 5 rfl 105 #[.int .i64 h.2.1] ?_;rintro _ ⟨sg,rfl⟩;refine(KP.out _).mono ?_;rintro e wg10 ⟨ub,rfl,kb,hbx⟩;obtain⟨pb,qb,rfl,-⟩:=kb.rd;rw[zM] at kb ⊢;have hbg:=yn sg.h hbx;refine⟨_,rfl,⟨⟨wg10,hbx⟩,rfl⟩,?_⟩;have Rb:=Rd.own kb;replace Rk:=Rk.keep hbg;replace Ra:=Ra.keep hbg;replace BB:=yn BB hbg;clear hbg hbx sg kb;replace hne:=yo wg10;refine wpM_more [6] 2 1 rfl (by kernel_rfl) (by kernel_rfl) (by kernel_rfl) (by kernel_rfl) ?_;simp only[zH,ya,yb,yc]
   go_simp
   repeat (go_big_quiet_step (fail))
   refine wpQuiet_nil ?_;refine zWk 11 rfl ?_;rintro _ ⟨sg,rfl⟩;refine⟨.slice (some ⟨sg.w.heap.size,0,none⟩) 3 3,sg.w.alloc (.cells #[.slice pa h.1.length qa,.slice pb 2 qb,.slice (some ⟨gk,0,none⟩) 1 1] 22),by go_simp,⟨⟨_,zA _ _⟩,rfl⟩,?_⟩;have hbg:=yn sg.h (zA sg.w (.cells #[.slice pa h.1.length qa,.slice pb 2 qb,.slice (some ⟨gk,0,none⟩) 1 1] 22));have Rc:=zDW sg.w pa pb qa qb gk h (Ra.keep sg.h) (Rb.keep sg.h) (Rk.keep sg.h);replace Rk:=Rk.keep hbg;replace Ra:=Ra.keep hbg;replace Rb:=Rb.keep hbg;replace BB:=yn BB hbg;clear hbg;replace hne:=yo (sg.w.alloc (.cells #[.slice pa h.1.length qa,.slice pb 2 qb,.slice (some ⟨gk,0,none⟩) 1 1] 22));generalize hW:(sg.w.alloc (.cells #[.slice pa h.1.length qa,.slice pb 2 qb,.slice (some ⟨gk,0,none⟩) 1 1] 22))=wg11 at *;clear hW;generalize sg.w.heap.size=gb at *;clear sg;refine zWe ?_;rintro _ ⟨sz,rfl⟩;simp only[yd,ye]
   go_simp
   replace Rk:=Rk.keep sz.h;replace Ra:=Ra.keep sz.h;replace Rb:=Rb.keep sz.h;replace Rc:=Rc.keep sz.h;replace BB:=yn BB sz.h;clear hne;generalize sz.w=W at *;clear sz;revert Rc;revert Rk;revert Rb;revert Ra;revert BB;revert gb;revert gk;revert qb;revert pb;revert qa;revert pa;revert W;exact JN.out
 intro W pa qa pb qb gk gb BB Ra Rb Rk Rc;clear c0 c1 c2;go_wp2_with fail;refine(zL4 (hpB h) (some ⟨gb,0,none⟩) 3 W (Rc)).mono ?_;rintro e w3 ⟨u3,rfl,k3,hb3⟩;rw[HPB.out.1,HPB.out.2] at *;obtain⟨a3,c3,rfl,-⟩:=k3.rd;go_wp2;go_ret;exact⟨_,rfl,k3.lower (yi hz0.out BB.size),yn (yn BW BB) hb3⟩
theorem zF8 {w:World} {B:Nat} {c k:Int} {bs:List UInt8} {u:Value} (h:Own w B u bs):msgResultC.own w B (c,k,bs) [.int .i64 c,.int .i64 k,u] ([]++([]++u.ownBlock.toList)):=
 zBb 0 zBB (zBb 0 zBB ⟨u,rfl,h,rfl⟩ zE7 (fun _ _=>Nat.zero_le _)) zE7 (fun _ _=>Nat.zero_le _)
theorem zMN (k:Int) (h:zX) (us:List Value) (w:World) (r:helloC.rep w h us):
  Calls prog 190 #[.int .i64 k,.agg us.toArray] w fun e w'=>∃ us fp,e=.returned (.agg us.toArray)∧msgResultC.own w' w.heap.size (phD k h) us fp∧Below w.heap.size w w':=by
 obtain⟨p,q,rfl,rr⟩:=zAY r;clear r;have HR:Hid (Rd w p q h.1):=rr;clear rr;have BW:=yr (zA w (.cells #[.slice p h.1.length q,.int .i64 h.2.1,.int .i64 h.2.2] 74)) (.cells #[.int .i64 0,.int .i64 0,.slice none 0 0] 112);have A:=(yp w [.slice p h.1.length q,.int .i64 h.2.1,.int .i64 h.2.2] 74).old _ (.cells #[.int .i64 0,.int .i64 0,.slice none 0 0] 112);have R:=yp (w.alloc (.cells #[.slice p h.1.length q,.int .i64 h.2.1,.int .i64 h.2.2] 74)) [.int .i64 0,.int .i64 0,.slice none 0 0] 112;rw[zB] at R;cases hk:hkB k
 ·rw[show phD k h=(3,0,[]) by simp[phD,phC,hk]];go_enter func190,ntmps190;go_wp2_with fail;refine(zAq _ _).mono ?_;rintro e w1 ⟨rfl,hw⟩;subst w1;rw[hk];go_wp2;refine bodyPost_ret (v:=.agg #[.int .i64 3,.int .i64 0,.slice none 0 0]) (by simp[results,results190,go_sem]) rfl ⟨[_,_,_],_,rfl,zF8 (zK _ _),?_⟩;exact yr (zA _ _) _
 ·have KF:Hid (∀ w,Calls prog 193 #[.agg #[.slice p h.1.length q,.int .i64 h.2.1,.int .i64 h.2.2]] w fun e w'=>e=.returned (.int .i64 (hfC h))∧Below w.heap.size w w'):=fun w=>zFJ h p q w
  by_cases hc:hfC h=0
  ·have hp:phC k h=0:=by rw[phC,hk,if_pos rfl];exact hc
   rw[show phD k h=(0,k,hpL h) by rw[phD,if_pos hp]];have HC0:Hid (hfC h=0):=hc;rw[hc] at KF;clear hc hp;go_enter func190,ntmps190;go_wp2_with fail;refine(zAq _ _).mono ?_;rintro e w1 ⟨rfl,hw⟩;subst w1;rw[hk];go_wp2_with fail;refine(zH8 h p q _).mono ?_;rintro e w1 ⟨rfl,hb1⟩;replace BW:=yn BW hb1;replace R:=R.stay hb1;clear A hb1;have N:=yp w1 [.slice p h.1.length q,.int .i64 h.2.1,.int .i64 h.2.2] 178;have hb2:=zA w1 (.cells #[.slice p h.1.length q,.int .i64 h.2.1,.int .i64 h.2.2] 178);replace BW:=yn BW hb2;replace R:=R.stay hb2;clear hb2;go_wp2_with fail;refine(KF.out _).mono ?_;rintro e w2 ⟨rfl,hb2⟩;replace BW:=yn BW hb2;replace R:=R.stay hb2;replace N:=N.stay hb2;clear hb2;obtain⟨c0,c1,c2⟩:=zc3 N;go_wp2_with fail;refine(zIg h p q w2 (HR.out.keep BW) HC0.out).mono ?_;rintro e w3 ⟨u3,rfl,k3,hb3⟩;have hz:Hid (w.heap.size+2≤w2.heap.size):=R.lt;replace BW:=yn BW hb3;replace R:=R.stay hb3;obtain⟨a3,c3,rfl,-⟩:=k3.rd;replace k3:=k3.lower hz.out;clear hb3 N c0 c1 c2;obtain⟨t0,t1,t2⟩:=zc3 R;have ft:=R.frozen;clear R;go_wp2_with fail;exact bodyPost_ret (v:=.agg #[.int .i64 0,.int .i64 k,.slice a3 (hpL h).length c3]) (by simp[results,results190,go_sem,t0,t1,t2]) rfl ⟨[_,_,_],_,rfl,zF8 ((((k3.set (yg _) _).set (yg _) _).set (yg _) _).lower (by omega)),zs3 BW zzA⟩
  ·have hp:phC k h=hfC h:=by rw[phC,hk,if_pos rfl]
   rw[show phD k h=(hfC h,0,[]) by rw[phD,hp,if_neg hc]]
   have hd:(hfC h != 0)=true:=by rw[bne_iff_ne];exact hc
   clear hc hp;generalize hfC h=cc at *;go_enter func190,ntmps190;go_wp2_with fail;refine(zAq _ _).mono ?_;rintro e w1 ⟨rfl,hw⟩;subst w1;rw[hk];go_wp2_with fail;refine(zH8 h p q _).mono ?_;rintro e w1 ⟨rfl,hb1⟩;replace BW:=yn BW hb1;replace R:=R.stay hb1;clear A hb1;have hb2:=zA w1 (.cells #[.slice p h.1.length q,.int .i64 h.2.1,.int .i64 h.2.2] 178);replace BW:=yn BW hb2;replace R:=R.stay hb2;clear hb2;go_wp2_with fail;refine(KF.out _).mono ?_;rintro e w2 ⟨rfl,hb2⟩;replace BW:=yn BW hb2;replace R:=R.stay hb2;clear hb2;obtain⟨t0,t1,t2⟩:=zc3 R;have ft:=R.frozen;clear R;go_wp2_with fail;exact bodyPost_ret (v:=.agg #[.int .i64 cc,.int .i64 0,.slice none 0 0]) (by simp[results,results190,go_sem,t0,t1,t2]) rfl ⟨[_,_,_],_,rfl,zF8 (zK _ _),zs3 BW zzA⟩
end Go.Proofs.YtiabacnmmojfjabGreatDoor
