import Derived.Test.YtiabacnmmojfjaaGreatDoorJoint16
import Derived.Test.YtiabacnmmojfjaaGreatDoorJoint1
import Derived.Handy
import Derived.Test.YtiabacnmmojfjaaGreatDoorJoint20
import Derived.Test.YtiabacnmmojfjaaGreatDoorJoint6
import Derived.Test.YtiabacnmmojfjaaGreatDoorJoint12
import Derived.Test.YtiabacnmmojfjaaGreatDoorJoint21
import Derived.Test.YtiabacnmmojfjaaGreatDoorJoint13
import Derived.Test.YtiabacnmmojfjaaGreatDoorJoint8
import Derived.Test.YtiabacnmmojfjaaGreatDoorJoint18
set_option maxHeartbeats 2000000
set_option maxRecDepth 4000
open Go.Proofs.Tryz
namespace Go.Proofs.YtiabacnmmojfjaaGreatDoor
open Go.ChangeShapes Go.WideShapes Go.ChangeAt Go.RowKit
theorem zFR (p:Option Addr) (q:Nat) (bs:List UInt8) (w:World):Calls prog 45 #[.slice p bs.length q] w fun e w'=>e=.returned (.bool (is32 bs))∧w'=w:=by
 by_cases h:bs.length=32
 ·rw[show is32 bs=true by simp[is32,h]]
  have d1:((bs.length:Int)==32)=true:=by rw[beq_iff_eq];omega
  clear h;go_enter func45,ntmps45;go_wp2;go_ret;exact⟨rfl,rfl⟩
 ·rw[show is32 bs=false by simp[is32,h]]
  have d1:((bs.length:Int)==32)=false:=by rw[beq_eq_false_iff_ne];omega
  clear h;go_enter func45,ntmps45;go_wp2;go_ret;exact⟨rfl,rfl⟩
theorem zAr (k:Int) (w:World):Calls prog 181 #[.int .i64 k] w fun e w'=>e=.returned (.bool (hkB k))∧w'=w:=by
 by_cases h1:k=1
 ·rw[show hkB k=true by simp[hkB,h1]]
  have d1:(k==1)=true:=by rw[beq_iff_eq];exact h1
  clear h1;go_enter func181,ntmps181;go_wp2;go_ret;exact⟨rfl,rfl⟩
 ·have d1:(k==1)=false:=by rw[beq_eq_false_iff_ne];exact h1
  by_cases h2:k=2
  ·rw[show hkB k=true by simp[hkB,h2]]
   have d2:(k==2)=true:=by rw[beq_iff_eq];exact h2
   clear h1 h2;go_enter func181,ntmps181;go_wp2;go_ret;exact⟨rfl,rfl⟩
  ·rw[show hkB k=false by simp[hkB,h1,h2]]
   have d2:(k==2)=false:=by rw[beq_eq_false_iff_ne];exact h2
   clear h1 h2;go_enter func181,ntmps181;go_wp2;go_ret;exact⟨rfl,rfl⟩
theorem zEw (k:Int) (w:World):Calls prog 38 #[.int .i64 k] w fun e w'=>e=.returned (.bool (inB k 0 9))∧w'=w:=by
 by_cases h1:0≤k
 ·by_cases h2:k≤9
  ·rw[show inB k 0 9=true by simp[inB,h1,h2]];go_enter func38,ntmps38;go_wp2;go_ret;exact⟨rfl,rfl⟩
  ·rw[show inB k 0 9=false by simp[inB,h2];try omega];go_enter func38,ntmps38;go_wp2;go_ret;exact⟨rfl,rfl⟩
 ·rw[show inB k 0 9=false by simp[inB,h1];try omega];go_enter func38,ntmps38;go_wp2;go_ret;exact⟨rfl,rfl⟩
theorem zDP (p:Option Addr) (q:Nat) (bs:List UInt8) (w:World):Calls prog 39 #[.slice p bs.length q] w fun e w'=>e=.returned (.bool (decide (bs.length=8)))∧w'=w:=by
 by_cases h:bs.length=8
 ·rw[show decide (bs.length=8)=true by simp[h]]
  have d1:((bs.length:Int)==8)=true:=by rw[beq_iff_eq];omega
  clear h;go_enter func39,ntmps39;go_wp2;go_ret;exact⟨rfl,rfl⟩
 ·rw[show decide (bs.length=8)=false by simp[h]]
  have d1:((bs.length:Int)==8)=false:=by rw[beq_eq_false_iff_ne];omega
  clear h;go_enter func39,ntmps39;go_wp2;go_ret;exact⟨rfl,rfl⟩
theorem zDQ (p:Option Addr) (q:Nat) (bs:List UInt8) (w:World) (hr:Rd w p q bs) (hl:bs.length≤1000000):Calls prog 209 #[.slice p bs.length q] w fun e w'=>∃ u,e=.returned u∧Own w' w.heap.size u bs∧Below w.heap.size w w':=by
 go_enter func209,ntmps209;go_wp2_with fail;refine(zAZ p q bs w hr hl).mono ?_;rintro e w1 ⟨u,rfl,k,hb⟩;go_wp2;go_ret;exact⟨_,rfl,k,hb⟩
theorem zHs (h:zAB) (p:Option Addr) (q:Nat) (w:World):Calls prog 204 #[.agg #[.slice p h.1.length q,.int .i64 h.2.1,.int .i64 h.2.2]] w fun e w'=>e=.returned (.agg #[.slice p h.1.length q,.int .i64 h.2.1,.int .i64 h.2.2])∧Below w.heap.size w w':=by
 go_enter func204,ntmps204;go_wp2;exact bodyPost_ret (v:=.agg #[.slice p h.1.length q,.int .i64 h.2.1,.int .i64 h.2.2]) (by simp[results,results204,go_sem]) rfl ⟨rfl,yt (zA _ _) _⟩
theorem zFD (h:zAB) (p:Option Addr) (q:Nat) (w:World):Calls prog 205 #[.agg #[.slice p h.1.length q,.int .i64 h.2.1,.int .i64 h.2.2]] w fun e w'=>e=.returned (.int .i64 (hfC h))∧Below w.heap.size w w':=by
 cases h1:decide (h.1.length=8)
 ·rw[show hfC h=1 by simp only[decide_eq_false_iff_not] at h1;simp[hfC,h1]];go_enter func205,ntmps205;go_wp2_with fail;refine(zDP _ _ _ _).mono ?_;rintro e w' ⟨rfl,hw⟩;subst hw;rw[h1];go_wp2;go_ret;exact⟨rfl,zA _ _⟩
 ·have h8:h.1.length=8:=by simpa using h1
  cases h2:inB h.2.1 1 65520
  ·rw[show hfC h=3 by simp[hfC,h8,h2]];clear h8;go_enter func205,ntmps205;go_wp2_with fail;refine(zDP _ _ _ _).mono ?_;rintro e w' ⟨rfl,hw⟩;subst hw;rw[h1];go_wp2_with fail;refine(zAV _ _).mono ?_;rintro e w' ⟨rfl,hw⟩;subst hw;rw[h2];go_wp2;go_ret;exact⟨rfl,zA _ _⟩
  ·cases h3:inB h.2.2 0 9
   ·rw[show hfC h=3 by simp[hfC,h8,h3]];clear h8;go_enter func205,ntmps205;go_wp2_with fail;refine(zDP _ _ _ _).mono ?_;rintro e w' ⟨rfl,hw⟩;subst hw;rw[h1];go_wp2_with fail;refine(zAV _ _).mono ?_;rintro e w' ⟨rfl,hw⟩;subst hw;rw[h2];go_wp2_with fail;refine(zEw _ _).mono ?_;rintro e w' ⟨rfl,hw⟩;subst hw;rw[h3];go_wp2;go_ret;exact⟨rfl,zA _ _⟩
   ·rw[show hfC h=0 by simp[hfC,h8,h2,h3]];clear h8;go_enter func205,ntmps205;go_wp2_with fail;refine(zDP _ _ _ _).mono ?_;rintro e w' ⟨rfl,hw⟩;subst hw;rw[h1];go_wp2_with fail;refine(zAV _ _).mono ?_;rintro e w' ⟨rfl,hw⟩;subst hw;rw[h2];go_wp2_with fail;refine(zEw _ _).mono ?_;rintro e w' ⟨rfl,hw⟩;subst hw;rw[h3];go_wp2;go_ret;exact⟨rfl,zA _ _⟩
theorem zDR (w:World) (pa pb:Option Addr) (qa qb gk:Nat) (h:zAB) (ra:Rd w pa qa h.1) (rb:Rd w pb qb (putB h.2.1.toNat 2)) (rk:Rd w (some ⟨gk,0,none⟩) 1 [UInt8.ofNat h.2.2.toNat]):
  RdL bytC (w.alloc (.cells #[.slice pa h.1.length qa,.slice pb 2 qb,.slice (some ⟨gk,0,none⟩) 1 1] 22)) (some ⟨w.heap.size,0,none⟩) 3 (hpB h):=by
 have r3:=zFt w ⟨pa,qa,h.1⟩ ⟨pb,qb,putB h.2.1.toNat 2⟩ ⟨some ⟨gk,0,none⟩,1,[UInt8.ofNat h.2.2.toNat]⟩ 22 ra rb rk;simp only[Pc.val,zP,List.length_singleton] at r3;exact r3
theorem zIR (h:zAB) (p:Option Addr) (q:Nat) (w:World) (hr:Rd w p q h.1) (hc:hfC h=0):
  Calls prog 206 #[.agg #[.slice p h.1.length q,.int .i64 h.2.1,.int .i64 h.2.2]] w fun e w'=>∃ u,e=.returned u∧Own w' w.heap.size u (hpL h)∧Below w.heap.size w w':=by
 obtain⟨p1,p2,p3,p4,p5⟩:=zBR hc;have HL8:Hid (h.1.length=8):=p1;have HLen:Hid ((hpL h).length=14):=zFm hc
 have HPB:Hid (pbC (hpB h)=0∧pbL (hpB h)=hpL h):=by
  have e1:pbC (hpB h)=0:=by
   have h14:=zFm hc;unfold hpL at h14;rw[pbC,if_pos ⟨by simp[hpB],by simp[okBl,hpB,zP,p1],by omega⟩]
  exact⟨e1,by rw[pbL,if_pos e1];rfl⟩
 have HR:Hid (Rd w p q h.1):=hr;have BW:=zA w (.cells #[.slice p h.1.length q,.int .i64 h.2.1,.int .i64 h.2.2] 189);have A:=yr w [.slice p h.1.length q,.int .i64 h.2.1,.int .i64 h.2.2] 189
 have KP:Hid (∀ w,Calls prog 109 #[.int .i64 h.2.1] w fun e w'=>∃ u,e=.returned (.agg #[.int .i64 0,u])∧Own w' w.heap.size u (putB h.2.1.toNat 2)∧Below w.heap.size w w'):=fun w=>by
  have hh:=zIi h.2.1 w
  have e1:shbC h.2.1=0:=by rw[shbC,if_pos (by simp[inB,p2,p3])]
  rw[e1,show shbL h.2.1=putB h.2.1.toNat 2 by rw[shbL,if_pos e1]] at hh;exact hh
 have HKB:Hid (h.2.2=((UInt8.ofNat h.2.2.toNat).toNat:Int)):=by show _=_;rw[UInt8.toNat_ofNat'];omega
 have F1:=zAk;clear hr hc p1;obtain⟨V,HV⟩:∃ V,Hid (V=w.alloc (.cells #[.slice p h.1.length q,.int .i64 h.2.1,.int .i64 h.2.2] 189)):=⟨_,rfl⟩
 have hz0:Hid (w.heap.size≤V.heap.size):=by show _≤_;rw[HV.out,zB];omega
 rw[← HV.out] at BW A;obtain⟨c0,c1,c2⟩:=zc3 A;go_enter func206,ntmps206;go_wp2_with fail;rw[← HV.out];apply share
 case h=>
  intro JN;have BB:=Below.refl V.heap.size V;have hne:=yq V;have g0:=yo (c0);have g1:=yo (c1);have g2:=yo (c2);refine zWr [0,1,3,4,7,8,9] 12 5 1 ?_;simp only[zD,ya,yb,yc]
  repeat (go_big_quiet_step (fail))
  refine wpQuiet_nil ?_;clear g0 g1 g2;refine zAs (i:=2) (j:=10) (by kernel_rfl) ?_ ?_
  ·skip
   refine mOp_call rfl (by go_simp) 209 _ #[.slice p h.1.length q] (fun w=>by go_simp) rfl ?_;rintro _ ⟨sg,rfl⟩;refine(zDQ p q h.1 _ (HR.out.keep (yn BW (yn BB sg.h))) (by have:=HL8.out;omega)).mono ?_;rintro e wg1 ⟨ua,rfl,ka,hbx⟩;obtain⟨pa,qa,rfl,-⟩:=ka.rd;have hbg:=yn sg.h hbx;refine⟨_,rfl,⟨⟨wg1,hbx⟩,rfl⟩,?_⟩;have Ra:=Rd.own ka;replace BB:=yn BB hbg;clear hbg hbx sg ka;replace hne:=yq wg1;refine zAs (i:=5) (j:=10) (by kernel_rfl) ?_ ?_
   ·skip
    refine mOp_call rfl (by go_simp) 109 _ #[.int .i64 h.2.1] (fun w=>by go_simp) rfl ?_;rintro _ ⟨sg,rfl⟩;refine(KP.out _).mono ?_;rintro e wg2 ⟨ub,rfl,kb,hbx⟩;obtain⟨pb,qb,rfl,-⟩:=kb.rd;rw[zP] at kb ⊢;have hbg:=yn sg.h hbx;refine⟨_,rfl,⟨⟨wg2,hbx⟩,rfl⟩,?_⟩;have Rb:=Rd.own kb;replace Ra:=Ra.keep hbg;replace BB:=yn BB hbg;clear hbg hbx sg kb;replace hne:=yq wg2;refine wpM_more [6] 3 2 rfl (by kernel_rfl) (by kernel_rfl) (by kernel_rfl) (by kernel_rfl) ?_;simp only[zD,ya,yb,yc]
    go_simp
    repeat (go_big_quiet_step (fail))
    refine wpQuiet_nil ?_;refine zWk 10 rfl ?_;rintro _ ⟨sg,rfl⟩;refine⟨.slice (some ⟨sg.w.heap.size,0,none⟩) 1 1,sg.w.alloc (.cells #[.int .u8 h.2.2] 5),by go_simp,⟨⟨_,zA _ _⟩,rfl⟩,?_⟩;have hbg:=yn sg.h (zA sg.w (.cells #[.int .u8 h.2.2] 5));have Rk:=zFd sg.w [.int .u8 h.2.2] [UInt8.ofNat h.2.2.toNat] 5 1 (by simp only[List.map_cons,List.map_nil,u8v];rw[← HKB.out]) rfl (by decide);replace Ra:=Ra.keep hbg;replace Rb:=Rb.keep hbg;replace BB:=yn BB hbg;clear hbg;replace hne:=yq (sg.w.alloc (.cells #[.int .u8 h.2.2] 5));generalize hW:(sg.w.alloc (.cells #[.int .u8 h.2.2] 5))=wg3 at *;clear hW;generalize sg.w.heap.size=gk at *;clear sg;refine zWk 11 rfl ?_;rintro _ ⟨sg,rfl⟩;refine⟨.slice (some ⟨sg.w.heap.size,0,none⟩) 3 3,sg.w.alloc (.cells #[.slice pa h.1.length qa,.slice pb 2 qb,.slice (some ⟨gk,0,none⟩) 1 1] 22),by go_simp,⟨⟨_,zA _ _⟩,rfl⟩,?_⟩;have hbg:=yn sg.h (zA sg.w (.cells #[.slice pa h.1.length qa,.slice pb 2 qb,.slice (some ⟨gk,0,none⟩) 1 1] 22));have Rc:=zDR sg.w pa pb qa qb gk h (Ra.keep sg.h) (Rb.keep sg.h) (Rk.keep sg.h);replace Ra:=Ra.keep hbg;replace Rb:=Rb.keep hbg;replace Rk:=Rk.keep hbg;replace BB:=yn BB hbg;clear hbg;replace hne:=yq (sg.w.alloc (.cells #[.slice pa h.1.length qa,.slice pb 2 qb,.slice (some ⟨gk,0,none⟩) 1 1] 22));generalize hW:(sg.w.alloc (.cells #[.slice pa h.1.length qa,.slice pb 2 qb,.slice (some ⟨gk,0,none⟩) 1 1] 22))=wg4 at *;clear hW;generalize sg.w.heap.size=gb at *;clear sg;refine zWe ?_;rintro _ ⟨sz,rfl⟩;simp only[yd,ye]
    go_simp
    replace Ra:=Ra.keep sz.h;replace Rb:=Rb.keep sz.h;replace Rk:=Rk.keep sz.h;replace Rc:=Rc.keep sz.h;replace BB:=yn BB sz.h;clear hne;generalize sz.w=W at *;clear sz;revert Rc;revert Rk;revert Rb;revert Ra;revert BB;revert gb;revert gk;revert qb;revert pb;revert qa;revert pa;revert W;exact JN.out
   ·skip
    refine mOp_make rfl (by go_simp) ?_;rintro _ ⟨sg,rfl⟩;refine⟨.slice (some ⟨sg.w.heap.size,0,none⟩) 1 1,sg.w.alloc (.cells #[.int .u8 h.2.2] 5),by go_simp,⟨⟨_,zA _ _⟩,rfl⟩,?_⟩;have hbg:=yn sg.h (zA sg.w (.cells #[.int .u8 h.2.2] 5));have Rk:=zFd sg.w [.int .u8 h.2.2] [UInt8.ofNat h.2.2.toNat] 5 1 (by simp only[List.map_cons,List.map_nil,u8v];rw[← HKB.out]) rfl (by decide);replace Ra:=Ra.keep hbg;replace BB:=yn BB hbg;clear hbg;replace hne:=yq (sg.w.alloc (.cells #[.int .u8 h.2.2] 5));generalize hW:(sg.w.alloc (.cells #[.int .u8 h.2.2] 5))=wg5 at *;clear hW;generalize sg.w.heap.size=gk at *;clear sg;refine zWc 5 rfl 109 #[.int .i64 h.2.1] ?_;rintro _ ⟨sg,rfl⟩;refine(KP.out _).mono ?_;rintro e wg6 ⟨ub,rfl,kb,hbx⟩;obtain⟨pb,qb,rfl,-⟩:=kb.rd;rw[zP] at kb ⊢;have hbg:=yn sg.h hbx;refine⟨_,rfl,⟨⟨wg6,hbx⟩,rfl⟩,?_⟩;have Rb:=Rd.own kb;replace Ra:=Ra.keep hbg;replace Rk:=Rk.keep hbg;replace BB:=yn BB hbg;clear hbg hbx sg kb;replace hne:=yq wg6;refine wpM_more [6] 2 1 rfl (by kernel_rfl) (by kernel_rfl) (by kernel_rfl) (by kernel_rfl) ?_;simp only[zD,ya,yb,yc]
    go_simp
    repeat (go_big_quiet_step (fail))
    refine wpQuiet_nil ?_;refine zWk 11 rfl ?_;rintro _ ⟨sg,rfl⟩;refine⟨.slice (some ⟨sg.w.heap.size,0,none⟩) 3 3,sg.w.alloc (.cells #[.slice pa h.1.length qa,.slice pb 2 qb,.slice (some ⟨gk,0,none⟩) 1 1] 22),by go_simp,⟨⟨_,zA _ _⟩,rfl⟩,?_⟩;have hbg:=yn sg.h (zA sg.w (.cells #[.slice pa h.1.length qa,.slice pb 2 qb,.slice (some ⟨gk,0,none⟩) 1 1] 22));have Rc:=zDR sg.w pa pb qa qb gk h (Ra.keep sg.h) (Rb.keep sg.h) (Rk.keep sg.h);replace Ra:=Ra.keep hbg;replace Rk:=Rk.keep hbg;replace Rb:=Rb.keep hbg;replace BB:=yn BB hbg;clear hbg;replace hne:=yq (sg.w.alloc (.cells #[.slice pa h.1.length qa,.slice pb 2 qb,.slice (some ⟨gk,0,none⟩) 1 1] 22));generalize hW:(sg.w.alloc (.cells #[.slice pa h.1.length qa,.slice pb 2 qb,.slice (some ⟨gk,0,none⟩) 1 1] 22))=wg7 at *;clear hW;generalize sg.w.heap.size=gb at *;clear sg;refine zWe ?_;rintro _ ⟨sz,rfl⟩;simp only[yd,ye]
    go_simp
    replace Ra:=Ra.keep sz.h;replace Rk:=Rk.keep sz.h;replace Rb:=Rb.keep sz.h;replace Rc:=Rc.keep sz.h;replace BB:=yn BB sz.h;clear hne;generalize sz.w=W at *;clear sz;revert Rc;revert Rk;revert Rb;revert Ra;revert BB;revert gb;revert gk;revert qb;revert pb;revert qa;revert pa;revert W;exact JN.out
  ·skip
   refine mOp_make rfl (by go_simp) ?_;rintro _ ⟨sg,rfl⟩;refine⟨.slice (some ⟨sg.w.heap.size,0,none⟩) 1 1,sg.w.alloc (.cells #[.int .u8 h.2.2] 5),by go_simp,⟨⟨_,zA _ _⟩,rfl⟩,?_⟩;have hbg:=yn sg.h (zA sg.w (.cells #[.int .u8 h.2.2] 5));have Rk:=zFd sg.w [.int .u8 h.2.2] [UInt8.ofNat h.2.2.toNat] 5 1 (by simp only[List.map_cons,List.map_nil,u8v];rw[← HKB.out]) rfl (by decide);replace BB:=yn BB hbg;clear hbg;replace hne:=yq (sg.w.alloc (.cells #[.int .u8 h.2.2] 5));generalize hW:(sg.w.alloc (.cells #[.int .u8 h.2.2] 5))=wg8 at *;clear hW;generalize sg.w.heap.size=gk at *;clear sg;refine zWc 2 rfl 209 #[.slice p h.1.length q] ?_;rintro _ ⟨sg,rfl⟩;refine(zDQ p q h.1 _ (HR.out.keep (yn BW (yn BB sg.h))) (by have:=HL8.out;omega)).mono ?_;rintro e wg9 ⟨ua,rfl,ka,hbx⟩;obtain⟨pa,qa,rfl,-⟩:=ka.rd;have hbg:=yn sg.h hbx;refine⟨_,rfl,⟨⟨wg9,hbx⟩,rfl⟩,?_⟩;have Ra:=Rd.own ka;replace Rk:=Rk.keep hbg;replace BB:=yn BB hbg;clear hbg hbx sg ka;replace hne:=yq wg9;refine zWc 5 rfl 109 #[.int .i64 h.2.1] ?_;rintro _ ⟨sg,rfl⟩;refine(KP.out _).mono ?_;rintro e wg10 ⟨ub,rfl,kb,hbx⟩;obtain⟨pb,qb,rfl,-⟩:=kb.rd;rw[zP] at kb ⊢;have hbg:=yn sg.h hbx;refine⟨_,rfl,⟨⟨wg10,hbx⟩,rfl⟩,?_⟩;have Rb:=Rd.own kb;replace Rk:=Rk.keep hbg;replace Ra:=Ra.keep hbg;replace BB:=yn BB hbg;clear hbg hbx sg kb;replace hne:=yq wg10;refine wpM_more [6] 2 1 rfl (by kernel_rfl) (by kernel_rfl) (by kernel_rfl) (by kernel_rfl) ?_;simp only[zD,ya,yb,yc]
   go_simp
   repeat (go_big_quiet_step (fail))
   refine wpQuiet_nil ?_;refine zWk 11 rfl ?_;rintro _ ⟨sg,rfl⟩;refine⟨.slice (some ⟨sg.w.heap.size,0,none⟩) 3 3,sg.w.alloc (.cells #[.slice pa h.1.length qa,.slice pb 2 qb,.slice (some ⟨gk,0,none⟩) 1 1] 22),by go_simp,⟨⟨_,zA _ _⟩,rfl⟩,?_⟩;have hbg:=yn sg.h (zA sg.w (.cells #[.slice pa h.1.length qa,.slice pb 2 qb,.slice (some ⟨gk,0,none⟩) 1 1] 22));have Rc:=zDR sg.w pa pb qa qb gk h (Ra.keep sg.h) (Rb.keep sg.h) (Rk.keep sg.h);replace Rk:=Rk.keep hbg;replace Ra:=Ra.keep hbg;replace Rb:=Rb.keep hbg;replace BB:=yn BB hbg;clear hbg;replace hne:=yq (sg.w.alloc (.cells #[.slice pa h.1.length qa,.slice pb 2 qb,.slice (some ⟨gk,0,none⟩) 1 1] 22));generalize hW:(sg.w.alloc (.cells #[.slice pa h.1.length qa,.slice pb 2 qb,.slice (some ⟨gk,0,none⟩) 1 1] 22))=wg11 at *;clear hW;generalize sg.w.heap.size=gb at *;clear sg;refine zWe ?_;rintro _ ⟨sz,rfl⟩;simp only[yd,ye]
   go_simp
   replace Rk:=Rk.keep sz.h;replace Ra:=Ra.keep sz.h;replace Rb:=Rb.keep sz.h;replace Rc:=Rc.keep sz.h;replace BB:=yn BB sz.h;clear hne;generalize sz.w=W at *;clear sz;revert Rc;revert Rk;revert Rb;revert Ra;revert BB;revert gb;revert gk;revert qb;revert pb;revert qa;revert pa;revert W;exact JN.out
 intro W pa qa pb qb gk gb BB Ra Rb Rk Rc;clear c0 c1 c2;go_wp2_with fail;refine(zLc (hpB h) (some ⟨gb,0,none⟩) 3 W (Rc)).mono ?_;rintro e w3 ⟨u3,rfl,k3,hb3⟩;rw[HPB.out.1,HPB.out.2] at *;obtain⟨a3,c3,rfl,-⟩:=k3.rd;go_wp2;go_ret;exact⟨_,rfl,k3.lower (yi hz0.out BB.size),yn (yn BW BB) hb3⟩
theorem zFx {w:World} {B:Nat} {c k:Int} {bs:List UInt8} {u:Value} (h:Own w B u bs):msgResultC.own w B (c,k,bs) [.int .i64 c,.int .i64 k,u] ([]++([]++u.ownBlock.toList)):=
 zCV 0 zBd (zCV 0 zBd ⟨u,rfl,h,rfl⟩ zGN (fun _ _=>Nat.zero_le _)) zGN (fun _ _=>Nat.zero_le _)
theorem zLr (k:Int) (h:zAB) (us:List Value) (w:World) (r:helloC.rep w h us):
  Calls prog 175 #[.int .i64 k,.agg us.toArray] w fun e w'=>∃ us fp,e=.returned (.agg us.toArray)∧msgResultC.own w' w.heap.size (phD k h) us fp∧Below w.heap.size w w':=by
 obtain⟨p,q,rfl,rr⟩:=zAY r;clear r;have HR:Hid (Rd w p q h.1):=rr;clear rr;have BW:=yt (zA w (.cells #[.slice p h.1.length q,.int .i64 h.2.1,.int .i64 h.2.2] 84)) (.cells #[.int .i64 0,.int .i64 0,.slice none 0 0] 150);have A:=(yr w [.slice p h.1.length q,.int .i64 h.2.1,.int .i64 h.2.2] 84).old _ (.cells #[.int .i64 0,.int .i64 0,.slice none 0 0] 150);have R:=yr (w.alloc (.cells #[.slice p h.1.length q,.int .i64 h.2.1,.int .i64 h.2.2] 84)) [.int .i64 0,.int .i64 0,.slice none 0 0] 150;rw[zB] at R;cases hk:hkB k
 ·rw[show phD k h=(3,0,[]) by simp[phD,phC,hk]];go_enter func175,ntmps175;go_wp2_with fail;refine(zAr _ _).mono ?_;rintro e w1 ⟨rfl,hw⟩;subst w1;rw[hk];go_wp2;refine bodyPost_ret (v:=.agg #[.int .i64 3,.int .i64 0,.slice none 0 0]) (by simp[results,results175,go_sem]) rfl ⟨[_,_,_],_,rfl,zFx (zO _ _),?_⟩;exact yt (zA _ _) _
 ·have KF:Hid (∀ w,Calls prog 205 #[.agg #[.slice p h.1.length q,.int .i64 h.2.1,.int .i64 h.2.2]] w fun e w'=>e=.returned (.int .i64 (hfC h))∧Below w.heap.size w w'):=fun w=>zFD h p q w
  by_cases hc:hfC h=0
  ·have hp:phC k h=0:=by rw[phC,hk,if_pos rfl];exact hc
   rw[show phD k h=(0,k,hpL h) by rw[phD,if_pos hp]];have HC0:Hid (hfC h=0):=hc;rw[hc] at KF;clear hc hp;go_enter func175,ntmps175;go_wp2_with fail;refine(zAr _ _).mono ?_;rintro e w1 ⟨rfl,hw⟩;subst w1;rw[hk];go_wp2_with fail;refine(zHs h p q _).mono ?_;rintro e w1 ⟨rfl,hb1⟩;replace BW:=yn BW hb1;replace R:=R.stay hb1;clear A hb1;have N:=yr w1 [.slice p h.1.length q,.int .i64 h.2.1,.int .i64 h.2.2] 189;have hb2:=zA w1 (.cells #[.slice p h.1.length q,.int .i64 h.2.1,.int .i64 h.2.2] 189);replace BW:=yn BW hb2;replace R:=R.stay hb2;clear hb2;go_wp2_with fail;refine(KF.out _).mono ?_;rintro e w2 ⟨rfl,hb2⟩;replace BW:=yn BW hb2;replace R:=R.stay hb2;replace N:=N.stay hb2;clear hb2;obtain⟨c0,c1,c2⟩:=zc3 N;go_wp2_with fail;refine(zIR h p q w2 (HR.out.keep BW) HC0.out).mono ?_;rintro e w3 ⟨u3,rfl,k3,hb3⟩;have hz:Hid (w.heap.size+2≤w2.heap.size):=R.lt;replace BW:=yn BW hb3;replace R:=R.stay hb3;obtain⟨a3,c3,rfl,-⟩:=k3.rd;replace k3:=k3.lower hz.out;clear hb3 N c0 c1 c2;obtain⟨t0,t1,t2⟩:=zc3 R;have ft:=R.frozen;clear R;go_wp2_with fail;exact bodyPost_ret (v:=.agg #[.int .i64 0,.int .i64 k,.slice a3 (hpL h).length c3]) (by simp[results,results175,go_sem,t0,t1,t2]) rfl ⟨[_,_,_],_,rfl,zFx ((((k3.set (yg _) _).set (yg _) _).set (yg _) _).lower (by omega)),zs3 BW zzA⟩
  ·have hp:phC k h=hfC h:=by rw[phC,hk,if_pos rfl]
   rw[show phD k h=(hfC h,0,[]) by rw[phD,hp,if_neg hc]]
   have hd:(hfC h != 0)=true:=by rw[bne_iff_ne];exact hc
   clear hc hp;generalize hfC h=cc at *;go_enter func175,ntmps175;go_wp2_with fail;refine(zAr _ _).mono ?_;rintro e w1 ⟨rfl,hw⟩;subst w1;rw[hk];go_wp2_with fail;refine(zHs h p q _).mono ?_;rintro e w1 ⟨rfl,hb1⟩;replace BW:=yn BW hb1;replace R:=R.stay hb1;clear A hb1;have hb2:=zA w1 (.cells #[.slice p h.1.length q,.int .i64 h.2.1,.int .i64 h.2.2] 189);replace BW:=yn BW hb2;replace R:=R.stay hb2;clear hb2;go_wp2_with fail;refine(KF.out _).mono ?_;rintro e w2 ⟨rfl,hb2⟩;replace BW:=yn BW hb2;replace R:=R.stay hb2;clear hb2;obtain⟨t0,t1,t2⟩:=zc3 R;have ft:=R.frozen;clear R;go_wp2_with fail;exact bodyPost_ret (v:=.agg #[.int .i64 cc,.int .i64 0,.slice none 0 0]) (by simp[results,results175,go_sem,t0,t1,t2]) rfl ⟨[_,_,_],_,rfl,zFx (zO _ _),zs3 BW zzA⟩
theorem zES (t:Bool) (w:World):Calls prog 40 #[.bool t] w fun e w'=>e=.returned (.int .i64 (if t then 32 else 0))∧w'=w:=by
 cases t
 ·go_enter func40,ntmps40;go_wp2;go_ret;exact⟨rfl,rfl⟩
 ·go_enter func40,ntmps40;go_wp2;go_ret;exact⟨rfl,rfl⟩
theorem zJA (s:zT) (us:List Value) (w:World) (r:sideC.rep w s us):
  Calls prog 9 #[.agg us.toArray] w fun e w'=>e=.returned (.int .i64 (sfC s))∧Below w.heap.size w w':=by
 obtain⟨p2,q2,p4,q4,rfl,-,-⟩:=zAM r;clear r;have BW:=zA w (.cells #[.int .i64 s.1,.slice p2 s.2.1.length q2,.int .i64 s.2.2.1,.slice p4 s.2.2.2.length q4] 25);have A:=yr w [.int .i64 s.1,.slice p2 s.2.1.length q2,.int .i64 s.2.2.1,.slice p4 s.2.2.2.length q4] 25
 suffices H:∀ Q:Ending→World→Prop,Hid (∀ c w',c=sfC s→Below w.heap.size w w'→Q (.returned (.int .i64 c)) w')→Calls prog 9 #[.agg #[.int .i64 s.1,.slice p2 s.2.1.length q2,.int .i64 s.2.2.1,.slice p4 s.2.2.2.length q4]] w Q from H _ (show Hid _ from fun c w' hc hb=>⟨by rw[hc],hb⟩)
 intro Q HQ;cases h1:inB s.1 1 65519
 ·have hc:Hid (3=sfC s):=by show _=_;simp[sfC,h1]
  go_enter func9,ntmps9;go_wp2_with fail;refine(zAF _ _).mono ?_;rintro e w' ⟨rfl,rfl⟩;rw[h1];go_wp2;exact HQ.out _ _ hc.out BW
 ·cases h2:inB s.2.2.1 0 9
  ·have hc:Hid (3=sfC s):=by show _=_;simp[sfC,h2]
   go_enter func9,ntmps9;go_wp2_with fail;refine(zAF _ _).mono ?_;rintro e w' ⟨rfl,rfl⟩;rw[h1];go_wp2_with fail;refine(zEw _ _).mono ?_;rintro e w' ⟨rfl,rfl⟩;rw[h2];go_wp2;exact HQ.out _ _ hc.out BW
  ·have HF:Hid (sfC s=if s.2.1.length=8∧s.2.2.2.length=keyW s.2.2.1 then 0 else 1):=by show _=_;simp[sfC,h1,h2]
   have KW:=fun w=>zDP p2 q2 s.2.1 w
   by_cases h8:s.2.1.length=8
   ·rw[show decide (s.2.1.length=8)=true by simp[h8]] at KW
    have KL:=fun w=>zES (s.2.2.1 != 0) w
    by_cases hk:s.2.2.2.length=keyW s.2.2.1
    ·have hc:Hid (0=sfC s):=by show _=_;rw[HF.out,if_pos ⟨h8,hk⟩]
     have dk:((s.2.2.2.length:Int) != (if (s.2.2.1 != 0)=true then 32 else 0))=false:=by
      rw[bne_eq_false_iff_eq,hk];unfold keyW
      by_cases h0:s.2.2.1=0 <;> simp[h0]
     clear h8 hk HF;generalize (if (s.2.2.1 != 0)=true then (32:Int) else 0)=lw at *;go_enter func9,ntmps9;go_wp2_with fail;refine(zAF _ _).mono ?_;rintro e w' ⟨rfl,rfl⟩;rw[h1];go_wp2_with fail;refine(zEw _ _).mono ?_;rintro e w' ⟨rfl,rfl⟩;rw[h2];go_wp2_with fail
     go_quiet (first | (go_at_call 39;exact Calls.quiet_of_same (KW _)) | (go_at_call 40;exact Calls.quiet_of_same (KL _)))
     go_wp2;exact HQ.out _ _ hc.out ⟨BW.os,BW.tape,BW.output,BW.size,BW.block⟩
    ·have hc:Hid (1=sfC s):=by show _=_;rw[HF.out,if_neg (fun h=>hk h.2)]
     have dk:((s.2.2.2.length:Int) != (if (s.2.2.1 != 0)=true then 32 else 0))=true:=by
      rw[bne_iff_ne];intro e;apply hk;unfold keyW
      by_cases h0:s.2.2.1=0 <;> simp[h0] at e ⊢ <;> omega
     clear h8 hk HF;generalize (if (s.2.2.1 != 0)=true then (32:Int) else 0)=lw at *;go_enter func9,ntmps9;go_wp2_with fail;refine(zAF _ _).mono ?_;rintro e w' ⟨rfl,rfl⟩;rw[h1];go_wp2_with fail;refine(zEw _ _).mono ?_;rintro e w' ⟨rfl,rfl⟩;rw[h2];go_wp2_with fail
     go_quiet (first | (go_at_call 39;exact Calls.quiet_of_same (KW _)) | (go_at_call 40;exact Calls.quiet_of_same (KL _)))
     go_wp2;exact HQ.out _ _ hc.out ⟨BW.os,BW.tape,BW.output,BW.size,BW.block⟩
   ·rw[show decide (s.2.1.length=8)=false by simp[h8]] at KW
    have hc:Hid (1=sfC s):=by show _=_;rw[HF.out,if_neg (fun h=>h8 h.1)]
    clear h8 HF;go_enter func9,ntmps9;go_wp2_with fail;refine(zAF _ _).mono ?_;rintro e w' ⟨rfl,rfl⟩;rw[h1];go_wp2_with fail;refine(zEw _ _).mono ?_;rintro e w' ⟨rfl,rfl⟩;rw[h2];go_wp2_with fail
    go_quiet ((go_at_call 39;exact Calls.quiet_of_same (KW _)))
    go_wp2;exact HQ.out _ _ hc.out ⟨BW.os,BW.tape,BW.output,BW.size,BW.block⟩
theorem zNm (x:zAQ) (n:Nat):seB x n=([x.1,x.2.1,x.2.2.1,x.2.2.2].all fun b=>decide (b.length=n)):=by simp[seB]
theorem zJd (x:zAQ) (st:Int) (p1 p2 p3 p4:Option Addr) (q1 q2 q3 q4:Nat) (w:World):
  Calls prog 46 #[.agg #[.slice p1 x.1.length q1,.slice p2 x.2.1.length q2,.slice p3 x.2.2.1.length q3,.slice p4 x.2.2.2.length q4],.int .i64 st] w fun e w'=>e=.returned (.bool (seB x (zBj st)))∧Below w.heap.size w w':=by
 obtain⟨a,b,c,d⟩:=x;have BW:=yt (zA w (.cells #[.slice p1 a.length q1,.slice p2 b.length q2,.slice p3 c.length q3,.slice p4 d.length q4] 30)) (.cells #[.slice p1 a.length q1,.slice p2 b.length q2,.slice p3 c.length q3,.slice p4 d.length q4] 22)
 have KL:=fun w=>zES (st==3) w
 obtain⟨n,hn⟩:∃ n:Nat,n=zBj st:=⟨_,rfl⟩
 have hlw:(if (st==3)=true then (32:Int) else 0)=(n:Int):=by
  rw[hn];unfold zBj
  by_cases h0:st=3 <;> simp[h0]
 rw[hlw] at KL;rw[← hn]
 have hn32:n≤32:=by rw[hn];unfold zBj;split <;> decide
 clear hlw hn
 suffices H:∀ Q:Ending→World→Prop,Hid (∀ c' w',c'=seB (a,b,c,d) n→Below w.heap.size w w'→Q (.returned (.bool c')) w')→Calls prog 46 #[.agg #[.slice p1 a.length q1,.slice p2 b.length q2,.slice p3 c.length q3,.slice p4 d.length q4],.int .i64 st] w Q from H _ (show Hid _ from fun c w' hc hb=>⟨by rw[hc],hb⟩)
 intro Q HQ;have HE:Hid (seB (a,b,c,d) n=([a,b,c,d].all fun b=>decide (b.length=n))):=zNm _ _;have A:=yr (w.alloc (.cells #[.slice p1 a.length q1,.slice p2 b.length q2,.slice p3 c.length q3,.slice p4 d.length q4] 30)) [.slice p1 a.length q1,.slice p2 b.length q2,.slice p3 c.length q3,.slice p4 d.length q4] 22;rw[zB] at A
 have HV:Hid (∀ k,k<4→∃ x pk qk,[a,b,c,d][k]?=some x∧[Value.slice p1 a.length q1,.slice p2 b.length q2,.slice p3 c.length q3,.slice p4 d.length q4][k]?=some (.slice pk x.length qk)):=fun k hk=>by
  match k,hk with
  | 0,_=>exact⟨_,_,_,rfl,rfl⟩
  | 1,_=>exact⟨_,_,_,rfl,rfl⟩
  | 2,_=>exact⟨_,_,_,rfl,rfl⟩
  | 3,_=>exact⟨_,_,_,rfl,rfl⟩
 go_enter func46,ntmps46;go_wp2_with fail;refine(KL _).mono ?_;rintro e w' ⟨rfl,rfl⟩;go_wp2_with fail;generalize hW:(w.alloc (.cells #[.slice p1 a.length q1,.slice p2 b.length q2,.slice p3 c.length q3,.slice p4 d.length q4] 30)).alloc (.cells #[.slice p1 a.length q1,.slice p2 b.length q2,.slice p3 c.length q3,.slice p4 d.length q4] 22)=W at *;clear hW KL;generalize [Value.slice p1 a.length q1,.slice p2 b.length q2,.slice p3 c.length q3,.slice p4 d.length q4]=vs at *;obtain⟨ls,HLS⟩:∃ ls,Hid (ls=[a,b,c,d]):=⟨_,rfl⟩;rw[← HLS.out] at HE HV
 have H4:Hid (ls.length=4):=by show _=_;rw[HLS.out];rfl
 go_loopw [21] (fun i wr=>∃ k:Nat,k≤4∧i=.int .i64 k∧(∀ (j:Nat) (x:List UInt8),j<k→ls[j]?=some x→x.length=n)∧wr=W)
  (fun i _=>4-(intOf i).toNat)
 case atStart=>exact⟨0,Nat.zero_le _,rfl,fun j b hj=>absurd hj (Nat.not_lt_zero _),rfl⟩
 case round=>
  obtain⟨k,hk,rfl,hall,rfl⟩:=hrel
  by_cases hlt:k<4
  ·have hI:(k:Int)<4:=by omega
   obtain⟨x,pk,qk,hx,hv⟩:=HV.out k hlt;have cx:=(A.cell k).trans hv
   by_cases hf:x.length=n
   ·have hall2:Hid (∀ (j:Nat) (y:List UInt8),j<k+1→ls[j]?=some y→y.length=n):=fun j y hj hy=>by
     by_cases h:j<k
     ·exact hall j y h hy
     ·rw[show j=k by omega,hx] at hy;cases hy;exact hf
    have dn:((x.length:Int) != (n:Int))=false:=by rw[bne_eq_false_iff_eq];omega
    clear hf hall hx hv;go_wp2_with fail;go_roundw
    case rel=>exact⟨k+1,by omega,by go_num,hall2.out,trivial⟩
    case measure=>simp[intOf];omega
   ·have dn:((x.length:Int) != (n:Int))=true:=by rw[bne_iff_ne];omega
    have HE2:Hid (seB (a,b,c,d) n=false):=by
     show _=_
     rw[HE.out,List.all_eq_false];exact⟨x,List.mem_of_getElem? hx,by simpa using hf⟩
    clear hf hall hx hv;go_wp2;exact HQ.out _ _ HE2.out.symm BW
  ·have ek:k=4:=by omega
   subst ek
   have HE2:Hid (seB (a,b,c,d) n=true):=by
    show _=_
    rw[HE.out,List.all_eq_true];intro x hx;obtain⟨j,hj,rfl⟩:=List.getElem_of_mem hx;have h4:=H4.out
    simpa using hall j _ (by omega) (List.getElem?_eq_getElem hj)
   clear hall;go_wp2;exact HQ.out _ _ HE2.out.symm BW
theorem zDe (e:EndD) (us:List Value) (w:World) (r:endC.rep w e us):
  Calls prog 13 #[.agg us.toArray] w fun x w'=>x=.returned (.int .i64 (efC e))∧Below w.heap.size w w':=by
 obtain⟨p1,q1,p2,q2,p3,q3,p4,q4,p5,q5,p6,q6,p7,q7,p8,q8,rfl,r1,r2,rm,-,-,-,-,-⟩:=zAC r;clear r;have BW:=zA w (.cells #[.int .i64 e.1.1,.slice p1 e.1.2.1.length q1,.int .i64 e.1.2.2.1,.slice p2 e.1.2.2.2.length q2,.int .i64 e.2.1,.int .i64 e.2.2.1,.slice p3 e.2.2.2.1.length q3,.slice p4 e.2.2.2.2.1.length q4,.slice p5 e.2.2.2.2.2.1.length q5,.slice p6 e.2.2.2.2.2.2.1.length q6,.slice p7 e.2.2.2.2.2.2.2.1.length q7,.slice p8 e.2.2.2.2.2.2.2.2.length q8] 32);have A:=yr w [.int .i64 e.1.1,.slice p1 e.1.2.1.length q1,.int .i64 e.1.2.2.1,.slice p2 e.1.2.2.2.length q2,.int .i64 e.2.1,.int .i64 e.2.2.1,.slice p3 e.2.2.2.1.length q3,.slice p4 e.2.2.2.2.1.length q4,.slice p5 e.2.2.2.2.2.1.length q5,.slice p6 e.2.2.2.2.2.2.1.length q6,.slice p7 e.2.2.2.2.2.2.2.1.length q7,.slice p8 e.2.2.2.2.2.2.2.2.length q8] 32
 have KS:Hid (Calls prog 9 #[.agg #[.int .i64 e.1.1,.slice p1 e.1.2.1.length q1,.int .i64 e.1.2.2.1,.slice p2 e.1.2.2.2.length q2]] (w.alloc (.cells #[.int .i64 e.1.1,.slice p1 e.1.2.1.length q1,.int .i64 e.1.2.2.1,.slice p2 e.1.2.2.2.length q2,.int .i64 e.2.1,.int .i64 e.2.2.1,.slice p3 e.2.2.2.1.length q3,.slice p4 e.2.2.2.2.1.length q4,.slice p5 e.2.2.2.2.2.1.length q5,.slice p6 e.2.2.2.2.2.2.1.length q6,.slice p7 e.2.2.2.2.2.2.2.1.length q7,.slice p8 e.2.2.2.2.2.2.2.2.length q8] 32)) fun x w'=>x=.returned (.int .i64 (sfC e.1))∧Below (w.alloc (.cells #[.int .i64 e.1.1,.slice p1 e.1.2.1.length q1,.int .i64 e.1.2.2.1,.slice p2 e.1.2.2.2.length q2,.int .i64 e.2.1,.int .i64 e.2.2.1,.slice p3 e.2.2.2.1.length q3,.slice p4 e.2.2.2.2.1.length q4,.slice p5 e.2.2.2.2.2.1.length q5,.slice p6 e.2.2.2.2.2.2.1.length q6,.slice p7 e.2.2.2.2.2.2.2.1.length q7,.slice p8 e.2.2.2.2.2.2.2.2.length q8] 32)).heap.size (w.alloc (.cells #[.int .i64 e.1.1,.slice p1 e.1.2.1.length q1,.int .i64 e.1.2.2.1,.slice p2 e.1.2.2.2.length q2,.int .i64 e.2.1,.int .i64 e.2.2.1,.slice p3 e.2.2.2.1.length q3,.slice p4 e.2.2.2.2.1.length q4,.slice p5 e.2.2.2.2.2.1.length q5,.slice p6 e.2.2.2.2.2.2.1.length q6,.slice p7 e.2.2.2.2.2.2.2.1.length q7,.slice p8 e.2.2.2.2.2.2.2.2.length q8] 32)) w'):=
  zJA e.1 _ _ (zCZ (r1.keep BW) (r2.keep BW))
 have HR:Hid (RdL msgC w p3 q3 e.2.2.2.1):=rm;clear r1 r2 rm
 suffices H:∀ Q:Ending→World→Prop,Hid (∀ c w',c=efC e→Below w.heap.size w w'→Q (.returned (.int .i64 c)) w')→Calls prog 13 #[.agg #[.int .i64 e.1.1,.slice p1 e.1.2.1.length q1,.int .i64 e.1.2.2.1,.slice p2 e.1.2.2.2.length q2,.int .i64 e.2.1,.int .i64 e.2.2.1,.slice p3 e.2.2.2.1.length q3,.slice p4 e.2.2.2.2.1.length q4,.slice p5 e.2.2.2.2.2.1.length q5,.slice p6 e.2.2.2.2.2.2.1.length q6,.slice p7 e.2.2.2.2.2.2.2.1.length q7,.slice p8 e.2.2.2.2.2.2.2.2.length q8]] w Q from H _ (show Hid _ from fun c w' hc hb=>⟨by rw[hc],hb⟩)
 intro Q HQ
 by_cases hs:sfC e.1=0
 ·rw[hs] at KS
  have HE:Hid (efC e=if inB e.2.1 1 3&&inB e.2.2.1 0 2 then (if e.2.2.2.1.length≤4 then (if zAJ e.2.2.2.1=0 then (if (e.2.2.2.2.1.length=0∨e.2.2.2.2.1.length=32)∧seB e.2.2.2.2.2 (zBj e.2.1)=true then 0 else 1) else zAJ e.2.2.2.1) else 2) else 3):=by show _=_;unfold efC;rw[if_pos hs]
  clear hs;go_enter func13,ntmps13;go_wp2_with fail;refine KS.out.mono ?_;rintro x w1 ⟨rfl,hb1⟩;replace BW:=yn BW hb1;replace A:=A.stay hb1;clear hb1 KS;have c4:=zQ (A.cell 4) rfl;have c5:=zQ (A.cell 5) rfl;have c6:=zQ (A.cell 6) rfl
  by_cases h13:1≤e.2.1∧e.2.1≤3∧0≤e.2.2.1∧e.2.2.1≤2
  ·have d1:¬ (e.2.1<1):=by omega
   have d2:¬ (3<e.2.1):=by omega
   have d3:¬ (e.2.2.1<0):=by omega
   have d4:¬ (2<e.2.2.1):=by omega
   replace HE:Hid (efC e=if e.2.2.2.1.length≤4 then (if zAJ e.2.2.2.1=0 then (if (e.2.2.2.2.1.length=0∨e.2.2.2.2.1.length=32)∧seB e.2.2.2.2.2 (zBj e.2.1)=true then 0 else 1) else zAJ e.2.2.2.1) else 2):=by show _=_;rw[HE.out,if_pos (by simp[inB,h13])]
   clear h13
   by_cases h4:e.2.2.2.1.length≤4
   ·have h4I:¬ (4<(e.2.2.2.1.length:Int)):=by omega
    replace HE:Hid (efC e=if zAJ e.2.2.2.1=0 then (if (e.2.2.2.2.1.length=0∨e.2.2.2.2.1.length=32)∧seB e.2.2.2.2.2 (zBj e.2.1)=true then 0 else 1) else zAJ e.2.2.2.1):=by show _=_;rw[HE.out,if_pos h4]
    have H4:Hid (e.2.2.2.1.length≤4):=h4;clear h4;generalize e.2.2.2.1=l at *;go_wp2_with fail;clear c4 c5 c6 d1 d2 d3 d4 h4I
    go_loopw [37] (fun i wr=>∃ k:Nat,k≤l.length∧i=.int .i64 k∧(∀ (j:Nat) (b:Int×List UInt8),j<k→l[j]?=some b→zF b.1 b.2.length=0)∧Below w1.heap.size w1 wr)
     (fun i _=>l.length-(intOf i).toNat)
    case atStart=>exact⟨0,Nat.zero_le _,rfl,fun j b hj=>absurd hj (Nat.not_lt_zero _),Below.refl _ _⟩
    case round=>
     obtain⟨k,hk,rfl,hall,hbr⟩:=hrel;replace BW:=yn BW hbr;replace A:=A.stay hbr
     by_cases hlt:k<l.length
     ·have hI:(k:Int)<(l.length:Int):=by omega
      obtain⟨bb,o,e1,hc⟩:=(HR.out.keep BW).2.2.2 (by omega);subst e1;obtain⟨a,ha⟩:∃ a,l[k]?=some a:=⟨l[k],by simp[hlt]⟩;obtain⟨us,hrep,hcell⟩:=hc k a ha;obtain⟨pa,qa,rfl,ra⟩:=zAc hrep;have m0:=hcell 0 _ rfl;have m1:=hcell 1 _ rfl;rw[show msgC.n=2 from rfl] at m0 m1;rw[Nat.add_zero] at m0;have KF:Hid (∀ w,Calls prog 44 #[.agg #[.int .i64 a.1,.slice pa a.2.length qa]] w fun e w'=>e=.returned (.int .i64 (zF a.1 a.2.length))∧Below w.heap.size w w'):=zFL a.1 a.2.length qa pa;have HBR:Hid (Below w1.heap.size w1 wr):=hbr;clear hc hcell hrep hbr A
      by_cases hf:zF a.1 a.2.length=0
      ·have hall2:Hid (∀ (j:Nat) (b:Int×List UInt8),j<k+1→l[j]?=some b→zF b.1 b.2.length=0):=fun j b hj hb=>by
        by_cases h:j<k
        ·exact hall j b h hb
        ·rw[show j=k by omega,ha] at hb;cases hb;exact hf
       rw[hf] at KF;clear hf hall;go_wp2_with fail;refine(KF.out _).mono ?_;rintro e w2 ⟨rfl,hb2⟩;have HB2:Hid (Below w1.heap.size w1 w2):=yn (yn HBR.out (zA _ _)) hb2;clear hb2 m0 m1 HBR;go_wp2_with fail;go_roundw
       case rel=>exact⟨k+1,by omega,by go_num,hall2.out,HB2.out⟩
       case measure=>simp[intOf];omega
      ·have hFF:Hid (zAJ l=zF a.1 a.2.length):=zFS ha hall hf
       have HE2:Hid (efC e=zF a.1 a.2.length):=by show _=_;rw[HE.out,if_neg (by rw[hFF.out];exact hf),hFF.out]
       obtain⟨fc,hfc⟩:∃ fc,Hid (zF a.1 a.2.length=fc):=⟨_,rfl⟩
       have hz:(fc != 0)=true:=by rw[bne_iff_ne,← hfc.out];exact hf
       rw[hfc.out] at KF HE2;clear hf hall hFF HE;go_wp2_with fail;refine(KF.out _).mono ?_;rintro e w2 ⟨rfl,hb2⟩;replace BW:=yn (yn BW (zA _ _)) hb2;clear hb2 m0 m1 HBR;go_wp2;exact HQ.out _ _ HE2.out.symm BW
     ·have ek:k=l.length:=by omega
      subst ek
      have hF0:Hid (zAJ l=0):=zCm fun j b hb=>hall j b (List.getElem?_eq_some_iff.1 hb).1 hb
      replace HE:Hid (efC e=if (e.2.2.2.2.1.length=0∨e.2.2.2.2.1.length=32)∧seB e.2.2.2.2.2 (zBj e.2.1)=true then 0 else 1):=by show _=_;rw[HE.out,if_pos hF0.out]
      clear hF0 hall hlt hbr;have c4:=zQ (A.cell 4) rfl;have c7:=zQ (A.cell 7) rfl;have c8:=zQ (A.cell 8) rfl;have c9:=zQ (A.cell 9) rfl;have c10:=zQ (A.cell 10) rfl;have c11:=zQ (A.cell 11) rfl
      have KI:=fun w=>zFR p4 q4 e.2.2.2.2.1 w
      have KFS:=zJd e.2.2.2.2.2 e.2.1 p5 p6 p7 p8 q5 q6 q7 q8 wr;clear A;obtain⟨x,hx⟩:∃ x,x=e.2.2.2.2.2:=⟨_,rfl⟩;obtain⟨bs,hbs⟩:∃ bs,bs=e.2.2.2.2.1:=⟨_,rfl⟩;rw[← hx] at HE KFS c8 c9 c10 c11;rw[← hbs] at HE KI c7;clear hx hbs
      by_cases hb0:bs.length=0
      ·have d0:((bs.length:Int) != 0)=false:=by rw[bne_eq_false_iff_eq];omega
       cases hse:seB x (zBj e.2.1)
       ·have HE2:Hid (efC e=1):=by show _=_;rw[HE.out,hse,if_neg (fun h=>absurd h.2 (by decide))]
        rw[hse] at KFS;clear HE hb0 hse KI;go_wp2_with fail;refine KFS.mono ?_;rintro e w2 ⟨rfl,hb2⟩;replace BW:=yn BW hb2;go_wp2;exact HQ.out _ _ HE2.out.symm BW
       ·have HE2:Hid (efC e=0):=by show _=_;rw[HE.out,hse,if_pos ⟨.inl hb0,rfl⟩]
        rw[hse] at KFS;clear HE hb0 hse KI;go_wp2_with fail;refine KFS.mono ?_;rintro e w2 ⟨rfl,hb2⟩;replace BW:=yn BW hb2;go_wp2;exact HQ.out _ _ HE2.out.symm BW
      ·have d0:((bs.length:Int) != 0)=true:=by rw[bne_iff_ne];omega
       by_cases hb32:bs.length=32
       ·rw[show is32 bs=true by simp[is32,hb32]] at KI;cases hse:seB x (zBj e.2.1)
        ·have HE2:Hid (efC e=1):=by show _=_;rw[HE.out,hse,if_neg (fun h=>absurd h.2 (by decide))]
         rw[hse] at KFS;clear HE hb0 hse hb32;go_wp2_with fail;refine(KI _).mono ?_;rintro e w2 ⟨rfl,hw⟩;subst w2;go_wp2_with fail;refine KFS.mono ?_;rintro e w2 ⟨rfl,hb2⟩;replace BW:=yn BW hb2;go_wp2;exact HQ.out _ _ HE2.out.symm BW
        ·have HE2:Hid (efC e=0):=by show _=_;rw[HE.out,hse,if_pos ⟨.inr hb32,rfl⟩]
         rw[hse] at KFS;clear HE hb0 hse hb32;go_wp2_with fail;refine(KI _).mono ?_;rintro e w2 ⟨rfl,hw⟩;subst w2;go_wp2_with fail;refine KFS.mono ?_;rintro e w2 ⟨rfl,hb2⟩;replace BW:=yn BW hb2;go_wp2;exact HQ.out _ _ HE2.out.symm BW
       ·rw[show is32 bs=false by simp[is32,hb32]] at KI
        have HE2:Hid (efC e=1):=by show _=_;rw[HE.out,if_neg (fun h=>h.1.elim hb0 hb32)]
        clear HE hb0 hb32 KFS;go_wp2_with fail;refine(KI _).mono ?_;rintro e w2 ⟨rfl,hw⟩;subst w2;go_wp2;exact HQ.out _ _ HE2.out.symm BW
   ·have h4I:4<(e.2.2.2.1.length:Int):=by omega
    have HE2:Hid (efC e=2):=by show _=_;rw[HE.out,if_neg h4]
    clear h4 HE;go_wp2;exact HQ.out _ _ HE2.out.symm BW
  ·have HE2:Hid (efC e=3):=by
    show _=_
    rw[HE.out,if_neg];intro h;apply h13
    simpa [inB,and_assoc] using h
   have hd:e.2.1<1∨¬ e.2.1<1∧(3<e.2.1∨¬ 3<e.2.1∧(e.2.2.1<0∨¬ e.2.2.1<0∧2<e.2.2.1)):=by omega
   clear h13 HE;rcases hd with d1 | ⟨d1,d2 | ⟨d2,d3 | ⟨d3,d4⟩⟩⟩
   all_goals
    go_wp2;exact HQ.out _ _ HE2.out.symm BW
 ·have hd:(sfC e.1 != 0)=true:=by rw[bne_iff_ne];exact hs
  have HE:Hid (efC e=sfC e.1):=by show _=_;unfold efC;rw[if_neg hs]
  clear hs;generalize sfC e.1=ac at *;go_enter func13,ntmps13;go_wp2_with fail;refine KS.out.mono ?_;rintro x w1 ⟨rfl,hb1⟩;replace BW:=yn BW hb1;go_wp2;exact HQ.out _ _ HE.out.symm BW
end Go.Proofs.YtiabacnmmojfjaaGreatDoor
