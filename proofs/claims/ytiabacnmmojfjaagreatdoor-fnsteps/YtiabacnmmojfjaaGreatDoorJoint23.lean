import Derived.Test.YtiabacnmmojfjaaGreatDoorJoint21
import Derived.Test.YtiabacnmmojfjaaGreatDoorJoint22
import Derived.Test.YtiabacnmmojfjaaGreatDoorJoint16
import Derived.Test.YtiabacnmmojfjaaGreatDoorJoint7
import Derived.Test.YtiabacnmmojfjaaGreatDoorJoint6
import Derived.Test.YtiabacnmmojfjaaGreatDoorJoint14
import Derived.Test.YtiabacnmmojfjaaGreatDoorJoint20
import Derived.Test.YtiabacnmmojfjaaGreatDoorJoint12
import Derived.Test.YtiabacnmmojfjaaGreatDoorJoint10
import Derived.Test.YtiabacnmmojfjaaGreatDoorJoint11
set_option maxHeartbeats 2000000
set_option maxRecDepth 4000
open Go.Proofs.Tryz
namespace Go.Proofs.YtiabacnmmojfjaaGreatDoor
open Go.ChangeShapes Go.WideShapes Go.ChangeAt Go.RowKit
theorem RdL.take {α:Type} {c:Cod α} {w:World} {p:Option Addr} {q:Nat} {l:List α} (h:RdL c w p q l) (n:Nat):RdL c w p q (l.take n):=by
 obtain⟨h1,h2,h3,h4⟩:=h;refine⟨by rw[List.length_take];omega,h2,h3,fun hp=>?_⟩;obtain⟨b,o,rfl,hc⟩:=h4 (by rw[List.length_take] at hp;omega);refine⟨b,o,rfl,fun i a hi=>hc i a ?_⟩;have hlt:=(List.getElem?_eq_some_iff.1 hi).1;rw[List.length_take] at hlt;rw[List.getElem?_take_of_lt (by omega)] at hi;exact hi
theorem RdL.drop {α:Type} {c:Cod α} {w:World} {b o q:Nat} {l:List α} (h:RdL c w (some ⟨b,o,none⟩) q l) (n:Nat) (hn:n≤l.length):RdL c w (some ⟨b,o+n*c.n,none⟩) (q-n) (l.drop n):=by
 obtain⟨h1,h2,h3,h4⟩:=h;refine⟨by rw[List.length_drop];omega,by omega,(fun e=>by cases e),fun hp=>⟨b,o+n*c.n,rfl,fun i a hi=>?_⟩⟩;obtain⟨b',o',e,hc⟩:=h4 (by rw[List.length_drop] at hp;omega);cases e;rw[List.getElem?_drop] at hi;obtain⟨us,hr,hu⟩:=hc (n+i) a hi;refine⟨us,hr,fun j u hj=>?_⟩;have:=hu j u hj;rw[show o+n*c.n+i*c.n+j=o+(n+i)*c.n+j by rw[Nat.add_mul];omega];exact this
theorem zC0 (b o:Nat) (s:zT) (shr mode:Int) (p p2:Option Addr) (q q2:Nat) (w:World) (hA:AtS w b o p q p2 q2 s) (hr:Rd w p2 q2 s.2.2.2) (hs:sfC s=0) (h1:1≤shr) (h2:shr≤65520):
  Calls prog 64 #[.pointer (some ⟨b,o,none⟩),.int .i64 shr,.int .i64 mode] w fun e w'=>∃ u,e=.returned u∧Own w' w.heap.size u (secN s shr mode)∧Below w.heap.size w w':=by
 have hp:=zAq hs
 have HK:Hid (s.2.2.2.length≤32):=by show _≤_;rw[hp.2.2.2.2.2];unfold keyW;split <;> decide
 have KP:Hid (∀ w,Calls prog 123 #[.int .i64 shr,.int .i64 s.1] w fun x w'=>x=.returned (.int .i64 ((powN shr.toNat s.1.toNat:Nat):Int))∧Below w.heap.size w w'):=fun w=>by
  have h:=zHT shr.toNat s.1.toNat w (by omega) (by omega);rw[show((s.1.toNat:Nat):Int)=s.1 by omega,show((shr.toNat:Nat):Int)=shr by omega] at h
  exact h.mono fun _ _ ⟨h1,h2⟩=>⟨h1,by rw[h2];exact Below.refl _ _⟩
 have KU:Hid (∀ w,Calls prog 122 #[.int .i64 ((powN shr.toNat s.1.toNat:Nat):Int),.int .i64 2] w fun e w'=>∃ u,e=.returned u∧Own w' w.heap.size u (putB (powN shr.toNat s.1.toNat) 2)∧Below w.heap.size w w'):=fun w=>by
  have h:=zFY (powN shr.toNat s.1.toNat) 2 w (by have:=zGi shr.toNat s.1.toNat;omega) (by decide);exact h
 have HS:Hid (secN s shr mode=zEm (zAp (if mode=2 then s.2.2.2 else [])) (putB (powN shr.toNat s.1.toNat) 2)):=rfl;have HR:Hid (Rd w p2 q2 s.2.2.2):=hr;have BW:=zA w (.cells #[] 5);have hA2:=hA.keep BW;obtain⟨c1,-,-,c3⟩:=hA2;have hz:Hid (w.heap.size≤(w.alloc (.cells #[] 5)).heap.size):=BW.size;clear hr hA hs hp h1 h2;generalize powN shr.toNat s.1.toNat=P at *
 by_cases hm:mode=2
 ·have dm:(mode==2)=true:=by rw[beq_iff_eq];exact hm
  rw[HS.out,if_pos hm];clear hm HS;obtain⟨K,HKE⟩:∃ K,Hid (K=s.2.2.2):=⟨_,rfl⟩;rw[← HKE.out] at HR HK c3;rw[← HKE.out];have RK:Rd (w.alloc (.cells #[] 5)) p2 q2 K:=HR.out.keep BW;obtain⟨pk,HPK⟩:∃ x,Hid (x=p2):=⟨_,rfl⟩;obtain⟨qk,HQK⟩:∃ x,Hid (x=q2):=⟨_,rfl⟩;rw[← HPK.out,← HQK.out] at RK c3
  have KE:Hid (∀ W,Rd W pk qk K→Calls prog 121 #[.slice pk K.length qk] W fun e w'=>∃ u,e=.returned u∧Own w' W.heap.size u (zAp K)∧Below W.heap.size W w'):=fun W h=>by
   have h2:=zHq pk qk K W h (by have:=HK.out;omega)
   skip
   exact h2
  go_enter func64,ntmps64;go_wp2_with fail;obtain⟨V,HV⟩:∃ V,Hid (V=w.alloc (.cells #[] 5)):=⟨_,rfl⟩;rw[← HV.out] at BW RK c1 hz ⊢;clear HV;apply share
  case h=>
   intro JN;have BB:=Below.refl V.heap.size V;have hne:=yq V;have g0:=yo (c1);refine zWr [0,2,3,4,5,6] 10 4 1 ?_;simp only[zD,ya,yb,yc]
   repeat (go_big_quiet_step (fail))
   refine wpQuiet_nil ?_;clear g0;refine zWc 1 rfl 121 #[.slice pk K.length qk] ?_;rintro _ ⟨sg,rfl⟩;refine(KE.out _ (RK.keep (yn BB sg.h))).mono ?_;rintro e wg1 ⟨ua,rfl,ka,hbx⟩;obtain⟨pa,qa,rfl,-⟩:=ka.rd;have hbg:=yn sg.h hbx;refine⟨_,rfl,⟨⟨wg1,hbx⟩,rfl⟩,?_⟩;have Ra:=Rd.own ka;replace BB:=yn BB hbg;clear hbg hbx sg ka;replace hne:=yq wg1;refine zWc 7 rfl 123 #[.int .i64 shr,.int .i64 s.1] ?_;rintro _ ⟨sg,rfl⟩;refine(KP.out _).mono ?_;rintro e wg2 ⟨rfl,hbx⟩;have hbg:=yn sg.h hbx;refine⟨_,rfl,⟨⟨wg2,hbx⟩,rfl⟩,?_⟩;replace Ra:=Ra.keep hbg;replace BB:=yn BB hbg;clear hbg hbx sg;replace hne:=yq wg2;refine zWc 8 rfl 122 #[.int .i64 (P:Int),.int .i64 2] ?_;rintro _ ⟨sg,rfl⟩;refine(KU.out _).mono ?_;rintro e wg3 ⟨ub,rfl,kb,hbx⟩;obtain⟨pb,qb,rfl,-⟩:=kb.rd;have hbg:=yn sg.h hbx;refine⟨_,rfl,⟨⟨wg3,hbx⟩,rfl⟩,?_⟩;have Rb:=Rd.own kb;replace Ra:=Ra.keep hbg;replace BB:=yn BB hbg;clear hbg hbx sg kb;replace hne:=yq wg3;refine zWc 9 rfl 120 #[.slice pa (zAp K).length qa,.slice pb (putB P 2).length qb] ?_;rintro _ ⟨sg,rfl⟩;refine(zEO pa pb qa qb (zAp K) (putB P 2) _ (Ra.keep sg.h) (Rb.keep sg.h) (by rw[zGY];decide) (by rw[zP];decide)).mono ?_;rintro e wg4 ⟨uc,rfl,kc,hbx⟩;obtain⟨pc,qc,rfl,-⟩:=kc.rd;have hbg:=yn sg.h hbx;refine⟨_,rfl,⟨⟨wg4,hbx⟩,rfl⟩,?_⟩;have Kc:=kc.lower ((yn BB sg.h)).size;replace Ra:=Ra.keep hbg;replace Rb:=Rb.keep hbg;replace BB:=yn BB hbg;clear hbg hbx sg kc;replace hne:=yq wg4;refine zWe ?_;rintro _ ⟨sz,rfl⟩;simp only[yd,ye]
   go_simp
   replace Ra:=Ra.keep sz.h;replace Rb:=Rb.keep sz.h;replace Kc:=Kc.stay sz.h;replace BB:=yn BB sz.h;clear hne;generalize sz.w=W at *;clear sz;revert Kc;revert Rb;revert Ra;revert BB;revert qc;revert pc;revert qb;revert pb;revert qa;revert pa;revert W;exact JN.out
  intro W pa qa pb qb pc qc BB Ra Rb Kc;clear c1;go_wp2;go_ret;exact⟨_,rfl,Kc.lower hz.out,yn BW BB⟩
 ·have dm:(mode==2)=false:=by rw[beq_eq_false_iff_ne];exact hm
  rw[HS.out,if_neg hm];clear hm HS c3;have RK:Rd (w.alloc (.cells #[] 5)) (some ⟨w.heap.size,0,none⟩) 0 ([]:List UInt8):=⟨yf _,by unfold maxLen;decide,(fun e=>by cases e),fun h=>by simp at h⟩;obtain⟨K,HKE⟩:∃ K:List UInt8,Hid (K=[]):=⟨_,rfl⟩
  have HK:Hid (K.length≤32):=by show _≤_;rw[HKE.out];decide
  rw[← HKE.out] at RK ⊢
  have KE:Hid (∀ W,Rd W (some ⟨w.heap.size,0,none⟩) 0 K→Calls prog 121 #[.slice (some ⟨w.heap.size,0,none⟩) 0 0] W fun e w'=>∃ u,e=.returned u∧Own w' W.heap.size u (zAp K)∧Below W.heap.size W w'):=fun W h=>by
   have h2:=zHq (some ⟨w.heap.size,0,none⟩) 0 K W h (by have:=HK.out;omega);rw[HKE.out] at h2 ⊢;exact h2
  go_enter func64,ntmps64;go_wp2_with fail;obtain⟨V,HV⟩:∃ V,Hid (V=w.alloc (.cells #[] 5)):=⟨_,rfl⟩;rw[← HV.out] at BW RK c1 hz ⊢;clear HV;apply share
  case h=>
   intro JN;have BB:=Below.refl V.heap.size V;have hne:=yq V;have g0:=yo (c1);refine zWr [0,2,3,4,5,6] 10 4 1 ?_;simp only[zD,ya,yb,yc]
   repeat (go_big_quiet_step (fail))
   refine wpQuiet_nil ?_;clear g0;refine zWc 1 rfl 121 #[.slice (some ⟨w.heap.size,0,none⟩) 0 0] ?_;rintro _ ⟨sg,rfl⟩;refine(KE.out _ (RK.keep (yn BB sg.h))).mono ?_;rintro e wg1 ⟨ua,rfl,ka,hbx⟩;obtain⟨pa,qa,rfl,-⟩:=ka.rd;have hbg:=yn sg.h hbx;refine⟨_,rfl,⟨⟨wg1,hbx⟩,rfl⟩,?_⟩;have Ra:=Rd.own ka;replace BB:=yn BB hbg;clear hbg hbx sg ka;replace hne:=yq wg1;refine zWc 7 rfl 123 #[.int .i64 shr,.int .i64 s.1] ?_;rintro _ ⟨sg,rfl⟩;refine(KP.out _).mono ?_;rintro e wg2 ⟨rfl,hbx⟩;have hbg:=yn sg.h hbx;refine⟨_,rfl,⟨⟨wg2,hbx⟩,rfl⟩,?_⟩;replace Ra:=Ra.keep hbg;replace BB:=yn BB hbg;clear hbg hbx sg;replace hne:=yq wg2;refine zWc 8 rfl 122 #[.int .i64 (P:Int),.int .i64 2] ?_;rintro _ ⟨sg,rfl⟩;refine(KU.out _).mono ?_;rintro e wg3 ⟨ub,rfl,kb,hbx⟩;obtain⟨pb,qb,rfl,-⟩:=kb.rd;have hbg:=yn sg.h hbx;refine⟨_,rfl,⟨⟨wg3,hbx⟩,rfl⟩,?_⟩;have Rb:=Rd.own kb;replace Ra:=Ra.keep hbg;replace BB:=yn BB hbg;clear hbg hbx sg kb;replace hne:=yq wg3;refine zWc 9 rfl 120 #[.slice pa (zAp K).length qa,.slice pb (putB P 2).length qb] ?_;rintro _ ⟨sg,rfl⟩;refine(zEO pa pb qa qb (zAp K) (putB P 2) _ (Ra.keep sg.h) (Rb.keep sg.h) (by rw[zGY];decide) (by rw[zP];decide)).mono ?_;rintro e wg4 ⟨uc,rfl,kc,hbx⟩;obtain⟨pc,qc,rfl,-⟩:=kc.rd;have hbg:=yn sg.h hbx;refine⟨_,rfl,⟨⟨wg4,hbx⟩,rfl⟩,?_⟩;have Kc:=kc.lower ((yn BB sg.h)).size;replace Ra:=Ra.keep hbg;replace Rb:=Rb.keep hbg;replace BB:=yn BB hbg;clear hbg hbx sg kc;replace hne:=yq wg4;refine zWe ?_;rintro _ ⟨sz,rfl⟩;simp only[yd,ye]
   go_simp
   replace Ra:=Ra.keep sz.h;replace Rb:=Rb.keep sz.h;replace Kc:=Kc.stay sz.h;replace BB:=yn BB sz.h;clear hne;generalize sz.w=W at *;clear sz;revert Kc;revert Rb;revert Ra;revert BB;revert qc;revert pc;revert qb;revert pb;revert qa;revert pa;revert W;exact JN.out
  intro W pa qa pb qb pc qc BB Ra Rb Kc;clear c1;go_wp2;go_ret;exact⟨_,rfl,Kc.lower hz.out,yn BW BB⟩
theorem zBr (l:List MsgD) (p:Option Addr) (q:Nat) (w:World) (hr:RdL msgC w p q l) (hl:(zG l).length≤600):
  Calls prog 68 #[.slice p l.length q] w fun e w'=>∃ u,e=.returned u∧Own w' w.heap.size u (digM l)∧Below w.heap.size w w':=by
 have hb:=zE8 l
 have K:=zFe l p q w hr (fun a ha=>by
  obtain⟨i,hi⟩:=List.getElem?_of_mem ha;have:=zGp hi
  omega) (by omega)
 have HD:Hid (digM l=zW (zG l)):=rfl;rw[HD.out];have HL:Hid ((zG l).length≤600):=hl;clear hr hl hb;generalize zG l=bs at *;go_enter func68,ntmps68;go_wp2_with fail;refine K.mono ?_;rintro e w1 ⟨u1,rfl,k1,hb1⟩;obtain⟨a1,c1,rfl,-⟩:=k1.rd;go_wp2_with fail;refine(zCi a1 c1 bs _ (Rd.own k1) HL.out).mono ?_;rintro e w2 ⟨u2,rfl,k2,hb2⟩;go_wp2;go_ret;exact⟨_,rfl,k2.lower hb1.size,yn hb1 hb2⟩
theorem zDO (l:List MsgD) (n:Nat) (h:(zG l).length≤600):(zG (l.take n)).length≤600:=yi (zGD l n) h
theorem zBh (sec lab:List UInt8) (l:List MsgD) (p p2:Option Addr) (q q2:Nat) (w:World) (hs:Rd w p q sec) (hr:RdL msgC w p2 q2 l) (h32:sec.length=32) (hlab:lab.length≤40) (hl:(zG l).length≤600) (h2:2≤l.length):
  Calls prog 69 #[.slice p sec.length q,.string (strB lab),.slice p2 l.length q2] w fun e w'=>∃ u,e=.returned (.agg #[.int .i64 20,u])∧Own w' w.heap.size u (finM sec lab l).2∧Below w.heap.size w w':=by
 have HS:Hid (Rd w p q sec):=hs;have HR:Hid (RdL msgC w p2 q2 l):=hr;have H32:Hid (sec.length=32):=h32;have HLab:Hid (lab.length≤40):=hlab;have HL:Hid ((zG l).length≤600):=hl;have hq1:l.length≤q2:=hr.1;have hq2:q2≤2 ^ 63-1:=hr.2.1
 have h2I:(2:Int)≤(l.length:Int):=by omega
 have H2:Hid ((l.take 2).length=2):=by show _=_;rw[List.length_take];omega
 have BW:=zA w (.cells #[.int .i64 0,.slice none 0 0] 46);have R:=yr w [.int .i64 0,.slice none 0 0] 46;have hz0:Hid ((w.alloc (.cells #[.int .i64 0,.slice none 0 0] 46)).heap.size=w.heap.size+1):=zB _ _;have K1:=zBr (l.take 2) p2 q2 _ ((HR.out.take 2).keep BW) (zDO l 2 hl);rw[H2.out] at K1;have HF:Hid ((finM sec lab l).2=finN (zAI sec lab (digM (l.take 2))) (digM l)):=rfl;rw[HF.out];have HD2:Hid ((digM (l.take 2)).length=32):=zCY _;have HD:Hid ((digM l).length=32):=zCY _;clear hs hr h32 hlab hl h2;generalize digM (l.take 2)=d2 at *;go_enter func69,ntmps69;go_wp2_with fail;refine K1.mono ?_;rintro e w1 ⟨u1,rfl,k1,hb1⟩;obtain⟨a1,c1,rfl,-⟩:=k1.rd;replace BW:=yn BW hb1;replace R:=R.stay hb1
 have hz1:Hid (w.heap.size+1≤w1.heap.size):=by have h:=hb1.size;rw[hz0.out] at h;exact h
 clear hb1 K1;go_wp2_with fail;refine(zBE p a1 q c1 sec lab d2 _ (HS.out.keep BW) (Rd.own k1) (by have:=H32.out;omega) HLab.out (by have:=HD2.out;omega)).mono ?_;rintro e w2 ⟨u2,rfl,k2,hb2⟩;obtain⟨a2,c2,rfl,-⟩:=k2.rd;replace BW:=yn BW hb2;replace R:=R.stay hb2;have hz2:Hid (w1.heap.size≤w2.heap.size):=hb2.size;have HT:Hid ((zAI sec lab d2).length=32):=zFi _ _ _;clear hb2 k1;go_wp2_with fail;refine(zBr l p2 q2 _ (HR.out.keep BW) HL.out).mono ?_;rintro e w3 ⟨u3,rfl,k3,hb3⟩;obtain⟨a3,c3,rfl,-⟩:=k3.rd;replace BW:=yn BW hb3;replace R:=R.stay hb3;replace k2:=k2.stay hb3;have hz3:Hid (w2.heap.size≤w3.heap.size):=hb3.size;clear hb3;go_wp2_with fail;refine(zGZ a2 a3 c2 c3 (zAI sec lab d2) (digM l) _ (Rd.own k2) (Rd.own k3) (by have:=HT.out;omega) (by have:=HD.out;omega)).mono ?_;rintro e w4 ⟨u4,rfl,k4,hb4⟩;obtain⟨a4,c4,rfl,-⟩:=k4.rd;replace BW:=yn BW hb4;replace R:=R.stay hb4;replace k4:=k4.lower (show w.heap.size+1≤w3.heap.size by have:=hz1.out;have:=hz2.out;have:=hz3.out;omega);obtain⟨t0,t1⟩:=zc2 R;have ft:=R.frozen;clear hb4 R k2 k3;go_wp2_with fail;exact bodyPost_ret (v:=.agg #[.int .i64 20,.slice a4 (finN (zAI sec lab d2) (digM l)).length c4]) (by simp[results,results69,go_sem,t0,t1]) rfl ⟨_,rfl,((k4.set (yg _) _).set (yg _) _).lower (yh _),(BW.setCell (yf _) _).setCell (yf _) _⟩
theorem zLk (l:List MsgD) (p:Option Addr) (q:Nat) (w:World) (hr:RdL msgC w p q l):
  Calls prog 164 #[.slice p l.length q] w fun e w'=>∃ u,e=.returned (.agg #[.int .i64 (psC l),u])∧Own w' w.heap.size u (trL l)∧Below w.heap.size w w':=by
 have BW:=zA w (.cells #[.int .i64 0,.slice none 0 0] 129);have R:=yr w [.int .i64 0,.slice none 0 0] 129;have hz0:Hid ((w.alloc (.cells #[.int .i64 0,.slice none 0 0] 129)).heap.size=w.heap.size+1):=zB _ _;have KP:=zLO l p q _ (hr.keep BW);clear hr
 by_cases hc:psC l=0
 ·have hpl:psL l=zG l:=by rw[psL,if_pos hc]
  have h600:=(zIZ hc).2.2;rw[hc,hpl] at KP;rw[hc,show trL l=zW (zG l) by rw[trL,if_pos hc]];clear hc hpl;generalize zG l=bs at *;go_enter func164,ntmps164;go_wp2_with fail;refine KP.mono ?_;rintro e w1 ⟨u1,rfl,k1,hb1⟩;obtain⟨a1,c1,rfl,-⟩:=k1.rd;have hl:=zA w1 (.cells #[.int .i64 0,.slice a1 bs.length c1] 129);replace R:=(R.stay hb1).stay hl;replace BW:=yn (yn BW hb1) hl;replace k1:=k1.stay hl
  have hz2:Hid (w.heap.size+1≤(w1.alloc (.cells #[.int .i64 0,.slice a1 bs.length c1] 129)).heap.size):=by have h:=(yn hb1 hl).size;rw[hz0.out] at h;exact h
  clear hb1 hl KP;go_wp2_with fail;refine(zCi a1 c1 bs _ (Rd.own k1) h600).mono ?_;rintro e w2 ⟨u2,rfl,k2,hb2⟩;obtain⟨a2,c2,rfl,-⟩:=k2.rd;replace k2:=k2.lower hz2.out;replace R:=R.stay hb2;replace BW:=yn BW hb2;obtain⟨t0,t1⟩:=zc2 R;have ft:=R.frozen;clear R hb2;go_wp2_with fail;exact bodyPost_ret (v:=.agg #[.int .i64 0,.slice a2 (zW bs).length c2]) (by simp[results,results164,go_sem,t0,t1]) rfl ⟨_,rfl,((k2.set (yg _) _).set (yg _) _).lower (yh _),(BW.setCell (yf _) _).setCell (yf _) _⟩
 ·have hd:(psC l != 0)=true:=by rw[bne_iff_ne];exact hc
  rw[show trL l=[] by rw[trL,if_neg hc]];clear hc;generalize psC l=ac at *;go_enter func164,ntmps164;go_wp2_with fail;refine KP.mono ?_;rintro e w1 ⟨u1,rfl,k1,hb1⟩;obtain⟨a1,c1,rfl,-⟩:=k1.rd;have hl:=zA w1 (.cells #[.int .i64 ac,.slice a1 (psL l).length c1] 129);replace R:=(R.stay hb1).stay hl;replace BW:=yn (yn BW hb1) hl;obtain⟨t0,t1⟩:=zc2 R;have ft:=R.frozen;clear R hb1 hl k1 KP;go_wp2_with fail;exact bodyPost_ret (v:=.agg #[.int .i64 ac,.slice none 0 0]) (by simp[results,results164,go_sem,t0,t1]) rfl ⟨_,rfl,zO _ _,(BW.setCell (yf _) _).setCell (yf _) _⟩
theorem zEt {s:List UInt8} {l:List MsgD} (h:¬ fmC s l=0):fmD s l=(fmC s l,0,[]):=by rw[fmD,if_neg h]
theorem zHr {s:List UInt8} {l:List MsgD} (h:fmC s l=0):fmD s l=(0,20,fmL s l):=by rw[fmD,if_pos h]
theorem zLl (s:List UInt8) (l:List MsgD) (p p2:Option Addr) (q q2:Nat) (w:World) (hs:Rd w p q s) (hr:RdL msgC w p2 q2 l):
  Calls prog 124 #[.slice p s.length q,.slice p2 l.length q2] w fun e w'=>∃ u,e=.returned (.agg #[.int .i64 (fmD s l).1,.int .i64 (fmD s l).2.1,u])∧Own w' w.heap.size u (fmD s l).2.2∧Below w.heap.size w w':=by
 have BW:=zA w (.cells #[.int .i64 0,.int .i64 0,.slice none 0 0] 150);have R:=yr w [.int .i64 0,.int .i64 0,.slice none 0 0] 150;have hz0:Hid ((w.alloc (.cells #[.int .i64 0,.int .i64 0,.slice none 0 0] 150)).heap.size=w.heap.size+1):=zB _ _;have HS:Hid (Rd w p q s):=hs;have KT:=zLk l p2 q2 _ (hr.keep BW);clear hs hr;cases h1:is32 s
 ·rw[zEt (s:=s) (l:=l) (by rw[fmC,h1];simp),show fmC s l=1 by rw[fmC,h1];rfl];clear KT;go_enter func124,ntmps124;go_wp2_with fail;refine(zEs p q s _).mono ?_;rintro e w1 ⟨rfl,hw⟩;subst w1;rw[h1];go_wp2_with fail;exact bodyPost_ret (v:=.agg #[.int .i64 1,.int .i64 0,.slice none 0 0]) (by simp[results,results124,go_sem]) rfl ⟨_,rfl,zO _ _,zA _ _⟩
 ·have h32:s.length=32:=by simpa [is32] using h1
  have HF:Hid (fmC s l=psC l):=by show _=_;rw[fmC,h1];rfl
  by_cases hc:psC l=0
  ·rw[zHr (s:=s) (l:=l) (by rw[HF.out];exact hc)];rw[hc,show trL l=zW (zG l) by rw[trL,if_pos hc]] at KT;have HD:Hid ((zW (zG l)).length=32):=zAz _;rw[show fmL s l=finN s (zW (zG l)) from rfl];have H32:Hid (s.length=32):=h32;clear hc h32 HF;generalize zW (zG l)=dg at *;go_enter func124,ntmps124;go_wp2_with fail;refine(zEs p q s _).mono ?_;rintro e w1 ⟨rfl,hw⟩;subst w1;rw[h1];go_wp2_with fail;refine KT.mono ?_;rintro e w1 ⟨u1,rfl,k1,hb1⟩;obtain⟨a1,c1,rfl,-⟩:=k1.rd;have hl:=zA w1 (.cells #[.int .i64 0,.slice a1 dg.length c1] 129);replace R:=(R.stay hb1).stay hl;replace BW:=yn (yn BW hb1) hl;replace k1:=k1.stay hl
   have hz2:Hid (w.heap.size+1≤(w1.alloc (.cells #[.int .i64 0,.slice a1 dg.length c1] 129)).heap.size):=by have h:=(yn hb1 hl).size;rw[hz0.out] at h;exact h
   clear hb1 hl KT;go_wp2_with fail;refine(zGZ p a1 q c1 s dg _ (HS.out.keep BW) (Rd.own k1) (by have:=H32.out;omega) (by have:=HD.out;omega)).mono ?_;rintro e w2 ⟨u2,rfl,k2,hb2⟩;obtain⟨a2,c2,rfl,-⟩:=k2.rd;replace k2:=k2.lower hz2.out;replace R:=R.stay hb2;replace BW:=yn BW hb2;obtain⟨t0,t1,t2⟩:=zc3 R;have ft:=R.frozen;clear R hb2 k1;go_wp2_with fail;exact bodyPost_ret (v:=.agg #[.int .i64 0,.int .i64 20,.slice a2 (finN s dg).length c2]) (by simp[results,results124,go_sem,t0,t1,t2]) rfl ⟨_,rfl,(((k2.set (yg _) _).set (yg _) _).set (yg _) _).lower (yh _),(((BW.setCell (yf _) _).setCell (yf _) _).setCell (yf _) _)⟩
  ·have hd:(psC l != 0)=true:=by rw[bne_iff_ne];exact hc
   rw[zEt (s:=s) (l:=l) (by rw[HF.out];exact hc),HF.out];clear hc h32 HF;generalize psC l=ac at *;go_enter func124,ntmps124;go_wp2_with fail;refine(zEs p q s _).mono ?_;rintro e w1 ⟨rfl,hw⟩;subst w1;rw[h1];go_wp2_with fail;refine KT.mono ?_;rintro e w1 ⟨u1,rfl,k1,hb1⟩;obtain⟨a1,c1,rfl,-⟩:=k1.rd;have hl:=zA w1 (.cells #[.int .i64 ac,.slice a1 (trL l).length c1] 129);replace R:=(R.stay hb1).stay hl;replace BW:=yn (yn BW hb1) hl;obtain⟨t0,t1,t2⟩:=zc3 R;have ft:=R.frozen;clear R hb1 hl k1 KT;go_wp2_with fail;exact bodyPost_ret (v:=.agg #[.int .i64 ac,.int .i64 0,.slice none 0 0]) (by simp[results,results124,go_sem,t0,t1,t2]) rfl ⟨_,rfl,zO _ _,(((BW.setCell (yf _) _).setCell (yf _) _).setCell (yf _) _)⟩
theorem zG5 (s:List UInt8) (l:List MsgD) (m:MsgD) (p p2 p3:Option Addr) (q q2 q3:Nat) (w:World) (hs:Rd w p q s) (hr:RdL msgC w p2 q2 l) (hm:Rd w p3 q3 m.2):
  Calls prog 66 #[.slice p s.length q,.slice p2 l.length q2,.agg #[.int .i64 m.1,.slice p3 m.2.length q3]] w fun e w'=>e=.returned (.int .i64 (cfC s l m))∧Below w.heap.size w w':=by
 have BW:=zA w (.cells #[.int .i64 m.1,.slice p3 m.2.length q3] 46);have A:=yr w [.int .i64 m.1,.slice p3 m.2.length q3] 46;have KM:=zLl s l p p2 q q2 _ (hs.keep BW) (hr.keep BW);have HM:Hid (Rd w p3 q3 m.2):=hm;clear hs hr hm
 suffices H:∀ Q:Ending→World→Prop,Hid (∀ c w',c=cfC s l m→Below w.heap.size w w'→Q (.returned (.int .i64 c)) w')→Calls prog 66 #[.slice p s.length q,.slice p2 l.length q2,.agg #[.int .i64 m.1,.slice p3 m.2.length q3]] w Q from H _ (show Hid _ from fun c w' hc hb=>⟨by rw[hc],hb⟩)
 intro Q HQ
 by_cases hf:fmC s l=0
 ·have hcf:Hid (cfC s l m=if zF m.1 m.2.length=0 then (if m.1=20 then (if m.2=fmL s l then 0 else 7) else 1) else zF m.1 m.2.length):=by show _=_;rw[cfC,if_pos hf]
  rw[zHr hf] at KM;clear hf;generalize fmL s l=fl at *;go_enter func66,ntmps66;go_wp2_with fail;refine KM.mono ?_;rintro e w1 ⟨u1,rfl,k1,hb1⟩;obtain⟨a1,c1,rfl,-⟩:=k1.rd;have hl:=zA w1 (.cells #[.int .i64 0,.int .i64 20,.slice a1 fl.length c1] 150);replace A:=(A.stay hb1).stay hl;replace BW:=yn (yn BW hb1) hl;replace k1:=k1.stay hl;obtain⟨b0,b1⟩:=zc2 A;have KF:=zED w.heap.size 0 m.2.length q3 p3 m.1 _ b0 b1;clear hb1 hl KM;go_wp2_with fail
  by_cases hc:zF m.1 m.2.length=0
  ·rw[hc] at KF
   replace hcf:Hid (cfC s l m=(if m.1=20 then (if m.2=fl then 0 else 7) else 1)):=by show _=_;rw[hcf.out,if_pos hc]
   clear hc;refine KF.mono ?_;rintro e w2 ⟨rfl,hw⟩;subst w2
   by_cases hk:m.1=20
   ·have dk:(m.1 != 20)=false:=by rw[bne_eq_false_iff_eq];exact hk
    replace hcf:Hid (cfC s l m=(if m.2=fl then 0 else 7)):=by show _=_;rw[hcf.out,if_pos hk]
    clear hk;go_wp2_with fail;refine(zLC p3 a1 q3 c1 m.2 fl _ (HM.out.keep BW) (Rd.own k1)).mono ?_;rintro e w2 ⟨rfl,hw⟩;subst w2
    by_cases he:m.2=fl
    ·rw[show zD9 m.2 fl=true by simp[zD9,he]]
     replace hcf:Hid (cfC s l m=0):=by show _=_;rw[hcf.out,if_pos he]
     clear he;go_wp2;exact HQ.out _ _ hcf.out.symm BW
    ·rw[show zD9 m.2 fl=false by simp[zD9,he]]
     replace hcf:Hid (cfC s l m=7):=by show _=_;rw[hcf.out,if_neg he]
     clear he;go_wp2;exact HQ.out _ _ hcf.out.symm BW
   ·have dk:(m.1 != 20)=true:=by rw[bne_iff_ne];exact hk
    replace hcf:Hid (cfC s l m=1):=by show _=_;rw[hcf.out,if_neg hk]
    clear hk;go_wp2;exact HQ.out _ _ hcf.out.symm BW
  ·have hd:(zF m.1 m.2.length != 0)=true:=by rw[bne_iff_ne];exact hc
   replace hcf:Hid (cfC s l m=zF m.1 m.2.length):=by show _=_;rw[hcf.out,if_neg hc]
   clear hc;generalize zF m.1 m.2.length=ac at *;refine KF.mono ?_;rintro e w2 ⟨rfl,hw⟩;subst w2;go_wp2;exact HQ.out _ _ hcf.out.symm BW
 ·have hd:(fmC s l != 0)=true:=by rw[bne_iff_ne];exact hf
  have hcf:Hid (cfC s l m=fmC s l):=by show _=_;rw[cfC,if_neg hf]
  rw[zEt hf] at KM;clear hf;generalize fmC s l=ac at *;go_enter func66,ntmps66;go_wp2_with fail;refine KM.mono ?_;rintro e w1 ⟨u1,rfl,k1,hb1⟩;obtain⟨a1,c1,rfl,-⟩:=k1.rd;have hl:=zA w1 (.cells #[.int .i64 ac,.int .i64 0,.slice a1 0 c1] 150);replace BW:=yn (yn BW hb1) hl;clear hb1 hl KM A;go_wp2;exact HQ.out _ _ hcf.out.symm BW
def scD (master digest:List UInt8):zBx:=(scC master digest,scL master digest cApB,scL master digest sApB,scL master digest zC6,scL master digest zC7)
theorem zFF {w:World} {B:Nat} {a:zBx} {u1 u2 u3 u4:Value} (o1:Own w B u1 a.2.1) (o2:Own w B u2 a.2.2.1) (o3:Own w B u3 a.2.2.2.1) (o4:Own w B u4 a.2.2.2.2) (hn:(u1.ownBlock.toList++(u2.ownBlock.toList++(u3.ownBlock.toList++u4.ownBlock.toList))).Nodup):
  secretsResultC.own w B a [.int .i64 a.1,u1,u2,u3,u4] (u1.ownBlock.toList++(u2.ownBlock.toList++(u3.ownBlock.toList++u4.ownBlock.toList))):=by
 have h2:=(List.nodup_append.1 hn).2.1;have h3:=(List.nodup_append.1 h2).2.1;exact⟨[.int .i64 a.1],[u1,u2,u3,u4],[],_,rfl,rfl,hn,⟨rfl,rfl⟩,⟨[u1],[u2,u3,u4],_,_,rfl,rfl,hn,⟨u1,rfl,o1,rfl⟩,⟨[u2],[u3,u4],_,_,rfl,rfl,h2,⟨u2,rfl,o2,rfl⟩,⟨[u3],[u4],_,_,rfl,rfl,h3,⟨u3,rfl,o3,rfl⟩,⟨u4,rfl,o4,rfl⟩⟩⟩⟩⟩
end Go.Proofs.YtiabacnmmojfjaaGreatDoor
