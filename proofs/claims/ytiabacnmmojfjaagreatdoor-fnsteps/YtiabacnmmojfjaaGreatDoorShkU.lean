import Derived.Test.YtiabacnmmojfjaaGreatDoorJoint21
import Derived.Test.YtiabacnmmojfjaaGreatDoorJoint6
set_option maxHeartbeats 4000000
set_option maxRecDepth 4000
open Go.Proofs.Tryz
namespace Go.Proofs.YtiabacnmmojfjaaGreatDoor
open Go.ChangeShapes Go.WideShapes Go.ChangeAt Go.RowKit
theorem zGc (b o:Nat) (s:zT) (kind psk:Int) (p p2:Option Addr) (q q2:Nat) (w:World) (hA:AtS w b o p q p2 q2 s) (hr:Rd w p q s.2.1) (hs:sfC s=0) (h0:0≤psk) (h9:psk≤9):
  Calls prog 84 #[.pointer (some ⟨b,o,none⟩),.int .i64 kind,.int .i64 psk] w fun e w'=>∃ u,e=.returned (.agg #[.int .i64 kind,u])∧Own w' w.heap.size u (helM s kind psk).2∧Below w.heap.size w w':=by
 have HF:Hid (hfC (helH s psk)=0):=zG0 hs h0 h9;have hp:=zAq hs
 have KP:Hid (∀ w,Calls prog 123 #[.int .i64 17,.int .i64 s.1] w fun x w'=>x=.returned (.int .i64 (zC2 s))∧Below w.heap.size w w'):=fun w=>by
  have h:=zHT 17 s.1.toNat w (by decide) (by omega);rw[show((s.1.toNat:Nat):Int)=s.1 by omega] at h
  exact h.mono fun _ _ ⟨h1,h2⟩=>⟨h1,by rw[h2];exact Below.refl _ _⟩
 have HR:Hid (Rd w p q s.2.1):=hr;have BW:=zA w (.cells #[.int .i64 0,.slice none 0 0] 46);have R:=yr w [.int .i64 0,.slice none 0 0] 46;have hA2:=hA.keep BW;obtain⟨V,HV⟩:∃ V,Hid (V=w.alloc (.cells #[.int .i64 0,.slice none 0 0] 46)):=⟨_,rfl⟩;rw[← HV.out] at BW R hA2;obtain⟨c1,c0,-,-⟩:=hA2;clear hr hs hA hp h0 h9;go_enter func84,ntmps84;go_wp2_with fail;rw[← HV.out];apply share
 case h=>
  intro JN;have BB:=Below.refl V.heap.size V;have hne:=yq V;have g0:=yo (c0);have g1:=yo (c1);refine zWr [0,1,2,3,4,5,6,7,9] 12 3 1 ?_;simp only[zD,ya,yb,yc]
  repeat (go_big_quiet_step (fail))
  refine wpQuiet_nil ?_;clear g0 g1;refine zAs (i:=8) (j:=11) (by kernel_rfl) ?_ ?_
  ·skip
   refine mOp_call rfl (by go_simp) 123 _ #[.int .i64 17,.int .i64 s.1] (fun w=>by go_simp) rfl ?_;rintro _ ⟨sg,rfl⟩;refine(KP.out _).mono ?_;rintro e wg1 ⟨rfl,hbx⟩;have hbg:=yn sg.h hbx;refine⟨_,rfl,⟨⟨wg1,hbx⟩,rfl⟩,?_⟩;replace BB:=yn BB hbg;clear hbg hbx sg;replace hne:=yq wg1;refine wpM_more [10] 2 1 rfl (by kernel_rfl) (by kernel_rfl) (by kernel_rfl) (by kernel_rfl) ?_;simp only[zD,ya,yb,yc]
   go_simp
   repeat (go_big_quiet_step (fail))
   refine wpQuiet_nil ?_;refine zWk 11 rfl ?_;rintro _ ⟨sg,rfl⟩;refine⟨.pointer (some ⟨sg.w.heap.size,0,none⟩),sg.w.alloc (.cells #[.slice none 0 0,.int .i64 0,.int .i64 0] 84),by go_simp,⟨⟨_,zA _ _⟩,rfl⟩,?_⟩;have hbg:=yn sg.h (zA sg.w (.cells #[.slice none 0 0,.int .i64 0,.int .i64 0] 84));have AN:=yr sg.w [.slice none 0 0,.int .i64 0,.int .i64 0] 84;have GN:=((yn BB sg.h)).size;replace BB:=yn BB hbg;clear hbg;replace hne:=yq (sg.w.alloc (.cells #[.slice none 0 0,.int .i64 0,.int .i64 0] 84));generalize hW:(sg.w.alloc (.cells #[.slice none 0 0,.int .i64 0,.int .i64 0] 84))=wg2 at *;clear hW;generalize sg.w.heap.size=gn at *;clear sg;refine zWe ?_;rintro _ ⟨sz,rfl⟩;simp only[yd,ye]
   go_simp
   replace AN:=AN.stay sz.h
   replace GN:=show V.heap.size≤gn from GN
   replace BB:=yn BB sz.h;clear hne;generalize sz.w=W at *;clear sz;revert GN;revert AN;revert BB;revert gn;revert W;exact JN.out
  ·skip
   refine mOp_make rfl (by go_simp) ?_;rintro _ ⟨sg,rfl⟩;refine⟨.pointer (some ⟨sg.w.heap.size,0,none⟩),sg.w.alloc (.cells #[.slice none 0 0,.int .i64 0,.int .i64 0] 84),by go_simp,⟨⟨_,zA _ _⟩,rfl⟩,?_⟩;have hbg:=yn sg.h (zA sg.w (.cells #[.slice none 0 0,.int .i64 0,.int .i64 0] 84));have AN:=yr sg.w [.slice none 0 0,.int .i64 0,.int .i64 0] 84;have GN:=((yn BB sg.h)).size;replace BB:=yn BB hbg;clear hbg;replace hne:=yq (sg.w.alloc (.cells #[.slice none 0 0,.int .i64 0,.int .i64 0] 84));generalize hW:(sg.w.alloc (.cells #[.slice none 0 0,.int .i64 0,.int .i64 0] 84))=wg3 at *;clear hW;generalize sg.w.heap.size=gn at *;clear sg;refine zWc 8 rfl 123 #[.int .i64 17,.int .i64 s.1] ?_;rintro _ ⟨sg,rfl⟩;refine(KP.out _).mono ?_;rintro e wg4 ⟨rfl,hbx⟩;have hbg:=yn sg.h hbx;refine⟨_,rfl,⟨⟨wg4,hbx⟩,rfl⟩,?_⟩;replace AN:=AN.stay hbg
   replace GN:=show V.heap.size≤gn from GN
   replace BB:=yn BB hbg;clear hbg hbx sg;replace hne:=yq wg4;refine wpM_more [10] 1 0 rfl (by kernel_rfl) (by kernel_rfl) (by kernel_rfl) (by kernel_rfl) ?_;simp only[zD,ya,yb,yc]
   go_simp
   repeat (go_big_quiet_step (fail))
   refine wpQuiet_nil ?_;refine zWe ?_;rintro _ ⟨sz,rfl⟩;simp only[yd,ye]
   go_simp
   replace AN:=AN.stay sz.h
   replace GN:=show V.heap.size≤gn from GN
   replace BB:=yn BB sz.h;clear hne;generalize sz.w=W at *;clear sz;revert GN;revert AN;revert BB;revert gn;revert W;exact JN.out
 intro W gn BB AN GN;obtain⟨a0,a1,a2⟩:=zc3 AN;have fa:=AN.frozen;have hz:Hid (w.heap.size+1≤V.heap.size):=R.lt;have L2:=((AN.set 0 (.slice p s.2.1.length q)).set 1 (.int .i64 (zC2 s))).set 2 (.int .i64 psk);have BV:=((BB.setCell (p:=⟨gn,0,none⟩) GN (.slice p s.2.1.length q)).setCell (p:=⟨gn,1,none⟩) GN (.int .i64 (zC2 s))).setCell (p:=⟨gn,2,none⟩) GN (.int .i64 psk);have KH:=zKk kind gn (helH s psk) p q _ L2 ((HR.out.keep BW).keep BV) HF.out;replace R:=R.stay BV;replace BW:=yn BW BV;have hz2:Hid (w.heap.size+1≤(((W.setCell ⟨gn,0,none⟩ (.slice p s.2.1.length q)).setCell ⟨gn,1,none⟩ (.int .i64 (zC2 s))).setCell ⟨gn,2,none⟩ (.int .i64 psk)).heap.size):=yi hz.out BV.size;clear L2 BV AN BB c0 c1;generalize e2:((W.setCell ⟨gn,0,none⟩ (.slice p s.2.1.length q)).setCell ⟨gn,1,none⟩ (.int .i64 (zC2 s))).setCell ⟨gn,2,none⟩ (.int .i64 psk)=W2 at *;go_wp2_with fail;refine KH.mono ?_;rintro e w3 ⟨u3,rfl,k3,hb3⟩;replace k3:=k3.lower hz2.out;replace R:=R.stay hb3;replace BW:=yn BW hb3;obtain⟨a3,c3,rfl,-⟩:=k3.rd;obtain⟨t0,t1⟩:=zc2 R;have ft:=R.frozen;clear KH hb3 R e2 a0 a1 a2 fa;go_wp2_with fail;exact bodyPost_ret (v:=.agg #[.int .i64 kind,.slice a3 (hpL (helH s psk)).length c3]) (by simp[results,results84,go_sem,t0,t1]) rfl ⟨_,rfl,((k3.set (yg _) _).set (yg _) _).lower (yh _),(BW.setCell (yf _) _).setCell (yf _) _⟩
theorem zAR (c:Int) (w:World):Calls prog 62 #[.int .i64 c] w fun e w'=>e=.returned (.agg #[.int .i64 c,.int .i64 0,.slice none 0 0,.int .i64 0,.slice none 0 0,.int .i64 0,.int .i64 0,.slice none 0 0,.slice none 0 0,.slice none 0 0,.slice none 0 0,.slice none 0 0,.slice none 0 0,.slice none 0 0])∧Below w.heap.size w w':=by
 go_enter func62,ntmps62;go_wp2;exact bodyPost_ret (v:=.agg #[.int .i64 c,.int .i64 0,.slice none 0 0,.int .i64 0,.slice none 0 0,.int .i64 0,.int .i64 0,.slice none 0 0,.slice none 0 0,.slice none 0 0,.slice none 0 0,.slice none 0 0,.slice none 0 0,.slice none 0 0]) (by simp[results,results62,go_sem]) rfl ⟨rfl,zA _ _⟩
theorem zI7 (s:zT) (us:List Value) (w:World) (r:sideC.rep w s us):
  Calls prog 41 #[.agg us.toArray] w fun e w'=>∃ us fp,e=.returned (.agg us.toArray)∧endResultC.own w' w.heap.size (stE s) us fp∧Below w.heap.size w w':=by
 obtain⟨p,q,p2,q2,rfl,r1,r2⟩:=zAM r;clear r
 suffices H:∀ Q:Ending→World→Prop,Hid (∀ e w',(∃ us fp,e=.returned (.agg us.toArray)∧endResultC.own w' w.heap.size (stE s) us fp∧Below w.heap.size w w')→Q e w')→Calls prog 41 #[.agg #[.int .i64 s.1,.slice p s.2.1.length q,.int .i64 s.2.2.1,.slice p2 s.2.2.2.length q2]] w Q from H _ (show Hid _ from fun _ _ h=>h)
 intro Q HQ;have HR1:Hid (Rd w p q s.2.1):=r1;have HR2:Hid (Rd w p2 q2 s.2.2.2):=r2;clear r1 r2;have BW:=yt (zA w (.cells #[.int .i64 s.1,.slice p s.2.1.length q,.int .i64 s.2.2.1,.slice p2 s.2.2.2.length q2] 25)) (.cells xZ0 43);have A:=(yr w [.int .i64 s.1,.slice p s.2.1.length q,.int .i64 s.2.2.1,.slice p2 s.2.2.2.length q2] 25).old _ (.cells xZ0 43);have R:=yr (w.alloc (.cells #[.int .i64 s.1,.slice p s.2.1.length q,.int .i64 s.2.2.1,.slice p2 s.2.2.2.length q2] 25)) xZ2 43;rw[zB] at R;have KS:=zFu w.heap.size 0 s p p2 q q2 _ ⟨A.cell 0,A.cell 1,A.cell 2,A.cell 3⟩
 by_cases hs:sfC s=0
 ·rw[zHo hs] at HQ;have hp:=zAq hs
  have KH:=fun kind psk W hA hr h0 h9=>zGc w.heap.size 0 s kind psk p p2 q q2 W hA hr hs h0 h9
  have HP0:Hid (0≤s.2.2.1∧s.2.2.1≤9):=⟨hp.2.2.1,hp.2.2.2.1⟩
  have HL1:Hid (s.2.1.length≤1000000):=by show _≤_;rw[hp.2.2.2.2.1];decide
  have HL2:Hid (s.2.2.2.length≤1000000):=by show _≤_;rw[hp.2.2.2.2.2];unfold keyW;split <;> decide
  obtain⟨M,HME⟩:∃ M,Hid (M=(helM s 1 s.2.2.1).2):=⟨_,rfl⟩
  have HMM:Hid (helM s 1 s.2.2.1=(1,M)):=by show _=_;rw[HME.out];rfl
  have HB:Hid (zBD [((1:Int),M)]≤1000000):=by
   show _≤_
   rw[← HMM.out]
   have h:=zBK (l:=[helM s 1 s.2.2.1]) fun a ha=>by rw[List.mem_singleton.1 ha];exact zEq hs hp.2.2.1 hp.2.2.2.1 (.inl rfl)
   simp only[List.length_singleton] at h;omega
  have KC:Hid (∀ W,Below w.heap.size w W→Calls prog 85 #[.agg #[.int .i64 s.1,.slice p s.2.1.length q,.int .i64 s.2.2.1,.slice p2 s.2.2.2.length q2]] W fun e w'=>∃ u v fp,e=.returned (.agg #[.int .i64 s.1,u,.int .i64 s.2.2.1,v])∧sideC.own w' W.heap.size s [.int .i64 s.1,u,.int .i64 s.2.2.1,v] fp∧Below W.heap.size W w'):=fun W hW=>zCy s p p2 q q2 W (HR1.out.keep hW) (HR2.out.keep hW) HL1.out HL2.out
  rw[hs] at KS;rw[HMM.out] at HQ;clear hs hp;go_enter func41,ntmps41;go_wp2_with fail;refine KS.mono ?_;rintro e w1 ⟨rfl,hw⟩;subst hw;have s2:=zQ (A.cell 2) rfl;go_wp2_with fail;refine(KH 1 s.2.2.1 _ ⟨A.cell 0,A.cell 1,A.cell 2,A.cell 3⟩ (HR1.out.keep BW) HP0.out.1 HP0.out.2).mono ?_;rintro e w2 ⟨um,rfl,km,hb2⟩;rw[← HME.out] at km;obtain⟨pm,qm,rfl,-⟩:=km.rd;have hz1:Hid (w.heap.size+2≤_):=R.lt;replace km:=km.lower hz1.out;have hl:=zA w2 (.cells #[.int .i64 1,.slice pm M.length qm] 46);have N:=yr w2 [.int .i64 1,.slice pm M.length qm] 46;replace km:=km.stay hl;replace A:=(A.stay hb2).stay hl;replace R:=(R.stay hb2).stay hl;replace BW:=yn (yn BW hb2) hl;clear hb2 hl KS KH s2 hz1;go_wp2_with fail;generalize w2.alloc (.cells #[.int .i64 1,.slice pm M.length qm] 46)=V at *;obtain⟨c0,c1,c2,c3⟩:=zc4 A;obtain⟨c4,c5⟩:=zc2 N;have HM:Hid (Rd V pm qm M):=Rd.own km;have HKM:Hid (Own V (w.heap.size+2) (.slice pm M.length qm) M):=km;have HZV:Hid (w.heap.size+2≤V.heap.size):=R.lt;clear km A N;apply share
  case h=>
   intro JN;have BB:=Below.refl V.heap.size V;have hne:=yq V;have g0:=yo (c0);have g1:=yo (c1);have g2:=yo (c2);have g3:=yo (c3);have g4:=yo (c4);have g5:=yo (c5);refine zWr [0,2,5] 9 6 1 ?_;simp only[zD,ya,yb,yc]
   repeat (go_big_quiet_step (fail))
   refine wpQuiet_nil ?_;clear g0 g1 g2 g3 g4 g5;refine zJ2 (i:=1) (j:=3) (k:=6) (by kernel_rfl) ?_ ?_ ?_
   ·skip
    refine mOp_call rfl (by go_simp) 85 _ #[.agg #[.int .i64 s.1,.slice p s.2.1.length q,.int .i64 s.2.2.1,.slice p2 s.2.2.2.length q2]] (fun w=>by go_simp) rfl ?_;rintro _ ⟨sg,rfl⟩;refine(KC.out _ (yn BW (yn BB sg.h))).mono ?_;rintro e wg1 ⟨us,vs,fs,rfl,ks,hbx⟩;obtain⟨pu,qu,pv,qv,es,-,-⟩:=zAM (sideC.toRep ks);simp only[yj,and_true,true_and] at es;obtain⟨rfl,rfl⟩:=es;have hbg:=yn sg.h hbx;refine⟨_,rfl,⟨⟨wg1,hbx⟩,rfl⟩,?_⟩;have Ks:=sideC.low ks ((yn BB sg.h)).size;replace BB:=yn BB hbg;clear hbg hbx sg ks;replace hne:=yq wg1;refine zAs (i:=3) (j:=6) (by kernel_rfl) ?_ ?_
    ·skip
     refine mOp_make rfl (by go_simp) ?_;rintro _ ⟨sg,rfl⟩;refine⟨.slice (some ⟨sg.w.heap.size,0,none⟩) 1 1,sg.w.alloc (.cells #[.int .i64 1,.slice pm M.length qm] 46),by go_simp,⟨⟨_,zA _ _⟩,rfl⟩,?_⟩;have hbg:=yn sg.h (zA sg.w (.cells #[.int .i64 1,.slice pm M.length qm] 46));have K3:=yr sg.w [.int .i64 1,.slice pm M.length qm] 46;have G3:=((yn BB sg.h)).size;have D13:=(show sg.w.heap.size∉fs from fun h=>by have h1:=(sideC.ins Ks _ h).2;have h3:=sg.h.size;omega);replace Ks:=sideC.stay Ks hbg;replace BB:=yn BB hbg;clear hbg;replace hne:=yq (sg.w.alloc (.cells #[.int .i64 1,.slice pm M.length qm] 46));generalize hW:(sg.w.alloc (.cells #[.int .i64 1,.slice pm M.length qm] 46))=wg2 at *;clear hW;generalize sg.w.heap.size=g3 at *;clear sg;refine wpM_more [4] 4 3 rfl (by kernel_rfl) (by kernel_rfl) (by kernel_rfl) (by kernel_rfl) ?_;simp only[zD,ya,yb,yc]
     go_simp
     repeat (go_big_quiet_step (fail))
     refine wpQuiet_nil ?_;refine zWk 6 rfl ?_;rintro _ ⟨sg,rfl⟩;refine⟨.slice (some ⟨sg.w.heap.size,0,none⟩) 1 1,sg.w.alloc (.cells #[.int .i64 1,.slice pm M.length qm] 46),by go_simp,⟨⟨_,zA _ _⟩,rfl⟩,?_⟩;have hbg:=yn sg.h (zA sg.w (.cells #[.int .i64 1,.slice pm M.length qm] 46));have K6:=yr sg.w [.int .i64 1,.slice pm M.length qm] 46;replace Ks:=sideC.stay Ks hbg;replace K3:=K3.stay hbg
     replace G3:=show V.heap.size≤g3 from G3
     replace BB:=yn BB hbg;clear hbg;replace hne:=yq (sg.w.alloc (.cells #[.int .i64 1,.slice pm M.length qm] 46));generalize hW:(sg.w.alloc (.cells #[.int .i64 1,.slice pm M.length qm] 46))=wg3 at *;clear hW;generalize sg.w.heap.size=g6 at *;clear sg;refine zWc 7 rfl 65 #[.slice (some ⟨g6,0,none⟩) 1 1] ?_;rintro _ ⟨sg,rfl⟩;refine(zAN [(1,M)] _ _ _ (zAv (K6.stay sg.h) (HM.out.keep (yn BB sg.h))) HB.out).mono ?_;rintro e wg4 ⟨vc,xs,fc,rfl,kc,hbx⟩;obtain⟨pc,qc,rfl,-⟩:=kc.rd;have hbg:=yn sg.h hbx;refine⟨_,rfl,⟨⟨wg4,hbx⟩,rfl⟩,?_⟩;have Kc:=kc.low ((yn BB sg.h)).size;have D37:=(show g3∉(Value.slice pc [((1:Int),M)].length qc).ownBlock.toList++fc from fun h=>by have h1:=(kc.ins _ h).1;have h2:=K3.lt;have h3:=sg.h.size;omega);have D17:=(show ∀ k,k∈fs→k∉(Value.slice pc [((1:Int),M)].length qc).ownBlock.toList++fc from fun k h h2=>by have h1:=(sideC.ins Ks k h).2;have h4:=(kc.ins k h2).1;have h3:=sg.h.size;omega);replace Ks:=sideC.stay Ks hbg;replace K3:=K3.stay hbg
     replace G3:=show V.heap.size≤g3 from G3
     replace K6:=K6.stay hbg;replace BB:=yn BB hbg;clear hbg hbx sg kc;replace hne:=yq wg4;refine wpM_more [8] 1 0 rfl (by kernel_rfl) (by kernel_rfl) (by kernel_rfl) (by kernel_rfl) ?_;simp only[zD,ya,yb,yc]
     go_simp
     repeat (go_big_quiet_step (fail))
     refine wpQuiet_nil ?_;refine zWe ?_;rintro _ ⟨sz,rfl⟩;simp only[yd,ye]
     go_simp
     replace Ks:=sideC.stay Ks sz.h;replace K3:=K3.stay sz.h
     replace G3:=show V.heap.size≤g3 from G3
     replace K6:=K6.stay sz.h;replace Kc:=Kc.stay sz.h;replace BB:=yn BB sz.h;clear hne;generalize sz.w=W at *;clear sz;revert D17;revert D37;revert D13;revert Kc;revert K6;revert G3;revert K3;revert Ks;revert BB;revert qc;revert pc;revert fc;revert xs;revert g6;revert g3;revert qv;revert pv;revert qu;revert pu;revert fs;revert W;exact JN.out
    ·skip
     refine mOp_make rfl (by go_simp) ?_;rintro _ ⟨sg,rfl⟩;refine⟨.slice (some ⟨sg.w.heap.size,0,none⟩) 1 1,sg.w.alloc (.cells #[.int .i64 1,.slice pm M.length qm] 46),by go_simp,⟨⟨_,zA _ _⟩,rfl⟩,?_⟩;have hbg:=yn sg.h (zA sg.w (.cells #[.int .i64 1,.slice pm M.length qm] 46));have K6:=yr sg.w [.int .i64 1,.slice pm M.length qm] 46;replace Ks:=sideC.stay Ks hbg;replace BB:=yn BB hbg;clear hbg;replace hne:=yq (sg.w.alloc (.cells #[.int .i64 1,.slice pm M.length qm] 46));generalize hW:(sg.w.alloc (.cells #[.int .i64 1,.slice pm M.length qm] 46))=wg5 at *;clear hW;generalize sg.w.heap.size=g6 at *;clear sg;refine zAs (i:=3) (j:=7) (by kernel_rfl) ?_ ?_
     ·skip
      refine mOp_make rfl (by go_simp) ?_;rintro _ ⟨sg,rfl⟩;refine⟨.slice (some ⟨sg.w.heap.size,0,none⟩) 1 1,sg.w.alloc (.cells #[.int .i64 1,.slice pm M.length qm] 46),by go_simp,⟨⟨_,zA _ _⟩,rfl⟩,?_⟩;have hbg:=yn sg.h (zA sg.w (.cells #[.int .i64 1,.slice pm M.length qm] 46));have K3:=yr sg.w [.int .i64 1,.slice pm M.length qm] 46;have G3:=((yn BB sg.h)).size;have D13:=(show sg.w.heap.size∉fs from fun h=>by have h1:=(sideC.ins Ks _ h).2;have h3:=sg.h.size;omega);replace Ks:=sideC.stay Ks hbg;replace K6:=K6.stay hbg;replace BB:=yn BB hbg;clear hbg;replace hne:=yq (sg.w.alloc (.cells #[.int .i64 1,.slice pm M.length qm] 46));generalize hW:(sg.w.alloc (.cells #[.int .i64 1,.slice pm M.length qm] 46))=wg6 at *;clear hW;generalize sg.w.heap.size=g3 at *;clear sg;refine wpM_more [4] 3 2 rfl (by kernel_rfl) (by kernel_rfl) (by kernel_rfl) (by kernel_rfl) ?_;simp only[zD,ya,yb,yc]
      go_simp
      repeat (go_big_quiet_step (fail))
      refine wpQuiet_nil ?_;refine zWc 7 rfl 65 #[.slice (some ⟨g6,0,none⟩) 1 1] ?_;rintro _ ⟨sg,rfl⟩;refine(zAN [(1,M)] _ _ _ (zAv (K6.stay sg.h) (HM.out.keep (yn BB sg.h))) HB.out).mono ?_;rintro e wg7 ⟨vc,xs,fc,rfl,kc,hbx⟩;obtain⟨pc,qc,rfl,-⟩:=kc.rd;have hbg:=yn sg.h hbx;refine⟨_,rfl,⟨⟨wg7,hbx⟩,rfl⟩,?_⟩;have Kc:=kc.low ((yn BB sg.h)).size;have D37:=(show g3∉(Value.slice pc [((1:Int),M)].length qc).ownBlock.toList++fc from fun h=>by have h1:=(kc.ins _ h).1;have h2:=K3.lt;have h3:=sg.h.size;omega);have D17:=(show ∀ k,k∈fs→k∉(Value.slice pc [((1:Int),M)].length qc).ownBlock.toList++fc from fun k h h2=>by have h1:=(sideC.ins Ks k h).2;have h4:=(kc.ins k h2).1;have h3:=sg.h.size;omega);replace Ks:=sideC.stay Ks hbg;replace K6:=K6.stay hbg;replace K3:=K3.stay hbg
      replace G3:=show V.heap.size≤g3 from G3
      replace BB:=yn BB hbg;clear hbg hbx sg kc;replace hne:=yq wg7;refine wpM_more [8] 1 0 rfl (by kernel_rfl) (by kernel_rfl) (by kernel_rfl) (by kernel_rfl) ?_;simp only[zD,ya,yb,yc]
      go_simp
      repeat (go_big_quiet_step (fail))
      refine wpQuiet_nil ?_;refine zWe ?_;rintro _ ⟨sz,rfl⟩;simp only[yd,ye]
      go_simp
      replace Ks:=sideC.stay Ks sz.h;replace K6:=K6.stay sz.h;replace K3:=K3.stay sz.h
      replace G3:=show V.heap.size≤g3 from G3
      replace Kc:=Kc.stay sz.h;replace BB:=yn BB sz.h;clear hne;generalize sz.w=W at *;clear sz;revert D17;revert D37;revert D13;revert Kc;revert K6;revert G3;revert K3;revert Ks;revert BB;revert qc;revert pc;revert fc;revert xs;revert g6;revert g3;revert qv;revert pv;revert qu;revert pu;revert fs;revert W;exact JN.out
     ·skip
      refine mOp_call rfl (by go_simp) 65 _ #[.slice (some ⟨g6,0,none⟩) 1 1] (fun w=>by go_simp) rfl ?_;rintro _ ⟨sg,rfl⟩;refine(zAN [(1,M)] _ _ _ (zAv (K6.stay sg.h) (HM.out.keep (yn BB sg.h))) HB.out).mono ?_;rintro e wg8 ⟨vc,xs,fc,rfl,kc,hbx⟩;obtain⟨pc,qc,rfl,-⟩:=kc.rd;have hbg:=yn sg.h hbx;refine⟨_,rfl,⟨⟨wg8,hbx⟩,rfl⟩,?_⟩;have Kc:=kc.low ((yn BB sg.h)).size;have D17:=(show ∀ k,k∈fs→k∉(Value.slice pc [((1:Int),M)].length qc).ownBlock.toList++fc from fun k h h2=>by have h1:=(sideC.ins Ks k h).2;have h4:=(kc.ins k h2).1;have h3:=sg.h.size;omega);replace Ks:=sideC.stay Ks hbg;replace K6:=K6.stay hbg;replace BB:=yn BB hbg;clear hbg hbx sg kc;replace hne:=yq wg8;refine zWk 3 rfl ?_;rintro _ ⟨sg,rfl⟩;refine⟨.slice (some ⟨sg.w.heap.size,0,none⟩) 1 1,sg.w.alloc (.cells #[.int .i64 1,.slice pm M.length qm] 46),by go_simp,⟨⟨_,zA _ _⟩,rfl⟩,?_⟩;have hbg:=yn sg.h (zA sg.w (.cells #[.int .i64 1,.slice pm M.length qm] 46));have K3:=yr sg.w [.int .i64 1,.slice pm M.length qm] 46;have G3:=((yn BB sg.h)).size;have D13:=(show sg.w.heap.size∉fs from fun h=>by have h1:=(sideC.ins Ks _ h).2;have h3:=sg.h.size;omega);have D37:=(show sg.w.heap.size∉(Value.slice pc [((1:Int),M)].length qc).ownBlock.toList++fc from fun h=>by have h1:=(Kc.ins _ h).2;have h3:=sg.h.size;omega);replace Ks:=sideC.stay Ks hbg;replace K6:=K6.stay hbg;replace Kc:=Kc.stay hbg;replace BB:=yn BB hbg;clear hbg;replace hne:=yq (sg.w.alloc (.cells #[.int .i64 1,.slice pm M.length qm] 46));generalize hW:(sg.w.alloc (.cells #[.int .i64 1,.slice pm M.length qm] 46))=wg9 at *;clear hW;generalize sg.w.heap.size=g3 at *;clear sg;refine wpM_more [4] 2 1 rfl (by kernel_rfl) (by kernel_rfl) (by kernel_rfl) (by kernel_rfl) ?_;simp only[zD,ya,yb,yc]
      go_simp
      repeat (go_big_quiet_step (fail))
      refine wpQuiet_nil ?_;refine wpM_more [8] 1 0 rfl (by kernel_rfl) (by kernel_rfl) (by kernel_rfl) (by kernel_rfl) ?_;simp only[zD,ya,yb,yc]
      go_simp
      repeat (go_big_quiet_step (fail))
      refine wpQuiet_nil ?_;refine zWe ?_;rintro _ ⟨sz,rfl⟩;simp only[yd,ye]
      go_simp
      replace Ks:=sideC.stay Ks sz.h;replace K6:=K6.stay sz.h;replace Kc:=Kc.stay sz.h;replace K3:=K3.stay sz.h
      replace G3:=show V.heap.size≤g3 from G3
      replace BB:=yn BB sz.h;clear hne;generalize sz.w=W at *;clear sz;revert D17;revert D37;revert D13;revert Kc;revert K6;revert G3;revert K3;revert Ks;revert BB;revert qc;revert pc;revert fc;revert xs;revert g6;revert g3;revert qv;revert pv;revert qu;revert pu;revert fs;revert W;exact JN.out
   ·skip
    refine mOp_make rfl (by go_simp) ?_;rintro _ ⟨sg,rfl⟩;refine⟨.slice (some ⟨sg.w.heap.size,0,none⟩) 1 1,sg.w.alloc (.cells #[.int .i64 1,.slice pm M.length qm] 46),by go_simp,⟨⟨_,zA _ _⟩,rfl⟩,?_⟩;have hbg:=yn sg.h (zA sg.w (.cells #[.int .i64 1,.slice pm M.length qm] 46));have K3:=yr sg.w [.int .i64 1,.slice pm M.length qm] 46;have G3:=((yn BB sg.h)).size;replace BB:=yn BB hbg;clear hbg;replace hne:=yq (sg.w.alloc (.cells #[.int .i64 1,.slice pm M.length qm] 46));generalize hW:(sg.w.alloc (.cells #[.int .i64 1,.slice pm M.length qm] 46))=wg10 at *;clear hW;generalize sg.w.heap.size=g3 at *;clear sg;refine zAs (i:=1) (j:=6) (by kernel_rfl) ?_ ?_
    ·skip
     refine mOp_call rfl (by go_simp) 85 _ #[.agg #[.int .i64 s.1,.slice p s.2.1.length q,.int .i64 s.2.2.1,.slice p2 s.2.2.2.length q2]] (fun w=>by go_simp) rfl ?_;rintro _ ⟨sg,rfl⟩;refine(KC.out _ (yn BW (yn BB sg.h))).mono ?_;rintro e wg11 ⟨us,vs,fs,rfl,ks,hbx⟩;obtain⟨pu,qu,pv,qv,es,-,-⟩:=zAM (sideC.toRep ks);simp only[yj,and_true,true_and] at es;obtain⟨rfl,rfl⟩:=es;have hbg:=yn sg.h hbx;refine⟨_,rfl,⟨⟨wg11,hbx⟩,rfl⟩,?_⟩;have Ks:=sideC.low ks ((yn BB sg.h)).size;have D13:=(show g3∉fs from fun h=>by have h1:=(sideC.ins ks _ h).1;have h2:=K3.lt;have h3:=sg.h.size;omega);replace K3:=K3.stay hbg
     replace G3:=show V.heap.size≤g3 from G3
     replace BB:=yn BB hbg;clear hbg hbx sg ks;replace hne:=yq wg11;refine wpM_more [4] 4 3 rfl (by kernel_rfl) (by kernel_rfl) (by kernel_rfl) (by kernel_rfl) ?_;simp only[zD,ya,yb,yc]
     go_simp
     repeat (go_big_quiet_step (fail))
     refine wpQuiet_nil ?_;refine zWk 6 rfl ?_;rintro _ ⟨sg,rfl⟩;refine⟨.slice (some ⟨sg.w.heap.size,0,none⟩) 1 1,sg.w.alloc (.cells #[.int .i64 1,.slice pm M.length qm] 46),by go_simp,⟨⟨_,zA _ _⟩,rfl⟩,?_⟩;have hbg:=yn sg.h (zA sg.w (.cells #[.int .i64 1,.slice pm M.length qm] 46));have K6:=yr sg.w [.int .i64 1,.slice pm M.length qm] 46;replace K3:=K3.stay hbg
     replace G3:=show V.heap.size≤g3 from G3
     replace Ks:=sideC.stay Ks hbg;replace BB:=yn BB hbg;clear hbg;replace hne:=yq (sg.w.alloc (.cells #[.int .i64 1,.slice pm M.length qm] 46));generalize hW:(sg.w.alloc (.cells #[.int .i64 1,.slice pm M.length qm] 46))=wg12 at *;clear hW;generalize sg.w.heap.size=g6 at *;clear sg;refine zWc 7 rfl 65 #[.slice (some ⟨g6,0,none⟩) 1 1] ?_;rintro _ ⟨sg,rfl⟩;refine(zAN [(1,M)] _ _ _ (zAv (K6.stay sg.h) (HM.out.keep (yn BB sg.h))) HB.out).mono ?_;rintro e wg13 ⟨vc,xs,fc,rfl,kc,hbx⟩;obtain⟨pc,qc,rfl,-⟩:=kc.rd;have hbg:=yn sg.h hbx;refine⟨_,rfl,⟨⟨wg13,hbx⟩,rfl⟩,?_⟩;have Kc:=kc.low ((yn BB sg.h)).size;have D37:=(show g3∉(Value.slice pc [((1:Int),M)].length qc).ownBlock.toList++fc from fun h=>by have h1:=(kc.ins _ h).1;have h2:=K3.lt;have h3:=sg.h.size;omega);have D17:=(show ∀ k,k∈fs→k∉(Value.slice pc [((1:Int),M)].length qc).ownBlock.toList++fc from fun k h h2=>by have h1:=(sideC.ins Ks k h).2;have h4:=(kc.ins k h2).1;have h3:=sg.h.size;omega);replace K3:=K3.stay hbg
     replace G3:=show V.heap.size≤g3 from G3
     replace Ks:=sideC.stay Ks hbg;replace K6:=K6.stay hbg;replace BB:=yn BB hbg;clear hbg hbx sg kc;replace hne:=yq wg13;refine wpM_more [8] 1 0 rfl (by kernel_rfl) (by kernel_rfl) (by kernel_rfl) (by kernel_rfl) ?_;simp only[zD,ya,yb,yc]
     go_simp
     repeat (go_big_quiet_step (fail))
     refine wpQuiet_nil ?_;refine zWe ?_;rintro _ ⟨sz,rfl⟩;simp only[yd,ye]
     go_simp
     replace K3:=K3.stay sz.h
     replace G3:=show V.heap.size≤g3 from G3
     replace Ks:=sideC.stay Ks sz.h;replace K6:=K6.stay sz.h;replace Kc:=Kc.stay sz.h;replace BB:=yn BB sz.h;clear hne;generalize sz.w=W at *;clear sz;revert D17;revert D37;revert D13;revert Kc;revert K6;revert G3;revert K3;revert Ks;revert BB;revert qc;revert pc;revert fc;revert xs;revert g6;revert g3;revert qv;revert pv;revert qu;revert pu;revert fs;revert W;exact JN.out
    ·skip
     refine mOp_make rfl (by go_simp) ?_;rintro _ ⟨sg,rfl⟩;refine⟨.slice (some ⟨sg.w.heap.size,0,none⟩) 1 1,sg.w.alloc (.cells #[.int .i64 1,.slice pm M.length qm] 46),by go_simp,⟨⟨_,zA _ _⟩,rfl⟩,?_⟩;have hbg:=yn sg.h (zA sg.w (.cells #[.int .i64 1,.slice pm M.length qm] 46));have K6:=yr sg.w [.int .i64 1,.slice pm M.length qm] 46;replace K3:=K3.stay hbg
     replace G3:=show V.heap.size≤g3 from G3
     replace BB:=yn BB hbg;clear hbg;replace hne:=yq (sg.w.alloc (.cells #[.int .i64 1,.slice pm M.length qm] 46));generalize hW:(sg.w.alloc (.cells #[.int .i64 1,.slice pm M.length qm] 46))=wg14 at *;clear hW;generalize sg.w.heap.size=g6 at *;clear sg;refine zWc 1 rfl 85 #[.agg #[.int .i64 s.1,.slice p s.2.1.length q,.int .i64 s.2.2.1,.slice p2 s.2.2.2.length q2]] ?_;rintro _ ⟨sg,rfl⟩;refine(KC.out _ (yn BW (yn BB sg.h))).mono ?_;rintro e wg15 ⟨us,vs,fs,rfl,ks,hbx⟩;obtain⟨pu,qu,pv,qv,es,-,-⟩:=zAM (sideC.toRep ks);simp only[yj,and_true,true_and] at es;obtain⟨rfl,rfl⟩:=es;have hbg:=yn sg.h hbx;refine⟨_,rfl,⟨⟨wg15,hbx⟩,rfl⟩,?_⟩;have Ks:=sideC.low ks ((yn BB sg.h)).size;have D13:=(show g3∉fs from fun h=>by have h1:=(sideC.ins ks _ h).1;have h2:=K3.lt;have h3:=sg.h.size;omega);replace K3:=K3.stay hbg
     replace G3:=show V.heap.size≤g3 from G3
     replace K6:=K6.stay hbg;replace BB:=yn BB hbg;clear hbg hbx sg ks;replace hne:=yq wg15;refine wpM_more [4] 3 2 rfl (by kernel_rfl) (by kernel_rfl) (by kernel_rfl) (by kernel_rfl) ?_;simp only[zD,ya,yb,yc]
     go_simp
     repeat (go_big_quiet_step (fail))
     refine wpQuiet_nil ?_;refine zWc 7 rfl 65 #[.slice (some ⟨g6,0,none⟩) 1 1] ?_;rintro _ ⟨sg,rfl⟩;refine(zAN [(1,M)] _ _ _ (zAv (K6.stay sg.h) (HM.out.keep (yn BB sg.h))) HB.out).mono ?_;rintro e wg16 ⟨vc,xs,fc,rfl,kc,hbx⟩;obtain⟨pc,qc,rfl,-⟩:=kc.rd;have hbg:=yn sg.h hbx;refine⟨_,rfl,⟨⟨wg16,hbx⟩,rfl⟩,?_⟩;have Kc:=kc.low ((yn BB sg.h)).size;have D37:=(show g3∉(Value.slice pc [((1:Int),M)].length qc).ownBlock.toList++fc from fun h=>by have h1:=(kc.ins _ h).1;have h2:=K3.lt;have h3:=sg.h.size;omega);have D17:=(show ∀ k,k∈fs→k∉(Value.slice pc [((1:Int),M)].length qc).ownBlock.toList++fc from fun k h h2=>by have h1:=(sideC.ins Ks k h).2;have h4:=(kc.ins k h2).1;have h3:=sg.h.size;omega);replace K3:=K3.stay hbg
     replace G3:=show V.heap.size≤g3 from G3
     replace K6:=K6.stay hbg;replace Ks:=sideC.stay Ks hbg;replace BB:=yn BB hbg;clear hbg hbx sg kc;replace hne:=yq wg16;refine wpM_more [8] 1 0 rfl (by kernel_rfl) (by kernel_rfl) (by kernel_rfl) (by kernel_rfl) ?_;simp only[zD,ya,yb,yc]
     go_simp
     repeat (go_big_quiet_step (fail))
     refine wpQuiet_nil ?_;refine zWe ?_;rintro _ ⟨sz,rfl⟩;simp only[yd,ye]
     go_simp
     replace K3:=K3.stay sz.h
     replace G3:=show V.heap.size≤g3 from G3
     replace K6:=K6.stay sz.h;replace Ks:=sideC.stay Ks sz.h;replace Kc:=Kc.stay sz.h;replace BB:=yn BB sz.h;clear hne;generalize sz.w=W at *;clear sz;revert D17;revert D37;revert D13;revert Kc;revert K6;revert G3;revert K3;revert Ks;revert BB;revert qc;revert pc;revert fc;revert xs;revert g6;revert g3;revert qv;revert pv;revert qu;revert pu;revert fs;revert W;exact JN.out
   ·skip
    refine mOp_make rfl (by go_simp) ?_;rintro _ ⟨sg,rfl⟩;refine⟨.slice (some ⟨sg.w.heap.size,0,none⟩) 1 1,sg.w.alloc (.cells #[.int .i64 1,.slice pm M.length qm] 46),by go_simp,⟨⟨_,zA _ _⟩,rfl⟩,?_⟩;have hbg:=yn sg.h (zA sg.w (.cells #[.int .i64 1,.slice pm M.length qm] 46));have K6:=yr sg.w [.int .i64 1,.slice pm M.length qm] 46;replace BB:=yn BB hbg;clear hbg;replace hne:=yq (sg.w.alloc (.cells #[.int .i64 1,.slice pm M.length qm] 46));generalize hW:(sg.w.alloc (.cells #[.int .i64 1,.slice pm M.length qm] 46))=wg17 at *;clear hW;generalize sg.w.heap.size=g6 at *;clear sg;refine zAs (i:=1) (j:=3) (by kernel_rfl) ?_ ?_
    ·skip
     refine mOp_call rfl (by go_simp) 85 _ #[.agg #[.int .i64 s.1,.slice p s.2.1.length q,.int .i64 s.2.2.1,.slice p2 s.2.2.2.length q2]] (fun w=>by go_simp) rfl ?_;rintro _ ⟨sg,rfl⟩;refine(KC.out _ (yn BW (yn BB sg.h))).mono ?_;rintro e wg18 ⟨us,vs,fs,rfl,ks,hbx⟩;obtain⟨pu,qu,pv,qv,es,-,-⟩:=zAM (sideC.toRep ks);simp only[yj,and_true,true_and] at es;obtain⟨rfl,rfl⟩:=es;have hbg:=yn sg.h hbx;refine⟨_,rfl,⟨⟨wg18,hbx⟩,rfl⟩,?_⟩;have Ks:=sideC.low ks ((yn BB sg.h)).size;replace K6:=K6.stay hbg;replace BB:=yn BB hbg;clear hbg hbx sg ks;replace hne:=yq wg18;refine zAs (i:=3) (j:=7) (by kernel_rfl) ?_ ?_
     ·skip
      refine mOp_make rfl (by go_simp) ?_;rintro _ ⟨sg,rfl⟩;refine⟨.slice (some ⟨sg.w.heap.size,0,none⟩) 1 1,sg.w.alloc (.cells #[.int .i64 1,.slice pm M.length qm] 46),by go_simp,⟨⟨_,zA _ _⟩,rfl⟩,?_⟩;have hbg:=yn sg.h (zA sg.w (.cells #[.int .i64 1,.slice pm M.length qm] 46));have K3:=yr sg.w [.int .i64 1,.slice pm M.length qm] 46;have G3:=((yn BB sg.h)).size;have D13:=(show sg.w.heap.size∉fs from fun h=>by have h1:=(sideC.ins Ks _ h).2;have h3:=sg.h.size;omega);replace K6:=K6.stay hbg;replace Ks:=sideC.stay Ks hbg;replace BB:=yn BB hbg;clear hbg;replace hne:=yq (sg.w.alloc (.cells #[.int .i64 1,.slice pm M.length qm] 46));generalize hW:(sg.w.alloc (.cells #[.int .i64 1,.slice pm M.length qm] 46))=wg19 at *;clear hW;generalize sg.w.heap.size=g3 at *;clear sg;refine wpM_more [4] 3 2 rfl (by kernel_rfl) (by kernel_rfl) (by kernel_rfl) (by kernel_rfl) ?_;simp only[zD,ya,yb,yc]
      go_simp
      repeat (go_big_quiet_step (fail))
      refine wpQuiet_nil ?_;refine zWc 7 rfl 65 #[.slice (some ⟨g6,0,none⟩) 1 1] ?_;rintro _ ⟨sg,rfl⟩;refine(zAN [(1,M)] _ _ _ (zAv (K6.stay sg.h) (HM.out.keep (yn BB sg.h))) HB.out).mono ?_;rintro e wg20 ⟨vc,xs,fc,rfl,kc,hbx⟩;obtain⟨pc,qc,rfl,-⟩:=kc.rd;have hbg:=yn sg.h hbx;refine⟨_,rfl,⟨⟨wg20,hbx⟩,rfl⟩,?_⟩;have Kc:=kc.low ((yn BB sg.h)).size;have D37:=(show g3∉(Value.slice pc [((1:Int),M)].length qc).ownBlock.toList++fc from fun h=>by have h1:=(kc.ins _ h).1;have h2:=K3.lt;have h3:=sg.h.size;omega);have D17:=(show ∀ k,k∈fs→k∉(Value.slice pc [((1:Int),M)].length qc).ownBlock.toList++fc from fun k h h2=>by have h1:=(sideC.ins Ks k h).2;have h4:=(kc.ins k h2).1;have h3:=sg.h.size;omega);replace K6:=K6.stay hbg;replace Ks:=sideC.stay Ks hbg;replace K3:=K3.stay hbg
      replace G3:=show V.heap.size≤g3 from G3
      replace BB:=yn BB hbg;clear hbg hbx sg kc;replace hne:=yq wg20;refine wpM_more [8] 1 0 rfl (by kernel_rfl) (by kernel_rfl) (by kernel_rfl) (by kernel_rfl) ?_;simp only[zD,ya,yb,yc]
      go_simp
      repeat (go_big_quiet_step (fail))
      refine wpQuiet_nil ?_;refine zWe ?_;rintro _ ⟨sz,rfl⟩;simp only[yd,ye]
      go_simp
      replace K6:=K6.stay sz.h;replace Ks:=sideC.stay Ks sz.h;replace K3:=K3.stay sz.h
      replace G3:=show V.heap.size≤g3 from G3
      replace Kc:=Kc.stay sz.h;replace BB:=yn BB sz.h;clear hne;generalize sz.w=W at *;clear sz;revert D17;revert D37;revert D13;revert Kc;revert K6;revert G3;revert K3;revert Ks;revert BB;revert qc;revert pc;revert fc;revert xs;revert g6;revert g3;revert qv;revert pv;revert qu;revert pu;revert fs;revert W;exact JN.out
     ·skip
      refine mOp_call rfl (by go_simp) 65 _ #[.slice (some ⟨g6,0,none⟩) 1 1] (fun w=>by go_simp) rfl ?_;rintro _ ⟨sg,rfl⟩;refine(zAN [(1,M)] _ _ _ (zAv (K6.stay sg.h) (HM.out.keep (yn BB sg.h))) HB.out).mono ?_;rintro e wg21 ⟨vc,xs,fc,rfl,kc,hbx⟩;obtain⟨pc,qc,rfl,-⟩:=kc.rd;have hbg:=yn sg.h hbx;refine⟨_,rfl,⟨⟨wg21,hbx⟩,rfl⟩,?_⟩;have Kc:=kc.low ((yn BB sg.h)).size;have D17:=(show ∀ k,k∈fs→k∉(Value.slice pc [((1:Int),M)].length qc).ownBlock.toList++fc from fun k h h2=>by have h1:=(sideC.ins Ks k h).2;have h4:=(kc.ins k h2).1;have h3:=sg.h.size;omega);replace K6:=K6.stay hbg;replace Ks:=sideC.stay Ks hbg;replace BB:=yn BB hbg;clear hbg hbx sg kc;replace hne:=yq wg21;refine zWk 3 rfl ?_;rintro _ ⟨sg,rfl⟩;refine⟨.slice (some ⟨sg.w.heap.size,0,none⟩) 1 1,sg.w.alloc (.cells #[.int .i64 1,.slice pm M.length qm] 46),by go_simp,⟨⟨_,zA _ _⟩,rfl⟩,?_⟩;have hbg:=yn sg.h (zA sg.w (.cells #[.int .i64 1,.slice pm M.length qm] 46));have K3:=yr sg.w [.int .i64 1,.slice pm M.length qm] 46;have G3:=((yn BB sg.h)).size;have D13:=(show sg.w.heap.size∉fs from fun h=>by have h1:=(sideC.ins Ks _ h).2;have h3:=sg.h.size;omega);have D37:=(show sg.w.heap.size∉(Value.slice pc [((1:Int),M)].length qc).ownBlock.toList++fc from fun h=>by have h1:=(Kc.ins _ h).2;have h3:=sg.h.size;omega);replace K6:=K6.stay hbg;replace Ks:=sideC.stay Ks hbg;replace Kc:=Kc.stay hbg;replace BB:=yn BB hbg;clear hbg;replace hne:=yq (sg.w.alloc (.cells #[.int .i64 1,.slice pm M.length qm] 46));generalize hW:(sg.w.alloc (.cells #[.int .i64 1,.slice pm M.length qm] 46))=wg22 at *;clear hW;generalize sg.w.heap.size=g3 at *;clear sg;refine wpM_more [4] 2 1 rfl (by kernel_rfl) (by kernel_rfl) (by kernel_rfl) (by kernel_rfl) ?_;simp only[zD,ya,yb,yc]
      go_simp
      repeat (go_big_quiet_step (fail))
      refine wpQuiet_nil ?_;refine wpM_more [8] 1 0 rfl (by kernel_rfl) (by kernel_rfl) (by kernel_rfl) (by kernel_rfl) ?_;simp only[zD,ya,yb,yc]
      go_simp
      repeat (go_big_quiet_step (fail))
      refine wpQuiet_nil ?_;refine zWe ?_;rintro _ ⟨sz,rfl⟩;simp only[yd,ye]
      go_simp
      replace K6:=K6.stay sz.h;replace Ks:=sideC.stay Ks sz.h;replace Kc:=Kc.stay sz.h;replace K3:=K3.stay sz.h
      replace G3:=show V.heap.size≤g3 from G3
      replace BB:=yn BB sz.h;clear hne;generalize sz.w=W at *;clear sz;revert D17;revert D37;revert D13;revert Kc;revert K6;revert G3;revert K3;revert Ks;revert BB;revert qc;revert pc;revert fc;revert xs;revert g6;revert g3;revert qv;revert pv;revert qu;revert pu;revert fs;revert W;exact JN.out
    ·skip
     refine mOp_make rfl (by go_simp) ?_;rintro _ ⟨sg,rfl⟩;refine⟨.slice (some ⟨sg.w.heap.size,0,none⟩) 1 1,sg.w.alloc (.cells #[.int .i64 1,.slice pm M.length qm] 46),by go_simp,⟨⟨_,zA _ _⟩,rfl⟩,?_⟩;have hbg:=yn sg.h (zA sg.w (.cells #[.int .i64 1,.slice pm M.length qm] 46));have K3:=yr sg.w [.int .i64 1,.slice pm M.length qm] 46;have G3:=((yn BB sg.h)).size;replace K6:=K6.stay hbg;replace BB:=yn BB hbg;clear hbg;replace hne:=yq (sg.w.alloc (.cells #[.int .i64 1,.slice pm M.length qm] 46));generalize hW:(sg.w.alloc (.cells #[.int .i64 1,.slice pm M.length qm] 46))=wg23 at *;clear hW;generalize sg.w.heap.size=g3 at *;clear sg;refine zWc 1 rfl 85 #[.agg #[.int .i64 s.1,.slice p s.2.1.length q,.int .i64 s.2.2.1,.slice p2 s.2.2.2.length q2]] ?_;rintro _ ⟨sg,rfl⟩;refine(KC.out _ (yn BW (yn BB sg.h))).mono ?_;rintro e wg24 ⟨us,vs,fs,rfl,ks,hbx⟩;obtain⟨pu,qu,pv,qv,es,-,-⟩:=zAM (sideC.toRep ks);simp only[yj,and_true,true_and] at es;obtain⟨rfl,rfl⟩:=es;have hbg:=yn sg.h hbx;refine⟨_,rfl,⟨⟨wg24,hbx⟩,rfl⟩,?_⟩;have Ks:=sideC.low ks ((yn BB sg.h)).size;have D13:=(show g3∉fs from fun h=>by have h1:=(sideC.ins ks _ h).1;have h2:=K3.lt;have h3:=sg.h.size;omega);replace K6:=K6.stay hbg;replace K3:=K3.stay hbg
     replace G3:=show V.heap.size≤g3 from G3
     replace BB:=yn BB hbg;clear hbg hbx sg ks;replace hne:=yq wg24;refine wpM_more [4] 3 2 rfl (by kernel_rfl) (by kernel_rfl) (by kernel_rfl) (by kernel_rfl) ?_;simp only[zD,ya,yb,yc]
     go_simp
     repeat (go_big_quiet_step (fail))
     refine wpQuiet_nil ?_;refine zWc 7 rfl 65 #[.slice (some ⟨g6,0,none⟩) 1 1] ?_;rintro _ ⟨sg,rfl⟩;refine(zAN [(1,M)] _ _ _ (zAv (K6.stay sg.h) (HM.out.keep (yn BB sg.h))) HB.out).mono ?_;rintro e wg25 ⟨vc,xs,fc,rfl,kc,hbx⟩;obtain⟨pc,qc,rfl,-⟩:=kc.rd;have hbg:=yn sg.h hbx;refine⟨_,rfl,⟨⟨wg25,hbx⟩,rfl⟩,?_⟩;have Kc:=kc.low ((yn BB sg.h)).size;have D37:=(show g3∉(Value.slice pc [((1:Int),M)].length qc).ownBlock.toList++fc from fun h=>by have h1:=(kc.ins _ h).1;have h2:=K3.lt;have h3:=sg.h.size;omega);have D17:=(show ∀ k,k∈fs→k∉(Value.slice pc [((1:Int),M)].length qc).ownBlock.toList++fc from fun k h h2=>by have h1:=(sideC.ins Ks k h).2;have h4:=(kc.ins k h2).1;have h3:=sg.h.size;omega);replace K6:=K6.stay hbg;replace K3:=K3.stay hbg
     replace G3:=show V.heap.size≤g3 from G3
     replace Ks:=sideC.stay Ks hbg;replace BB:=yn BB hbg;clear hbg hbx sg kc;replace hne:=yq wg25;refine wpM_more [8] 1 0 rfl (by kernel_rfl) (by kernel_rfl) (by kernel_rfl) (by kernel_rfl) ?_;simp only[zD,ya,yb,yc]
     go_simp
     repeat (go_big_quiet_step (fail))
     refine wpQuiet_nil ?_;refine zWe ?_;rintro _ ⟨sz,rfl⟩;simp only[yd,ye]
     go_simp
     replace K6:=K6.stay sz.h;replace K3:=K3.stay sz.h
     replace G3:=show V.heap.size≤g3 from G3
     replace Ks:=sideC.stay Ks sz.h;replace Kc:=Kc.stay sz.h;replace BB:=yn BB sz.h;clear hne;generalize sz.w=W at *;clear sz;revert D17;revert D37;revert D13;revert Kc;revert K6;revert G3;revert K3;revert Ks;revert BB;revert qc;revert pc;revert fc;revert xs;revert g6;revert g3;revert qv;revert pv;revert qu;revert pu;revert fs;revert W;exact JN.out
  intro W fs pu qu pv qv g3 g6 xs fc pc qc BB Ks K3 G3 K6 Kc D13 D37 D17;have KM:=HKM.out.stay BB
  have KR:endResultC.own W (w.heap.size+2) (0,(s,1,0,[(1,M)],[],zeroX),[(1,M)]) _ _:=zCz (r:=(0,(s,1,0,[(1,M)],[],zeroX),[(1,M)])) (zEN (e:=(s,1,0,[(1,M)],[],zeroX)) (sideC.low Ks HZV.out) (zLj K3 (yi HZV.out G3) KM (fun h=>by have h1:=HKM.out.lt _ (mem_opt.1 h);omega)) (zDM _ _) (zDN _ _) (fun k h h2=>by
    rcases List.mem_cons.1 h2 with h3 | h3
    ·subst h3;exact D13 h
    ·have h4:=(sideC.ins Ks k h).1;have h5:=HKM.out.lt _ (mem_opt.1 h3)
     omega) (fun _ _ h=>by cases h) (fun _ _ h=>by cases h) (fun _ _ h=>by cases h) (fun _ _ h=>by cases h) (fun _ h=>by cases h)) (⟨_,_,_,rfl,Kc.low HZV.out,rfl⟩:msgsC.own W (w.heap.size+2) [(1,M)] [.slice pc [((1:Int),M)].length qc] _) (fun k h h2=>by
    simp only[yl,List.append_nil,ym,List.mem_cons] at h;rcases h with h3 | h3 | h3
    ·exact D17 k h3 h2
    ·subst h3;exact D37 h2
    ·have h4:=(Kc.ins k h2).1;have h5:=HKM.out.lt _ (mem_opt.1 h3)
     omega)
  replace R:=R.stay BB;replace BW:=yn BW BB;obtain⟨t0,t1,t2,t3,t4,t5,t6,t7,t8,t9,t10,t11,t12,t13⟩:=zc14 R;have ft:=R.frozen;clear R BB c0 c1 c2 c3 c4 c5 KM K3 K6 Ks Kc D13 D37 D17 G3;go_wp2_with fail;exact bodyPost_ret (v:=.agg #[.int .i64 0,.int .i64 s.1,.slice pu s.2.1.length qu,.int .i64 s.2.2.1,.slice pv s.2.2.2.length qv,.int .i64 1,.int .i64 0,.slice (some ⟨g3,0,none⟩) 1 1,.slice none 0 0,.slice none 0 0,.slice none 0 0,.slice none 0 0,.slice none 0 0,.slice pc 1 qc]) (by simp[results,results41,go_sem,t0,t1,t2,t3,t4,t5,t6,t7,t8,t9,t10,t11,t12,t13]) rfl (HQ.out _ _ ⟨[_,_,_,_,_,_,_,_,_,_,_,_,_,_],_,rfl,endResultC.low (zt14 endResultC KR zzC) (by omega),(zs14 BW zzA)⟩)
 ·rw[zNA hs] at HQ
  have hd:(sfC s != 0)=true:=by rw[bne_iff_ne];exact hs
  clear hs;generalize sfC s=cc at *;go_enter func41,ntmps41;go_wp2_with fail;refine KS.mono ?_;rintro e w1 ⟨rfl,hw⟩;subst hw;go_wp2_with fail;refine(zAR cc _).mono ?_;rintro e w2 ⟨rfl,hb2⟩;replace R:=R.stay hb2;replace BW:=yn BW hb2;obtain⟨t0,t1,t2,t3,t4,t5,t6,t7,t8,t9,t10,t11,t12,t13⟩:=zc14 R;have ft:=R.frozen;clear R hb2 A KS;go_wp2_with fail;exact bodyPost_ret (v:=.agg #[.int .i64 cc,.int .i64 0,.slice none 0 0,.int .i64 0,.slice none 0 0,.int .i64 0,.int .i64 0,.slice none 0 0,.slice none 0 0,.slice none 0 0,.slice none 0 0,.slice none 0 0,.slice none 0 0,.slice none 0 0]) (by simp[results,results41,go_sem,t0,t1,t2,t3,t4,t5,t6,t7,t8,t9,t10,t11,t12,t13]) rfl (HQ.out _ _ ⟨[_,_,_,_,_,_,_,_,_,_,_,_,_,_],_,rfl,zAO _ _ _,(zs14 BW zzA)⟩)
end Go.Proofs.YtiabacnmmojfjaaGreatDoor
