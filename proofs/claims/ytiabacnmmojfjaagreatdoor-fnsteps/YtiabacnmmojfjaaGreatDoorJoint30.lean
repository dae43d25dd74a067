import Derived.Test.YtiabacnmmojfjaaGreatDoorJoint29
import Derived.Test.YtiabacnmmojfjaaGreatDoorJoint25
import Derived.Test.YtiabacnmmojfjaaGreatDoorJoint6
import Derived.Test.YtiabacnmmojfjaaGreatDoorJoint1
set_option maxHeartbeats 2000000
set_option maxRecDepth 4000
open Go.Proofs.Tryz
namespace Go.Proofs.YtiabacnmmojfjaaGreatDoor
open Go.ChangeShapes Go.WideShapes Go.ChangeAt Go.RowKit
def zHC (t:ShkD) (m:MsgD):ShkD:={ t with e:=eL t.e (t.e.2.2.2.1++[m]) }
def zF9 (t:ShkD) (m:MsgD):ShkD:={ t with e:=eL t.e (t.e.2.2.2.1++[m]),send:=t.send++[m] }
section
variable {w0 w:World} {b:Nat} {t:ShkD}
theorem Shk.side (h:Shk w0 b w t):∃ p1 q1 p2 q2,w.cell? ⟨b,0,none⟩=some (.int .i64 t.e.1.1)∧w.cell? ⟨b,1,none⟩=some (.slice p1 t.e.1.2.1.length q1)∧w.cell? ⟨b,2,none⟩=some (.int .i64 t.e.1.2.2.1)∧w.cell? ⟨b,3,none⟩=some (.slice p2 t.e.1.2.2.2.length q2)∧Rd w p1 q1 t.e.1.2.1∧Rd w p2 q2 t.e.1.2.2.2:=by
 obtain⟨us,vh,vs,ho,vk,xs,f,HB,RE,RH,RO,RK⟩:=h;obtain⟨p1,q1,p2,q2,p3,q3,p4,q4,p5,q5,p6,q6,p7,q7,p8,q8,rfl,r1,r2,r3,r4,r5,r6,r7,r8⟩:=zAC RE;obtain⟨ph,qh,eh,rh⟩:=RH;obtain⟨po,qo,rfl,ro⟩:=zAY RO;obtain⟨pk,qk,ek,rk⟩:=RK;obtain⟨pn,qn,en,-⟩:=HB.own.rd;simp only[yj,and_true] at eh ek;subst eh ek en;simp only[yk,yl] at HB;have A:=HB.arr;exact⟨p1,q1,p2,q2,A.cell 0,A.cell 1,A.cell 2,A.cell 3,r1.sees (zAu _ _),r2.sees (zAu _ _)⟩
theorem Shk.stage (h:Shk w0 b w t):w.cell? ⟨b,4,none⟩=some (.int .i64 t.e.2.1)∧w.cell? ⟨b,5,none⟩=some (.int .i64 t.e.2.2.1)∧(∀ o,w.frozen? ⟨b,o,none⟩=false):=by
 obtain⟨us,vh,vs,ho,vk,xs,f,HB,RE,RH,RO,RK⟩:=h;obtain⟨p1,q1,p2,q2,p3,q3,p4,q4,p5,q5,p6,q6,p7,q7,p8,q8,rfl,r1,r2,r3,r4,r5,r6,r7,r8⟩:=zAC RE;obtain⟨ph,qh,eh,rh⟩:=RH;obtain⟨po,qo,rfl,ro⟩:=zAY RO;obtain⟨pk,qk,ek,rk⟩:=RK;obtain⟨pn,qn,en,-⟩:=HB.own.rd;simp only[yj,and_true] at eh ek;subst eh ek en;simp only[yk,yl] at HB;have A:=HB.arr;exact⟨A.cell 4,A.cell 5,A.frozen⟩
theorem Shk.setStage (h:Shk w0 b w t) (k:Int):Shk w0 b (w.setCell ⟨b,4,none⟩ (.int .i64 k)) { t with e:=eSt t.e k }:=by
 obtain⟨us,vh,vs,ho,vk,xs,f,HB,RE,RH,RO,RK⟩:=h;obtain⟨p1,q1,p2,q2,p3,q3,p4,q4,p5,q5,p6,q6,p7,q7,p8,q8,rfl,r1,r2,r3,r4,r5,r6,r7,r8⟩:=zAC RE;obtain⟨ph,qh,eh,rh⟩:=RH;obtain⟨po,qo,rfl,ro⟩:=zAY RO;obtain⟨pk,qk,ek,rk⟩:=RK;obtain⟨pn,qn,en,-⟩:=HB.own.rd;simp only[yj,and_true] at eh ek;subst eh ek en;simp only[yk,yl] at HB;have A:=HB.arr;have HS:=zA6 b 4 (.int .i64 k) w (.slice pn t.send.length qn);exact⟨_,_,_,_,_,xs,f,HB.set 4 (.int .i64 k),zB3 (a:=eSt t.e k) (r1.sees HS) (r2.sees HS) (r3.sees zAL HS) (r4.sees HS) (r5.sees HS) (r6.sees HS) (r7.sees HS) (r8.sees HS),⟨ph,qh,rfl,rh.sees zAL HS⟩,zBw (ro.sees HS),⟨pk,qk,rfl,rk.sees HS⟩⟩
theorem Shk.setMode (h:Shk w0 b w t) (k:Int):Shk w0 b (w.setCell ⟨b,5,none⟩ (.int .i64 k)) { t with e:=eMo t.e k }:=by
 obtain⟨us,vh,vs,ho,vk,xs,f,HB,RE,RH,RO,RK⟩:=h;obtain⟨p1,q1,p2,q2,p3,q3,p4,q4,p5,q5,p6,q6,p7,q7,p8,q8,rfl,r1,r2,r3,r4,r5,r6,r7,r8⟩:=zAC RE;obtain⟨ph,qh,eh,rh⟩:=RH;obtain⟨po,qo,rfl,ro⟩:=zAY RO;obtain⟨pk,qk,ek,rk⟩:=RK;obtain⟨pn,qn,en,-⟩:=HB.own.rd;simp only[yj,and_true] at eh ek;subst eh ek en;simp only[yk,yl] at HB;have A:=HB.arr;have HS:=zA6 b 5 (.int .i64 k) w (.slice pn t.send.length qn);exact⟨_,_,_,_,_,xs,f,HB.set 5 (.int .i64 k),zB3 (a:=eMo t.e k) (r1.sees HS) (r2.sees HS) (r3.sees zAL HS) (r4.sees HS) (r5.sees HS) (r6.sees HS) (r7.sees HS) (r8.sees HS),⟨ph,qh,rfl,rh.sees zAL HS⟩,zBw (ro.sees HS),⟨pk,qk,rfl,rk.sees HS⟩⟩
end
theorem zKw (w0:World) (b:Nat) (w:World) (t:ShkD) (h:Shk w0 b w t):
  Calls prog 79 #[.pointer (some ⟨b,0,none⟩)] w fun x w'=>(x=.returned (.tuple #[])∧sfC t.e.1=0∧Shk w0 b w' t)∨∃ c,x=.panicked (refV c)∧Only [b] w0 w'∧sfC t.e.1=c∧c≠0:=by
 obtain⟨p1,q1,p2,q2,c0,c1,c2,c3,r1,r2⟩:=h.side;have KS:=zJA t.e.1 _ w (zCZ r1 r2);have HS:Hid (Shk w0 b w t):=h;clear r1 r2 h
 by_cases hs:sfC t.e.1=0
 ·rw[hs] at KS;have HC:Hid (sfC t.e.1=0):=hs;clear hs;go_enter func79,ntmps79;go_wp2_with fail;refine KS.mono ?_;rintro x w1 ⟨rfl,hb1⟩;go_wp2_with fail;refine(zEV _).mono ?_;rintro x w2 ⟨rfl,rfl⟩;go_wp2
  go_end0
  exact .inl ⟨rfl,HC.out,HS.out.stay hb1⟩
 ·obtain⟨c,HC⟩:∃ c,Hid (sfC t.e.1=c∧c≠0):=⟨_,rfl,hs⟩;rw[HC.out.1] at KS;clear hs;go_enter func79,ntmps79;go_wp2_with fail;refine KS.mono ?_;rintro x w1 ⟨rfl,hb1⟩;go_wp2_with fail;refine(zCl c _ HC.out.2).mono ?_;rintro x w2 ⟨rfl,rfl⟩;exact⟨rfl,.inr ⟨c,rfl,(HS.out.stay hb1).only,HC.out.1,HC.out.2⟩⟩
theorem zMN {s:zT} (h:sfC s=0):shC s.1=0∧shV s.1=zC2 s:=by
 have hp:=zAq h
 have h1:inB s.1 1 65519=true:=by simp[inB,hp.1,hp.2.1]
 have h2:shC s.1=0:=by simp[shC,h1]
 exact⟨h2,by rw[shV,if_pos h2];rfl⟩
theorem zNt {s:zT} {kind psk:Int} (h:sfC s=0) (h0:0≤psk) (h9:psk≤9) (hk:kind=1∨kind=2):phD kind (helH s psk)=(0,helM s kind psk):=by
 have hc:phC kind (helH s psk)=0:=by
  have hkb:hkB kind=true:=by rcases hk with rfl | rfl <;> rfl
  rw[phC,if_pos hkb,zG0 h h0 h9]
 rw[phD,if_pos hc];rfl
theorem zKx (c k:Int) (a:Option Addr) (n m:Nat) (w:World):(Instr.field 150 (.agg #[.int .i64 c,.int .i64 k,.slice a n m]) 1).run prog w=.ok (.agg #[.int .i64 k,.slice a n m]) w:=by kernel_rfl
theorem zGe (w0:World) (b:Nat) (w:World) (t:ShkD) (kind psk:Int) (h:Shk w0 b w t) (hs:sfC t.e.1=0) (h0:0≤psk) (h9:psk≤9) (hk:kind=1∨kind=2) (hl:t.e.2.2.2.1.length≤1000) (hsl:t.send.length≤1000):
  Calls prog 135 #[.pointer (some ⟨b,0,none⟩),.int .i64 kind,.int .i64 psk] w fun x w'=>x=.returned (.tuple #[])∧Shk w0 b w' (zF9 t (helM t.e.1 kind psk)):=by
 obtain⟨p1,q1,p2,q2,c0,c1,c2,c3,r1,r2⟩:=h.side;have HS:Hid (Shk w0 b w t):=h;have HR1:Hid (Rd w p1 q1 t.e.1.2.1):=r1;obtain⟨sh,HSH⟩:∃ sh,Hid (sh=zC2 t.e.1):=⟨_,rfl⟩
 have KSh:Hid (∀ w,Calls prog 174 #[.int .i64 t.e.1.1] w fun x w'=>x=.returned (.agg #[.int .i64 0,.int .i64 sh])∧Below w.heap.size w w'):=fun w=>by
  have h:=zLD t.e.1.1 w;rw[(zMN hs).1,(zMN hs).2,← HSH.out] at h;exact h
 obtain⟨M,HM⟩:∃ M,Hid (M=helM t.e.1 kind psk):=⟨_,rfl⟩
 have KPh:Hid (∀ w p q,Rd w p q t.e.1.2.1→Calls prog 175 #[.int .i64 kind,.agg #[.slice p t.e.1.2.1.length q,.int .i64 sh,.int .i64 psk]] w fun x w'=>∃ pm qm,x=.returned (.agg #[.int .i64 0,.int .i64 M.1,.slice pm M.2.length qm])∧Own w' w.heap.size (.slice pm M.2.length qm) M.2∧Below w.heap.size w w'):=fun w p q r=>by
  have h:=zLr kind (helH t.e.1 psk) _ w (zBw (a:=helH t.e.1 psk) r);rw[zNt hs h0 h9 hk,← HM.out] at h;rw[HSH.out];refine h.mono ?_;rintro x w' ⟨us,fp,rfl,ko,hb⟩;obtain⟨u1,u2,f1,f2,e1,-,-,k1,u3,u4,f3,f4,e2,-,-,k2,v,e3,ow,-⟩:=ko;obtain⟨rfl,-⟩:=k1;obtain⟨rfl,-⟩:=k2;obtain⟨pm,qm,rfl,-⟩:=ow.rd;subst e3 e2 e1;exact⟨pm,qm,rfl,ow,hb⟩
 have HLL:Hid (t.e.2.2.2.1.length≤1000∧t.send.length≤1000):=⟨hl,hsl⟩;rw[← HM.out];clear r1 r2 h hs h0 h9 hk hl hsl HSH HM;have BW:=zA w (.cells #[.int .i64 t.e.1.1,.slice p1 t.e.1.2.1.length q1,.int .i64 t.e.1.2.2.1,.slice p2 t.e.1.2.2.2.length q2] 25);have N:=yr w [.int .i64 t.e.1.1,.slice p1 t.e.1.2.1.length q1,.int .i64 t.e.1.2.2.1,.slice p2 t.e.1.2.2.2.length q2] 25;go_enter func135,ntmps135;go_wp2_with fail;generalize w.alloc (.cells #[.int .i64 t.e.1.1,.slice p1 t.e.1.2.1.length q1,.int .i64 t.e.1.2.2.1,.slice p2 t.e.1.2.2.2.length q2] 25)=V at *;clear c0 c1 c2 c3
 have hf1:=fun w=>zNH 0 sh w
 apply share
 case h=>
  intro JN;have BB:=Below.refl V.heap.size V;have hne:=yq V;have k0:=yo (zQ (N.cell 0) rfl);have k1:=yo (zQ (N.cell 1) rfl);refine zWr [0,1,2,3,6] 9 4 1 ?_;simp only[zD,ya,yb,yc]
  repeat (go_big_quiet_step (fail))
  refine wpQuiet_nil ?_;clear k0 k1;refine zAs (i:=4) (j:=8) (by kernel_rfl) ?_ ?_
  ·skip
   refine mOp_call rfl (by go_simp) 174 _ #[.int .i64 t.e.1.1] (fun w=>by go_simp) rfl ?_;rintro _ ⟨sg,rfl⟩;refine(KSh.out _).mono ?_;rintro e wg1 ⟨rfl,hbx⟩;have hbg:=yn sg.h hbx;refine⟨_,rfl,⟨⟨wg1,hbx⟩,rfl⟩,?_⟩;replace BB:=yn BB hbg;clear hbg hbx sg;replace hne:=yq wg1;refine wpM_more [5,7] 3 1 rfl (by kernel_rfl) (by kernel_rfl) (by kernel_rfl) (by kernel_rfl) ?_;simp only[zD,ya,yb,yc]
   go_simp
   repeat (go_big_quiet_step (fail))
   refine wpQuiet_nil ?_;refine zWk 8 rfl ?_;rintro _ ⟨sg,rfl⟩;refine⟨.pointer (some ⟨sg.w.heap.size,0,none⟩),sg.w.alloc (.cells #[.slice none 0 0,.int .i64 0,.int .i64 0] 84),by go_simp,⟨⟨_,zA _ _⟩,rfl⟩,?_⟩;have hbg:=yn sg.h (zA sg.w (.cells #[.slice none 0 0,.int .i64 0,.int .i64 0] 84));have AH:=yr sg.w [.slice none 0 0,.int .i64 0,.int .i64 0] 84;have GH:=(show Hid (V.heap.size≤sg.w.heap.size) from(yn BB sg.h).size);replace BB:=yn BB hbg;clear hbg;replace hne:=yq (sg.w.alloc (.cells #[.slice none 0 0,.int .i64 0,.int .i64 0] 84));generalize hW:(sg.w.alloc (.cells #[.slice none 0 0,.int .i64 0,.int .i64 0] 84))=wg2 at *;clear hW;generalize sg.w.heap.size=gh at *;clear sg;refine zWe ?_;rintro _ ⟨sz,rfl⟩;simp only[yd,ye]
   go_simp
   replace AH:=AH.stay sz.h;replace BB:=yn BB sz.h;clear hne;generalize sz.w=W at *;clear sz;revert GH;revert AH;revert BB;revert gh;revert W;exact JN.out
  ·skip
   refine mOp_make rfl (by go_simp) ?_;rintro _ ⟨sg,rfl⟩;refine⟨.pointer (some ⟨sg.w.heap.size,0,none⟩),sg.w.alloc (.cells #[.slice none 0 0,.int .i64 0,.int .i64 0] 84),by go_simp,⟨⟨_,zA _ _⟩,rfl⟩,?_⟩;have hbg:=yn sg.h (zA sg.w (.cells #[.slice none 0 0,.int .i64 0,.int .i64 0] 84));have AH:=yr sg.w [.slice none 0 0,.int .i64 0,.int .i64 0] 84;have GH:=(show Hid (V.heap.size≤sg.w.heap.size) from(yn BB sg.h).size);replace BB:=yn BB hbg;clear hbg;replace hne:=yq (sg.w.alloc (.cells #[.slice none 0 0,.int .i64 0,.int .i64 0] 84));generalize hW:(sg.w.alloc (.cells #[.slice none 0 0,.int .i64 0,.int .i64 0] 84))=wg3 at *;clear hW;generalize sg.w.heap.size=gh at *;clear sg;refine zWc 4 rfl 174 #[.int .i64 t.e.1.1] ?_;rintro _ ⟨sg,rfl⟩;refine(KSh.out _).mono ?_;rintro e wg4 ⟨rfl,hbx⟩;have hbg:=yn sg.h hbx;refine⟨_,rfl,⟨⟨wg4,hbx⟩,rfl⟩,?_⟩;replace AH:=AH.stay hbg;replace BB:=yn BB hbg;clear hbg hbx sg;replace hne:=yq wg4;refine wpM_more [5,7] 2 0 rfl (by kernel_rfl) (by kernel_rfl) (by kernel_rfl) (by kernel_rfl) ?_;simp only[zD,ya,yb,yc]
   go_simp
   repeat (go_big_quiet_step (fail))
   refine wpQuiet_nil ?_;refine zWe ?_;rintro _ ⟨sz,rfl⟩;simp only[yd,ye]
   go_simp
   replace AH:=AH.stay sz.h;replace BB:=yn BB sz.h;clear hne;generalize sz.w=W at *;clear sz;revert GH;revert AH;revert BB;revert gh;revert W;exact JN.out
 intro W gh BB AH GH;replace BW:=yn BW BB
 have HWZ:Hid (w.heap.size≤gh):=by show _≤_;have:=GH.out;have:=N.lt;omega
 have hres:Hid ((Tryz.prog.info? 84).map (·.size)=some 3):=by show _=_;kernel_rfl
 clear BB N;refine wpList_store_row rfl 84 (.tmp 7) (.tmp 20) rfl gh #[.slice p1 t.e.1.2.1.length q1,.int .i64 sh,.int .i64 psk] rfl rfl 84 #[.slice none 0 0,.int .i64 0,.int .i64 0] AH hres.out rfl (by simp[Value.oneCell']) ?_;have A2:=AH.row [.slice p1 t.e.1.2.1.length q1,.int .i64 sh,.int .i64 psk];replace BW:=Below.row BW HWZ.out #[.slice p1 t.e.1.2.1.length q1,.int .i64 sh,.int .i64 psk];generalize W.setRow gh #[.slice p1 t.e.1.2.1.length q1,.int .i64 sh,.int .i64 psk]=W2 at *;obtain⟨k0,k1,k2⟩:=zc3 A2;clear AH A2;go_wp2_with fail;refine(KPh.out W2 p1 q1 (HR1.out.keep BW)).mono ?_;rintro x w3 ⟨pm,qm,rfl,ko,hb3⟩;have hf2:=zKx 0 M.1 pm M.2.length qm w3;have HS3:=HS.out.stay (yn BW hb3);obtain⟨vs,f,hv⟩:=(HS.out.stay BW).v
 have HIN:Hid (∀ k,k∈vs.ownBlock.toList++f→k<W2.heap.size):=fun k hk=>(hv.ins k hk).2
 have hv3:=hv.stay hb3;have KSAY:=zNs w0 b w3 t vs f M pm qm hv3 (ko.lower hv.blt.2) (fun k hk hm=>by have:=ko.ge k hk;have:=HIN.out k hm;omega) HLL.out.1 HLL.out.2;clear hv hv3 HS3 ko k0 k1 k2 hb3 BW;go_wp2_with fail;refine KSAY.mono ?_;rintro x w4 ⟨rfl,hfin⟩;go_wp2
 go_end0
 exact⟨rfl,hfin⟩
theorem rd_nil (w:World):Rd w none 0 []:=⟨yf _,by unfold maxLen;omega,fun _=>rfl,fun hp=>absurd hp (by simp)⟩
theorem zNF {α:Type} {c:Cod α} (w:World):RdL c w none 0 []:=⟨yf _,by unfold maxLen;omega,fun _=>rfl,fun hp=>absurd hp (by simp)⟩
theorem zIV (w0 w:World) (b:Nat) (heard:List MsgD) (e:EndD) (us:List Value) (vh:Value) (A:Arr w b 86 (us++[vh,.slice none 0 0,.slice none 0 0,.int .i64 0,.int .i64 0,.slice none 0 0])) (ho:Only [b] w0 w) (hb:b<w0.heap.size) (hu:endC.rep (zZ [b] w) e us) (hh:msgsC.rep (zZ [b] w) heard [vh]):
  Shk w0 b w ⟨e,heard,[],([],0,0),[]⟩:=
 ⟨us,vh,.slice none 0 0,[.slice none 0 0,.int .i64 0,.int .i64 0],.slice none 0 0,[],[],⟨A,ho,hb,zEE _ _⟩,hu,hh,zBw (a:=([],0,0)) (rd_nil _),⟨none,0,rfl,rd_nil _⟩⟩
end Go.Proofs.YtiabacnmmojfjaaGreatDoor
