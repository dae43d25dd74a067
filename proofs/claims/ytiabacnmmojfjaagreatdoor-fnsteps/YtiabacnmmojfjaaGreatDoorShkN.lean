import Derived.Test.YtiabacnmmojfjaaGreatDoorShkM
import Derived.Test.YtiabacnmmojfjaaGreatDoorJoint23
import Derived.Test.YtiabacnmmojfjaaGreatDoorJoint28
import Derived.Test.YtiabacnmmojfjaaGreatDoorJoint8
set_option maxHeartbeats 2000000
set_option maxRecDepth 4000
open Go.Proofs.Tryz
namespace Go.Proofs.YtiabacnmmojfjaaGreatDoor
open Go.ChangeShapes Go.WideShapes Go.ChangeAt Go.RowKit
theorem Shk.msgs {w0 w:World} {b:Nat} {t:ShkD} (h:Shk w0 b w t):∃ p3 q3,w.cell? ⟨b,6,none⟩=some (.slice p3 t.e.2.2.2.1.length q3)∧RdL msgC w p3 q3 t.e.2.2.2.1:=by
 obtain⟨us,vh,vs,ho,vk,xs,f,HB,RE,RH,RO,RK⟩:=h;obtain⟨p1,q1,p2,q2,p3,q3,p4,q4,p5,q5,p6,q6,p7,q7,p8,q8,rfl,r1,r2,r3,r4,r5,r6,r7,r8⟩:=zAC RE;obtain⟨ph,qh,eh,rh⟩:=RH;obtain⟨po,qo,rfl,ro⟩:=zAY RO;obtain⟨pk,qk,ek,rk⟩:=RK;obtain⟨pn,qn,en,-⟩:=HB.own.rd;simp only[yj,and_true] at eh ek;subst eh ek en;simp only[yk,yl] at HB;have A:=HB.arr;exact⟨p3,q3,A.cell 6,r3.sees zAL (zAu _ _)⟩
theorem Shk.base {w0 w:World} {b:Nat} {t:ShkD} (h:Shk w0 b w t):∃ p4 q4,w.cell? ⟨b,7,none⟩=some (.slice p4 t.e.2.2.2.2.1.length q4)∧Rd w p4 q4 t.e.2.2.2.2.1:=by
 obtain⟨us,vh,vs,ho,vk,xs,f,HB,RE,RH,RO,RK⟩:=h;obtain⟨p1,q1,p2,q2,p3,q3,p4,q4,p5,q5,p6,q6,p7,q7,p8,q8,rfl,r1,r2,r3,r4,r5,r6,r7,r8⟩:=zAC RE;obtain⟨ph,qh,eh,rh⟩:=RH;obtain⟨po,qo,rfl,ro⟩:=zAY RO;obtain⟨pk,qk,ek,rk⟩:=RK;obtain⟨pn,qn,en,-⟩:=HB.own.rd;simp only[yj,and_true] at eh ek;subst eh ek en;simp only[yk,yl] at HB;have A:=HB.arr;exact⟨p4,q4,A.cell 7,r4.sees (zAu _ _)⟩
theorem Shk.sec {w0 w:World} {b:Nat} {t:ShkD} (h:Shk w0 b w t):∃ pk qk,w.cell? ⟨b,17,none⟩=some (.slice pk t.secret.length qk)∧Rd w pk qk t.secret:=by
 obtain⟨us,vh,vs,ho,vk,xs,f,HB,RE,RH,RO,RK⟩:=h;obtain⟨p1,q1,p2,q2,p3,q3,p4,q4,p5,q5,p6,q6,p7,q7,p8,q8,rfl,r1,r2,r3,r4,r5,r6,r7,r8⟩:=zAC RE;obtain⟨ph,qh,eh,rh⟩:=RH;obtain⟨po,qo,rfl,ro⟩:=zAY RO;obtain⟨pk,qk,ek,rk⟩:=RK;obtain⟨pn,qn,en,-⟩:=HB.own.rd;simp only[yj,and_true] at eh ek;subst eh ek en;simp only[yk,yl] at HB;have A:=HB.arr;exact⟨pk,qk,A.cell 17,rk.sees (zAu _ _)⟩
theorem zNG (c:Int) (a1 a2 a3 a4:Option Addr) (n1 n2 n3 n4 m1 m2 m3 m4:Nat) (w:World):(Instr.field 137 (.agg #[.int .i64 c,.slice a1 n1 m1,.slice a2 n2 m2,.slice a3 n3 m3,.slice a4 n4 m4]) 1).run prog w=.ok (.agg #[.slice a1 n1 m1,.slice a2 n2 m2,.slice a3 n3 m3,.slice a4 n4 m4]) w:=by kernel_rfl
theorem zL8 {w:World} {B:Nat} {c:Int} {x:zAQ} {u1 u2 u3 u4:Value} {fp:List Nat} (h:secretsResultC.own w B (c,x) [.int .i64 c,u1,u2,u3,u4] fp):Own w B u1 x.1∧Own w B u2 x.2.1∧Own w B u3 x.2.2.1∧Own w B u4 x.2.2.2:=by
 obtain⟨us,ts,f1,f2,e1,-,-,⟨rfl,-⟩,us2,ts2,f3,f4,rfl,-,-,⟨v1,rfl,o1,-⟩,us3,ts3,f5,f6,rfl,-,-,⟨v2,rfl,o2,-⟩,us4,ts4,f7,f8,rfl,-,-,⟨v3,rfl,o3,-⟩,⟨v4,rfl,o4,-⟩⟩:=h;simp only[yk,yl,yj,true_and,and_true] at e1;obtain⟨rfl,rfl,rfl,rfl⟩:=e1;exact⟨o1,o2,o3,o4⟩
theorem zKy {k:IntKind} {z:Int} (w:World) (B:Nat):(intC k).own w B z [.int k z] []:=⟨rfl,rfl⟩
theorem rdK {w w':World} {B q:Nat} {p:Option Addr} {bs:List UInt8} {fp:List Nat} (h:bytC.own w B bs [.slice p bs.length q] fp) (hb:Below w.heap.size w w'):Rd w' p q bs:=by
 obtain⟨v,e1,o,-⟩:=h;cases e1;exact(Rd.own o).keep hb
theorem zDS {bs:List UInt8} (h:bs.length=32):is32 bs=true:=by simp[is32,h]
theorem zGg (w0:World) (b:Nat) (w:World) (t:ShkD) (h:Shk w0 b w t) (hs:t.secret.length=32) (hT:Tabs w):
  Calls prog 57 #[.pointer (some ⟨b,0,none⟩)] w fun x w'=>x=.returned (.tuple #[])∧Shk w0 b w' { t with e:=eBa t.e (zH t.secret) }:=by
 obtain⟨pk,qk,c17,RK⟩:=h.sec;have HS:Hid (Shk w0 b w t):=h;have KM:=zL3 pk qk t.secret w RK hT;rw[show msC t.secret=0 by simp[msC,zDS hs],show msL t.secret=zH t.secret by simp[msL,msC,zDS hs]] at KM;clear h hs hT RK;generalize zH t.secret=M at *;go_enter func57,ntmps57;go_wp2_with fail;refine KM.mono ?_;rintro x w1 ⟨u,rfl,ko,hb1⟩;obtain⟨pm,qm,rfl,-⟩:=ko.rd;have hf:=zAk 0 pm M.length qm w1;have HF:=HS.out.setBase hb1 pm qm M ko;have h1:=HS.out.stay hb1;obtain⟨p4,q4,c7,-⟩:=h1.base;obtain⟨-,-,fz⟩:=h1.stage;clear KM ko hb1 c17 h1;go_wp2
 go_end0
 exact⟨rfl,HF⟩
theorem zJi {s:zT} {share mode:Int} (hs:sfC s=0) (h1:1≤share) (h2:share≤65520):sdC s.1 share=0∧∃ v:Nat,sdV s.1 share=(v:Int)∧shbC (v:Int)=0∧shbL (v:Int)=putB v 2∧(if mode=2 then s.2.2.2 else []).length≤64∧secN s share mode=zEm (zAp (if mode=2 then s.2.2.2 else [])) (putB v 2):=by
 have hp:=zAq hs
 have e1:inB s.1 1 65519=true:=by simp[inB,hp.1,hp.2.1]
 have e2:inB share 1 65520=true:=by simp[inB,h1,h2]
 have hd:sdC s.1 share=0:=by simp[sdC,e1,e2]
 have hlt:=zGi share.toNat s.1.toNat;have hpos:=zIe (b:=share.toNat) (e:=s.1.toNat) (by omega) (by omega) (by omega)
 have hb:shbC ((powN share.toNat s.1.toNat:Nat):Int)=0:=by
  have e3:inB ((powN share.toNat s.1.toNat:Nat):Int) 1 65520=true:=by simp[inB];omega
  simp[shbC,e3]
 refine⟨hd,powN share.toNat s.1.toNat,by rw[sdV,if_pos hd],hb,by rw[shbL,if_pos hb,Int.toNat_natCast],?_,rfl⟩;split
 ·rw[hp.2.2.2.2.2];unfold keyW;split <;> decide
 ·simp
theorem zHD (w0:World) (b:Nat) (w:World) (t:ShkD) (h:Shk w0 b w t) (hs:sfC t.e.1=0) (hh1:1≤t.other.2.1) (hh2:t.other.2.1≤65520) (hT:Tabs w):
  Calls prog 56 #[.pointer (some ⟨b,0,none⟩)] w fun x w'=>x=.returned (.tuple #[])∧Shk w0 b w' { t with secret:=secN t.e.1 t.other.2.1 t.e.2.2.1 }:=by
 have HS:Hid (Shk w0 b w t):=h;obtain⟨hsd,v,hv,hb0,hb1,hk,hsec⟩:=zJi (mode:=t.e.2.2.1) hs hh1 hh2;obtain⟨key,HKEY⟩:∃ key,Hid (key=if t.e.2.2.1=2 then t.e.1.2.2.2 else []):=⟨_,rfl⟩;rw[← HKEY.out] at hk hsec;obtain⟨E,HE⟩:∃ E,Hid (E=zAp key):=⟨_,rfl⟩;obtain⟨P,HP⟩:∃ P,Hid (P=putB v 2):=⟨_,rfl⟩;obtain⟨S,HSS⟩:∃ S,Hid (S=zEm E P):=⟨_,rfl⟩
 have HSN:Hid (secN t.e.1 t.other.2.1 t.e.2.2.1=S):=by show _=_;rw[hsec,HSS.out,HE.out,HP.out]
 have HE32:Hid (E.length=32):=by show _=_;rw[HE.out];exact zCS _ _
 have HP2:Hid (P.length=2):=by show _=_;rw[HP.out];exact zP _ _
 have KSD:Hid (∀ w,Calls prog 106 #[.int .i64 t.e.1.1,.int .i64 t.other.2.1] w fun x w'=>x=.returned (.agg #[.int .i64 0,.int .i64 (v:Int)])∧Below w.heap.size w w'):=fun w=>by
  have h:=zLE t.e.1.1 t.other.2.1 w;rw[hsd,hv] at h;exact h
 have KSB:Hid (∀ w,Calls prog 109 #[.int .i64 (v:Int)] w fun x w'=>∃ u,x=.returned (.agg #[.int .i64 0,u])∧Own w' w.heap.size u P∧Below w.heap.size w w'):=fun w=>by
  have h:=zIi (v:Int) w;rw[hb0,hb1,← HP.out] at h;exact h
 have HT:Hid (Tabs w):=hT
 have KHS:Hid (∀ W p q p2 q2,Below w.heap.size w W→Rd W p q E→Rd W p2 q2 P→Calls prog 107 #[.slice p E.length q,.slice p2 P.length q2] W fun x w'=>∃ u,x=.returned (.agg #[.int .i64 0,u])∧Own w' W.heap.size u S∧Below W.heap.size W w'):=fun W p q p2 q2 hb h1 h2=>by
  have h:=zL2 p p2 q q2 E P W h1 h2 (HT.out.keep hb)
  have hc:hsC E P=0:=by rw[hsC,zDS HE32.out,if_pos rfl,if_pos (by rw[HP2.out];decide)]
  rw[hc,show hsL E P=zEm E P by rw[hsL,if_pos hc],← HSS.out] at h;exact h
 obtain⟨p1,q1,p2,q2,p3,q3,p4,q4,p5,q5,p6,q6,p7,q7,p8,q8,ph,qh,pn,qn,po,qo,pk,qk,A,RE,RH,RO,RK⟩:=h.all;have c0:=zQ (A.cell 0) rfl;have c3:=zQ (A.cell 3) rfl;have c5:=zQ (A.cell 5) rfl;have c15:=zQ (A.cell 15) rfl;obtain⟨p1',q1',p2',q2',-,-,-,c3',-,R2⟩:=h.side;rw[c3] at c3';cases c3'
 have KES:∀ kp kq,Rd w kp kq key→Hid (∀ W,Below w.heap.size w W→Calls prog 108 #[.slice kp key.length kq] W fun x w'=>∃ u,x=.returned (.agg #[.int .i64 0,u])∧Own w' W.heap.size u E∧Below W.heap.size W w'):=fun kp kq hr=>fun W hb=>by
  have h:=zL1 kp kq key W (hr.keep hb) (HT.out.keep hb)
  have hc:esC key=0:=by rw[esC,if_pos hk]
  rw[hc,show esL key=zAp key by rw[esL,if_pos hc],← HE.out] at h;exact h
 clear A RE RH RO RK h hs hh1 hh2 hT hsd hv hb0 hb1 hsec HE HP HSS hk
 by_cases hm:t.e.2.2.1=2
 ·have dm:(t.e.2.2.1==2)=true:=by rw[beq_iff_eq];exact hm
  have ek:key=t.e.1.2.2.2:=by rw[HKEY.out,if_pos hm]
  rw[← ek] at c3 R2;replace KES:=KES p2 q2 R2;clear hm ek R2 HKEY;go_enter func56,ntmps56;go_wp2_with fail;apply share
  case h=>
   intro JN;have BB:=Below.refl w.heap.size w;have hne:=yq w;have k0:=yo (c0);have k15:=yo (c15);refine zWr [0,1,2,3,4,5,6,7,8,9,10] 13 2 1 ?_;simp only[zD,ya,yb,yc]
   repeat (go_big_quiet_step (fail))
   refine wpQuiet_nil ?_;clear k0 k15;refine zAs (i:=11) (j:=12) (by kernel_rfl) ?_ ?_
   ·skip
    refine mOp_call rfl (by go_simp) 106 _ #[.int .i64 t.e.1.1,.int .i64 t.other.2.1] (fun w=>by go_simp) rfl ?_;rintro _ ⟨sg,rfl⟩;refine(KSD.out _).mono ?_;rintro e wg1 ⟨rfl,hbx⟩;have hbg:=yn sg.h hbx;refine⟨_,rfl,⟨⟨wg1,hbx⟩,rfl⟩,?_⟩;replace BB:=yn BB hbg;clear hbg hbx sg;replace hne:=yq wg1;refine zWk 12 rfl ?_;rintro _ ⟨sg,rfl⟩;refine⟨.pointer (some ⟨sg.w.heap.size,0,none⟩),sg.w.alloc (.cells #[.int .i64 0,.int .i64 0] 126),by go_simp,⟨⟨_,zA _ _⟩,rfl⟩,?_⟩;have hbg:=yn sg.h (zA sg.w (.cells #[.int .i64 0,.int .i64 0] 126));have AI:=yr sg.w [.int .i64 0,.int .i64 0] 126;have GI:=(show Hid (w.heap.size≤sg.w.heap.size) from(yn BB sg.h).size);replace BB:=yn BB hbg;clear hbg;replace hne:=yq (sg.w.alloc (.cells #[.int .i64 0,.int .i64 0] 126));generalize hW:(sg.w.alloc (.cells #[.int .i64 0,.int .i64 0] 126))=wg2 at *;clear hW;generalize sg.w.heap.size=gi at *;clear sg;refine zWe ?_;rintro _ ⟨sz,rfl⟩;simp only[yd,ye]
    go_simp
    replace AI:=AI.stay sz.h;replace BB:=yn BB sz.h;clear hne;generalize sz.w=W at *;clear sz;revert GI;revert AI;revert BB;revert gi;revert W;exact JN.out
   ·skip
    refine mOp_make rfl (by go_simp) ?_;rintro _ ⟨sg,rfl⟩;refine⟨.pointer (some ⟨sg.w.heap.size,0,none⟩),sg.w.alloc (.cells #[.int .i64 0,.int .i64 0] 126),by go_simp,⟨⟨_,zA _ _⟩,rfl⟩,?_⟩;have hbg:=yn sg.h (zA sg.w (.cells #[.int .i64 0,.int .i64 0] 126));have AI:=yr sg.w [.int .i64 0,.int .i64 0] 126;have GI:=(show Hid (w.heap.size≤sg.w.heap.size) from(yn BB sg.h).size);replace BB:=yn BB hbg;clear hbg;replace hne:=yq (sg.w.alloc (.cells #[.int .i64 0,.int .i64 0] 126));generalize hW:(sg.w.alloc (.cells #[.int .i64 0,.int .i64 0] 126))=wg3 at *;clear hW;generalize sg.w.heap.size=gi at *;clear sg;refine zWc 11 rfl 106 #[.int .i64 t.e.1.1,.int .i64 t.other.2.1] ?_;rintro _ ⟨sg,rfl⟩;refine(KSD.out _).mono ?_;rintro e wg4 ⟨rfl,hbx⟩;have hbg:=yn sg.h hbx;refine⟨_,rfl,⟨⟨wg4,hbx⟩,rfl⟩,?_⟩;replace AI:=AI.stay hbg;replace BB:=yn BB hbg;clear hbg hbx sg;replace hne:=yq wg4;refine zWe ?_;rintro _ ⟨sz,rfl⟩;simp only[yd,ye]
    go_simp
    replace AI:=AI.stay sz.h;replace BB:=yn BB sz.h;clear hne;generalize sz.w=W at *;clear sz;revert GI;revert AI;revert BB;revert gi;revert W;exact JN.out
  intro W gi BB AI GI
  have hres:Hid ((Tryz.prog.info? 126).map (·.size)=some 2):=by show _=_;kernel_rfl
  refine wpList_store_row rfl 126 (.tmp 3) (.tmp 27) rfl gi #[.int .i64 0,.int .i64 (v:Int)] rfl rfl 126 #[.int .i64 0,.int .i64 0] AI hres.out rfl (by simp[Value.oneCell']) ?_;have A2:=AI.row [.int .i64 0,.int .i64 (v:Int)];have BW:Below w.heap.size w (W.setRow gi #[.int .i64 0,.int .i64 (v:Int)]):=Below.row BB GI.out _;generalize W.setRow gi #[.int .i64 0,.int .i64 (v:Int)]=V at *;clear AI BB GI;go_wp2_with fail
  go_simp
  have hne:=yq V;have g1:=yo (zQ (A2.cell 1) rfl);have HVZ:Hid (w.heap.size≤V.heap.size):=BW.size;clear c0 c15 A2;refine zWr [0,1,4,5] 10 6 3 ?_;simp only[zD,ya,yb,yc]
  repeat (go_big_quiet_step (fail))
  refine wpQuiet_nil ?_;clear g1;refine zWc 2 rfl 108 #[.slice p2 key.length q2] ?_;rintro _ ⟨sg,rfl⟩;refine(KES.out _ (yn BW sg.h)).mono ?_;rintro e wg0 ⟨ua,rfl,Ka,hbx⟩;obtain⟨pa,qa,rfl,-⟩:=Ka.rd
  have hfa:=fun w=>zAk 0 pa E.length qa w
  replace Ka:=zAE Ka;have hbg:=yn sg.h hbx;refine⟨_,rfl,⟨⟨wg0,hbx⟩,rfl⟩,?_⟩
  have I0:Hid (∀ k,k∈(Value.slice pa E.length qa).ownBlock.toList→V.heap.size≤k∧k<wg0.heap.size):=fun k hk=>⟨yi sg.h.size (bytC.ins Ka k hk).1,(bytC.ins Ka k hk).2⟩
  have T0:Hid (V.heap.size≤wg0.heap.size):=yi sg.h.size hbx.size;replace Ka:=bytC.low Ka (yn BW sg.h).size;replace BW:=yn BW hbg;replace hne:=yq wg0;clear hbg hbx sg;refine wpM_more [3] 5 4 rfl (by kernel_rfl) (by kernel_rfl) (by kernel_rfl) (by kernel_rfl) ?_;simp only[zD,ya,yb,yc]
  go_simp
  repeat (go_big_quiet_step (fail))
  refine wpQuiet_nil ?_;refine zWc 6 rfl 109 #[.int .i64 (v:Int)] ?_;rintro _ ⟨sg,rfl⟩;refine(KSB.out _).mono ?_;rintro e wg1 ⟨ub,rfl,Kb,hbx⟩;obtain⟨pb,qb,rfl,-⟩:=Kb.rd
  have hfb:=fun w=>zAk 0 pb P.length qb w
  replace Kb:=zAE Kb;have hbg:=yn sg.h hbx;refine⟨_,rfl,⟨⟨wg1,hbx⟩,rfl⟩,?_⟩
  have I1:Hid (∀ k,k∈(Value.slice pb P.length qb).ownBlock.toList→wg0.heap.size≤k∧k<wg1.heap.size):=fun k hk=>⟨yi sg.h.size (bytC.ins Kb k hk).1,(bytC.ins Kb k hk).2⟩
  have T1:Hid (wg0.heap.size≤wg1.heap.size):=yi sg.h.size hbx.size;replace Kb:=bytC.low Kb (yn BW sg.h).size;replace Ka:=bytC.stay Ka hbg;replace BW:=yn BW hbg;replace hne:=yq wg1;clear hbg hbx sg;refine wpM_more [7] 3 2 rfl (by kernel_rfl) (by kernel_rfl) (by kernel_rfl) (by kernel_rfl) ?_;simp only[zD,ya,yb,yc]
  go_simp
  repeat (go_big_quiet_step (fail))
  refine wpQuiet_nil ?_;refine zWc 8 rfl 107 #[.slice pa E.length qa,.slice pb P.length qb] ?_;rintro _ ⟨sg,rfl⟩;refine(KHS.out _ pa qa pb qb (yn BW sg.h) (rdK Ka sg.h) (rdK Kb sg.h)).mono ?_;rintro e wg2 ⟨uc,rfl,Kc,hbx⟩;obtain⟨pc,qc,rfl,-⟩:=Kc.rd
  have hfc:=fun w=>zAk 0 pc S.length qc w
  replace Kc:=zAE Kc;have hbg:=yn sg.h hbx;refine⟨_,rfl,⟨⟨wg2,hbx⟩,rfl⟩,?_⟩
  have I2:Hid (∀ k,k∈(Value.slice pc S.length qc).ownBlock.toList→wg1.heap.size≤k∧k<wg2.heap.size):=fun k hk=>⟨yi sg.h.size (bytC.ins Kc k hk).1,(bytC.ins Kc k hk).2⟩
  have T2:Hid (wg1.heap.size≤wg2.heap.size):=yi sg.h.size hbx.size;replace Kc:=bytC.low Kc (yn BW sg.h).size;replace Ka:=bytC.stay Ka hbg;replace Kb:=bytC.stay Kb hbg;replace BW:=yn BW hbg;replace hne:=yq wg2;clear hbg hbx sg;refine wpM_more [9] 1 0 rfl (by kernel_rfl) (by kernel_rfl) (by kernel_rfl) (by kernel_rfl) ?_;simp only[zD,ya,yb,yc]
  go_simp
  repeat (go_big_quiet_step (fail))
  refine wpQuiet_nil ?_;refine zWe ?_;rintro _ ⟨sgz,rfl⟩;simp only[yd,ye]
  go_simp
  replace Ka:=bytC.stay Ka sgz.h;replace Kb:=bytC.stay Kb sgz.h;replace Kc:=bytC.stay Kc sgz.h;replace BW:=yn BW sgz.h;clear hne;generalize sgz.w=W3 at *;clear sgz;obtain⟨uz,ez,KO,-⟩:=Kc;cases ez;have HF:=HS.out.setSecret BW pc qc S KO;have h1:=HS.out.stay BW;obtain⟨pk2,qk2,c17,-⟩:=h1.sec;obtain⟨-,-,fz⟩:=h1.stage;clear KO Ka Kb BW h1 I0 I1 I2 T0 T1 T2;go_wp2
  go_end0
  exact⟨rfl,by rw[HSN.out];exact HF⟩
 ·have dm:(t.e.2.2.1==2)=false:=by rw[beq_eq_false_iff_ne];exact hm
  have ek:key=[]:=by rw[HKEY.out,if_neg hm]
  subst ek;replace KES:=KES none 0 (rd_nil _);rw[show([]:List UInt8).length=0 from rfl] at KES;clear hm R2 HKEY c3;go_enter func56,ntmps56;go_wp2_with fail;apply share
  case h=>
   intro JN;have BB:=Below.refl w.heap.size w;have hne:=yq w;have k0:=yo (c0);have k15:=yo (c15);refine zWr [0,1,2,3,4,5,6,7,8,9,10] 13 2 1 ?_;simp only[zD,ya,yb,yc]
   repeat (go_big_quiet_step (fail))
   refine wpQuiet_nil ?_;clear k0 k15;refine zAs (i:=11) (j:=12) (by kernel_rfl) ?_ ?_
   ·skip
    refine mOp_call rfl (by go_simp) 106 _ #[.int .i64 t.e.1.1,.int .i64 t.other.2.1] (fun w=>by go_simp) rfl ?_;rintro _ ⟨sg,rfl⟩;refine(KSD.out _).mono ?_;rintro e wg1 ⟨rfl,hbx⟩;have hbg:=yn sg.h hbx;refine⟨_,rfl,⟨⟨wg1,hbx⟩,rfl⟩,?_⟩;replace BB:=yn BB hbg;clear hbg hbx sg;replace hne:=yq wg1;refine zWk 12 rfl ?_;rintro _ ⟨sg,rfl⟩;refine⟨.pointer (some ⟨sg.w.heap.size,0,none⟩),sg.w.alloc (.cells #[.int .i64 0,.int .i64 0] 126),by go_simp,⟨⟨_,zA _ _⟩,rfl⟩,?_⟩;have hbg:=yn sg.h (zA sg.w (.cells #[.int .i64 0,.int .i64 0] 126));have AI:=yr sg.w [.int .i64 0,.int .i64 0] 126;have GI:=(show Hid (w.heap.size≤sg.w.heap.size) from(yn BB sg.h).size);replace BB:=yn BB hbg;clear hbg;replace hne:=yq (sg.w.alloc (.cells #[.int .i64 0,.int .i64 0] 126));generalize hW:(sg.w.alloc (.cells #[.int .i64 0,.int .i64 0] 126))=wg2 at *;clear hW;generalize sg.w.heap.size=gi at *;clear sg;refine zWe ?_;rintro _ ⟨sz,rfl⟩;simp only[yd,ye]
    go_simp
    replace AI:=AI.stay sz.h;replace BB:=yn BB sz.h;clear hne;generalize sz.w=W at *;clear sz;revert GI;revert AI;revert BB;revert gi;revert W;exact JN.out
   ·skip
    refine mOp_make rfl (by go_simp) ?_;rintro _ ⟨sg,rfl⟩;refine⟨.pointer (some ⟨sg.w.heap.size,0,none⟩),sg.w.alloc (.cells #[.int .i64 0,.int .i64 0] 126),by go_simp,⟨⟨_,zA _ _⟩,rfl⟩,?_⟩;have hbg:=yn sg.h (zA sg.w (.cells #[.int .i64 0,.int .i64 0] 126));have AI:=yr sg.w [.int .i64 0,.int .i64 0] 126;have GI:=(show Hid (w.heap.size≤sg.w.heap.size) from(yn BB sg.h).size);replace BB:=yn BB hbg;clear hbg;replace hne:=yq (sg.w.alloc (.cells #[.int .i64 0,.int .i64 0] 126));generalize hW:(sg.w.alloc (.cells #[.int .i64 0,.int .i64 0] 126))=wg3 at *;clear hW;generalize sg.w.heap.size=gi at *;clear sg;refine zWc 11 rfl 106 #[.int .i64 t.e.1.1,.int .i64 t.other.2.1] ?_;rintro _ ⟨sg,rfl⟩;refine(KSD.out _).mono ?_;rintro e wg4 ⟨rfl,hbx⟩;have hbg:=yn sg.h hbx;refine⟨_,rfl,⟨⟨wg4,hbx⟩,rfl⟩,?_⟩;replace AI:=AI.stay hbg;replace BB:=yn BB hbg;clear hbg hbx sg;replace hne:=yq wg4;refine zWe ?_;rintro _ ⟨sz,rfl⟩;simp only[yd,ye]
    go_simp
    replace AI:=AI.stay sz.h;replace BB:=yn BB sz.h;clear hne;generalize sz.w=W at *;clear sz;revert GI;revert AI;revert BB;revert gi;revert W;exact JN.out
  intro W gi BB AI GI
  have hres:Hid ((Tryz.prog.info? 126).map (·.size)=some 2):=by show _=_;kernel_rfl
  refine wpList_store_row rfl 126 (.tmp 3) (.tmp 27) rfl gi #[.int .i64 0,.int .i64 (v:Int)] rfl rfl 126 #[.int .i64 0,.int .i64 0] AI hres.out rfl (by simp[Value.oneCell']) ?_;have A2:=AI.row [.int .i64 0,.int .i64 (v:Int)];have BW:Below w.heap.size w (W.setRow gi #[.int .i64 0,.int .i64 (v:Int)]):=Below.row BB GI.out _;generalize W.setRow gi #[.int .i64 0,.int .i64 (v:Int)]=V at *;clear AI BB GI;go_wp2_with fail
  go_simp
  have hne:=yq V;have g1:=yo (zQ (A2.cell 1) rfl);have HVZ:Hid (w.heap.size≤V.heap.size):=BW.size;clear c0 c15 A2;refine zWr [0,1,4,5] 10 6 3 ?_;simp only[zD,ya,yb,yc]
  repeat (go_big_quiet_step (fail))
  refine wpQuiet_nil ?_;clear g1;refine zWc 2 rfl 108 #[.slice none 0 0] ?_;rintro _ ⟨sg,rfl⟩;refine(KES.out _ (yn BW sg.h)).mono ?_;rintro e wg0 ⟨ua,rfl,Ka,hbx⟩;obtain⟨pa,qa,rfl,-⟩:=Ka.rd
  have hfa:=fun w=>zAk 0 pa E.length qa w
  replace Ka:=zAE Ka;have hbg:=yn sg.h hbx;refine⟨_,rfl,⟨⟨wg0,hbx⟩,rfl⟩,?_⟩
  have I0:Hid (∀ k,k∈(Value.slice pa E.length qa).ownBlock.toList→V.heap.size≤k∧k<wg0.heap.size):=fun k hk=>⟨yi sg.h.size (bytC.ins Ka k hk).1,(bytC.ins Ka k hk).2⟩
  have T0:Hid (V.heap.size≤wg0.heap.size):=yi sg.h.size hbx.size;replace Ka:=bytC.low Ka (yn BW sg.h).size;replace BW:=yn BW hbg;replace hne:=yq wg0;clear hbg hbx sg;refine wpM_more [3] 5 4 rfl (by kernel_rfl) (by kernel_rfl) (by kernel_rfl) (by kernel_rfl) ?_;simp only[zD,ya,yb,yc]
  go_simp
  repeat (go_big_quiet_step (fail))
  refine wpQuiet_nil ?_;refine zWc 6 rfl 109 #[.int .i64 (v:Int)] ?_;rintro _ ⟨sg,rfl⟩;refine(KSB.out _).mono ?_;rintro e wg1 ⟨ub,rfl,Kb,hbx⟩;obtain⟨pb,qb,rfl,-⟩:=Kb.rd
  have hfb:=fun w=>zAk 0 pb P.length qb w
  replace Kb:=zAE Kb;have hbg:=yn sg.h hbx;refine⟨_,rfl,⟨⟨wg1,hbx⟩,rfl⟩,?_⟩
  have I1:Hid (∀ k,k∈(Value.slice pb P.length qb).ownBlock.toList→wg0.heap.size≤k∧k<wg1.heap.size):=fun k hk=>⟨yi sg.h.size (bytC.ins Kb k hk).1,(bytC.ins Kb k hk).2⟩
  have T1:Hid (wg0.heap.size≤wg1.heap.size):=yi sg.h.size hbx.size;replace Kb:=bytC.low Kb (yn BW sg.h).size;replace Ka:=bytC.stay Ka hbg;replace BW:=yn BW hbg;replace hne:=yq wg1;clear hbg hbx sg;refine wpM_more [7] 3 2 rfl (by kernel_rfl) (by kernel_rfl) (by kernel_rfl) (by kernel_rfl) ?_;simp only[zD,ya,yb,yc]
  go_simp
  repeat (go_big_quiet_step (fail))
  refine wpQuiet_nil ?_;refine zWc 8 rfl 107 #[.slice pa E.length qa,.slice pb P.length qb] ?_;rintro _ ⟨sg,rfl⟩;refine(KHS.out _ pa qa pb qb (yn BW sg.h) (rdK Ka sg.h) (rdK Kb sg.h)).mono ?_;rintro e wg2 ⟨uc,rfl,Kc,hbx⟩;obtain⟨pc,qc,rfl,-⟩:=Kc.rd
  have hfc:=fun w=>zAk 0 pc S.length qc w
  replace Kc:=zAE Kc;have hbg:=yn sg.h hbx;refine⟨_,rfl,⟨⟨wg2,hbx⟩,rfl⟩,?_⟩
  have I2:Hid (∀ k,k∈(Value.slice pc S.length qc).ownBlock.toList→wg1.heap.size≤k∧k<wg2.heap.size):=fun k hk=>⟨yi sg.h.size (bytC.ins Kc k hk).1,(bytC.ins Kc k hk).2⟩
  have T2:Hid (wg1.heap.size≤wg2.heap.size):=yi sg.h.size hbx.size;replace Kc:=bytC.low Kc (yn BW sg.h).size;replace Ka:=bytC.stay Ka hbg;replace Kb:=bytC.stay Kb hbg;replace BW:=yn BW hbg;replace hne:=yq wg2;clear hbg hbx sg;refine wpM_more [9] 1 0 rfl (by kernel_rfl) (by kernel_rfl) (by kernel_rfl) (by kernel_rfl) ?_;simp only[zD,ya,yb,yc]
  go_simp
  repeat (go_big_quiet_step (fail))
  refine wpQuiet_nil ?_;refine zWe ?_;rintro _ ⟨sgz,rfl⟩;simp only[yd,ye]
  go_simp
  replace Ka:=bytC.stay Ka sgz.h;replace Kb:=bytC.stay Kb sgz.h;replace Kc:=bytC.stay Kc sgz.h;replace BW:=yn BW sgz.h;clear hne;generalize sgz.w=W3 at *;clear sgz;obtain⟨uz,ez,KO,-⟩:=Kc;cases ez;have HF:=HS.out.setSecret BW pc qc S KO;have h1:=HS.out.stay BW;obtain⟨pk2,qk2,c17,-⟩:=h1.sec;obtain⟨-,-,fz⟩:=h1.stage;clear KO Ka Kb BW h1 I0 I1 I2 T0 T1 T2;go_wp2
  go_end0
  exact⟨rfl,by rw[HSN.out];exact HF⟩
def finK (t:ShkD) (lab:List UInt8):List UInt8:=zAI t.secret lab (digM (t.e.2.2.2.1.take 2))
theorem zL9 (t:ShkD) (lab:List UInt8):(finK t lab).length=32:=zFi _ _ _
theorem zDr (w0:World) (b:Nat) (w:World) (t:ShkD) (lab:List UInt8) (h:Shk w0 b w t) (hlab:zAU lab=true) (hs:t.secret.length=32) (h2:2≤t.e.2.2.2.1.length) (hps:psC (t.e.2.2.2.1.take 2)=0) (hT:Tabs w):
  Calls prog 154 #[.pointer (some ⟨b,0,none⟩),.string (strB lab)] w fun x w'=>∃ p q,x=.returned (.slice p (finK t lab).length q)∧Own w' w.heap.size (.slice p (finK t lab).length q) (finK t lab)∧Below w.heap.size w w':=by
 have HS:Hid (Shk w0 b w t):=h;obtain⟨p3,q3,c6,R3⟩:=h.msgs;obtain⟨l2,HL2⟩:∃ l2,Hid (l2=t.e.2.2.2.1.take 2):=⟨_,rfl⟩
 have hl2:l2.length=2:=by rw[HL2.out,List.length_take];omega
 have KT:=zHB l2 p3 q3 w (by rw[HL2.out];exact R3.take 2) hT;rw[← HL2.out] at hps;rw[hl2,hps,zMJ hps] at KT;obtain⟨K,HK⟩:∃ K,Hid (K=finK t lab):=⟨_,rfl⟩
 have HKE:Hid (K=zAI t.secret lab (digM l2)):=by show _=_;rw[HK.out,finK,HL2.out]
 have hq1:2≤q3:=yi h2 R3.1;have hq2:q3≤2 ^ 63-1:=R3.2.1;have HT:Hid (Tabs w):=hT;have HD:Hid ((digM l2).length=32):=zCY _;generalize digM l2=dg at *
 have KF:Hid (∀ W p q p2 q2,Below w.heap.size w W→Rd W p q t.secret→Rd W p2 q2 dg→Calls prog 159 #[.slice p t.secret.length q,.string (strB lab),.slice p2 dg.length q2] W fun x w'=>∃ u,x=.returned (.agg #[.int .i64 0,u])∧Own w' W.heap.size u K∧Below W.heap.size W w'):=fun W p q p2 q2 hb h1 h2=>by
  have h:=zEU p p2 q q2 t.secret lab dg W h1 h2 (by have:=zCM hlab;omega) (HT.out.keep hb)
  have hc:tfC t.secret lab dg=0:=by rw[tfC,zDS hs,zDS HD.out,hlab];rfl
  rw[hc,show tfL t.secret lab dg=zAI t.secret lab dg by rw[tfL,if_pos hc],← HKE.out] at h;exact h
 rw[← HK.out];clear h hs hps hT hlab R3 HKE HK HL2 hl2
 have hge:(2:Int)≤(t.e.2.2.2.1.length:Int):=by omega
 clear h2;go_enter func154,ntmps154;go_wp2_with fail;refine KT.mono ?_;rintro x w1 ⟨u1,rfl,k1,hb1⟩;obtain⟨pd,qd,rfl,-⟩:=k1.rd;have hal:=zA w1 (.cells #[.int .i64 0,.slice pd dg.length qd] 129);have N:=yr w1 [.int .i64 0,.slice pd dg.length qd] 129;have BW:=yn hb1 hal;have RD:Rd _ pd qd dg:=(Rd.own k1).keep hal;clear hal hb1 k1 KT c6;go_wp2_with fail;generalize w1.alloc (.cells #[.int .i64 0,.slice pd dg.length qd] 129)=V at *;have h1:=HS.out.stay BW;obtain⟨pk,qk,c17,RK⟩:=h1.sec;have HRD:Hid (Rd V pd qd dg):=RD;have HRK:Hid (Rd V pk qk t.secret):=RK;have hne:=yq V;have g17:=yo c17;have g1:=yo (zQ (N.cell 1) rfl);have BV:=Below.refl V.heap.size V;clear N h1 RD RK c17;refine zWr [0,1,2,3,4,5,6] 9 2 1 ?_;simp only[zD,ya,yb,yc]
 repeat (go_big_quiet_step (fail))
 refine wpQuiet_nil ?_;clear g17 g1;refine zWc 7 rfl 159 #[.slice pk t.secret.length qk,.string (strB lab),.slice pd dg.length qd] ?_;rintro _ ⟨sg,rfl⟩;refine(KF.out _ pk qk pd qd (yn BW (yn BV sg.h)) (HRK.out.keep (yn BV sg.h)) (HRD.out.keep (yn BV sg.h))).mono ?_;rintro e wg0 ⟨ua,rfl,Ka,hbx⟩;obtain⟨pa,qa,rfl,-⟩:=Ka.rd
 have hfa:=fun w=>zAk 0 pa K.length qa w
 replace Ka:=zAE Ka;have hbg:=yn sg.h hbx;refine⟨_,rfl,⟨⟨wg0,hbx⟩,rfl⟩,?_⟩
 have I0:Hid (∀ k,k∈(Value.slice pa K.length qa).ownBlock.toList→V.heap.size≤k∧k<wg0.heap.size):=fun k hk=>⟨yi sg.h.size (bytC.ins Ka k hk).1,(bytC.ins Ka k hk).2⟩
 have T0:Hid (V.heap.size≤wg0.heap.size):=yi sg.h.size hbx.size;replace Ka:=bytC.low Ka (yn BV sg.h).size;replace BV:=yn BV hbg;replace hne:=yq wg0;clear hbg hbx sg;refine wpM_more [8] 1 0 rfl (by kernel_rfl) (by kernel_rfl) (by kernel_rfl) (by kernel_rfl) ?_;simp only[zD,ya,yb,yc]
 go_simp
 repeat (go_big_quiet_step (fail))
 refine wpQuiet_nil ?_;refine zWe ?_;rintro _ ⟨sgz,rfl⟩;simp only[yd,ye]
 go_simp
 replace Ka:=bytC.stay Ka sgz.h;replace BV:=yn BV sgz.h;clear hne;generalize sgz.w=W at *;clear sgz;obtain⟨uz,ez,KO,-⟩:=Ka;cases ez;go_wp2;go_ret;exact⟨pa,qa,rfl,KO.lower BW.size,yn BW BV⟩
theorem zNu {t:ShkD} {lab:List UInt8} (hp:psC t.e.2.2.2.1=0):fmD (finK t lab) t.e.2.2.2.1=(0,finM t.secret lab t.e.2.2.2.1):=by
 have hc:fmC (finK t lab) t.e.2.2.2.1=0:=by rw[fmC,zDS (zL9 t lab)];exact hp
 rw[zHr hc];rfl
theorem zEW (w0:World) (b:Nat) (w:World) (t:ShkD) (lab:List UInt8) (h:Shk w0 b w t) (hlab:zAU lab=true) (hs:t.secret.length=32) (h2:2≤t.e.2.2.2.1.length) (h3:t.e.2.2.2.1.length≤1000) (hsl:t.send.length≤1000) (hps2:psC (t.e.2.2.2.1.take 2)=0) (hps:psC t.e.2.2.2.1=0) (hT:Tabs w):
  Calls prog 112 #[.pointer (some ⟨b,0,none⟩),.string (strB lab)] w fun x w'=>x=.returned (.tuple #[])∧Shk w0 b w' (zF9 t (finM t.secret lab t.e.2.2.2.1)):=by
 have HS:Hid (Shk w0 b w t):=h;obtain⟨p3,q3,c6,R3⟩:=h.msgs;have HR3:Hid (RdL msgC w p3 q3 t.e.2.2.2.1):=R3;have HT:Hid (Tabs w):=hT;obtain⟨M,HM⟩:∃ M,Hid (M=finM t.secret lab t.e.2.2.2.1):=⟨_,rfl⟩
 have KK:Hid (∀ W,Below w.heap.size w W→Calls prog 154 #[.pointer (some ⟨b,0,none⟩),.string (strB lab)] W fun x w'=>∃ p q,x=.returned (.slice p (finK t lab).length q)∧Own w' W.heap.size (.slice p (finK t lab).length q) (finK t lab)∧Below W.heap.size W w'):=fun W hb=>zDr w0 b W t lab (HS.out.stay hb) hlab hs h2 hps2 (HT.out.keep hb)
 have KM:Hid (∀ W p q,Below w.heap.size w W→Rd W p q (finK t lab)→Calls prog 156 #[.slice p (finK t lab).length q,.slice p3 t.e.2.2.2.1.length q3] W fun x w'=>∃ u,x=.returned (.agg #[.int .i64 0,.int .i64 M.1,u])∧Own w' W.heap.size u M.2∧Below W.heap.size W w'):=fun W p q hb hr=>by
  have h:=zJD (finK t lab) t.e.2.2.2.1 p p3 q q3 W hr (HR3.out.keep hb) (HT.out.keep hb);rw[zNu hps,← HM.out] at h;exact h
 have HLL:Hid (t.e.2.2.2.1.length≤1000∧t.send.length≤1000):=⟨h3,hsl⟩;rw[← HM.out];clear h hs hps hps2 hT hlab R3 h2 h3 hsl HM;generalize finK t lab=K at *;go_enter func112,ntmps112;go_wp2_with fail;have hne:=yq w;have g6:=yo c6;have BV:=Below.refl w.heap.size w;clear c6;refine zWr [0,1,2,4,5,6,7,8] 11 3 1 ?_;simp only[zD,ya,yb,yc]
 repeat (go_big_quiet_step (fail))
 refine wpQuiet_nil ?_;clear g6;refine zWc 3 rfl 154 #[.pointer (some ⟨b,0,none⟩),.string (strB lab)] ?_;rintro _ ⟨sg,rfl⟩;refine(KK.out _ (yn BV sg.h)).mono ?_;rintro e wg0 ⟨pa,qa,rfl,Ka,hbx⟩;replace Ka:=zAE Ka;have hbg:=yn sg.h hbx;refine⟨_,rfl,⟨⟨wg0,hbx⟩,rfl⟩,?_⟩
 have I0:Hid (∀ k,k∈(Value.slice pa K.length qa).ownBlock.toList→w.heap.size≤k∧k<wg0.heap.size):=fun k hk=>⟨yi sg.h.size (bytC.ins Ka k hk).1,(bytC.ins Ka k hk).2⟩
 have T0:Hid (w.heap.size≤wg0.heap.size):=yi sg.h.size hbx.size;replace Ka:=bytC.low Ka (yn BV sg.h).size;replace BV:=yn BV hbg;replace hne:=yq wg0;clear hbg hbx sg;refine zWc 9 rfl 156 #[.slice pa K.length qa,.slice p3 t.e.2.2.2.1.length q3] ?_;rintro _ ⟨sg,rfl⟩;refine(KM.out _ pa qa (yn BV sg.h) (rdK Ka sg.h)).mono ?_;rintro e wg1 ⟨ub,rfl,Kb,hbx⟩;obtain⟨pb,qb,rfl,-⟩:=Kb.rd
 have hfb:=fun w=>zKx 0 M.1 pb M.2.length qb w
 replace Kb:=zAE Kb;have hbg:=yn sg.h hbx;refine⟨_,rfl,⟨⟨wg1,hbx⟩,rfl⟩,?_⟩
 have I1:Hid (∀ k,k∈(Value.slice pb M.2.length qb).ownBlock.toList→wg0.heap.size≤k∧k<wg1.heap.size):=fun k hk=>⟨yi sg.h.size (bytC.ins Kb k hk).1,(bytC.ins Kb k hk).2⟩
 have T1:Hid (wg0.heap.size≤wg1.heap.size):=yi sg.h.size hbx.size;replace Kb:=bytC.low Kb (yn BV sg.h).size;replace Ka:=bytC.stay Ka hbg;replace BV:=yn BV hbg;replace hne:=yq wg1;clear hbg hbx sg;refine wpM_more [10] 1 0 rfl (by kernel_rfl) (by kernel_rfl) (by kernel_rfl) (by kernel_rfl) ?_;simp only[zD,ya,yb,yc]
 go_simp
 repeat (go_big_quiet_step (fail))
 refine wpQuiet_nil ?_;refine zWe ?_;rintro _ ⟨sgz,rfl⟩;simp only[yd,ye]
 go_simp
 replace Ka:=bytC.stay Ka sgz.h;replace Kb:=bytC.stay Kb sgz.h;replace BV:=yn BV sgz.h;clear hne;generalize sgz.w=W at *;clear sgz;obtain⟨uz,ez,KO,-⟩:=Kb;cases ez;obtain⟨vs,f,hv⟩:=HS.out.v
 have HIN:Hid (∀ k,k∈vs.ownBlock.toList++f→k<w.heap.size):=fun k hk=>(hv.ins k hk).2
 have HWB:Hid (w0.heap.size≤w.heap.size):=hv.blt.2;have KSAY:=zNs w0 b W t vs f M pb qb (hv.stay BV) (KO.lower HWB.out) (fun k hk hm=>by have:=KO.ge k hk;have:=HIN.out k hm;omega) HLL.out.1 HLL.out.2;clear hv KO Ka BV;go_wp2_with fail;refine KSAY.mono ?_;rintro x w4 ⟨rfl,hfin⟩;go_wp2
 go_end0
 exact⟨rfl,hfin⟩
theorem zD3 (w0:World) (b:Nat) (w:World) (t:ShkD) (h:Shk w0 b w t) (hs:t.secret.length=32) (h2:2≤t.e.2.2.2.1.length) (h3:t.e.2.2.2.1.length≤1000) (hsl:t.send.length≤1000) (hps2:psC (t.e.2.2.2.1.take 2)=0) (hps:psC t.e.2.2.2.1=0) (hT:Tabs w):
  Calls prog 82 #[.pointer (some ⟨b,0,none⟩)] w fun x w'=>x=.returned (.tuple #[])∧Shk w0 b w' { zF9 t (finM t.secret sHsB t.e.2.2.2.1) with e:=eSt (zF9 t (finM t.secret sHsB t.e.2.2.2.1)).e 2 }:=by
 have KS:=zEW w0 b w t sHsB h (by decide) hs h2 h3 hsl hps2 hps hT;rw[← zDy] at KS;clear h hs h2 h3 hsl hps2 hps hT;go_enter func82,ntmps82;go_wp2_with fail;refine KS.mono ?_;rintro x w1 ⟨rfl,h⟩;obtain⟨c4,-,fz⟩:=h.stage;have HF:=h.setStage 2;clear KS h;go_wp2
 go_end0
 exact⟨rfl,HF⟩
theorem zD4 (w0:World) (b:Nat) (w:World) (t:ShkD) (h:Shk w0 b w t) (hs:t.secret.length=32) (h2:2≤t.e.2.2.2.1.length) (h3:t.e.2.2.2.1.length≤1000) (hsl:t.send.length≤1000) (hps2:psC (t.e.2.2.2.1.take 2)=0) (hps:psC t.e.2.2.2.1=0) (hT:Tabs w):
  Calls prog 59 #[.pointer (some ⟨b,0,none⟩)] w fun x w'=>x=.returned (.tuple #[])∧Shk w0 b w' (zF9 t (finM t.secret cHsB t.e.2.2.2.1)):=by
 have KS:=zEW w0 b w t cHsB h (by decide) hs h2 h3 hsl hps2 hps hT;rw[← zFn] at KS;clear h hs h2 h3 hsl hps2 hps hT;go_enter func59,ntmps59;go_wp2_with fail;refine KS.mono ?_;rintro x w1 ⟨rfl,h⟩;go_wp2
 go_end0
 exact⟨rfl,h⟩
theorem zDs (w0:World) (b:Nat) (w:World) (t:ShkD) (vs:Value) (f:List Nat) (lab:List UInt8) (m:MsgD) (pm:Option Addr) (qm:Nat) (h:ShkV w0 b w t vs f) (hm:Rd (zZ (hide b vs) w) pm qm m.2) (hlab:zAU lab=true) (hs:t.secret.length=32) (h2:2≤t.e.2.2.2.1.length) (h3:t.e.2.2.2.1.length≤1000) (hps2:psC (t.e.2.2.2.1.take 2)=0) (hT:Tabs w):
  Calls prog 111 #[.pointer (some ⟨b,0,none⟩),.string (strB lab),.agg #[.int .i64 m.1,.slice pm m.2.length qm]] w fun x w'=>(x=.returned (.tuple #[])∧cfC (finK t lab) t.e.2.2.2.1 m=0∧Shk w0 b w' (zHC t m))∨∃ c,x=.panicked (refV c)∧Only [b] w0 w'∧cfC (finK t lab) t.e.2.2.2.1 m=c∧c≠0:=by
 have HS:Hid (ShkV w0 b w t vs f):=h;obtain⟨p3,q3,c6,R3⟩:=h.shk.msgs;have HR3:Hid (RdL msgC w p3 q3 t.e.2.2.2.1):=R3;have HRM:Hid (Rd (zZ (hide b vs) w) pm qm m.2):=hm;have HT:Hid (Tabs w):=hT;have BW:=zA w (.cells #[.int .i64 m.1,.slice pm m.2.length qm] 46);have N:=yr w [.int .i64 m.1,.slice pm m.2.length qm] 46
 have KK:Hid (∀ W,Below w.heap.size w W→Calls prog 154 #[.pointer (some ⟨b,0,none⟩),.string (strB lab)] W fun x w'=>∃ p q,x=.returned (.slice p (finK t lab).length q)∧Own w' W.heap.size (.slice p (finK t lab).length q) (finK t lab)∧Below W.heap.size W w'):=fun W hb=>zDr w0 b W t lab (HS.out.shk.stay hb) hlab hs h2 hps2 (HT.out.keep hb)
 obtain⟨cc,HCC⟩:∃ cc,Hid (cfC (finK t lab) t.e.2.2.2.1 m=cc):=⟨_,rfl⟩
 have KC:Hid (∀ W p q,Below w.heap.size w W→Rd W p q (finK t lab)→Calls prog 153 #[.slice p (finK t lab).length q,.slice p3 t.e.2.2.2.1.length q3,.agg #[.int .i64 m.1,.slice pm m.2.length qm]] W fun x w'=>x=.returned (.int .i64 cc)∧Below W.heap.size W w'):=fun W p q hb hr=>by
  have h:=zL7 (finK t lab) t.e.2.2.2.1 m p p3 pm q q3 qm W hr (HR3.out.keep hb) ((HRM.out.sees (zAu _ _)).keep hb) (HT.out.keep hb);rw[HCC.out] at h;exact h
 have HLL:Hid (t.e.2.2.2.1.length≤1000):=h3;rw[HCC.out];have c6':=zN c6 BW;clear h hs hps2 hT hlab R3 h2 h3 hm HCC c6;generalize finK t lab=K at *;go_enter func111,ntmps111;go_wp2_with fail;generalize w.alloc (.cells #[.int .i64 m.1,.slice pm m.2.length qm] 46)=V at *;have hne:=yq V;have g6:=yo c6';have n0:=yo (zQ (N.cell 0) rfl);have n1:=yo (zQ (N.cell 1) rfl);have BV:=Below.refl V.heap.size V;clear c6';refine zWr [0,1,3,4,5,6,7,8] 10 2 1 ?_;simp only[zD,ya,yb,yc]
 repeat (go_big_quiet_step (fail))
 refine wpQuiet_nil ?_;clear g6 n0 n1;refine zWc 2 rfl 154 #[.pointer (some ⟨b,0,none⟩),.string (strB lab)] ?_;rintro _ ⟨sg,rfl⟩;refine(KK.out _ (yn BW (yn BV sg.h))).mono ?_;rintro e wg0 ⟨pa,qa,rfl,Ka,hbx⟩;replace Ka:=zAE Ka;have hbg:=yn sg.h hbx;refine⟨_,rfl,⟨⟨wg0,hbx⟩,rfl⟩,?_⟩
 have I0:Hid (∀ k,k∈(Value.slice pa K.length qa).ownBlock.toList→V.heap.size≤k∧k<wg0.heap.size):=fun k hk=>⟨yi sg.h.size (bytC.ins Ka k hk).1,(bytC.ins Ka k hk).2⟩
 have T0:Hid (V.heap.size≤wg0.heap.size):=yi sg.h.size hbx.size;replace Ka:=bytC.low Ka (yn BV sg.h).size;replace N:=N.stay hbg;replace BV:=yn BV hbg;replace hne:=yq wg0;clear hbg hbx sg;refine zWc 9 rfl 153 #[.slice pa K.length qa,.slice p3 t.e.2.2.2.1.length q3,.agg #[.int .i64 m.1,.slice pm m.2.length qm]] ?_;rintro _ ⟨sg,rfl⟩;refine(KC.out _ pa qa (yn BW (yn BV sg.h)) (rdK Ka sg.h)).mono ?_;rintro e wg1 ⟨rfl,hbx⟩;have Kb:=zKy (k:=.i64) (z:=cc) wg1 sg.w.heap.size;have hbg:=yn sg.h hbx;refine⟨_,rfl,⟨⟨wg1,hbx⟩,rfl⟩,?_⟩
 have I1:Hid (∀ k,k∈([]:List Nat)→wg0.heap.size≤k∧k<wg1.heap.size):=fun k hk=>⟨yi sg.h.size ((intC .i64).ins Kb k hk).1,((intC .i64).ins Kb k hk).2⟩
 have T1:Hid (wg0.heap.size≤wg1.heap.size):=yi sg.h.size hbx.size;replace Kb:=(intC .i64).low Kb (yn BV sg.h).size;replace N:=N.stay hbg;replace Ka:=bytC.stay Ka hbg;replace BV:=yn BV hbg;replace hne:=yq wg1;clear hbg hbx sg;refine zWe ?_;rintro _ ⟨sgz,rfl⟩;simp only[yd,ye]
 go_simp
 replace N:=N.stay sgz.h;replace Ka:=bytC.stay Ka sgz.h;replace Kb:=(intC .i64).stay Kb sgz.h;replace BV:=yn BV sgz.h;clear hne;generalize sgz.w=W at *;clear sgz;replace BW:=yn BW BV;clear Ka BV
 by_cases hc:cc=0
 ·subst hc;go_wp2_with fail;refine(zEV _).mono ?_;rintro x w2 ⟨rfl,hw⟩;subst w2;obtain⟨n0,n1⟩:=zc2 N;have KP:=zJE w0 b W t vs f m pm qm (HS.out.stay BW) (HRM.out.sees (zBT BW)) HLL.out;clear BW N;go_wp2_with fail;refine KP.mono ?_;rintro x w2 ⟨rfl,hv2,-⟩;go_wp2
  go_end0
  exact .inl ⟨rfl,hv2.shk⟩
 ·have HC:Hid (¬ cc=0):=hc;clear hc;go_wp2_with fail;refine(zCl cc _ HC.out).mono ?_;rintro x w2 ⟨rfl,hw⟩;subst w2;exact⟨rfl,.inr ⟨cc,rfl,(HS.out.stay BW).shk.only,rfl,HC.out⟩⟩
theorem zDh (w0:World) (b:Nat) (w:World) (t:ShkD) (m:MsgD) (h:Shk w0 b w t) (hi:t.heard[1]?=some m) (hs:t.secret.length=32) (h2:2≤t.e.2.2.2.1.length) (h3:t.e.2.2.2.1.length≤1000) (hps2:psC (t.e.2.2.2.1.take 2)=0) (hT:Tabs w):
  Calls prog 58 #[.pointer (some ⟨b,0,none⟩)] w fun x w'=>(x=.returned (.tuple #[])∧cfC (finK t sHsB) t.e.2.2.2.1 m=0∧Shk w0 b w' (zHC t m))∨∃ c,x=.panicked (refV c)∧Only [b] w0 w'∧cfC (finK t sHsB) t.e.2.2.2.1 m=c∧c≠0:=by
 obtain⟨vs,f,hv⟩:=h.v;obtain⟨g,o,qh,pm,qm,c12,hq,d0,d1,rm⟩:=hv.heardAt hi;have KS:=zDs w0 b w t vs f sHsB m pm qm hv rm (by decide) hs h2 h3 hps2 hT;rw[← zDy] at KS
 have hln:(1:Int)<(t.heard.length:Int):=by have:=(List.getElem?_eq_some_iff.1 hi).1;omega
 rw[show 1*2=2 from rfl] at d0 d1;rw[Nat.add_assoc] at d1;simp only[Nat.reduceAdd] at d0 d1;clear h hv rm hs h2 h3 hps2 hT hi;go_enter func58,ntmps58;go_wp2_with fail;refine KS.mono ?_;rintro x w1 (⟨rfl,hu,h⟩ | ⟨c,rfl,on,hu,hc⟩)
 ·go_wp2
  go_end0
  exact .inl ⟨rfl,hu,h⟩
 ·exact⟨rfl,.inr ⟨c,rfl,on,hu,hc⟩⟩
theorem zDi (w0:World) (b:Nat) (w:World) (t:ShkD) (m:MsgD) (h:Shk w0 b w t) (hi:t.heard[0]?=some m) (hs:t.secret.length=32) (h2:2≤t.e.2.2.2.1.length) (h3:t.e.2.2.2.1.length≤1000) (hps2:psC (t.e.2.2.2.1.take 2)=0) (hT:Tabs w):
  Calls prog 76 #[.pointer (some ⟨b,0,none⟩)] w fun x w'=>(x=.returned (.tuple #[])∧cfC (finK t cHsB) t.e.2.2.2.1 m=0∧Shk w0 b w' (zHC t m))∨∃ c,x=.panicked (refV c)∧Only [b] w0 w'∧cfC (finK t cHsB) t.e.2.2.2.1 m=c∧c≠0:=by
 obtain⟨vs,f,hv⟩:=h.v;obtain⟨g,o,qh,pm,qm,c12,hq,d0,d1,rm⟩:=hv.heardAt hi;have KS:=zDs w0 b w t vs f cHsB m pm qm hv rm (by decide) hs h2 h3 hps2 hT;rw[← zFn] at KS
 have hln:(0:Int)<(t.heard.length:Int):=by have:=(List.getElem?_eq_some_iff.1 hi).1;omega
 rw[show 0*2=0 from rfl] at d0 d1;rw[Nat.add_assoc] at d1;simp only[Nat.add_zero,Nat.zero_add] at d0 d1;clear h hv rm hs h2 h3 hps2 hT hi;go_enter func76,ntmps76;go_wp2_with fail;refine KS.mono ?_;rintro x w1 (⟨rfl,hu,h⟩ | ⟨c,rfl,on,hu,hc⟩)
 ·go_wp2
  go_end0
  exact .inl ⟨rfl,hu,h⟩
 ·exact⟨rfl,.inr ⟨c,rfl,on,hu,hc⟩⟩
theorem zJG (w0:World) (b:Nat) (w:World) (t:ShkD) (h:Shk w0 b w t) (hb32:t.e.2.2.2.2.1.length=32) (h3:3≤t.e.2.2.2.1.length) (hps:psC (t.e.2.2.2.1.take 3)=0) (hT:Tabs w):
  Calls prog 60 #[.pointer (some ⟨b,0,none⟩)] w fun x w'=>x=.returned (.tuple #[])∧Shk w0 b w' { t with e:=eSt (eSe t.e (zCA t.e.2.2.2.2.1 (digM (t.e.2.2.2.1.take 3)))) 3 }:=by
 have HS:Hid (Shk w0 b w t):=h;obtain⟨p3,q3,c6,R3⟩:=h.msgs;obtain⟨l3,HL3⟩:∃ l3,Hid (l3=t.e.2.2.2.1.take 3):=⟨_,rfl⟩
 have hl3:l3.length=3:=by rw[HL3.out,List.length_take];omega
 have KT:=zHB l3 p3 q3 w (by rw[HL3.out];exact R3.take 3) hT;rw[← HL3.out] at hps ⊢;rw[hl3,hps,zMJ hps] at KT;have hq1:3≤q3:=yi h3 R3.1;have hq2:q3≤2 ^ 63-1:=R3.2.1;have HT:Hid (Tabs w):=hT;have HD:Hid ((digM l3).length=32):=zCY _;generalize digM l3=dg at *;obtain⟨X,HX⟩:∃ X,Hid (X=zCA t.e.2.2.2.2.1 dg):=⟨_,rfl⟩
 have KX:Hid (∀ W p q p2 q2,Below w.heap.size w W→Rd W p q t.e.2.2.2.2.1→Rd W p2 q2 dg→Calls prog 114 #[.slice p t.e.2.2.2.2.1.length q,.slice p2 dg.length q2] W fun x w'=>∃ us fp,x=.returned (.agg us.toArray)∧secretsResultC.own w' W.heap.size (0,X) us fp∧Below W.heap.size W w'):=fun W p q p2 q2 hb h1 h2=>by
  have h:=zL6 p p2 q q2 t.e.2.2.2.2.1 dg W h1 h2 (HT.out.keep hb)
  have hc:scC t.e.2.2.2.2.1 dg=0:=by rw[scC,zDS hb32,zDS HD.out];rfl
  rw[show scD t.e.2.2.2.2.1 dg=(0,X) by rw[scD,hc,HX.out];simp only[scL,hc,if_true];rfl] at h;exact h
 rw[← HX.out]
 have hge:(3:Int)≤(t.e.2.2.2.1.length:Int):=by omega
 clear h hps hT R3 HX HL3 hl3 hb32 h3;go_enter func60,ntmps60;go_wp2_with fail;refine KT.mono ?_;rintro x w1 ⟨u1,rfl,k1,hb1⟩;obtain⟨pd,qd,rfl,-⟩:=k1.rd;have hal:=zA w1 (.cells #[.int .i64 0,.slice pd dg.length qd] 129);have N:=yr w1 [.int .i64 0,.slice pd dg.length qd] 129;have BW:=yn hb1 hal;have RD:Rd _ pd qd dg:=(Rd.own k1).keep hal;clear hal hb1 k1 KT c6;go_wp2_with fail;generalize w1.alloc (.cells #[.int .i64 0,.slice pd dg.length qd] 129)=V at *;have h1:=HS.out.stay BW;obtain⟨p4,q4,c7,R4⟩:=h1.base;have HRD:Hid (Rd V pd qd dg):=RD;have HR4:Hid (Rd V p4 q4 t.e.2.2.2.2.1):=R4;have hne:=yq V;have g7:=yo c7;have g1:=yo (zQ (N.cell 1) rfl);have BV:=Below.refl V.heap.size V;have HVZ:Hid (w.heap.size≤V.heap.size):=BW.size;clear N h1 RD R4 c7;refine zWr [0,1,2,3,4,5,6,7] 10 2 4 ?_;simp only[zD,ya,yb,yc]
 repeat (go_big_quiet_step (fail))
 refine wpQuiet_nil ?_;clear g7 g1;refine zWc 8 rfl 114 #[.slice p4 t.e.2.2.2.2.1.length q4,.slice pd dg.length qd] ?_;rintro _ ⟨sg,rfl⟩;refine(KX.out _ p4 q4 pd qd (yn BW (yn BV sg.h)) (HR4.out.keep (yn BV sg.h)) (HRD.out.keep (yn BV sg.h))).mono ?_;rintro e wg0 ⟨us,fp,rfl,Ka,hbx⟩;obtain⟨s1,y1,s2,y2,s3,y3,s4,y4,rfl,-,-,-,-⟩:=zEe (secretsResultC.toRep Ka)
 have hfa:=fun w=>zNG 0 s1 s2 s3 s4 X.1.length X.2.1.length X.2.2.1.length X.2.2.2.length y1 y2 y3 y4 w
 have hbg:=yn sg.h hbx;refine⟨_,rfl,⟨⟨wg0,hbx⟩,rfl⟩,?_⟩
 have I0:Hid (∀ k,k∈fp→V.heap.size≤k∧k<wg0.heap.size):=fun k hk=>⟨yi sg.h.size (secretsResultC.ins Ka k hk).1,(secretsResultC.ins Ka k hk).2⟩
 have T0:Hid (V.heap.size≤wg0.heap.size):=yi sg.h.size hbx.size;replace Ka:=secretsResultC.low Ka (yn BV sg.h).size;replace BV:=yn BV hbg;replace hne:=yq wg0;clear hbg hbx sg;refine wpM_more [9] 1 0 rfl (by kernel_rfl) (by kernel_rfl) (by kernel_rfl) (by kernel_rfl) ?_;simp only[zD,ya,yb,yc]
 go_simp
 repeat (go_big_quiet_step (fail))
 refine wpQuiet_nil ?_;refine zWe ?_;rintro _ ⟨sgz,rfl⟩;simp only[yd,ye]
 go_simp
 replace Ka:=secretsResultC.stay Ka sgz.h;replace BV:=yn BV sgz.h;clear hne;generalize sgz.w=W at *;clear sgz;obtain⟨O1,O2,O3,O4⟩:=zL8 Ka;replace BW:=yn BW BV;have HF:=(HS.out.setSecrets BW s1 s2 s3 s4 y1 y2 y3 y4 X (O1.lower HVZ.out) (O2.lower HVZ.out) (O3.lower HVZ.out) (O4.lower HVZ.out));have HF3:=HF.setStage 3;have h1:=HS.out.stay BW;obtain⟨p1,q1,p2,q2,p3,q3,p4,q4,p5,q5,p6,q6,p7,q7,p8,q8,ph,qh,pn,qn,po,qo,pk,qk,A,RE,RH,RO,RK⟩:=h1.all;have c8:=zQ (A.cell 8) rfl;have c9:=zQ (A.cell 9) rfl;have c10:=zQ (A.cell 10) rfl;have c11:=zQ (A.cell 11) rfl;have fz:=A.frozen;obtain⟨d4,-,fz4⟩:=HF.stage;clear O1 O2 O3 O4 Ka BW BV h1 A RE RH RO RK HF;go_wp2
 go_end0
 exact⟨rfl,HF3⟩
end Go.Proofs.YtiabacnmmojfjaaGreatDoor
