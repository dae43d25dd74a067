import Derived.Test.YtiabacnmmojfjaaGreatDoorJoint30
import Derived.Test.YtiabacnmmojfjaaGreatDoorJoint26
set_option maxHeartbeats 2000000
set_option maxRecDepth 4000
open Go.Proofs.Tryz
namespace Go.Proofs.YtiabacnmmojfjaaGreatDoor
open Go.ChangeShapes Go.WideShapes Go.ChangeAt Go.RowKit
section
variable {w0 w w1:World} {b:Nat} {t:ShkD}
theorem Shk.all (h:Shk w0 b w t):∃ p1 q1 p2 q2 p3 q3 p4 q4 p5 q5 p6 q6 p7 q7 p8 q8 ph qh pn qn po qo pk qk,Arr w b 86 [.int .i64 t.e.1.1,.slice p1 t.e.1.2.1.length q1,.int .i64 t.e.1.2.2.1,.slice p2 t.e.1.2.2.2.length q2,.int .i64 t.e.2.1,.int .i64 t.e.2.2.1,.slice p3 t.e.2.2.2.1.length q3,.slice p4 t.e.2.2.2.2.1.length q4,.slice p5 t.e.2.2.2.2.2.1.length q5,.slice p6 t.e.2.2.2.2.2.2.1.length q6,.slice p7 t.e.2.2.2.2.2.2.2.1.length q7,.slice p8 t.e.2.2.2.2.2.2.2.2.length q8,.slice ph t.heard.length qh,.slice pn t.send.length qn,.slice po t.other.1.length qo,.int .i64 t.other.2.1,.int .i64 t.other.2.2,.slice pk t.secret.length qk]∧endC.rep w t.e [.int .i64 t.e.1.1,.slice p1 t.e.1.2.1.length q1,.int .i64 t.e.1.2.2.1,.slice p2 t.e.1.2.2.2.length q2,.int .i64 t.e.2.1,.int .i64 t.e.2.2.1,.slice p3 t.e.2.2.2.1.length q3,.slice p4 t.e.2.2.2.2.1.length q4,.slice p5 t.e.2.2.2.2.2.1.length q5,.slice p6 t.e.2.2.2.2.2.2.1.length q6,.slice p7 t.e.2.2.2.2.2.2.2.1.length q7,.slice p8 t.e.2.2.2.2.2.2.2.2.length q8]∧RdL msgC w ph qh t.heard∧Rd w po qo t.other.1∧Rd w pk qk t.secret:=by
 obtain⟨us,vh,vs,ho,vk,xs,f,HB,RE,RH,RO,RK⟩:=h;obtain⟨p1,q1,p2,q2,p3,q3,p4,q4,p5,q5,p6,q6,p7,q7,p8,q8,rfl,r1,r2,r3,r4,r5,r6,r7,r8⟩:=zAC RE;obtain⟨ph,qh,eh,rh⟩:=RH;obtain⟨po,qo,rfl,ro⟩:=zAY RO;obtain⟨pk,qk,ek,rk⟩:=RK;obtain⟨pn,qn,en,-⟩:=HB.own.rd;simp only[yj,and_true] at eh ek;subst eh ek en;simp only[yk,yl] at HB;have A:=HB.arr;exact⟨p1,q1,p2,q2,p3,q3,p4,q4,p5,q5,p6,q6,p7,q7,p8,q8,ph,qh,pn,qn,po,qo,pk,qk,A,zB5 (zAu _ _) RE,rh.sees zAL (zAu _ _),ro.sees (zAu _ _),rk.sees (zAu _ _)⟩
theorem ShkV.heardAt {vs:Value} {f:List Nat} (h:ShkV w0 b w t vs f) {i:Nat} {m:MsgD} (hi:t.heard[i]?=some m):∃ g o qh pm qm,w.cell? ⟨b,12,none⟩=some (.slice (some ⟨g,o,none⟩) t.heard.length qh)∧t.heard.length≤qh∧w.cell? ⟨g,o+i*2,none⟩=some (.int .i64 m.1)∧w.cell? ⟨g,o+i*2+1,none⟩=some (.slice pm m.2.length qm)∧Rd (zZ (hide b vs) w) pm qm m.2:=by
 obtain⟨us,vh,ho,vk,xs,HB,RE,RH,RO,RK⟩:=h;obtain⟨ph,qh,eh,rh⟩:=RH;simp only[yj,and_true] at eh;subst eh;have hl:i<t.heard.length:=(List.getElem?_eq_some_iff.1 hi).1;obtain⟨g,o,e1,hc⟩:=rh.2.2.2 (by omega);subst e1;obtain⟨ms,hr,hu⟩:=hc i m hi;obtain⟨pm,qm,rfl,rm⟩:=zAc hr;have c0:=zAu _ _ _ _ (hu 0 _ rfl);have c1:=zAu _ _ _ _ (hu 1 _ rfl);have hn:=endC.len RE;refine⟨g,o,qh,pm,qm,?_,rh.1,c0,c1,rm⟩;rw[HB.arr.cell 12,List.getElem?_append_right (by rw[hn];exact yf 12),hn];rfl
theorem Shk.setBase (h:Shk w0 b w1 t) (hb:Below w1.heap.size w1 w) (p:Option Addr) (q:Nat) (bs:List UInt8) (ho:Own w w1.heap.size (.slice p bs.length q) bs):Shk w0 b (w.setCell ⟨b,7,none⟩ (.slice p bs.length q)) { t with e:=eBa t.e bs }:=by
 have HHID:∀ vs f,ShkV w0 b w1 t vs f→∀ k,k∈hide b vs→k<w1.heap.size:=fun _ _ hv=>hv.hid
 obtain⟨vsn,fn,hv⟩:=h.v;have HH:=HHID _ _ hv;replace hv:=hv.stay hb;obtain⟨us,vh,ho,vk,xs,HB,RE,RH,RO,RK⟩:=hv;obtain⟨p1,q1,p2,q2,p3,q3,p4,q4,p5,q5,p6,q6,p7,q7,p8,q8,rfl,r1,r2,r3,r4,r5,r6,r7,r8⟩:=zAC RE;obtain⟨ph,qh,eh,rh⟩:=RH;obtain⟨po,qo,rfl,ro⟩:=zAY RO;obtain⟨pk,qk,ek,rk⟩:=RK;simp only[yj,and_true] at eh ek;subst eh ek;simp only[yk,yl] at HB;obtain⟨pn,qn,en,-⟩:=HB.own.rd;subst en;have HS:=(zA6 b 7 (.slice p bs.length q) w (.slice pn t.send.length qn))
 have rz0:Rd (zZ (hide b (.slice pn t.send.length qn)) w) p q bs:=by
  obtain⟨pz,qz,ez,rz⟩:=bytC.blanked (S:=hide b (.slice pn t.send.length qn)) (zAE ho) (fun k hk hm=>by have:=HH k hm;have:=ho.ge k (mem_opt.1 hk);omega);cases ez;exact rz
 exact⟨_,_,_,_,_,xs,fn,(HB.set 7 (.slice p bs.length q)),zB3 (a:=eBa t.e bs) (r1.sees HS) (r2.sees HS) (r3.sees zAL HS) (rz0.sees HS) (r5.sees HS) (r6.sees HS) (r7.sees HS) (r8.sees HS),⟨ph,qh,rfl,rh.sees zAL HS⟩,zBw (a:=t.other) (ro.sees HS),⟨pk,qk,rfl,rk.sees HS⟩⟩
theorem Shk.setSecret (h:Shk w0 b w1 t) (hb:Below w1.heap.size w1 w) (p:Option Addr) (q:Nat) (bs:List UInt8) (ho:Own w w1.heap.size (.slice p bs.length q) bs):Shk w0 b (w.setCell ⟨b,17,none⟩ (.slice p bs.length q)) { t with secret:=bs }:=by
 have HHID:∀ vs f,ShkV w0 b w1 t vs f→∀ k,k∈hide b vs→k<w1.heap.size:=fun _ _ hv=>hv.hid
 obtain⟨vsn,fn,hv⟩:=h.v;have HH:=HHID _ _ hv;replace hv:=hv.stay hb;obtain⟨us,vh,ho,vk,xs,HB,RE,RH,RO,RK⟩:=hv;obtain⟨p1,q1,p2,q2,p3,q3,p4,q4,p5,q5,p6,q6,p7,q7,p8,q8,rfl,r1,r2,r3,r4,r5,r6,r7,r8⟩:=zAC RE;obtain⟨ph,qh,eh,rh⟩:=RH;obtain⟨po,qo,rfl,ro⟩:=zAY RO;obtain⟨pk,qk,ek,rk⟩:=RK;simp only[yj,and_true] at eh ek;subst eh ek;simp only[yk,yl] at HB;obtain⟨pn,qn,en,-⟩:=HB.own.rd;subst en;have HS:=(zA6 b 17 (.slice p bs.length q) w (.slice pn t.send.length qn))
 have rz0:Rd (zZ (hide b (.slice pn t.send.length qn)) w) p q bs:=by
  obtain⟨pz,qz,ez,rz⟩:=bytC.blanked (S:=hide b (.slice pn t.send.length qn)) (zAE ho) (fun k hk hm=>by have:=HH k hm;have:=ho.ge k (mem_opt.1 hk);omega);cases ez;exact rz
 exact⟨_,_,_,_,_,xs,fn,(HB.set 17 (.slice p bs.length q)),zB3 (a:=t.e) (r1.sees HS) (r2.sees HS) (r3.sees zAL HS) (r4.sees HS) (r5.sees HS) (r6.sees HS) (r7.sees HS) (r8.sees HS),⟨ph,qh,rfl,rh.sees zAL HS⟩,zBw (a:=t.other) (ro.sees HS),⟨p,q,rfl,rz0.sees HS⟩⟩
theorem Shk.setOther (h:Shk w0 b w1 t) (hb:Below w1.heap.size w1 w) (p:Option Addr) (q:Nat) (o:zAB) (ho:Own w w1.heap.size (.slice p o.1.length q) o.1):Shk w0 b (((w.setCell ⟨b,14,none⟩ (.slice p o.1.length q)).setCell ⟨b,15,none⟩ (.int .i64 o.2.1)).setCell ⟨b,16,none⟩ (.int .i64 o.2.2)) { t with other:=o }:=by
 have HHID:∀ vs f,ShkV w0 b w1 t vs f→∀ k,k∈hide b vs→k<w1.heap.size:=fun _ _ hv=>hv.hid
 obtain⟨vsn,fn,hv⟩:=h.v;have HH:=HHID _ _ hv;replace hv:=hv.stay hb;obtain⟨us,vh,ho,vk,xs,HB,RE,RH,RO,RK⟩:=hv;obtain⟨p1,q1,p2,q2,p3,q3,p4,q4,p5,q5,p6,q6,p7,q7,p8,q8,rfl,r1,r2,r3,r4,r5,r6,r7,r8⟩:=zAC RE;obtain⟨ph,qh,eh,rh⟩:=RH;obtain⟨po,qo,rfl,ro⟩:=zAY RO;obtain⟨pk,qk,ek,rk⟩:=RK;simp only[yj,and_true] at eh ek;subst eh ek;simp only[yk,yl] at HB;obtain⟨pn,qn,en,-⟩:=HB.own.rd;subst en;have HS:=(((zA6 b 14 (.slice p o.1.length q) w (.slice pn t.send.length qn)).trans (zA6 b 15 (.int .i64 o.2.1) (w.setCell ⟨b,14,none⟩ (.slice p o.1.length q)) (.slice pn t.send.length qn))).trans (zA6 b 16 (.int .i64 o.2.2) ((w.setCell ⟨b,14,none⟩ (.slice p o.1.length q)).setCell ⟨b,15,none⟩ (.int .i64 o.2.1)) (.slice pn t.send.length qn)))
 have rz0:Rd (zZ (hide b (.slice pn t.send.length qn)) w) p q o.1:=by
  obtain⟨pz,qz,ez,rz⟩:=bytC.blanked (S:=hide b (.slice pn t.send.length qn)) (zAE ho) (fun k hk hm=>by have:=HH k hm;have:=ho.ge k (mem_opt.1 hk);omega);cases ez;exact rz
 exact⟨_,_,_,_,_,xs,fn,(((HB.set 14 (.slice p o.1.length q)).set 15 (.int .i64 o.2.1)).set 16 (.int .i64 o.2.2)),zB3 (a:=t.e) (r1.sees HS) (r2.sees HS) (r3.sees zAL HS) (r4.sees HS) (r5.sees HS) (r6.sees HS) (r7.sees HS) (r8.sees HS),⟨ph,qh,rfl,rh.sees zAL HS⟩,zBw (a:=o) (rz0.sees HS),⟨pk,qk,rfl,rk.sees HS⟩⟩
theorem Shk.setSecrets (h:Shk w0 b w1 t) (hb:Below w1.heap.size w1 w) (s1 s2 s3 s4:Option Addr) (y1 y2 y3 y4:Nat) (x:zAQ) (o1:Own w w1.heap.size (.slice s1 x.1.length y1) x.1) (o2:Own w w1.heap.size (.slice s2 x.2.1.length y2) x.2.1) (o3:Own w w1.heap.size (.slice s3 x.2.2.1.length y3) x.2.2.1) (o4:Own w w1.heap.size (.slice s4 x.2.2.2.length y4) x.2.2.2):Shk w0 b ((((w.setCell ⟨b,8,none⟩ (.slice s1 x.1.length y1)).setCell ⟨b,9,none⟩ (.slice s2 x.2.1.length y2)).setCell ⟨b,10,none⟩ (.slice s3 x.2.2.1.length y3)).setCell ⟨b,11,none⟩ (.slice s4 x.2.2.2.length y4)) { t with e:=eSe t.e x }:=by
 have HHID:∀ vs f,ShkV w0 b w1 t vs f→∀ k,k∈hide b vs→k<w1.heap.size:=fun _ _ hv=>hv.hid
 obtain⟨vsn,fn,hv⟩:=h.v;have HH:=HHID _ _ hv;replace hv:=hv.stay hb;obtain⟨us,vh,ho,vk,xs,HB,RE,RH,RO,RK⟩:=hv;obtain⟨p1,q1,p2,q2,p3,q3,p4,q4,p5,q5,p6,q6,p7,q7,p8,q8,rfl,r1,r2,r3,r4,r5,r6,r7,r8⟩:=zAC RE;obtain⟨ph,qh,eh,rh⟩:=RH;obtain⟨po,qo,rfl,ro⟩:=zAY RO;obtain⟨pk,qk,ek,rk⟩:=RK;simp only[yj,and_true] at eh ek;subst eh ek;simp only[yk,yl] at HB;obtain⟨pn,qn,en,-⟩:=HB.own.rd;subst en;have HS:=((((zA6 b 8 (.slice s1 x.1.length y1) w (.slice pn t.send.length qn)).trans (zA6 b 9 (.slice s2 x.2.1.length y2) (w.setCell ⟨b,8,none⟩ (.slice s1 x.1.length y1)) (.slice pn t.send.length qn))).trans (zA6 b 10 (.slice s3 x.2.2.1.length y3) ((w.setCell ⟨b,8,none⟩ (.slice s1 x.1.length y1)).setCell ⟨b,9,none⟩ (.slice s2 x.2.1.length y2)) (.slice pn t.send.length qn))).trans (zA6 b 11 (.slice s4 x.2.2.2.length y4) (((w.setCell ⟨b,8,none⟩ (.slice s1 x.1.length y1)).setCell ⟨b,9,none⟩ (.slice s2 x.2.1.length y2)).setCell ⟨b,10,none⟩ (.slice s3 x.2.2.1.length y3)) (.slice pn t.send.length qn)))
 have z1:Rd (zZ (hide b (.slice pn t.send.length qn)) w) s1 y1 x.1:=by
  obtain⟨pz,qz,ez,rz⟩:=bytC.blanked (S:=hide b (.slice pn t.send.length qn)) (zAE o1) (fun k hk hm=>by have:=HH k hm;have:=o1.ge k (mem_opt.1 hk);omega);cases ez;exact rz
 have z2:Rd (zZ (hide b (.slice pn t.send.length qn)) w) s2 y2 x.2.1:=by
  obtain⟨pz,qz,ez,rz⟩:=bytC.blanked (S:=hide b (.slice pn t.send.length qn)) (zAE o2) (fun k hk hm=>by have:=HH k hm;have:=o2.ge k (mem_opt.1 hk);omega);cases ez;exact rz
 have z3:Rd (zZ (hide b (.slice pn t.send.length qn)) w) s3 y3 x.2.2.1:=by
  obtain⟨pz,qz,ez,rz⟩:=bytC.blanked (S:=hide b (.slice pn t.send.length qn)) (zAE o3) (fun k hk hm=>by have:=HH k hm;have:=o3.ge k (mem_opt.1 hk);omega);cases ez;exact rz
 have z4:Rd (zZ (hide b (.slice pn t.send.length qn)) w) s4 y4 x.2.2.2:=by
  obtain⟨pz,qz,ez,rz⟩:=bytC.blanked (S:=hide b (.slice pn t.send.length qn)) (zAE o4) (fun k hk hm=>by have:=HH k hm;have:=o4.ge k (mem_opt.1 hk);omega);cases ez;exact rz
 exact⟨_,_,_,_,_,xs,fn,((((HB.set 8 (.slice s1 x.1.length y1)).set 9 (.slice s2 x.2.1.length y2)).set 10 (.slice s3 x.2.2.1.length y3)).set 11 (.slice s4 x.2.2.2.length y4)),zB3 (a:=eSe t.e x) (r1.sees HS) (r2.sees HS) (r3.sees zAL HS) (r4.sees HS) (z1.sees HS) (z2.sees HS) (z3.sees HS) (z4.sees HS),⟨ph,qh,rfl,rh.sees zAL HS⟩,zBw (a:=t.other) (ro.sees HS),⟨pk,qk,rfl,rk.sees HS⟩⟩
end
theorem zD1 (w0:World) (b:Nat) (w:World) (t:ShkD) (kind:Int) (m:MsgD) (pm:Option Addr) (qm:Nat) (h:Shk w0 b w t) (hm:Rd w pm qm m.2):
  Calls prog 104 #[.pointer (some ⟨b,0,none⟩),.int .i64 kind,.agg #[.int .i64 m.1,.slice pm m.2.length qm]] w fun x w'=>(x=.returned (.tuple #[])∧uhC kind m=0∧Shk w0 b w' { t with other:=(uhD kind m).2 })∨∃ c,x=.panicked (refV c)∧Only [b] w0 w'∧uhC kind m=c∧c≠0:=by
 have BW:=zA w (.cells #[.int .i64 m.1,.slice pm m.2.length qm] 46);have KU:=zLu kind m _ _ (zDp (a:=m) (hm.keep BW));have HS:Hid (Shk w0 b w t):=h;have HU1:Hid ((uhD kind m).1=uhC kind m):=rfl;clear hm h;go_enter func104,ntmps104;go_wp2_with fail;refine KU.mono ?_;rintro x w1 ⟨us,fp,rfl,ko,hb1⟩;obtain⟨pu,qu,rfl,-⟩:=zBC (helloResultC.toRep ko);rw[HU1.out]
 have HO:Hid (Own w1 w.heap.size (.slice pu (uhD kind m).2.1.length qu) (uhD kind m).2.1):=by
  obtain⟨us,ts,f1,f2,e1,-,-,⟨rfl,-⟩,us2,ts2,f3,f4,e2,-,-,⟨v,rfl,ow,-⟩,-⟩:=ko;subst e2;simp only[yk,yl,yj,true_and] at e1;rw[e1.1];exact ow.lower BW.size
 clear ko KU;obtain⟨hel,HEL⟩:∃ hel,Hid (hel=(uhD kind m).2):=⟨_,rfl⟩;rw[← HEL.out] at HO ⊢;have hal:=zA w1 (.cells #[.int .i64 (uhC kind m),.slice pu hel.1.length qu,.int .i64 hel.2.1,.int .i64 hel.2.2] 92);have N:=yr w1 [.int .i64 (uhC kind m),.slice pu hel.1.length qu,.int .i64 hel.2.1,.int .i64 hel.2.2] 92;replace BW:=yn (yn BW hb1) hal;replace HO:Hid (Own _ w.heap.size (.slice pu hel.1.length qu) hel.1):=HO.out.stay hal;clear hal hb1
 by_cases hu:uhC kind m=0
 ·have HC:Hid (uhC kind m=0):=hu;rw[hu] at N BW HO ⊢;clear hu;go_wp2_with fail;generalize w1.alloc (.cells #[.int .i64 0,.slice pu hel.1.length qu,.int .i64 hel.2.1,.int .i64 hel.2.2] 92)=W at *;refine(zEV _).mono ?_;rintro x w2 ⟨rfl,hw⟩;subst w2;have n1:=zQ (N.cell 1) rfl;have n2:=zQ (N.cell 2) rfl;have n3:=zQ (N.cell 3) rfl;have HFIN:=HS.out.setOther BW pu qu hel HO.out;have h3:=HS.out.stay BW;obtain⟨p1,q1,p2,q2,p3,q3,p4,q4,p5,q5,p6,q6,p7,q7,p8,q8,ph,qh,pn,qn,po,qo,pk,qk,A,RE,RH,RO,RK⟩:=h3.all;have c14:=zQ (A.cell 14) rfl;have c15:=zQ (A.cell 15) rfl;have c16:=zQ (A.cell 16) rfl;have fz:=A.frozen;clear A RE RH RO RK h3 N;go_wp2
  go_end0
  exact .inl ⟨rfl,HC.out,by rw[← HEL.out];exact HFIN⟩
 ·obtain⟨c,HC⟩:∃ c,Hid (uhC kind m=c∧c≠0):=⟨_,rfl,hu⟩;rw[HC.out.1] at N BW HO ⊢;clear hu;go_wp2_with fail;generalize w1.alloc (.cells #[.int .i64 c,.slice pu hel.1.length qu,.int .i64 hel.2.1,.int .i64 hel.2.2] 92)=W at *;refine(zCl c _ HC.out.2).mono ?_;rintro x w2 ⟨rfl,hw⟩;subst w2;exact⟨rfl,.inr ⟨c,rfl,(HS.out.stay BW).only,HC.out.1,HC.out.2⟩⟩
theorem zEx (w0:World) (b:Nat) (w:World) (t:ShkD) (m:MsgD) (rest:List MsgD) (h:Shk w0 b w t) (hh:t.heard=m :: rest) (hl:t.e.2.2.2.1.length≤1000):
  Calls prog 80 #[.pointer (some ⟨b,0,none⟩)] w fun x w'=>(x=.returned (.tuple #[])∧uhC 1 m=0∧Shk w0 b w' (zHC { t with other:=(uhD 1 m).2 } m))∨∃ c,x=.panicked (refV c)∧Only [b] w0 w'∧uhC 1 m=c∧c≠0:=by
 obtain⟨vs,f,hv⟩:=h.v;obtain⟨g,o,qh,pm,qm,c12,hq,d0,d1,rm⟩:=hv.heardAt (i:=0) (m:=m) (by rw[hh];rfl)
 have HH:Hid (t.heard[0]?=some m):=by show _=_;rw[hh];rfl
 have HLL:Hid (t.e.2.2.2.1.length≤1000):=hl;have KR:=zD1 w0 b w t 1 m pm qm h (rm.sees (zAu _ _))
 have hln:(0:Int)<(t.heard.length:Int):=by rw[hh];simp
 rw[Nat.zero_mul,Nat.add_zero] at d0 d1;clear h hv rm hh hl;go_enter func80,ntmps80;go_wp2_with fail;refine KR.mono ?_;rintro x w1 (⟨rfl,hu,h⟩ | ⟨c,rfl,on,hu,hc⟩)
 ·obtain⟨vs1,f1,hv⟩:=h.v;obtain⟨g1,o1,qh1,pm1,qm1,c12',hq1,d0',d1',rm1⟩:=hv.heardAt (i:=0) (m:=m) HH.out;have KK:=zJE w0 b w1 _ vs1 f1 m pm1 qm1 hv rm1 HLL.out;have HU:Hid (uhC 1 m=0):=hu;rw[Nat.zero_mul,Nat.add_zero] at d0' d1';simp only at c12' hq1;clear h hv rm1 hu KR c12 d0 d1 hq;go_wp2_with fail;refine KK.mono ?_;rintro x w2 ⟨rfl,hv2,-⟩;go_wp2
  go_end0
  exact .inl ⟨rfl,HU.out,hv2.shk⟩
 ·exact⟨rfl,.inr ⟨c,rfl,on,hu,hc⟩⟩
theorem zEy (w0:World) (b:Nat) (w:World) (t:ShkD) (m:MsgD) (rest:List MsgD) (h:Shk w0 b w t) (hh:t.heard=m :: rest) (hl:t.e.2.2.2.1.length≤1000):
  Calls prog 53 #[.pointer (some ⟨b,0,none⟩)] w fun x w'=>(x=.returned (.tuple #[])∧uhC 2 m=0∧Shk w0 b w' (zHC { t with other:=(uhD 2 m).2 } m))∨∃ c,x=.panicked (refV c)∧Only [b] w0 w'∧uhC 2 m=c∧c≠0:=by
 obtain⟨vs,f,hv⟩:=h.v;obtain⟨g,o,qh,pm,qm,c12,hq,d0,d1,rm⟩:=hv.heardAt (i:=0) (m:=m) (by rw[hh];rfl)
 have HH:Hid (t.heard[0]?=some m):=by show _=_;rw[hh];rfl
 have HLL:Hid (t.e.2.2.2.1.length≤1000):=hl;have KR:=zD1 w0 b w t 2 m pm qm h (rm.sees (zAu _ _))
 have hln:(0:Int)<(t.heard.length:Int):=by rw[hh];simp
 rw[Nat.zero_mul,Nat.add_zero] at d0 d1;clear h hv rm hh hl;go_enter func53,ntmps53;go_wp2_with fail;refine KR.mono ?_;rintro x w1 (⟨rfl,hu,h⟩ | ⟨c,rfl,on,hu,hc⟩)
 ·obtain⟨vs1,f1,hv⟩:=h.v;obtain⟨g1,o1,qh1,pm1,qm1,c12',hq1,d0',d1',rm1⟩:=hv.heardAt (i:=0) (m:=m) HH.out;have KK:=zJE w0 b w1 _ vs1 f1 m pm1 qm1 hv rm1 HLL.out;have HU:Hid (uhC 2 m=0):=hu;rw[Nat.zero_mul,Nat.add_zero] at d0' d1';simp only at c12' hq1;clear h hv rm1 hu KR c12 d0 d1 hq;go_wp2_with fail;refine KK.mono ?_;rintro x w2 ⟨rfl,hv2,-⟩;go_wp2
  go_end0
  exact .inl ⟨rfl,HU.out,hv2.shk⟩
 ·exact⟨rfl,.inr ⟨c,rfl,on,hu,hc⟩⟩
theorem zD2 (w0:World) (b:Nat) (w:World) (t:ShkD) (m:MsgD) (rest:List MsgD) (h:Shk w0 b w t) (hh:t.e.2.2.2.1=m :: rest):
  Calls prog 75 #[.pointer (some ⟨b,0,none⟩)] w fun x w'=>(x=.returned (.tuple #[])∧uhC 1 m=0∧Shk w0 b w' { t with other:=(uhD 1 m).2 })∨∃ c,x=.panicked (refV c)∧Only [b] w0 w'∧uhC 1 m=c∧c≠0:=by
 have HS:=h;obtain⟨p1,q1,p2,q2,p3,q3,p4,q4,p5,q5,p6,q6,p7,q7,p8,q8,ph,qh,pn,qn,po,qo,pk,qk,A,RE,RH,RO,RK⟩:=h.all
 have R3:RdL msgC w p3 q3 t.e.2.2.2.1:=by
  obtain⟨a1,b1,a2,b2,a3,b3,a4,b4,a5,b5,a6,b6,a7,b7,a8,b8,eq3,-,-,R3,-,-,-,-,-⟩:=zAC RE;simp only[yj,Value.slice.injEq,true_and,and_true] at eq3;obtain⟨-,-,⟨rfl,rfl⟩,-⟩:=eq3;exact R3
 have hln:(0:Int)<(t.e.2.2.2.1.length:Int):=by rw[hh];simp
 have hq:t.e.2.2.2.1.length≤q3:=R3.1;obtain⟨g,o,e1,hc⟩:=R3.2.2.2 (by rw[hh];simp);subst e1;obtain⟨ms,hr,hu⟩:=hc 0 m (by rw[hh];rfl);obtain⟨pm,qm,rfl,rm⟩:=zAc hr;have d0:=hu 0 _ rfl;have d1:=hu 1 _ rfl;rw[Nat.zero_mul,Nat.add_zero] at d0 d1;have c6:=zQ (A.cell 6) rfl;have KR:=zD1 w0 b w t 1 m pm qm HS rm;clear HS A RE RH RO RK R3 hc hr hu rm hh;go_enter func75,ntmps75;go_wp2_with fail;refine KR.mono ?_;rintro x w1 (⟨rfl,hu,h⟩ | ⟨c,rfl,on,hu,hc⟩)
 ·go_wp2
  go_end0
  exact .inl ⟨rfl,hu,h⟩
 ·exact⟨rfl,.inr ⟨c,rfl,on,hu,hc⟩⟩
theorem zGf (w0:World) (b:Nat) (w:World) (t:ShkD) (h:Shk w0 b w t):
  Calls prog 55 #[.pointer (some ⟨b,0,none⟩)] w fun x w'=>x=.returned (.tuple #[])∧Shk w0 b w' { t with e:=eMo t.e (zBp t.other t.e.1) }:=by
 have h1:=h.setMode 1;have h2:=h1.setMode 2;have HM:Hid (zBp t.other t.e.1=if pskB t.other t.e.1 then 2 else 1):=rfl;have HP:Hid (pskB t.other t.e.1=(decide (t.other.2.2≠0)&&decide (t.other.2.2=t.e.1.2.2.1))):=rfl;obtain⟨-,c5,fz⟩:=h.stage;have H1:Hid (Shk w0 b (w.setCell ⟨b,5,none⟩ (.int .i64 1)) { t with e:=eMo t.e 1 }):=h1;have H2:Hid (Shk w0 b ((w.setCell ⟨b,5,none⟩ (.int .i64 1)).setCell ⟨b,5,none⟩ (.int .i64 2)) { t with e:=eMo t.e 2 }):=h2;obtain⟨p1,q1,p2,q2,p3,q3,p4,q4,p5,q5,p6,q6,p7,q7,p8,q8,ph,qh,pn,qn,po,qo,pk,qk,A,RE,RH,RO,RK⟩:=h.all;have d16:(w.setCell ⟨b,5,none⟩ (.int .i64 1)).cell? ⟨b,16,none⟩=some (.int .i64 t.other.2.2):=((A.set 5 _).cell 16).trans rfl;have d2:(w.setCell ⟨b,5,none⟩ (.int .i64 1)).cell? ⟨b,2,none⟩=some (.int .i64 t.e.1.2.2.1):=((A.set 5 _).cell 2).trans rfl;have d5:(w.setCell ⟨b,5,none⟩ (.int .i64 1)).cell? ⟨b,5,none⟩=some (.int .i64 1):=((A.set 5 _).cell 5).trans rfl;have fz2:∀ o,(w.setCell ⟨b,5,none⟩ (.int .i64 1)).frozen? ⟨b,o,none⟩=false:=(A.set 5 (.int .i64 1)).frozen;clear A RE RH RO RK h h1 h2
 by_cases hz:t.other.2.2=0
 ·have dz:(t.other.2.2 != 0)=false:=by rw[bne_eq_false_iff_eq];exact hz
  have HF:Hid (zBp t.other t.e.1=1):=by show _=_;rw[HM.out,HP.out];simp[hz]
  clear hz HM HP H2;go_enter func55,ntmps55;go_wp2_with fail;generalize w.setCell ⟨b,5,none⟩ (.int .i64 1)=W at *
  go_quiet (fail)
  go_wp2
  go_end0
  refine⟨rfl,?_⟩;rw[HF.out];exact H1.out.stay ⟨rfl,rfl,rfl,yf _,fun _ _=>rfl⟩
 ·have dz:(t.other.2.2 != 0)=true:=by rw[bne_iff_ne];exact hz
  by_cases hq:t.other.2.2=t.e.1.2.2.1
  ·have dq:(t.other.2.2==t.e.1.2.2.1)=true:=by rw[beq_iff_eq];exact hq
   have HF:Hid (zBp t.other t.e.1=2):=by show _=_;rw[HM.out,HP.out];simp[hq];intro h;exact hz (hq.trans h)
   clear hz hq HM HP H1;go_enter func55,ntmps55;go_wp2_with fail;generalize w.setCell ⟨b,5,none⟩ (.int .i64 1)=W at *
   go_quiet (fail)
   go_wp2
   go_end0
   refine⟨rfl,?_⟩;rw[HF.out];exact H2.out.stay ⟨rfl,rfl,rfl,yf _,fun _ _=>rfl⟩
  ·have dq:(t.other.2.2==t.e.1.2.2.1)=false:=by rw[beq_eq_false_iff_ne];exact hq
   have HF:Hid (zBp t.other t.e.1=1):=by show _=_;rw[HM.out,HP.out];simp[hq]
   clear hz hq HM HP H2;go_enter func55,ntmps55;go_wp2_with fail;generalize w.setCell ⟨b,5,none⟩ (.int .i64 1)=W at *
   go_quiet (fail)
   go_wp2
   go_end0
   refine⟨rfl,?_⟩;rw[HF.out];exact H1.out.stay ⟨rfl,rfl,rfl,yf _,fun _ _=>rfl⟩
theorem zFG (w0:World) (b:Nat) (w:World) (t:ShkD) (h:Shk w0 b w t) (hs:sfC t.e.1=0) (hl:t.e.2.2.2.1.length≤1000) (hsl:t.send.length≤1000):
  Calls prog 81 #[.pointer (some ⟨b,0,none⟩)] w fun x w'=>x=.returned (.tuple #[])∧Shk w0 b w' (zF9 t (helM t.e.1 2 (if t.e.2.2.1=2 then t.e.1.2.2.1 else 0))):=by
 obtain⟨p1,q1,p2,q2,-,-,c2,-,-,-⟩:=h.side;obtain⟨-,c5,-⟩:=h.stage;have hp:=zAq hs;have KA:=zGe w0 b w t 2 t.e.1.2.2.1 h hs hp.2.2.1 hp.2.2.2.1 (.inr rfl) hl hsl;have KB:=zGe w0 b w t 2 0 h hs (by decide) (by decide) (.inr rfl) hl hsl;clear h hs hl hsl hp
 by_cases hm:t.e.2.2.1=2
 ·rw[if_pos hm]
  have dm:(t.e.2.2.1==2)=true:=by rw[beq_iff_eq];exact hm
  clear hm KB;go_enter func81,ntmps81;go_wp2_with fail;refine KA.mono ?_;rintro x w1 ⟨rfl,h⟩;go_wp2
  go_end0
  exact⟨rfl,h⟩
 ·rw[if_neg hm]
  have dm:(t.e.2.2.1==2)=false:=by rw[beq_eq_false_iff_ne];exact hm
  clear hm KA;go_enter func81,ntmps81;go_wp2_with fail;refine KB.mono ?_;rintro x w1 ⟨rfl,h⟩;go_wp2
  go_end0
  exact⟨rfl,h⟩
theorem zJF (w0:World) (b:Nat) (w:World) (t:ShkD) (h:Shk w0 b w t):
  Calls prog 51 #[.pointer (some ⟨b,0,none⟩)] w fun x w'=>(x=.returned (.tuple #[])∧efC t.e=0∧Shk w0 b w' t)∨∃ c,x=.panicked (refV c)∧Only [b] w0 w'∧efC t.e=c∧c≠0:=by
 have HS:Hid (Shk w0 b w t):=h;obtain⟨p1,q1,p2,q2,p3,q3,p4,q4,p5,q5,p6,q6,p7,q7,p8,q8,ph,qh,pn,qn,po,qo,pk,qk,A,RE,RH,RO,RK⟩:=h.all;have KE:=zDe t.e _ w RE;obtain⟨c0,c1,c2,c3,c4,c5,c6,c7,c8,c9,c10,c11⟩:=zc12 A;clear A RE RH RO RK h
 by_cases he:efC t.e=0
 ·rw[he] at KE;have HC:Hid (efC t.e=0):=he;clear he;go_enter func51,ntmps51;go_wp2_with fail;refine KE.mono ?_;rintro x w1 ⟨rfl,hb1⟩;clear c0 c1 c2 c3 c4 c5 c6 c7 c8 c9 c10 c11;go_wp2_with fail;refine(zEV _).mono ?_;rintro x w2 ⟨rfl,rfl⟩;go_wp2
  go_end0
  exact .inl ⟨rfl,HC.out,HS.out.stay hb1⟩
 ·obtain⟨c,HC⟩:∃ c,Hid (efC t.e=c∧c≠0):=⟨_,rfl,he⟩;rw[HC.out.1] at KE;clear he;go_enter func51,ntmps51;go_wp2_with fail;refine KE.mono ?_;rintro x w1 ⟨rfl,hb1⟩;clear c0 c1 c2 c3 c4 c5 c6 c7 c8 c9 c10 c11;go_wp2_with fail;refine(zCl c _ HC.out.2).mono ?_;rintro x w2 ⟨rfl,rfl⟩;exact⟨rfl,.inr ⟨c,rfl,(HS.out.stay hb1).only,HC.out.1,HC.out.2⟩⟩
theorem zGA (w0:World) (b:Nat) (w:World) (t:ShkD) (h:Shk w0 b w t):
  Calls prog 52 #[.pointer (some ⟨b,0,none⟩)] w fun x w'=>(x=.returned (.tuple #[])∧(t.e.2.1=1∧t.e.2.2.2.1.length=1)∧t.heard.length=2∧Shk w0 b w' t)∨∃ c,x=.panicked (refV c)∧Only [b] w0 w'∧((¬ (t.e.2.1=1∧t.e.2.2.2.1.length=1)∧c=8)∨((t.e.2.1=1∧t.e.2.2.2.1.length=1)∧¬ t.heard.length=2∧c=1)):=by
 have HS:Hid (Shk w0 b w t):=h;obtain⟨p1,q1,p2,q2,p3,q3,p4,q4,p5,q5,p6,q6,p7,q7,p8,q8,ph,qh,pn,qn,po,qo,pk,qk,A,RE,RH,RO,RK⟩:=h.all;have c4:=zQ (A.cell 4) rfl;have c6:=zQ (A.cell 6) rfl;have c12:=zQ (A.cell 12) rfl;clear A RE RH RO RK h
 by_cases h1:t.e.2.1=1
 ·have d1:(t.e.2.1 != 1)=false:=by rw[bne_eq_false_iff_eq];exact h1
  by_cases h2:t.e.2.2.2.1.length=1
  ·have d2:((t.e.2.2.2.1.length:Int) != 1)=false:=by rw[bne_eq_false_iff_eq];omega
   have HC:Hid (t.e.2.1=1∧t.e.2.2.2.1.length=1):=⟨h1,h2⟩;clear h1 h2
   by_cases h3:t.heard.length=2
   ·have d3:((t.heard.length:Int) != 2)=false:=by rw[bne_eq_false_iff_eq];omega
    have H3:Hid (t.heard.length=2):=h3;clear h3;go_enter func52,ntmps52;go_wp2_with fail;refine(zBs 8 _).mono ?_;rintro x w2 ⟨rfl,hw⟩;subst w2;go_wp2_with fail;refine(zBs 1 _).mono ?_;rintro x w2 ⟨rfl,hw⟩;subst w2;go_wp2
    go_end0
    exact .inl ⟨rfl,HC.out,H3.out,HS.out⟩
   ·have d3:((t.heard.length:Int) != 2)=true:=by rw[bne_iff_ne];omega
    have H3:Hid (¬ t.heard.length=2):=h3;clear h3;go_enter func52,ntmps52;go_wp2_with fail;refine(zBs 8 _).mono ?_;rintro x w2 ⟨rfl,hw⟩;subst w2;go_wp2_with fail;refine(zBH 1 _ (by decide)).mono ?_;rintro x w2 ⟨rfl,hw⟩;subst w2;exact⟨rfl,.inr ⟨1,rfl,HS.out.only,.inr ⟨HC.out,H3.out,rfl⟩⟩⟩
  ·have d2:((t.e.2.2.2.1.length:Int) != 1)=true:=by rw[bne_iff_ne];omega
   have HC:Hid (¬ (t.e.2.1=1∧t.e.2.2.2.1.length=1)):=fun h=>h2 h.2
   clear h1 h2;go_enter func52,ntmps52;go_wp2_with fail;refine(zBH 8 _ (by decide)).mono ?_;rintro x w2 ⟨rfl,hw⟩;subst w2;exact⟨rfl,.inr ⟨8,rfl,HS.out.only,.inl ⟨HC.out,rfl⟩⟩⟩
 ·have d1:(t.e.2.1 != 1)=true:=by rw[bne_iff_ne];exact h1
  have HC:Hid (¬ (t.e.2.1=1∧t.e.2.2.2.1.length=1)):=fun h=>h1 h.1
  clear h1;go_enter func52,ntmps52;go_wp2_with fail;refine(zBH 8 _ (by decide)).mono ?_;rintro x w2 ⟨rfl,hw⟩;subst w2;exact⟨rfl,.inr ⟨8,rfl,HS.out.only,.inl ⟨HC.out,rfl⟩⟩⟩
theorem zGB (w0:World) (b:Nat) (w:World) (t:ShkD) (h:Shk w0 b w t):
  Calls prog 74 #[.pointer (some ⟨b,0,none⟩)] w fun x w'=>(x=.returned (.tuple #[])∧(t.e.2.1=2∧t.e.2.2.2.1.length=3∧t.e.2.2.2.2.1.length≠0)∧Shk w0 b w' t)∨∃ c,x=.panicked (refV c)∧Only [b] w0 w'∧¬ (t.e.2.1=2∧t.e.2.2.2.1.length=3∧t.e.2.2.2.2.1.length≠0)∧c=8:=by
 have HS:Hid (Shk w0 b w t):=h;obtain⟨p1,q1,p2,q2,p3,q3,p4,q4,p5,q5,p6,q6,p7,q7,p8,q8,ph,qh,pn,qn,po,qo,pk,qk,A,RE,RH,RO,RK⟩:=h.all;have c4:=zQ (A.cell 4) rfl;have c6:=zQ (A.cell 6) rfl;have c7:=zQ (A.cell 7) rfl;clear A RE RH RO RK h
 by_cases h1:t.e.2.1=2
 ·have d1:(t.e.2.1 != 2)=false:=by rw[bne_eq_false_iff_eq];exact h1
  by_cases h2:t.e.2.2.2.1.length=3
  ·have d2:((t.e.2.2.2.1.length:Int) != 3)=false:=by rw[bne_eq_false_iff_eq];omega
   by_cases h3:t.e.2.2.2.2.1.length=0
   ·have d3:((t.e.2.2.2.2.1.length:Int)==0)=true:=by rw[beq_iff_eq];omega
    have HC:Hid (¬ (t.e.2.1=2∧t.e.2.2.2.1.length=3∧t.e.2.2.2.2.1.length≠0)):=fun h=>h.2.2 h3
    clear h1 h2 h3;go_enter func74,ntmps74;go_wp2_with fail;refine(zBH 8 _ (by decide)).mono ?_;rintro x w2 ⟨rfl,hw⟩;subst w2;exact⟨rfl,.inr ⟨8,rfl,HS.out.only,HC.out,rfl⟩⟩
   ·have d3:((t.e.2.2.2.2.1.length:Int)==0)=false:=by rw[beq_eq_false_iff_ne];omega
    have HC:Hid (t.e.2.1=2∧t.e.2.2.2.1.length=3∧t.e.2.2.2.2.1.length≠0):=⟨h1,h2,h3⟩;clear h1 h2 h3;go_enter func74,ntmps74;go_wp2_with fail;refine(zBs 8 _).mono ?_;rintro x w2 ⟨rfl,hw⟩;subst w2;go_wp2
    go_end0
    exact .inl ⟨rfl,HC.out,HS.out⟩
  ·have d2:((t.e.2.2.2.1.length:Int) != 3)=true:=by rw[bne_iff_ne];omega
   have HC:Hid (¬ (t.e.2.1=2∧t.e.2.2.2.1.length=3∧t.e.2.2.2.2.1.length≠0)):=fun h=>h2 h.2.1
   clear h1 h2;go_enter func74,ntmps74;go_wp2_with fail;refine(zBH 8 _ (by decide)).mono ?_;rintro x w2 ⟨rfl,hw⟩;subst w2;exact⟨rfl,.inr ⟨8,rfl,HS.out.only,HC.out,rfl⟩⟩
 ·have d1:(t.e.2.1 != 2)=true:=by rw[bne_iff_ne];exact h1
  have HC:Hid (¬ (t.e.2.1=2∧t.e.2.2.2.1.length=3∧t.e.2.2.2.2.1.length≠0)):=fun h=>h1 h.1
  clear h1;go_enter func74,ntmps74;go_wp2_with fail;refine(zBH 8 _ (by decide)).mono ?_;rintro x w2 ⟨rfl,hw⟩;subst w2;exact⟨rfl,.inr ⟨8,rfl,HS.out.only,HC.out,rfl⟩⟩
theorem zIW (w0:World) (b:Nat) (w:World) (t:ShkD) (h:Shk w0 b w t):
  Calls prog 54 #[.pointer (some ⟨b,0,none⟩)] w fun x w'=>(x=.returned (.tuple #[])∧(t.other.2.2=0∨t.other.2.2=t.e.1.2.2.1)∧Shk w0 b w' t)∨∃ c,x=.panicked (refV c)∧Only [b] w0 w'∧¬ (t.other.2.2=0∨t.other.2.2=t.e.1.2.2.1)∧c=8:=by
 have HS:Hid (Shk w0 b w t):=h;obtain⟨p1,q1,p2,q2,p3,q3,p4,q4,p5,q5,p6,q6,p7,q7,p8,q8,ph,qh,pn,qn,po,qo,pk,qk,A,RE,RH,RO,RK⟩:=h.all;have c2:=zQ (A.cell 2) rfl;have c16:=zQ (A.cell 16) rfl;clear A RE RH RO RK h
 by_cases hz:t.other.2.2=0
 ·have dz:(t.other.2.2 != 0)=false:=by rw[bne_eq_false_iff_eq];exact hz
  have HC:Hid (t.other.2.2=0∨t.other.2.2=t.e.1.2.2.1):=.inl hz;clear hz;go_enter func54,ntmps54;go_wp2_with fail;have hne:=yq w;have k16:=yo c16;have k2:=yo c2;refine zWr [0,1,2,3,4,5,6,7,8,9,10,11,12,13,14,15,16,17,18,19] 20 0 1 ?_;simp only[zD,ya,yb,yc]
  repeat (go_big_quiet_step (fail))
  refine wpQuiet_nil ?_;refine zWe ?_;rintro _ ⟨sgz,rfl⟩;simp only[yd,ye]
  go_simp
  have HZ:Hid (Shk w0 b sgz.w t):=HS.out.stay sgz.h;clear hne k16 k2 c16 c2;generalize sgz.w=W at *;go_wp2_with fail;refine(zBs 8 _).mono ?_;rintro x w2 ⟨rfl,hw⟩;subst w2;go_wp2
  go_end0
  exact .inl ⟨rfl,HC.out,HZ.out⟩
 ·have dz:(t.other.2.2 != 0)=true:=by rw[bne_iff_ne];exact hz
  by_cases hq:t.other.2.2=t.e.1.2.2.1
  ·have dq:(t.other.2.2 != t.e.1.2.2.1)=false:=by rw[bne_eq_false_iff_eq];exact hq
   have HC:Hid (t.other.2.2=0∨t.other.2.2=t.e.1.2.2.1):=.inr hq;clear hz hq;go_enter func54,ntmps54;go_wp2_with fail;have hne:=yq w;have k16:=yo c16;have k2:=yo c2;refine zWr [0,1,2,3,4,5,6,7,8,9,10,11,12,13,14,15,16,17,18,19] 20 0 1 ?_;simp only[zD,ya,yb,yc]
   repeat (go_big_quiet_step (fail))
   refine wpQuiet_nil ?_;refine zWe ?_;rintro _ ⟨sgz,rfl⟩;simp only[yd,ye]
   go_simp
   have HZ:Hid (Shk w0 b sgz.w t):=HS.out.stay sgz.h;clear hne k16 k2 c16 c2;generalize sgz.w=W at *;go_wp2_with fail;refine(zBs 8 _).mono ?_;rintro x w2 ⟨rfl,hw⟩;subst w2;go_wp2
   go_end0
   exact .inl ⟨rfl,HC.out,HZ.out⟩
  ·have dq:(t.other.2.2 != t.e.1.2.2.1)=true:=by rw[bne_iff_ne];exact hq
   have HC:Hid (¬ (t.other.2.2=0∨t.other.2.2=t.e.1.2.2.1)):=fun h=>h.elim hz hq
   clear hz hq;go_enter func54,ntmps54;go_wp2_with fail;have hne:=yq w;have k16:=yo c16;have k2:=yo c2;refine zWr [0,1,2,3,4,5,6,7,8,9,10,11,12,13,14,15,16,17,18,19] 20 0 1 ?_;simp only[zD,ya,yb,yc]
   repeat (go_big_quiet_step (fail))
   refine wpQuiet_nil ?_;refine zWe ?_;rintro _ ⟨sgz,rfl⟩;simp only[yd,ye]
   go_simp
   have HZ:Hid (Shk w0 b sgz.w t):=HS.out.stay sgz.h;clear hne k16 k2 c16 c2;generalize sgz.w=W at *;go_wp2_with fail;refine(zBH 8 _ (by decide)).mono ?_;rintro x w2 ⟨rfl,hw⟩;subst w2;exact⟨rfl,.inr ⟨8,rfl,HZ.out.only,HC.out,rfl⟩⟩
end Go.Proofs.YtiabacnmmojfjaaGreatDoor
