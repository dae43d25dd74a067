import Derived.Test.YtbaldmmbphbinaaGreatDoorJoint27
import Derived.Test.YtbaldmmbphbinaaGreatDoorJoint9
import Derived.Test.YtbaldmmbphbinaaGreatDoorJoint11
import Derived.Test.YtbaldmmbphbinaaGreatDoorJoint24
set_option maxHeartbeats 2000000
set_option maxRecDepth 4000
namespace Go.Proofs.YtbaldmmbphbinaaGreatDoor
open Go.ChangeShapes Go.WideShapes Go.ChangeAt Go.RowKit
theorem zAj {ops:Array Oper} {rest:List Oper} {o:Oper} {a:Act} {Q:Exit→Act→World→Prop} {wr wn:World} {B g:Nat} {v u:Value} {out:List (List UInt8)} {xs:List Value} {fp:List Nat} {bs:List UInt8} (hgd:o.guard=none) (s x:Operand)
  (ho:o.op=.call { callee:=.builtin .append,args:=#[s,x],argTypes:=#[24,24] })
  (hO:OwnL 22 bytC wr B v out xs fp) (hu:Own wn wr.heap.size u bs) (hb:Below wr.heap.size wr wn) (hA:Arr wn g 22 [u]) (hs:a.eval s=v) (hx:a.eval x=.slice (some ⟨g,0,none⟩) 1 1) (hB:B≤wr.heap.size) (hn:out.length≤1000)
  (h:∀ p q w' xs' fp',OwnL 22 bytC w' B (.slice p (out.length+1) q) (out++[bs]) xs' fp'→wn.grownBy w' v.ownBlock→(∀ k,k∈(Value.slice p (out.length+1) q).ownBlock.toList++fp'→k∈v.ownBlock.toList++fp∨wr.heap.size≤k)→Below B wn w'→wpList Tryz.prog ops Q rest (a.put o.dst (.slice p (out.length+1) q)) w'):wpList Tryz.prog ops Q (o :: rest) a wn:=by
 obtain⟨i0,hi,hz0,hz1,hz2⟩:=info_parts zCv;obtain⟨pu,qu,rfl,-⟩:=hu.rd;obtain⟨po,qo,rfl,-⟩:=hO.rd;have ho5:=hO.stay hb;have hins:=hO.ins
 have hnew:∀ j u,([.slice pu bs.length qu]:List Value)[j]?=some u→wn.cell? ((⟨g,0,none⟩:Addr).add j)=some u:=fun j u hj=>hA.cells j u hj
 have hz:B≤wn.heap.size:=Nat.le_trans hB hb.size;refine wpList_append_lies _ hgd s x 24 ho B 22 i0 (.slice none 0 0) 1 24 Tryz.underlying24 hi hz0 hz1 hz2 rfl (by decide) _ out.length xs hs ho5.row ⟨g,0,none⟩ 1 1 [.slice pu bs.length qu] hx rfl hnew (by intro u hu;simp at hu;subst hu;rfl) (by decide) (by unfold maxLen;omega) (by omega) hz _ rfl ?_;intro g6 c6 w6 hown6 hgrow6 hat6 hlt6;have ka:=zCf (a:=bs) (hu.lower (B':=B) hB)
 have OP:=ho5.push ka (fun j hj hj2=>by
  have h1:=hu.ge j (mem_opt.1 hj);have h2:=(hins j hj2).2
  omega) (k:=out.length+1) (v':=.slice (some ⟨g6,0,none⟩) (out.length+1) c6) (g:=g6) hown6 (by simp) hgrow6 rfl hat6
 refine h _ _ _ _ _ OP hgrow6 (fun k hk=>?_) ((Below.refl B _).grown hgrow6 hz (fun k hk=>(hins k (List.mem_append_left _ (mem_opt.2 hk))).1));rcases List.mem_append.1 hk with hk | hk
 ·have hg:k=g6:=(Option.some.inj (mem_opt.1 hk)).symm;subst hg;rcases hat6 with h1 | h1
  ·exact .inl (List.mem_append_left _ (mem_opt.2 h1))
  ·exact .inr (by rw[h1];exact hb.size)
 ·rcases List.mem_append.1 hk with hk | hk
  ·exact .inl (List.mem_append_right _ hk)
  ·exact .inr (hu.ge k (mem_opt.1 hk))
theorem zBC {ops:Array Oper} {rest:List Oper} {o:Oper} {a:Act} {Q:Exit→Act→World→Prop} {wr w2:World} {B:Nat} {v u:Value} {out:List (List UInt8)} {xs:List Value} {fp:List Nat} {bs:List UInt8} (hgd:o.guard=none) (s x:Operand)
  (ho:o.op=.call { callee:=.builtin .append,args:=#[s,x],argTypes:=#[24,24] })
  (hO:OwnL 22 bytC wr B v out xs fp) (hu:Own w2 wr.heap.size u bs) (hb:Below wr.heap.size wr w2) (hs:a.eval s=v) (hx:a.eval x=.slice (some ⟨w2.heap.size,0,none⟩) 1 1) (hB:B≤wr.heap.size) (hn:out.length≤1000)
  (h:∀ p q w' xs' fp',OwnL 22 bytC w' B (.slice p (out.length+1) q) (out++[bs]) xs' fp'→(w2.alloc (.cells #[u] 22)).grownBy w' v.ownBlock→(∀ k,k∈(Value.slice p (out.length+1) q).ownBlock.toList++fp'→k∈v.ownBlock.toList++fp∨wr.heap.size≤k)→Below B (w2.alloc (.cells #[u] 22)) w'→wpList Tryz.prog ops Q rest (a.put o.dst (.slice p (out.length+1) q)) w'):wpList Tryz.prog ops Q (o :: rest) a (w2.alloc (.cells #[u] 22)):=
 zAj hgd s x ho hO (hu.stay (zA _ _)) (Below.step hb (zA _ _)) (Arr.new w2 [u] 22) hs hx hB hn h
theorem Cod.rowS {α:Type} (c:Cod α) {w:World} {B:Nat} {a:α} {vs:List Value} {fp:List Nat} (h:c.own w B a vs fp) {g:Nat} (hg:g<B) (us:Array Value):c.own (w.setRow g us) B a vs fp:=c.fr h fun k hk=>setRow_other w g k us (by have:=(c.ins h k hk).1;omega)
theorem zJu {l:List (List UInt8)} (h:∀ c∈l,ctxB c=true) {k:Nat} {a:List UInt8} (ha:l[k]?=some a):a.length≤20:=(zAP (h a (List.mem_of_getElem? ha))).2
theorem zES (l:List (List UInt8)) (p:Option Addr) (q:Nat) (w:World) (hr:RdL bytC w p q l) (hc:∀ c∈l,ctxB c=true) (hl:l.length≤1000):
  Calls Tryz.prog 52 #[.slice p l.length q] w fun e w'=>∃ v xs fp,e=.returned v∧OwnL 22 bytC w' w.heap.size v l xs fp∧Below w.heap.size w w':=by
 have HR:Hid (RdL bytC w p q l):=hr;have hq1:l.length≤q:=hr.1;have hq2:q≤2 ^ 63-1:=hr.2.1;have HC:Hid (∀ c∈l,ctxB c=true):=hc;have HL:Hid (l.length≤1000):=hl;clear hr hc hl;go_enter Tryz.func52,Tryz.ntmps52;go_wp2_with fail
 go_loopw [3,8] (fun v i wr=>∃ (k:Nat) (xs:List Value) (fp:List Nat),k≤l.length∧i=.int .i64 k∧OwnL 22 bytC wr w.heap.size v (l.take k) xs fp∧Below w.heap.size w wr)
  (fun _ i _=>l.length-(intOf i).toNat)
 case atStart=>exact⟨0,[],[],Nat.zero_le _,rfl,⟨⟨rfl,.inl ⟨rfl,rfl⟩⟩,⟨rfl,rfl⟩,List.nodup_nil⟩,Below.refl _ _⟩
 case round=>
  obtain⟨k,xs,fp,hk,rfl,ho,BW⟩:=hrel
  by_cases hlt:k<l.length
  ·have hI:(k:Int)<(l.length:Int):=by omega
   obtain⟨b,o,e1,hcc⟩:=(HR.out.keep BW).2.2.2 (by omega);subst e1;obtain⟨a,ha⟩:∃ a,l[k]?=some a:=⟨l[k],by simp[hlt]⟩;obtain⟨us,hrep,hcell⟩:=hcc k a ha;obtain⟨pa,qa,rfl,ra⟩:=zCP hrep;have c0:=hcell 0 _ rfl;rw[show bytC.n=1 from rfl,Nat.mul_one,Nat.add_zero] at c0;have KC:=zAz pa qa a wr ra (by have:=zJu HC.out ha;omega)
   have HT:Hid (l.take (k+1)=l.take k++[a]):=by show _=_;rw[List.take_add_one,ha];rfl
   have HTl:Hid ((l.take k).length≤1000):=by show _≤_;rw[List.length_take];have:=HL.out;omega
   obtain⟨po,qo,rfl,-⟩:=ho.rd;have HO:Hid (OwnL 22 bytC wr w.heap.size (.slice po (l.take k).length qo) (l.take k) xs fp):=ho;have HB:Hid (w.heap.size≤wr.heap.size):=BW.size;clear hcc hcell hrep ra ho;generalize l.take k=out at *;go_wp2_with fail;refine KC.mono ?_;rintro e w2 ⟨u2,rfl,k2,hb2⟩;have BW2:=Below.step BW hb2;have HU:Hid (Own w2 wr.heap.size u2 a):=k2;have HB2:Hid (Below wr.heap.size wr w2):=hb2;obtain⟨pu,qu,rfl,-⟩:=k2.rd;have BW3:=Below.mk BW2 (.cells #[.slice pu a.length qu] 22);clear KC k2 hb2 c0 BW BW2;go_wp2_with (at_builtin;refine zBC rfl (.tmp 12) (.tmp 15) rfl HO.out HU.out HB2.out rfl rfl HB.out HTl.out ?_;intro p6 q6 w6 xs6 fp6 ho6 _ _ hb6);rw[← HT.out] at ho6;have BW6:=BW3.trans hb6;clear BW3 hb6 HO HU HB2;go_roundw
   case rel=>exact⟨k+1,_,_,by omega,by go_num,ho6,BW6⟩
   case measure=>simp[intOf];omega
  ·have e:k=l.length:=by omega
   subst e;rw[List.take_length] at ho;obtain⟨po,qo,rfl,-⟩:=ho.rd;go_wp2_with fail;go_ret;exact⟨_,_,_,rfl,ho,BW⟩
theorem zK8 {l:List (List UInt8)} {k:Nat} {a c:List UInt8} (h:l[k]?=some a):wiN (l.take (k+1)) c=if zAb a c then wiN (l.take k) c else wiN (l.take k) c++[a]:=by
 unfold wiN;rw[List.take_add_one,h,List.filter_append]
 cases hs:zAb a c <;> simp[hs]
theorem zMz (l:List (List UInt8)) (c:List UInt8):(wiN l c).length≤l.length:=List.length_filter_le _ _
theorem zBp (x:SesD) (us:List Value) (l:List zJ) (b n:Nat) (D:DataW Unit) (w:World) (h:sessionC.rep w x us) (hS:Ses x) (ho:MapH w b n D) (hm:MapIs D (lkH l)) (hr:Rise l) (hk:∀ h∈l,okH h=true) (hl:l.length≤1000) (hn:n≤1000):
  Calls Tryz.prog 19 #[.agg us.toArray,.map (some b)] w fun e w'=>∃ vs fp,e=.returned (.agg vs.toArray)∧sessionC.own w' w.heap.size (x.1,x.2.1,x.2.2.1,x.2.2.2.1,l) vs fp∧Below w.heap.size w w':=by
 obtain⟨p1,q1,p3,q3,p4,q4,p5,q5,rfl,r1,r3,r4,-⟩:=zN h;have A0:=Arr.new w [.slice p1 x.1.length q1,.int .i64 x.2.1,.slice p3 x.2.2.1.length q3,.slice p4 x.2.2.2.1.length q4,.slice p5 x.2.2.2.2.length q5] 27;have B0:=zA w (.cells #[.slice p1 x.1.length q1,.int .i64 x.2.1,.slice p3 x.2.2.1.length q3,.slice p4 x.2.2.2.1.length q4,.slice p5 x.2.2.2.2.length q5] 27);have hz1:Hid ((w.alloc (.cells #[.slice p1 x.1.length q1,.int .i64 x.2.1,.slice p3 x.2.2.1.length q3,.slice p4 x.2.2.2.1.length q4,.slice p5 x.2.2.2.2.length q5] 27)).heap.size=w.heap.size+1):=zD _ _;have R:=Arr.new (w.alloc (.cells #[.slice p1 x.1.length q1,.int .i64 x.2.1,.slice p3 x.2.2.1.length q3,.slice p4 x.2.2.2.1.length q4,.slice p5 x.2.2.2.2.length q5] 27)) [.slice none 0 0,.int .i64 0,.slice none 0 0,.slice none 0 0,.slice none 0 0] 27;rw[hz1.out] at R;have A:=A0.old _ (.cells #[.slice none 0 0,.int .i64 0,.slice none 0 0,.slice none 0 0,.slice none 0 0] 27);have BW:=Below.mk B0 (.cells #[.slice none 0 0,.int .i64 0,.slice none 0 0,.slice none 0 0,.slice none 0 0] 27)
 have hz2:Hid (((w.alloc (.cells #[.slice p1 x.1.length q1,.int .i64 x.2.1,.slice p3 x.2.2.1.length q3,.slice p4 x.2.2.2.1.length q4,.slice p5 x.2.2.2.2.length q5] 27)).alloc (.cells #[.slice none 0 0,.int .i64 0,.slice none 0 0,.slice none 0 0,.slice none 0 0] 27)).heap.size=w.heap.size+2):=by show _=_;rw[zD,zD]
 have hres:Hid ((Tryz.prog.info? 27).map (·.size)=some 5):=by show _=_;kernel_rfl
 have R1:Hid (∀ V,Below w.heap.size w V→Rd V p1 q1 x.1):=fun V hV=>r1.keep hV
 have R3:Hid (∀ V,Below w.heap.size w V→RdL bytC V p3 q3 x.2.2.1):=fun V hV=>r3.keep hV
 have R4:Hid (∀ V,Below w.heap.size w V→RdL bytC V p4 q4 x.2.2.2.1):=fun V hV=>r4.keep hV
 have KD:Hid (∀ V,Below w.heap.size w V→Calls Tryz.prog 53 #[.map (some b)] V fun e w'=>∃ v,e=.returned v∧w'.ownsRow V.heap.size 81 2 v l.length (zAV l)∧Below V.heap.size V w'):=fun V hV=>zGO b n D l V (ho.keep hV) hm hr hk hl hn
 have H1:Hid (x.1.length≤1000):=by show _≤_;have:=hS.len;omega
 have H3:Hid ((∀ c∈x.2.2.1,ctxB c=true)∧x.2.2.1.length≤1000):=⟨fun c hc=>hS.cx c (List.mem_append_left _ hc),by have:=hS.ln.1;omega⟩;have H4:Hid ((∀ c∈x.2.2.2.1,ctxB c=true)∧x.2.2.2.1.length≤1000):=⟨fun c hc=>hS.cx c (List.mem_append_right _ hc),by have:=hS.ln.2.1;omega⟩;have c0:=zQ (A.cell 0) rfl;have c1:=zQ (A.cell 1) rfl;have c2:=zQ (A.cell 2) rfl;have c3:=zQ (A.cell 3) rfl;clear h hS ho hm hr hk hl hn r1 r3 r4 A A0 B0;go_enter Tryz.func19,Tryz.ntmps19;go_wp2_with fail;generalize hV:(w.alloc (.cells #[.slice p1 x.1.length q1,.int .i64 x.2.1,.slice p3 x.2.2.1.length q3,.slice p4 x.2.2.2.1.length q4,.slice p5 x.2.2.2.2.length q5] 27)).alloc (.cells #[.slice none 0 0,.int .i64 0,.slice none 0 0,.slice none 0 0,.slice none 0 0] 27)=V at *;have hzV:Hid (w.heap.size+2=V.heap.size):=hz2.out.symm;clear hV hz1 hz2;have BB:=Below.refl V.heap.size V;have hne:=HW.some V;have g0:=HW.at c0;have g1:=HW.at c1;have g2:=HW.at c2;have g3:=HW.at c3;clear c0 c1 c2 c3;refine wp_region_pick [0,1,3,4,5,6,8,9,11] 14 5 1 rfl rfl rfl (by kernel_rfl) (by kernel_rfl) (by kernel_rfl) (by kernel_rfl) ?_;simp only[zL,List.getElem?_toArray,List.getElem?_cons_zero,List.getElem?_cons_succ]
 repeat (go_big_quiet_step (fail))
 refine wpQuiet_nil ?_;clear g0 g1 g2 g3;refine wpM_only (i:=2) (by kernel_rfl) ?_;refine mOp_call rfl (by go_simp) 21 _ #[.slice p1 x.1.length q1] (fun w=>by go_simp) rfl ?_;rintro _ ⟨sg,rfl⟩;have G1:Hid (V.heap.size≤sg.w.heap.size):=(Below.step BB sg.h).size;refine(zAz p1 q1 x.1 _ (R1.out _ (BW.trans ((Below.step BB sg.h).mono BW.size))) (by have:=H1.out;omega)).mono ?_;rintro e w1 ⟨u1,rfl,k1,hbx⟩;have hbg:=Below.step sg.h hbx;refine⟨_,rfl,⟨⟨w1,hbx⟩,rfl⟩,?_⟩;obtain⟨pu,qu,rfl,-⟩:=k1.rd
 have I1:Hid (∀ k,k∈(Value.slice pu x.1.length qu).ownBlock.toList→V.heap.size≤k∧k<w1.heap.size):=fun k hk=>⟨Nat.le_trans G1.out (k1.ge k (mem_opt.1 hk)),k1.lt k (mem_opt.1 hk)⟩
 replace k1:=k1.lower G1.out;replace BB:=Below.step BB hbg;have L1:Hid (V.heap.size≤w1.heap.size):=hbg.size;clear hbg hbx G1 sg;replace hne:=HW.some w1;refine wpM_only (i:=7) (by kernel_rfl) ?_;refine mOp_call rfl (by go_simp) 52 _ #[.slice p3 x.2.2.1.length q3] (fun w=>by go_simp) rfl ?_;rintro _ ⟨sg,rfl⟩;have G2:Hid (V.heap.size≤sg.w.heap.size):=(Below.step BB sg.h).size;refine(zES x.2.2.1 p3 q3 _ (R3.out _ (BW.trans ((Below.step BB sg.h).mono BW.size))) H3.out.1 H3.out.2).mono ?_;rintro e w2 ⟨u2,xs2,fp2,rfl,k2,hbx⟩;have hbg:=Below.step sg.h hbx;refine⟨_,rfl,⟨⟨w2,hbx⟩,rfl⟩,?_⟩;obtain⟨pa,qa,rfl,-⟩:=k2.rd;have J1:Hid (w1.heap.size≤sg.w.heap.size):=sg.h.size
 have I2:Hid (∀ k,k∈(Value.slice pa x.2.2.1.length qa).ownBlock.toList++fp2→w1.heap.size≤k∧k<w2.heap.size):=fun k hk=>⟨Nat.le_trans J1.out (k2.ins k hk).1,(k2.ins k hk).2⟩
 replace k2:=k2.low G2.out;replace k1:=k1.stay hbg;replace BB:=Below.step BB hbg;have L2:Hid (w1.heap.size≤w2.heap.size):=hbg.size;clear hbg hbx G2 J1 sg;replace hne:=HW.some w2;refine wpM_only (i:=10) (by kernel_rfl) ?_;refine mOp_call rfl (by go_simp) 52 _ #[.slice p4 x.2.2.2.1.length q4] (fun w=>by go_simp) rfl ?_;rintro _ ⟨sg,rfl⟩;have G3:Hid (V.heap.size≤sg.w.heap.size):=(Below.step BB sg.h).size;refine(zES x.2.2.2.1 p4 q4 _ (R4.out _ (BW.trans ((Below.step BB sg.h).mono BW.size))) H4.out.1 H4.out.2).mono ?_;rintro e w3 ⟨u3,xs3,fp3,rfl,k3,hbx⟩;have hbg:=Below.step sg.h hbx;refine⟨_,rfl,⟨⟨w3,hbx⟩,rfl⟩,?_⟩;obtain⟨pb,qb,rfl,-⟩:=k3.rd;have J2:Hid (w2.heap.size≤sg.w.heap.size):=sg.h.size
 have I3:Hid (∀ k,k∈(Value.slice pb x.2.2.2.1.length qb).ownBlock.toList++fp3→w2.heap.size≤k∧k<w3.heap.size):=fun k hk=>⟨Nat.le_trans J2.out (k3.ins k hk).1,(k3.ins k hk).2⟩
 replace k3:=k3.low G3.out;replace k2:=k2.stay hbg;replace k1:=k1.stay hbg;replace BB:=Below.step BB hbg;have L3:Hid (w2.heap.size≤w3.heap.size):=hbg.size;clear hbg hbx G3 J2 sg;replace hne:=HW.some w3;refine wpM_only (i:=12) (by kernel_rfl) ?_;refine mOp_call rfl (by go_simp) 53 _ #[.map (some b)] (fun w=>by go_simp) rfl ?_;rintro _ ⟨sg,rfl⟩;have G4:Hid (V.heap.size≤sg.w.heap.size):=(Below.step BB sg.h).size;refine(KD.out _ (BW.trans ((Below.step BB sg.h).mono BW.size))).mono ?_;rintro e w4 ⟨u4,rfl,k4,hbx⟩;have hbg:=Below.step sg.h hbx;refine⟨_,rfl,⟨⟨w4,hbx⟩,rfl⟩,?_⟩;obtain⟨pc,qc,rfl,-⟩:=zT k4;have J3:Hid (w3.heap.size≤sg.w.heap.size):=sg.h.size
 have I4:Hid (∀ k,k∈(Value.slice pc l.length qc).ownBlock.toList→w3.heap.size≤k∧k<w4.heap.size):=fun k hk=>⟨Nat.le_trans J3.out (World.ownsRow.lt k4 k (mem_opt.1 hk)).1,(World.ownsRow.lt k4 k (mem_opt.1 hk)).2⟩
 have k5:OwnL 81 holdC w4 V.heap.size (.slice pc l.length qc) l (zAV l) []:=⟨zAo k4 G4.out,zDZ l,by rw[List.append_nil];exact zAn _⟩;replace k3:=k3.stay hbg;replace k2:=k2.stay hbg;replace k1:=k1.stay hbg;replace BB:=Below.step BB hbg;have L4:Hid (w3.heap.size≤w4.heap.size):=hbg.size;clear hbg hbx G4 J3 k4 sg;replace hne:=HW.some w4;refine wpM_more [13] 1 0 rfl (by kernel_rfl) (by kernel_rfl) (by kernel_rfl) (by kernel_rfl) ?_;simp only[zL,List.getElem?_toArray,List.getElem?_cons_zero,List.getElem?_cons_succ]
 go_simp
 repeat (go_big_quiet_step (fail))
 refine wpQuiet_nil ?_;refine wpM_end (by kernel_rfl) rfl (by kernel_rfl) (by decide) ?_;rintro _ ⟨sz,rfl⟩;simp only[List.drop_succ_cons,List.drop_zero]
 go_simp
 replace k1:=k1.stay sz.h;replace k2:=k2.stay sz.h;replace k3:=k3.stay sz.h;replace k5:=k5.stay sz.h;have BZ:=Below.step BB sz.h;replace R:=R.stay BZ;have BW2:=BW.trans (BZ.mono BW.size)
 have hSes:sessionC.own sz.w V.heap.size (x.1,x.2.1,x.2.2.1,x.2.2.2.1,l) [.slice pu x.1.length qu,.int .i64 x.2.1,.slice pa x.2.2.1.length qa,.slice pb x.2.2.2.1.length qb,.slice pc l.length qc] _:=zFZ (x:=(x.1,x.2.1,x.2.2.1,x.2.2.2.1,l)) k1 ⟨_,_,_,rfl,k2,rfl⟩ ⟨_,_,_,rfl,k3,rfl⟩ ⟨_,_,_,rfl,k5,rfl⟩ (by
  refine List.nodup_append.2 ⟨zAn _,List.nodup_append.2 ⟨k2.nd,List.nodup_append.2 ⟨k3.nd,k5.nd,fun a ha c hc e=>?_⟩,fun a ha c hc e=>?_⟩,fun a ha c hc e=>?_⟩
  ·rw[List.append_nil] at hc;have h1:=(I3.out a ha).2;have h2:=(I4.out c hc).1;omega
  ·have h1:=(I2.out a ha).2;rcases List.mem_append.1 hc with hc | hc
   ·have h2:=(I3.out c hc).1;omega
   ·rw[List.append_nil] at hc;have h2:=(I4.out c hc).1;have h3:=L3.out;omega
  ·have h1:=(I1.out a ha).2;rcases List.mem_append.1 hc with hc | hc
   ·have h2:=(I2.out c hc).1;omega
   ·rcases List.mem_append.1 hc with hc | hc
    ·have h2:=(I3.out c hc).1;have h3:=L2.out;omega
    ·rw[List.append_nil] at hc;have h2:=(I4.out c hc).1;have h3:=L2.out;have h4:=L3.out
     omega)
 have hVw:w.heap.size+1<V.heap.size:=by have:=hzV.out;omega
 go_wp2_with (refine wpList_store_row rfl 27 _ _ rfl (w.heap.size+1) #[.slice pu x.1.length qu,.int .i64 x.2.1,.slice pa x.2.2.1.length qa,.slice pb x.2.2.2.1.length qb,.slice pc l.length qc] rfl rfl 27 #[.slice none 0 0,.int .i64 0,.slice none 0 0,.slice none 0 0,.slice none 0 0] R hres.out rfl (by simp[Value.oneCell']) ?_);exact bodyPost_ret (v:=.agg #[.slice pu x.1.length qu,.int .i64 x.2.1,.slice pa x.2.2.1.length qa,.slice pb x.2.2.2.1.length qb,.slice pc l.length qc]) (results_cell_row Tryz.results19 _ _ (w.heap.size+1) 27 _ (0,0) _ rfl (R.row [.slice pu x.1.length qu,.int .i64 x.2.1,.slice pa x.2.2.1.length qa,.slice pb x.2.2.2.1.length qb,.slice pc l.length qc]) Tryz.underlying27 rfl hres.out) rfl ⟨_,_,rfl,sessionC.low (sessionC.rowS hSes hVw _) (by have:=hzV.out;omega),Below.row BW2 (Nat.le_succ _) _⟩
def acD (x:SesD) (c:List UInt8):zBs:=if acC hdC x c=0 then (0,0,askN x c) else (acC hdC x c,0,zDY)
end Go.Proofs.YtbaldmmbphbinaaGreatDoor
