import Derived.Test.YtbaldmmbphbinaaGreatDoorJoint30
import Derived.Test.YtbaldmmbphbinaaGreatDoorJoint5
import Derived.Test.YtbaldmmbphbinaaGreatDoorSesP
import Derived.Test.YtbaldmmbphbinaaGreatDoorJoint29
import Derived.Test.YtbaldmmbphbinaaGreatDoorAuthX
import Derived.Test.YtbaldmmbphbinaaGreatDoorSesS
import Derived.Test.YtbaldmmbphbinaaGreatDoorJoint27
set_option maxHeartbeats 4000000
set_option maxRecDepth 4000
namespace Go.Proofs.YtbaldmmbphbinaaGreatDoor
open Go.ChangeShapes Go.WideShapes Go.ChangeAt Go.RowKit
theorem zDK {l:List zJ} (hr:Rise l) {k u:Int}:lkH l k=some u↔(k,u)∈l:=by
  induction l with
  | nil=>simp[lkH]
  | cons a l ih=>
    have hr2:=List.pairwise_cons.1 hr;unfold lkH at ih ⊢
    by_cases e:a.1=k
    · rw[List.find?_cons_of_pos (by simp[e])];simp only[Option.map_some,Option.some.injEq];constructor
      · intro h;subst e;subst h;exact List.mem_cons_self ..
      · intro h;rcases List.mem_cons.1 h with h | h
        · rw[← h]
        · have:=hr2.1 _ h;simp only at this;omega
    · rw[List.find?_cons_of_neg (by simp[e]),ih hr2.2];constructor
      · intro h;exact List.mem_cons_of_mem _ h
      · intro h;rcases List.mem_cons.1 h with h | h
        · exact absurd (by rw[← h]) e
        · exact h
theorem zLB {l:List zJ} {h:zJ} (hr:Rise l):lkH (zAO l h)=fun j=>if j=h.1 then some h.2 else lkH l j:=by
  funext j
  have hr2:=zDF (h:=h) hr
  by_cases e:j=h.1
  · rw[if_pos e,e];exact(zDK hr2).2 (hold_mem.2 (.inl rfl))
  · rw[if_neg e];cases hx:lkH l j with
    | some u=>
      exact(zDK hr2).2 (hold_mem.2 (.inr ⟨(zDK hr).1 hx,e⟩))
    | none=>
      cases hy:lkH (zAO l h) j with
      | none=>rfl
      | some u=>
        rcases hold_mem.1 ((zDK hr2).1 hy) with h1 | h1
        · exact absurd (by rw[← h1]) e
        · have:=(zDK hr).2 h1.1;rw[hx] at this;cases this
theorem zM5 {c:zH} (h:okC c=true):okH (c.1,c.2.2)=true:=by
  simp only[okC,okH,Bool.and_eq_true] at h ⊢;exact⟨h.1.1,h.2⟩
theorem zMT {w:World} {B n:Nat} {bs:List UInt8} {p:Option Addr} {q:Nat} {fp:List Nat} (h:bytC.own w B bs [.slice p n q] fp):Rd w p q bs:=by
  obtain⟨v,e,o,-⟩:=h;simp only[List.cons.injEq,and_true] at e;subst e;exact Rd.own o
theorem zHs {w:World} {B n:Nat} {l:List (List UInt8)} {p:Option Addr} {q:Nat} {fp:List Nat} (h:blksC.own w B l [.slice p n q] fp):RdL bytC w p q l:=by
  obtain⟨v,xs,f,e,o,-⟩:=h;simp only[List.cons.injEq,and_true] at e;subst e;exact RdL.own o
theorem zJy {w:World} {B n:Nat} {l:List zJ} {p:Option Addr} {q:Nat} {fp:List Nat} (h:holdsC.own w B l [.slice p n q] fp):RdL holdC w p q l:=by
  obtain⟨v,xs,f,e,o,-⟩:=h;simp only[List.cons.injEq,and_true] at e;subst e;exact RdL.own o
def SesNew (B:Nat) (W:World) (x:SesD) (vs:List Value):Prop:=∀ V:World,(∀ k,B≤k→k<W.heap.size→V.heap[k]?=W.heap[k]?)→sessionC.rep V x vs
theorem SesNew.rep {B:Nat} {W:World} {x:SesD} {vs:List Value} (h:SesNew B W x vs):sessionC.rep W x vs:=h W fun _ _ _=>rfl
theorem SesNew.stay {B:Nat} {W V:World} {x:SesD} {vs:List Value} (h:SesNew B W x vs) (hb:Below W.heap.size W V):SesNew B V x vs:=fun U hU=>h U fun k h1 h2=>(hU k h1 (Nat.lt_of_lt_of_le h2 hb.size)).trans (hb.block k h2)
theorem SesNew.low {B B':Nat} {W:World} {x:SesD} {vs:List Value} (h:SesNew B W x vs) (hb:B'≤B):SesNew B' W x vs:=fun U hU=>h U fun k h1 h2=>hU k (Nat.le_trans hb h1) h2
theorem SesNew.row {B g:Nat} {W:World} {x:SesD} {vs:List Value} (h:SesNew B W x vs) (hg:g<B) (us:Array Value):SesNew B (W.setRow g us) x vs:=fun U hU=>h U fun k h1 h2=>(hU k h1 (by rw[size_setRow];exact h2)).trans (setRow_other W g k us (by omega))
theorem zIV (x:SesD) (us:List Value) (a:zAq) (vs:List Value) (w:World) (h:sessionC.rep w x us) (ha:authC.rep w a vs) (hS:Ses x) (hok:okC a.2.1=true) (hct:ctxB a.1=true):
    Calls Tryz.prog 38 #[.agg us.toArray,.agg vs.toArray] w fun e w'=>∃ ys,e=.returned (.agg ys.toArray)∧SesNew w.heap.size w' (ansN x a) ys∧Below w.heap.size w w':=by
  obtain⟨p1,q1,p3,q3,p4,q4,p5,q5,rfl,r1,r3,r4,r5⟩:=zN h;obtain⟨a1,b1,a4,b4,rfl,s1,-⟩:=zDy ha
  have hz0:Hid ((((w.alloc (.cells #[.slice p1 x.1.length q1,.int .i64 x.2.1,.slice p3 x.2.2.1.length q3,.slice p4 x.2.2.2.1.length q4,.slice p5 x.2.2.2.2.length q5] 27)).alloc (.cells #[.slice a1 a.1.length b1,.int .i64 a.2.1.1,.int .i64 a.2.1.2.1,.int .i64 a.2.1.2.2,.int .i64 a.2.2.1,.slice a4 a.2.2.2.length b4] 70)).alloc (.cells #[.slice none 0 0,.int .i64 0,.slice none 0 0,.slice none 0 0,.slice none 0 0] 27)).heap.size=w.heap.size+3):=by show _=_;rw[zD,zD,zD]
  have A:=((Arr.new w [.slice p1 x.1.length q1,.int .i64 x.2.1,.slice p3 x.2.2.1.length q3,.slice p4 x.2.2.2.1.length q4,.slice p5 x.2.2.2.2.length q5] 27).old _ (.cells #[.slice a1 a.1.length b1,.int .i64 a.2.1.1,.int .i64 a.2.1.2.1,.int .i64 a.2.1.2.2,.int .i64 a.2.2.1,.slice a4 a.2.2.2.length b4] 70)).old _ (.cells #[.slice none 0 0,.int .i64 0,.slice none 0 0,.slice none 0 0,.slice none 0 0] 27);have B:=(Arr.new (w.alloc (.cells #[.slice p1 x.1.length q1,.int .i64 x.2.1,.slice p3 x.2.2.1.length q3,.slice p4 x.2.2.2.1.length q4,.slice p5 x.2.2.2.2.length q5] 27)) [.slice a1 a.1.length b1,.int .i64 a.2.1.1,.int .i64 a.2.1.2.1,.int .i64 a.2.1.2.2,.int .i64 a.2.2.1,.slice a4 a.2.2.2.length b4] 70).old _ (.cells #[.slice none 0 0,.int .i64 0,.slice none 0 0,.slice none 0 0,.slice none 0 0] 27);have R:=Arr.new ((w.alloc (.cells #[.slice p1 x.1.length q1,.int .i64 x.2.1,.slice p3 x.2.2.1.length q3,.slice p4 x.2.2.2.1.length q4,.slice p5 x.2.2.2.2.length q5] 27)).alloc (.cells #[.slice a1 a.1.length b1,.int .i64 a.2.1.1,.int .i64 a.2.1.2.1,.int .i64 a.2.1.2.2,.int .i64 a.2.2.1,.slice a4 a.2.2.2.length b4] 70)) [.slice none 0 0,.int .i64 0,.slice none 0 0,.slice none 0 0,.slice none 0 0] 27;rw[zD] at B;rw[zD,zD] at R;have BW:=Below.mk (Below.mk (zA w (.cells #[.slice p1 x.1.length q1,.int .i64 x.2.1,.slice p3 x.2.2.1.length q3,.slice p4 x.2.2.2.1.length q4,.slice p5 x.2.2.2.2.length q5] 27)) (.cells #[.slice a1 a.1.length b1,.int .i64 a.2.1.1,.int .i64 a.2.1.2.1,.int .i64 a.2.1.2.2,.int .i64 a.2.2.1,.slice a4 a.2.2.2.length b4] 70)) (.cells #[.slice none 0 0,.int .i64 0,.slice none 0 0,.slice none 0 0,.slice none 0 0] 27)
  have HREP:Hid (∀ V,Below w.heap.size w V→sessionC.rep V x [.slice p1 x.1.length q1,.int .i64 x.2.1,.slice p3 x.2.2.1.length q3,.slice p4 x.2.2.2.1.length q4,.slice p5 x.2.2.2.2.length q5]):=fun V hV=>sessionC.keep h hV
  have HRC:Hid (∀ V,Below w.heap.size w V→Rd V a1 b1 a.1):=fun V hV=>s1.keep hV
  have HS:Hid (Ses x):=hS;have HOK:Hid (okH (a.2.1.1,a.2.1.2.2)=true):=zM5 hok;have HCT:Hid (a.1.length≤20):=(zAP hct).2;have hpa:=zCU HOK.out;have HK1:Hid ((Lit.int .i64 a.2.1.1).wf=true):=wf64 (by have:=hpa.1;simp only at this;omega) (by have:=hpa.2.1;simp only at this;omega);have HK2:Hid (plainElem (H:=Unit) Tryz.prog 2 (.int .i64 a.2.1.2.2)=some (.lit (.int .i64 a.2.1.2.2),[])):=plainElem_int Tryz.underlying2 (wf64 (by have:=hpa.2.2.1;simp only at this;omega) (by have:=hpa.2.2.2;simp only at this;omega));have K1:=zCm x.2.2.2.2 p5 q5 _ (r5.keep BW) HS.out.rs HS.out.ok (by have:=HS.out.ln.2.2;omega);have HR5:Hid (zAO x.2.2.2.2 (a.2.1.1,a.2.1.2.2)=zAO x.2.2.2.2 (a.2.1.1,a.2.1.2.2)):=rfl;have c4:=zQ (A.cell 4) rfl;clear h ha hS hok hct r1 r3 r4 r5 s1 hpa HR5;go_enter Tryz.func38,Tryz.ntmps38;go_wp2_with fail;generalize hV:((w.alloc (.cells #[.slice p1 x.1.length q1,.int .i64 x.2.1,.slice p3 x.2.2.1.length q3,.slice p4 x.2.2.2.1.length q4,.slice p5 x.2.2.2.2.length q5] 27)).alloc (.cells #[.slice a1 a.1.length b1,.int .i64 a.2.1.1,.int .i64 a.2.1.2.1,.int .i64 a.2.1.2.2,.int .i64 a.2.2.1,.slice a4 a.2.2.2.length b4] 70)).alloc (.cells #[.slice none 0 0,.int .i64 0,.slice none 0 0,.slice none 0 0,.slice none 0 0] 27)=V at *;have hzV:Hid (V.heap.size=w.heap.size+3):=hz0.out;clear hV hz0;refine K1.mono ?_;rintro e w1 ⟨bm,D,rfl,hbm,hm,hD,hb⟩;replace A:=A.stay hb;replace B:=B.stay hb;replace R:=R.stay hb;replace BW:=Below.step BW hb;rw[hzV.out] at hbm;have HBM:Hid (w.heap.size+3≤bm):=hbm
  have HM:Hid (MapIs (D.put (.int .i64 a.2.1.1) (.lit (.int .i64 a.2.1.2.2))) (lkH (zAO x.2.2.2.2 (a.2.1.1,a.2.1.2.2)))):=by
    show MapIs _ _
    rw[zLB HS.out.rs];exact hD.put hm.isMap _ _ (lawH.key (keyH _ HK1.out))
  have e1:=zQ (B.cell 1) rfl;have e3:=zQ (B.cell 3) rfl;have HN:Hid (x.2.2.2.2.length≤6):=HS.out.ln.2.2;clear K1 hb c4 hbm hD;go_wp2_with (at_mapUpdate;refine wpList_mapUpdate_own _ rfl _ _ _ 49 rfl 2 2 lawH Tryz.underlying49 _ bm x.2.2.2.2.length D rfl hm (by have:=HN.out;unfold maxLen;omega) (.int .i64 a.2.1.1) (.int .i64 a.2.1.2.2) _ rfl rfl (keyH _ HK1.out) (.lit (.int .i64 a.2.1.2.2)) [] HK2.out ?_;intro w2 hm2 hg2;replace A:=A.other hg2 (fun h=>by have h1:=Option.some.inj h;have h2:=HBM.out;omega);have c0:=zQ (A.cell 0) rfl;have c1:=zQ (A.cell 1) rfl;have c2:=zQ (A.cell 2) rfl;have c3:=zQ (A.cell 3) rfl;have c4:=zQ (A.cell 4) rfl);have BW2:Below w.heap.size w w2:=BW.grown hg2 (by have:=BW.size;exact this) (fun k hk=>by have h1:=Option.some.inj hk;have h2:=HBM.out;omega);replace R:=R.other hg2 (fun h=>by have h1:=Option.some.inj h;have h2:=HBM.out;omega);replace B:=B.other hg2 (fun h=>by have h1:=Option.some.inj h;have h2:=HBM.out;omega)
  have hz2:Hid (w.heap.size+3≤w2.heap.size):=by have h1:=HBM.out;have h2:=(World.ownsMap.lt hm2);show _≤_;omega
  have KO:=zBp x _ (zAO x.2.2.2.2 (a.2.1.1,a.2.1.2.2)) bm (x.2.2.2.2.length+1) _ w2 (HREP.out _ BW2) HS.out hm2 HM.out (zDF HS.out.rs) (fun y hy=>by rcases hold_mem.1 hy with rfl | hy;exact HOK.out;exact HS.out.ok y hy.1) (by rw[zD4 HS.out.rs];have:=HN.out;split <;> omega) (by have:=HN.out;omega);clear hg2 BW c0 c1 c2 c3 c4 e1 e3 A HM;refine KO.mono ?_;rintro e w3 ⟨vs3,fp,rfl,kS,hb3⟩;obtain⟨s1,t1,s3,t3,s4,t4,s5,t5,rfl,-,-,-,-⟩:=zN (sessionC.toRep kS);replace R:=R.stay hb3;replace B:=B.stay hb3;have BW3:=Below.step BW2 hb3;have e0:=zQ (B.cell 0) rfl;have hBlt:w.heap.size+1<w3.heap.size:=B.lt;have hz3:Hid (w2.heap.size≤w3.heap.size):=hb3.size;have AS:=Arr.new w3 [.slice s1 x.1.length t1,.int .i64 x.2.1,.slice s3 x.2.2.1.length t3,.slice s4 x.2.2.2.1.length t4,.slice s5 (zAO x.2.2.2.2 (a.2.1.1,a.2.1.2.2)).length t5] 27;have hal:=zA w3 (.cells #[.slice s1 x.1.length t1,.int .i64 x.2.1,.slice s3 x.2.2.1.length t3,.slice s4 x.2.2.2.1.length t4,.slice s5 (zAO x.2.2.2.2 (a.2.1.1,a.2.1.2.2)).length t5] 27);have KX:=sessionC.stay kS hal
  have NE:Hid (∀ k,k∈fp→k≠w3.heap.size):=fun k hk=>by have:=(sessionC.ins kS k hk).2;omega
  replace R:=R.stay hal;replace B:=B.stay hal;have BW4:=Below.step BW3 hal
  have hz4:Hid (w3.heap.size<(w3.alloc (.cells #[.slice s1 x.1.length t1,.int .i64 x.2.1,.slice s3 x.2.2.1.length t3,.slice s4 x.2.2.2.1.length t4,.slice s5 (zAO x.2.2.2.2 (a.2.1.1,a.2.1.2.2)).length t5] 27)).heap.size):=by show _<_;rw[zD];exact Nat.lt_succ_self _
  clear KO hb3 kS hal BW2 BW3;obtain⟨u1,y1,y2,y3,fa,fb,fc,es,ku,ka,kb,kd,hn,rfl⟩:=zEW KX;simp only[List.cons.injEq,and_true,true_and] at es;obtain⟨rfl,rfl,rfl,rfl⟩:=es;obtain⟨v9,x9,f9,e9,o9,r9⟩:=ka;simp only[List.cons.injEq,and_true] at e9;subst e9;have KW:=zDa x.2.2.1 a.1 _ x9 f9 a1 b1 w2.heap.size _ o9 (HRC.out _ BW4) (by have:=HS.out.ln.1;omega) (by have:=hz3.out;have:=hz4.out;omega)
  have HO9:Hid (∀ k,k∈(Value.slice s3 x.2.2.1.length t3).ownBlock.toList++f9→k∈fa):=fun k hk=>by rw[r9];exact hk
  clear o9 r9;go_wp2_with fail;refine KW.mono ?_;generalize hg:w3.heap.size=gz at *;generalize w3.alloc (.cells #[.slice s1 x.1.length t1,.int .i64 x.2.1,.slice s3 x.2.2.1.length t3,.slice s4 x.2.2.2.1.length t4,.slice s5 (zAO x.2.2.2.2 (a.2.1.1,a.2.1.2.2)).length t5] 27)=W4 at *;clear hg KW;rintro e w5 ⟨u5,gp,rfl,o5,hu5,hgp,hb5⟩;obtain⟨pw,qw,rfl,-⟩:=o5.rd;have HNd:Hid ((Value.slice s1 x.1.length t1).ownBlock.toList++(fa++(fb++fc))).Nodup:=hn
  have HLt:Hid (∀ k,k∈(Value.slice s1 x.1.length t1).ownBlock.toList++(fa++(fb++fc))→w2.heap.size≤k∧k<W4.heap.size):=fun k hk=>sessionC.ins KX k hk
  have HW5:Hid (∀ k,k∈(Value.slice pw (wiN x.2.2.1 a.1).length qw).ownBlock.toList++gp→W4.heap.size≤k∨k∈fa):=fun k hk=>by
    rcases List.mem_append.1 hk with h | h
    · exact .inl (hu5 k (mem_opt.1 h))
    · exact .inr (HO9.out k (List.mem_append_right _ (hgp.subset h)))
  have kw:blksC.own w5 w2.heap.size (wiN x.2.2.1 a.1) [.slice pw (wiN x.2.2.1 a.1).length qw] _:=⟨_,_,_,rfl,o5,rfl⟩;replace AS:=AS.stay hb5;replace R:=R.stay hb5;replace B:=B.stay hb5;replace ku:=ku.stay hb5;replace kb:=blksC.stay kb hb5;replace kd:=holdsC.stay kd hb5;have BW5:=Below.step BW4 hb5;have hz5:Hid (W4.heap.size≤w5.heap.size):=hb5.size;clear hb5 o5 hu5 hgp hn KX BW4 HO9 hm2;have gS:=zAM w5 gz 2 (.slice pw (wiN x.2.2.1 a.1).length qw);have hGz:Hid (w2.heap.size≤gz):=hz3;have AS6:=AS.set 2 (.slice pw (wiN x.2.2.1 a.1).length qw);simp only[List.set_cons_zero,List.set_cons_succ] at AS6;have R6:=R.setOther (a:=⟨gz,2,none⟩) (by show _≠_;have h1:=hGz.out;have h2:=hz2.out;simp;omega) (.slice pw (wiN x.2.2.1 a.1).length qw);have B6:=B.setOther (a:=⟨gz,2,none⟩) (by show _≠_;have h1:=hGz.out;have h2:=hz2.out;simp;omega) (.slice pw (wiN x.2.2.1 a.1).length qw);have ku6:=ku.other gS (fun j hj e=>NE.out j (List.mem_append_left _ (mem_opt.2 hj)) (Option.some.inj e).symm);have kb6:=blksC.other kb (Only.grown gS) (fun k hk h=>NE.out k (List.mem_append_right _ (List.mem_append_right _ (List.mem_append_left _ hk))) (by simpa using h));have kd6:=holdsC.other kd (Only.grown gS) (fun k hk h=>NE.out k (List.mem_append_right _ (List.mem_append_right _ (List.mem_append_right _ hk))) (by simpa using h))
  have kw6:=blksC.other kw (Only.grown gS) (fun k hk h=>by
    have hk2:k=gz:=by simpa using h
    rcases HW5.out k hk with h1 | h1
    · have:=hz4.out;omega
    · exact NE.out k (List.mem_append_right _ (List.mem_append_left _ h1)) hk2)
  have BW6:Below w.heap.size w (w5.setCell ⟨gz,2,none⟩ (.slice pw (wiN x.2.2.1 a.1).length qw)):=BW5.setCell (p:=⟨gz,2,none⟩) (by show w.heap.size≤gz;have h1:=hGz.out;have h2:=hz2.out;omega) _;have d2:=zQ (AS.cell 2) rfl;have hAl:gz<w5.heap.size:=AS.lt;have f2:=AS.frozen;go_wp2_with fail
  have hsz6:Hid ((w5.setCell ⟨gz,2,none⟩ (.slice pw (wiN x.2.2.1 a.1).length qw)).heap.size=w5.heap.size):=by show _=_;simp
  have hGz6:Hid (gz<(w5.setCell ⟨gz,2,none⟩ (.slice pw (wiN x.2.2.1 a.1).length qw)).heap.size):=by show _<_;rw[hsz6.out];exact hAl
  have hW46:Hid (W4.heap.size≤(w5.setCell ⟨gz,2,none⟩ (.slice pw (wiN x.2.2.1 a.1).length qw)).heap.size):=by show _≤_;rw[hsz6.out];exact hz5.out
  clear AS R B ku kb kd kw BW5 gS d2 f2 hsz6 hAl hz5;generalize w5.setCell ⟨gz,2,none⟩ (.slice pw (wiN x.2.2.1 a.1).length qw)=W6 at *;clear w5;obtain⟨v8,x8,f8,e8,o8,r8⟩:=kb6;simp only[List.cons.injEq,and_true] at e8;subst e8;obtain⟨G,hG⟩:∃ G,G=(Value.slice s4 x.2.2.2.1.length t4).ownBlock.toList:=⟨_,rfl⟩;have HG:Hid (G=(Value.slice s4 x.2.2.2.1.length t4).ownBlock.toList):=hG
  have hGb:∀ k,k∈G→k∈fb:=fun k hk=>by rw[r8];exact List.mem_append_left _ (by rw[← hG];exact hk)
  have hGgz:gz∉G:=fun h=>NE.out gz (List.mem_append_right _ (List.mem_append_right _ (List.mem_append_left _ (hGb gz h)))) rfl
  have hGa:w.heap.size+1∉G:=fun h=>by
    have h1:=(HLt.out _ (List.mem_append_right _ (List.mem_append_right _ (List.mem_append_left _ (hGb _ h))))).1;have h2:=hz2.out;omega
  have hGr:Hid (w.heap.size+1+1∉G):=fun h=>by
    have h1:=(HLt.out _ (List.mem_append_right _ (List.mem_append_right _ (List.mem_append_left _ (hGb _ h))))).1;have h2:=hz2.out;omega
  clear hG;have g3:=only_cell (zQ (AS6.cell 3) rfl) hGgz;have gb0:=only_cell (zQ (B6.cell 0) rfl) hGa;have hne:=only_some G W6;refine Gen.wp_region_pick (only_pre G) [0,1,2,3] 8 4 1 rfl rfl rfl (by kernel_rfl) (by kernel_rfl) (by kernel_rfl) (by kernel_rfl) ?_;simp only[zL,List.getElem?_toArray,List.getElem?_cons_zero,List.getElem?_cons_succ]
  repeat (go_big_quiet_step (fail))
  refine wpQuiet_nil ?_;clear g3 gb0 hne;refine Gen.wpM_only (i:=4) (by kernel_rfl) ?_;refine Gen.mOp_call rfl (by go_simp) 21 _ #[.slice a1 a.1.length b1] (fun w=>by go_simp) rfl ?_;rintro _ ⟨n1,rfl⟩;have D1:Below W6.heap.size W6 (W6.drewN n1):=⟨rfl,rfl,rfl,Nat.le_refl _,fun _ _=>rfl⟩;refine(zAz a1 b1 a.1 _ (HRC.out _ (BW6.trans (D1.mono BW6.size))) (by have:=HCT.out;omega)).mono ?_;rintro e w3 ⟨u3,rfl,k3,hb3⟩;refine⟨_,rfl,⟨⟨w3,Only.below hb3⟩,rfl⟩,?_⟩;obtain⟨pu,qu,rfl,-⟩:=k3.rd;have E3:=Below.step D1 hb3;replace k3:Own w3 W6.heap.size (.slice pu a.1.length qu) a.1:=k3;clear D1 hb3;refine Gen.wpM_only (i:=5) (by kernel_rfl) ?_;refine Gen.mOp_make rfl (by go_simp) ?_;rintro _ ⟨n4,rfl⟩;refine⟨.slice (some ⟨(w3.drewN n4).heap.size,0,none⟩) 1 1,(w3.drewN n4).alloc (.cells #[.slice pu a.1.length qu] 22),by go_simp,⟨⟨_,Only.below (zA _ _)⟩,rfl⟩,?_⟩;have D4:Below w3.heap.size w3 (w3.drewN n4):=⟨rfl,rfl,rfl,Nat.le_refl _,fun _ _=>rfl⟩;have A4:=Arr.new (w3.drewN n4) [.slice pu a.1.length qu] 22;have D5:=Below.step D4 (zA (w3.drewN n4) (.cells #[.slice pu a.1.length qu] 22));generalize (w3.drewN n4).alloc (.cells #[.slice pu a.1.length qu] 22)=w4 at *;generalize (w3.drewN n4).heap.size=g4 at *;replace k3:=k3.stay D5;replace E3:=Below.step E3 D5;clear D4 D5;refine Gen.wpM_only (i:=6) (by kernel_rfl) ?_;refine Gen.mOp_list rfl (by go_simp) (by kernel_rfl) ?_;rintro _ ⟨n5,rfl⟩;have D4:Below w4.heap.size w4 (w4.drewN n5):=⟨rfl,rfl,rfl,Nat.le_refl _,fun _ _=>rfl⟩;replace k3:=k3.stay D4;replace E3:=Below.step E3 D4;replace A4:=A4.stay D4;clear D4;generalize w4.drewN n5=w5 at *;refine zAj rfl (.tmp 27) (.tmp 31) rfl o8 k3 E3 A4 rfl rfl (Nat.le_trans (Nat.le_of_lt (Nat.lt_of_le_of_lt hGz.out hz4.out)) hW46.out) (by have:=HS.out.ln.2.1;show _≤_;omega) ?_;intro p6 q6 w6 xs6 fp6 o6 hg6 hin6 hb6;have hon:=Only.grown hg6;rw[← HG.out] at hon;refine⟨rfl,hon,?_⟩;have N1:=List.nodup_append.1 HNd.out;have N2:=List.nodup_append.1 N1.2.1;have N3:=List.nodup_append.1 N2.2.1;have E6:Below W6.heap.size W6 w5:=E3;replace AS6:=(AS6.stay E3).other hg6 (fun e=>hGgz (by rw[HG.out];exact mem_opt.2 e));replace R6:=(R6.stay E3).other hg6 (fun e=>hGr.out (by rw[HG.out];exact mem_opt.2 e));replace ku6:=(ku6.stay E3).other hg6 (fun j hj e=>N1.2.2 j (mem_opt.2 hj) j (List.mem_append_right _ (List.mem_append_left _ (hGb j (by rw[HG.out];exact mem_opt.2 e)))) rfl);replace kd6:=holdsC.other (holdsC.stay kd6 E3) hon (fun k hk hF=>N3.2.2 k (hGb k hF) k hk rfl)
  replace kw6:=blksC.other (blksC.stay kw6 E3) hon (fun k hk hF=>by
    rcases HW5.out k hk with h1 | h1
    · have:=(HLt.out k (List.mem_append_right _ (List.mem_append_right _ (List.mem_append_left _ (hGb k hF))))).2;omega
    · exact N2.2.2 k h1 k (List.mem_append_left _ (hGb k hF)) rfl)
  have BW7:Below w.heap.size w w6:=(BW6.trans (E3.mono BW6.size)).trans (hb6.mono (by have:=hz2.out;omega))
  have HI6:Hid (∀ k,k∈(Value.slice p6 (x.2.2.2.1.length+1) q6).ownBlock.toList++fp6→k∈fb∨W6.heap.size≤k):=fun k hk=>by rw[r8];exact hin6 k hk
  clear hon hg6 hin6 hb6 k3 E3 E6 A4 N1 N2 N3 BW6 o8 r8 hGb hGgz hGa HG hGr;have hne:=only_some G w6;refine Gen.wpM_more (only_pre G) [7] 1 0 rfl (by kernel_rfl) (by kernel_rfl) (by kernel_rfl) (by kernel_rfl) ?_;simp only[zL,List.getElem?_toArray,List.getElem?_cons_zero,List.getElem?_cons_succ]
  go_simp
  repeat (go_big_quiet_step (fail))
  refine wpQuiet_nil ?_;clear hne;refine Gen.wpM_end (by kernel_rfl) rfl (by kernel_rfl) (by decide) ?_;rintro _ ⟨n7,rfl⟩;have D7:Below w6.heap.size w6 (w6.drewN n7):=⟨rfl,rfl,rfl,Nat.le_refl _,fun _ _=>rfl⟩;replace AS6:=AS6.stay D7;replace R6:=R6.stay D7;replace ku6:=ku6.stay D7;replace kw6:=blksC.stay kw6 D7;replace kd6:=holdsC.stay kd6 D7;replace o6:=o6.stay D7;replace BW7:=Below.step BW7 D7;clear D7;generalize w6.drewN n7=W7 at *;simp only[List.drop_succ_cons,List.drop_zero];have d0:=zQ (AS6.cell 0) rfl;have d1:=zQ (AS6.cell 1) rfl;have d2:=zQ (AS6.cell 2) rfl;have d3:=zQ (AS6.cell 3) rfl;have d4:=zQ (AS6.cell 4) rfl;have fz:=AS6.frozen;have hgz7:Hid (gz<W7.heap.size):=AS6.lt;have gS:=zAM W7 gz 3 (.slice p6 (x.2.2.2.1.length+1) q6);have m1:bytC.own (W7.setCell ⟨gz,3,none⟩ (.slice p6 (x.2.2.2.1.length+1) q6)) w2.heap.size x.1 [.slice s1 x.1.length t1] _:=⟨_,rfl,ku6.other gS (fun j hj e=>NE.out j (List.mem_append_left _ (mem_opt.2 hj)) (Option.some.inj e).symm),rfl⟩;have m5:=holdsC.other kd6 (Only.grown gS) (fun k hk h=>NE.out k (List.mem_append_right _ (List.mem_append_right _ (List.mem_append_right _ hk))) (by simpa using h))
  have m3:=blksC.other kw6 (Only.grown gS) (fun k hk h=>by
    have hk2:k=gz:=by simpa using h
    rcases HW5.out k hk with h1 | h1
    · have:=hz4.out;omega
    · exact NE.out k (List.mem_append_right _ (List.mem_append_left _ h1)) hk2)
  have m4:blksC.own (W7.setCell ⟨gz,3,none⟩ (.slice p6 (x.2.2.2.1.length+1) q6)) w2.heap.size (x.2.2.2.1++[a.1]) [.slice p6 (x.2.2.2.1.length+1) q6] _:=blksC.other (⟨_,_,_,rfl,o6,rfl⟩:blksC.own W7 w2.heap.size (x.2.2.2.1++[a.1]) [.slice p6 (x.2.2.2.1.length+1) q6] _) (Only.grown gS) (fun k hk h=>by
    have hk2:k=gz:=by simpa using h
    rcases HI6.out k hk with h1 | h1
    · exact NE.out k (List.mem_append_right _ (List.mem_append_right _ (List.mem_append_left _ h1))) hk2
    · have:=hGz6.out;omega)
  have R:=R6.setOther (a:=⟨gz,3,none⟩) (by show _≠_;have h1:=hGz.out;have h2:=hz2.out;simp;omega) (.slice p6 (x.2.2.2.1.length+1) q6);have BW:=BW7.setCell (p:=⟨gz,3,none⟩) (by show w.heap.size≤gz;have h1:=hGz.out;have h2:=hz2.out;omega) (.slice p6 (x.2.2.2.1.length+1) q6)
  have hres:Hid ((Tryz.prog.info? 27).map (·.size)=some 5):=by show _=_;kernel_rfl
  have hlow:Hid (w.heap.size+1+1<w2.heap.size):=by show _<_;have h2:=hz2.out;omega
  clear AS6 R6 ku6 kw6 kd6 o6 BW7 gS HI6 HW5 NE HLt HNd;go_wp2_with (refine wpList_store_row rfl 27 _ _ rfl (w.heap.size+1+1) #[.slice s1 x.1.length t1,.int .i64 x.2.1,.slice pw (wiN x.2.2.1 a.1).length qw,.slice p6 (x.2.2.2.1.length+1) q6,.slice s5 (zAO x.2.2.2.2 (a.2.1.1,a.2.1.2.2)).length t5] rfl rfl 27 #[.slice none 0 0,.int .i64 0,.slice none 0 0,.slice none 0 0,.slice none 0 0] R hres.out rfl (by simp[Value.oneCell']) ?_);have n1:=bytC.rowS m1 hlow.out #[.slice s1 x.1.length t1,.int .i64 x.2.1,.slice pw (wiN x.2.2.1 a.1).length qw,.slice p6 (x.2.2.2.1.length+1) q6,.slice s5 (zAO x.2.2.2.2 (a.2.1.1,a.2.1.2.2)).length t5];have n3:=blksC.rowS m3 hlow.out #[.slice s1 x.1.length t1,.int .i64 x.2.1,.slice pw (wiN x.2.2.1 a.1).length qw,.slice p6 (x.2.2.2.1.length+1) q6,.slice s5 (zAO x.2.2.2.2 (a.2.1.1,a.2.1.2.2)).length t5];have n4:=blksC.rowS m4 hlow.out #[.slice s1 x.1.length t1,.int .i64 x.2.1,.slice pw (wiN x.2.2.1 a.1).length qw,.slice p6 (x.2.2.2.1.length+1) q6,.slice s5 (zAO x.2.2.2.2 (a.2.1.1,a.2.1.2.2)).length t5];have n5:=holdsC.rowS m5 hlow.out #[.slice s1 x.1.length t1,.int .i64 x.2.1,.slice pw (wiN x.2.2.1 a.1).length qw,.slice p6 (x.2.2.2.1.length+1) q6,.slice s5 (zAO x.2.2.2.2 (a.2.1.1,a.2.1.2.2)).length t5]
  have hwl:w.heap.size≤w2.heap.size:=by have:=hlow.out;omega
  have hrep:SesNew w.heap.size _ (ansN x a) [.slice s1 x.1.length t1,.int .i64 x.2.1,.slice pw (wiN x.2.2.1 a.1).length qw,.slice p6 (x.2.2.2.1.length+1) q6,.slice s5 (zAO x.2.2.2.2 (a.2.1.1,a.2.1.2.2)).length t5]:=fun V hV=>by
    have t:=zBA (a:=ansN x a) (zMT (bytC.fr n1 fun k hk=>hV k (Nat.le_trans hwl (bytC.ins n1 k hk).1) (bytC.ins n1 k hk).2)) (zHs (blksC.fr n3 fun k hk=>hV k (Nat.le_trans hwl (blksC.ins n3 k hk).1) (blksC.ins n3 k hk).2)) (zHs (blksC.fr n4 fun k hk=>hV k (Nat.le_trans hwl (blksC.ins n4 k hk).1) (blksC.ins n4 k hk).2)) (zJy (holdsC.fr n5 fun k hk=>hV k (Nat.le_trans hwl (holdsC.ins n5 k hk).1) (holdsC.ins n5 k hk).2));rw[show(ansN x a).2.2.2.1.length=x.2.2.2.1.length+1 by show(x.2.2.2.1++[a.1]).length=_;simp] at t;exact t
  exact bodyPost_ret (v:=.agg #[.slice s1 x.1.length t1,.int .i64 x.2.1,.slice pw (wiN x.2.2.1 a.1).length qw,.slice p6 (x.2.2.2.1.length+1) q6,.slice s5 (zAO x.2.2.2.2 (a.2.1.1,a.2.1.2.2)).length t5]) (results_cell_row Tryz.results38 _ _ (w.heap.size+1+1) 27 _ (0,0) _ rfl (R.row [.slice s1 x.1.length t1,.int .i64 x.2.1,.slice pw (wiN x.2.2.1 a.1).length qw,.slice p6 (x.2.2.2.1.length+1) q6,.slice s5 (zAO x.2.2.2.2 (a.2.1.1,a.2.1.2.2)).length t5]) Tryz.underlying27 rfl hres.out) rfl ⟨_,rfl,hrep,Below.row BW (by omega) _⟩
theorem zIW (x:SesD) (us:List Value) (c:List UInt8) (pc:Option Addr) (qc:Nat) (w:World) (h:sessionC.rep w x us) (hrc:Rd w pc qc c) (hc:acC hdS x c≠0):
    Calls Tryz.prog 7 #[.agg us.toArray,.slice pc c.length qc] w fun e w'=>∃ vs,e=.returned (.agg (.int .i64 (acC hdS x c) :: vs).toArray)∧Below w.heap.size w w':=by
  obtain⟨p1,q1,p3,q3,p4,q4,p5,q5,rfl,r1,r3,r4,r5⟩:=zN h;have A0:=Arr.new w [.slice p1 x.1.length q1,.int .i64 x.2.1,.slice p3 x.2.2.1.length q3,.slice p4 x.2.2.2.1.length q4,.slice p5 x.2.2.2.2.length q5] 27;have B0:=zA w (.cells #[.slice p1 x.1.length q1,.int .i64 x.2.1,.slice p3 x.2.2.1.length q3,.slice p4 x.2.2.2.1.length q4,.slice p5 x.2.2.2.2.length q5] 27);have R:=Arr.new (w.alloc (.cells #[.slice p1 x.1.length q1,.int .i64 x.2.1,.slice p3 x.2.2.1.length q3,.slice p4 x.2.2.2.1.length q4,.slice p5 x.2.2.2.2.length q5] 27)) [.int .i64 0,.int .i64 0,.slice none 0 0,.int .i64 0,.slice none 0 0,.slice none 0 0,.slice none 0 0] 31;rw[zD] at R;have A:=A0.old _ (.cells #[.int .i64 0,.int .i64 0,.slice none 0 0,.int .i64 0,.slice none 0 0,.slice none 0 0,.slice none 0 0] 31);have BW:=Below.mk B0 (.cells #[.int .i64 0,.int .i64 0,.slice none 0 0,.int .i64 0,.slice none 0 0,.slice none 0 0,.slice none 0 0] 31);have AT:=(AtSes.new w (t:=27) (p1:=p1) (q1:=q1) (p3:=p3) (q3:=q3) (p4:=p4) (q4:=q4) (p5:=p5) (q5:=q5) (x:=x)).keep (zA _ (.cells #[.int .i64 0,.int .i64 0,.slice none 0 0,.int .i64 0,.slice none 0 0,.slice none 0 0,.slice none 0 0] 31))
  have hz2:Hid (((w.alloc (.cells #[.slice p1 x.1.length q1,.int .i64 x.2.1,.slice p3 x.2.2.1.length q3,.slice p4 x.2.2.2.1.length q4,.slice p5 x.2.2.2.2.length q5] 27)).alloc (.cells #[.int .i64 0,.int .i64 0,.slice none 0 0,.int .i64 0,.slice none 0 0,.slice none 0 0,.slice none 0 0] 31)).heap.size=w.heap.size+2):=by show _=_;rw[zD,zD]
  have hres:Hid ((Tryz.prog.info? 31).map (·.size)=some 7):=by show _=_;kernel_rfl
  have HREP:Hid (∀ V,Below w.heap.size w V→sessionC.rep V x [.slice p1 x.1.length q1,.int .i64 x.2.1,.slice p3 x.2.2.1.length q3,.slice p4 x.2.2.2.1.length q4,.slice p5 x.2.2.2.2.length q5]):=fun V hV=>sessionC.keep h hV
  have HR1:Hid (∀ V,Below w.heap.size w V→Rd V p1 q1 x.1):=fun V hV=>r1.keep hV
  have HR3:Hid (∀ V,Below w.heap.size w V→RdL bytC V p3 q3 x.2.2.1):=fun V hV=>r3.keep hV
  have HR4:Hid (∀ V,Below w.heap.size w V→RdL bytC V p4 q4 x.2.2.2.1):=fun V hV=>r4.keep hV
  have HR5:Hid (∀ V,Below w.heap.size w V→RdL holdC V p5 q5 x.2.2.2.2):=fun V hV=>r5.keep hV
  have HRC:Hid (∀ V,Below w.heap.size w V→Rd V pc qc c):=fun V hV=>hrc.keep hV
  have HC:Hid (acC hdS x c≠0):=hc;have HE:Hid (acC hdS x c=if seF hdS x=0 then (if ctxB c then (if hsB x.2.2.1 c=true∨hsB x.2.2.2.1 c=true then 6 else (if 6≤x.2.2.1.length∨40≤x.2.2.1.length+x.2.2.2.1.length then 10 else 0)) else 2) else seF hdS x):=rfl;have HS:Hid (seF hdS x=0→Ses x):=seS_iff.1;have K1:=zDX w.heap.size 0 p1 p3 p4 p5 q1 q3 q4 q5 x _ AT (r3.keep BW) (r4.keep BW) (r5.keep BW)
  have HAT:Hid (∀ V,Below ((w.alloc (.cells #[.slice p1 x.1.length q1,.int .i64 x.2.1,.slice p3 x.2.2.1.length q3,.slice p4 x.2.2.2.1.length q4,.slice p5 x.2.2.2.2.length q5] 27)).alloc (.cells #[.int .i64 0,.int .i64 0,.slice none 0 0,.int .i64 0,.slice none 0 0,.slice none 0 0,.slice none 0 0] 31)).heap.size ((w.alloc (.cells #[.slice p1 x.1.length q1,.int .i64 x.2.1,.slice p3 x.2.2.1.length q3,.slice p4 x.2.2.2.1.length q4,.slice p5 x.2.2.2.2.length q5] 27)).alloc (.cells #[.int .i64 0,.int .i64 0,.slice none 0 0,.int .i64 0,.slice none 0 0,.slice none 0 0,.slice none 0 0] 31)) V→AtSes V w.heap.size 0 p1 q1 p3 q3 p4 q4 p5 q5 x):=fun V hV=>AT.keep hV
  clear h hrc hc r1 r3 r4 r5 A0 B0 AT;go_enter Tryz.func7,Tryz.ntmps7;go_wp2_with fail;refine K1.mono ?_;rintro e w1 ⟨rfl,hb⟩;replace R:=R.stay hb;replace A:=A.stay hb;replace BW:=Below.step BW hb;clear K1 hb
  by_cases h0:seF hdS x=0
  case neg=>
    have dk:(seF hdS x != 0)=true:=by rw[bne_iff_ne];exact h0
    have hz:Hid (acC hdS x c=seF hdS x):=by show _=_;rw[HE.out,if_neg h0]
    clear HE HS h0 A HAT;generalize seF hdS x=k at *;go_wp2_with fail;refine(zA5 k _).mono ?_;rintro e w9 ⟨rfl,hb⟩;replace R:=R.stay hb;replace BW:=Below.step BW hb;clear hb;go_wp2_with (refine wpList_store_row rfl 31 _ _ rfl (w.heap.size+1) #[.int .i64 k,.int .i64 0,.slice none 0 0,.int .i64 0,.slice none 0 0,.slice none 0 0,.slice none 0 0] rfl rfl 31 #[.int .i64 0,.int .i64 0,.slice none 0 0,.int .i64 0,.slice none 0 0,.slice none 0 0,.slice none 0 0] R hres.out rfl (by simp[Value.oneCell']) ?_);exact bodyPost_ret (v:=.agg #[.int .i64 k,.int .i64 0,.slice none 0 0,.int .i64 0,.slice none 0 0,.slice none 0 0,.slice none 0 0]) (results_cell_row Tryz.results7 _ _ (w.heap.size+1) 31 _ (0,0) _ rfl (R.row [.int .i64 k,.int .i64 0,.slice none 0 0,.int .i64 0,.slice none 0 0,.slice none 0 0,.slice none 0 0]) Tryz.underlying31 rfl hres.out) rfl ⟨_,by rw[hz.out],Below.row BW (Nat.le_succ _) _⟩
  have HE2:Hid (acC hdS x c=if ctxB c then (if hsB x.2.2.1 c=true∨hsB x.2.2.2.1 c=true then 6 else (if 6≤x.2.2.1.length∨40≤x.2.2.1.length+x.2.2.2.1.length then 10 else 0)) else 2):=by show _=_;rw[HE.out,if_pos h0]
  have hS:Hid (Ses x):=HS.out h0;rw[h0];clear HE HS h0 HAT hz2
  have KC:=fun W=>zCW pc qc c W
  cases h1:ctxB c
  · rw[h1] at KC
    have hz:Hid (acC hdS x c=2):=by show _=_;rw[HE2.out,h1];rfl
    clear HE2 h1 A;go_wp2_with (go_at_call 24;refine(KC _).mono ?_;rintro e w' ⟨rfl,rfl⟩)
    try clear KC
    skip
    refine(zA5 2 _).mono ?_;rintro e w9 ⟨rfl,hb⟩;replace R:=R.stay hb;replace BW:=Below.step BW hb;clear hb;go_wp2_with (refine wpList_store_row rfl 31 _ _ rfl (w.heap.size+1) #[.int .i64 2,.int .i64 0,.slice none 0 0,.int .i64 0,.slice none 0 0,.slice none 0 0,.slice none 0 0] rfl rfl 31 #[.int .i64 0,.int .i64 0,.slice none 0 0,.int .i64 0,.slice none 0 0,.slice none 0 0,.slice none 0 0] R hres.out rfl (by simp[Value.oneCell']) ?_);exact bodyPost_ret (v:=.agg #[.int .i64 2,.int .i64 0,.slice none 0 0,.int .i64 0,.slice none 0 0,.slice none 0 0,.slice none 0 0]) (results_cell_row Tryz.results7 _ _ (w.heap.size+1) 31 _ (0,0) _ rfl (R.row [.int .i64 2,.int .i64 0,.slice none 0 0,.int .i64 0,.slice none 0 0,.slice none 0 0,.slice none 0 0]) Tryz.underlying31 rfl hres.out) rfl ⟨_,by rw[hz.out],Below.row BW (Nat.le_succ _) _⟩
  rw[h1] at KC
  have HE3:Hid (acC hdS x c=if hsB x.2.2.1 c=true∨hsB x.2.2.2.1 c=true then 6 else (if 6≤x.2.2.1.length∨40≤x.2.2.1.length+x.2.2.2.1.length then 10 else 0)):=by show _=_;rw[HE2.out,h1];rfl
  clear HE2 h1;have KH:=zCj x.2.2.1 c p3 pc q3 qc w1 (HR3.out _ BW) (HRC.out _ BW);have c2:=zQ (A.cell 2) rfl;have c3:=zQ (A.cell 3) rfl;go_wp2_with (go_at_call 24;refine(KC _).mono ?_;rintro e w' ⟨rfl,rfl⟩);refine KH.mono ?_;rintro e w2 ⟨rfl,hb⟩;replace R:=R.stay hb;replace A:=A.stay hb;replace BW:=Below.step BW hb;clear KH hb c2 c3;cases h2:hsB x.2.2.1 c
  case true=>
    have hz:Hid (acC hdS x c=6):=by show _=_;rw[HE3.out,if_pos (.inl h2)]
    clear HE3 h2 A;go_wp2_with fail;refine(zA5 6 _).mono ?_;rintro e w9 ⟨rfl,hb⟩;replace R:=R.stay hb;replace BW:=Below.step BW hb;clear hb;go_wp2_with (refine wpList_store_row rfl 31 _ _ rfl (w.heap.size+1) #[.int .i64 6,.int .i64 0,.slice none 0 0,.int .i64 0,.slice none 0 0,.slice none 0 0,.slice none 0 0] rfl rfl 31 #[.int .i64 0,.int .i64 0,.slice none 0 0,.int .i64 0,.slice none 0 0,.slice none 0 0,.slice none 0 0] R hres.out rfl (by simp[Value.oneCell']) ?_);exact bodyPost_ret (v:=.agg #[.int .i64 6,.int .i64 0,.slice none 0 0,.int .i64 0,.slice none 0 0,.slice none 0 0,.slice none 0 0]) (results_cell_row Tryz.results7 _ _ (w.heap.size+1) 31 _ (0,0) _ rfl (R.row [.int .i64 6,.int .i64 0,.slice none 0 0,.int .i64 0,.slice none 0 0,.slice none 0 0,.slice none 0 0]) Tryz.underlying31 rfl hres.out) rfl ⟨_,by rw[hz.out],Below.row BW (Nat.le_succ _) _⟩
  have c3:=zQ (A.cell 3) rfl;have KH:=zCj x.2.2.2.1 c p4 pc q4 qc w2 (HR4.out _ BW) (HRC.out _ BW);go_wp2_with fail;refine KH.mono ?_;rintro e w3 ⟨rfl,hb⟩;replace R:=R.stay hb;replace A:=A.stay hb;replace BW:=Below.step BW hb;clear KH hb c3;cases h3:hsB x.2.2.2.1 c
  case true=>
    have hz:Hid (acC hdS x c=6):=by show _=_;rw[HE3.out,if_pos (.inr h3)]
    clear HE3 h2 h3 A;go_wp2_with fail;refine(zA5 6 _).mono ?_;rintro e w9 ⟨rfl,hb⟩;replace R:=R.stay hb;replace BW:=Below.step BW hb;clear hb;go_wp2_with (refine wpList_store_row rfl 31 _ _ rfl (w.heap.size+1) #[.int .i64 6,.int .i64 0,.slice none 0 0,.int .i64 0,.slice none 0 0,.slice none 0 0,.slice none 0 0] rfl rfl 31 #[.int .i64 0,.int .i64 0,.slice none 0 0,.int .i64 0,.slice none 0 0,.slice none 0 0,.slice none 0 0] R hres.out rfl (by simp[Value.oneCell']) ?_);exact bodyPost_ret (v:=.agg #[.int .i64 6,.int .i64 0,.slice none 0 0,.int .i64 0,.slice none 0 0,.slice none 0 0,.slice none 0 0]) (results_cell_row Tryz.results7 _ _ (w.heap.size+1) 31 _ (0,0) _ rfl (R.row [.int .i64 6,.int .i64 0,.slice none 0 0,.int .i64 0,.slice none 0 0,.slice none 0 0,.slice none 0 0]) Tryz.underlying31 rfl hres.out) rfl ⟨_,by rw[hz.out],Below.row BW (Nat.le_succ _) _⟩
  have HE4:Hid (acC hdS x c=if 6≤x.2.2.1.length∨40≤x.2.2.1.length+x.2.2.2.1.length then 10 else 0):=by show _=_;rw[HE3.out,if_neg (by rw[h2,h3];simp)]
  clear HE3 h2 h3
  by_cases h4:6≤x.2.2.1.length∨40≤x.2.2.1.length+x.2.2.2.1.length
  case neg=>exact absurd (by rw[HE4.out,if_neg h4]) HC.out
  have hz:Hid (acC hdS x c=10):=by show _=_;rw[HE4.out,if_pos h4]
  have hl1:(x.2.2.1.length:Int)≤6:=by have:=hS.out.ln.1;omega
  have hl2:(x.2.2.2.1.length:Int)≤40:=by have:=hS.out.ln.2.1;omega
  have c2:=zQ (A.cell 2) rfl;have c3:=zQ (A.cell 3) rfl;clear HE4 A
  by_cases h5:6≤x.2.2.1.length
  · have i1:6≤(x.2.2.1.length:Int):=by omega
    clear h4 h5;go_wp2_with fail;refine(zA5 10 _).mono ?_;rintro e w9 ⟨rfl,hb⟩;replace R:=R.stay hb;replace BW:=Below.step BW hb;clear hb;go_wp2_with (refine wpList_store_row rfl 31 _ _ rfl (w.heap.size+1) #[.int .i64 10,.int .i64 0,.slice none 0 0,.int .i64 0,.slice none 0 0,.slice none 0 0,.slice none 0 0] rfl rfl 31 #[.int .i64 0,.int .i64 0,.slice none 0 0,.int .i64 0,.slice none 0 0,.slice none 0 0,.slice none 0 0] R hres.out rfl (by simp[Value.oneCell']) ?_);exact bodyPost_ret (v:=.agg #[.int .i64 10,.int .i64 0,.slice none 0 0,.int .i64 0,.slice none 0 0,.slice none 0 0,.slice none 0 0]) (results_cell_row Tryz.results7 _ _ (w.heap.size+1) 31 _ (0,0) _ rfl (R.row [.int .i64 10,.int .i64 0,.slice none 0 0,.int .i64 0,.slice none 0 0,.slice none 0 0,.slice none 0 0]) Tryz.underlying31 rfl hres.out) rfl ⟨_,by rw[hz.out],Below.row BW (Nat.le_succ _) _⟩
  · have i1:¬ (6≤(x.2.2.1.length:Int)):=by omega
    have i2:40≤(x.2.2.1.length:Int)+(x.2.2.2.1.length:Int):=by omega
    clear h4 h5;go_wp2_with fail;refine(zA5 10 _).mono ?_;rintro e w9 ⟨rfl,hb⟩;replace R:=R.stay hb;replace BW:=Below.step BW hb;clear hb;go_wp2_with (refine wpList_store_row rfl 31 _ _ rfl (w.heap.size+1) #[.int .i64 10,.int .i64 0,.slice none 0 0,.int .i64 0,.slice none 0 0,.slice none 0 0,.slice none 0 0] rfl rfl 31 #[.int .i64 0,.int .i64 0,.slice none 0 0,.int .i64 0,.slice none 0 0,.slice none 0 0,.slice none 0 0] R hres.out rfl (by simp[Value.oneCell']) ?_);exact bodyPost_ret (v:=.agg #[.int .i64 10,.int .i64 0,.slice none 0 0,.int .i64 0,.slice none 0 0,.slice none 0 0,.slice none 0 0]) (results_cell_row Tryz.results7 _ _ (w.heap.size+1) 31 _ (0,0) _ rfl (R.row [.int .i64 10,.int .i64 0,.slice none 0 0,.int .i64 0,.slice none 0 0,.slice none 0 0,.slice none 0 0]) Tryz.underlying31 rfl hres.out) rfl ⟨_,by rw[hz.out],Below.row BW (Nat.le_succ _) _⟩
theorem zLC (a b:Option Addr) (ca cb:Nat) (xs bs:List UInt8) (w:World) (hra:Rd w a ca xs) (hrb:Rd w b cb bs):
    Calls Tryz.prog 57 #[.slice a xs.length ca,.slice b bs.length cb] w fun e w'=>e=.returned (.bool (zAb xs bs))∧Below w.heap.size w w':=(zDv a b ca cb xs bs w hra hrb).mono fun _ _ h=>⟨h.1,by rw[h.2];exact Below.refl _ _⟩
theorem zJz {l:List (List UInt8)} {k:Nat} {a c:List UInt8} (h:l[k]?=some a):wiN (l.take (k+1)) c=if zAb a c then wiN (l.take k) c else wiN (l.take k) c++[a]:=by
  unfold wiN;rw[List.take_add_one,h,List.filter_append]
  cases hs:zAb a c <;> simp[hs]
theorem zMU (l:List (List UInt8)) (c:List UInt8):(wiN l c).length≤l.length:=List.length_filter_le _ _
theorem zGV (l:List (List UInt8)) (c:List UInt8) (p pc:Option Addr) (q qc:Nat) (w:World) (hr:RdL bytC w p q l) (hrc:Rd w pc qc c) (hc:∀ c∈l,c.length≤100000) (hl:l.length≤1000):
    Calls Tryz.prog 41 #[.slice p l.length q,.slice pc c.length qc] w fun e w'=>∃ u n t,e=.returned (.slice u n t)∧Below w.heap.size w w':=by
  have HR:Hid (RdL bytC w p q l):=hr
  have HRC:Hid (∀ V,Below w.heap.size w V→Rd V pc qc c):=fun V hV=>hrc.keep hV
  have hq1:l.length≤q:=hr.1;have hq2:q≤2 ^ 63-1:=hr.2.1;have HC:Hid (∀ c∈l,c.length≤100000):=hc;have HL:Hid (l.length≤1000):=hl;have O1:=zGP w w.heap.size (Nat.le_refl _);have B1:=zA w (.cells #[] 22);clear hr hc hl hrc;go_enter Tryz.func41,Tryz.ntmps41;go_wp2_with fail
  go_loopw [5,6] (fun v i wr=>∃ (k:Nat) (xs:List Value) (fp:List Nat),k≤l.length∧i=.int .i64 k∧OwnL 22 bytC wr w.heap.size v (wiN (l.take k) c) xs fp∧Below w.heap.size w wr)
    (fun _ i _=>l.length-(intOf i).toNat)
  case atStart=>exact⟨0,[],[],Nat.zero_le _,rfl,O1,B1⟩
  case round=>
    clear O1 B1;obtain⟨k,xs,fp,hk,rfl,ho,BW⟩:=hrel
    by_cases hlt:k<l.length
    · have hI:(k:Int)<(l.length:Int):=by omega
      obtain⟨b,o,e1,hcc⟩:=(HR.out.keep BW).2.2.2 (by omega);subst e1;obtain⟨a,ha⟩:∃ a,l[k]?=some a:=⟨l[k],by simp[hlt]⟩;obtain⟨us,hrep,hcell⟩:=hcc k a ha;obtain⟨pa,qa,rfl,ra⟩:=zCP hrep;have c0:=hcell 0 _ rfl;rw[show bytC.n=1 from rfl,Nat.mul_one,Nat.add_zero] at c0;have KS:=zLC pa pc qa qc a c wr ra (HRC.out _ BW);have HAl:Hid (a.length≤100000):=HC.out a (List.mem_of_getElem? ha);have HW:=zJz (c:=c) ha
      have HTl:Hid ((wiN (l.take k) c).length≤1000):=by show _≤_;have:=zMU (l.take k) c;rw[List.length_take] at this;have:=HL.out;omega
      have HRA:Hid (Rd wr pa qa a):=ra;clear hcc hcell hrep ra;cases hs:zAb a c
      · rw[hs] at KS HW;rw[if_neg (by decide)] at HW;obtain⟨po,qo,rfl,-⟩:=ho.rd;generalize wiN (l.take k) c=out at *;go_wp2_with fail;refine KS.mono ?_;rintro e w2 ⟨rfl,hb⟩;replace ho:=ho.stay hb;replace BW:=Below.step BW hb;replace c0:=zE c0 hb;have KC:=zBU pa qa a w2 (HRA.out.keep hb) (by have:=HAl.out;omega);have HO:Hid (OwnL 22 bytC w2 w.heap.size (.slice po out.length qo) out xs fp):=ho;have HB:Hid (w.heap.size≤w2.heap.size):=BW.size;clear KS hb ho;go_wp2_with fail;refine KC.mono ?_;rintro e w3 ⟨u3,rfl,k3,hb3⟩;have BW3:=Below.step BW hb3;have HU:Hid (Own w3 w2.heap.size u3 a):=k3;have HB3:Hid (Below w2.heap.size w2 w3):=hb3;obtain⟨pu,qu,rfl,-⟩:=k3.rd;have BW4:=Below.mk BW3 (.cells #[.slice pu a.length qu] 22);clear KC k3 hb3 c0 BW BW3;go_wp2_with (at_builtin;refine zBC rfl (.tmp 21) (.tmp 27) rfl HO.out HU.out HB3.out rfl rfl HB.out HTl.out ?_;intro p6 q6 w6 xs6 fp6 ho6 _ _ hb6);have BW6:=BW4.trans hb6;clear BW4 hb6 HO HU HB3;go_roundw
        case rel=>exact⟨k+1,_,_,by omega,by go_num,by rw[HW];exact ho6,BW6⟩
        case measure=>simp[intOf];omega
      · rw[hs] at KS HW;rw[if_pos rfl] at HW;generalize wiN (l.take k) c=out at *;go_wp2_with fail;refine KS.mono ?_;rintro e w2 ⟨rfl,hb⟩;replace ho:=ho.stay hb;replace BW:=Below.step BW hb;clear KS hb c0;go_wp2_with fail;go_roundw
        case rel=>exact⟨k+1,_,_,by omega,by go_num,by rw[HW];exact ho,BW⟩
        case measure=>simp[intOf];omega
    · have e:k=l.length:=by omega
      subst e;obtain⟨po,qo,rfl,-⟩:=ho.rd;go_wp2_with fail;go_ret;exact⟨_,_,_,rfl,BW⟩
theorem zLD (x:SesD) (us:List Value) (id now:Int) (w:World) (h:sessionC.rep w x us) (hid:(Lit.int .i64 id).wf=true):
    Calls Tryz.prog 12 #[.agg us.toArray,.int .i64 id,.int .i64 now] w fun e w'=>e=.returned (.bool (hoB hdS x id now))∧Below w.heap.size w w':=by
  have k:=zK7 x us id now w h hid;rw[zMB] at k;exact k
end Go.Proofs.YtbaldmmbphbinaaGreatDoor
