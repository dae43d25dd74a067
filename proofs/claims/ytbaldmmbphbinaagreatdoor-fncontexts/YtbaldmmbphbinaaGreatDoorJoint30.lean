import Derived.Test.YtbaldmmbphbinaaGreatDoorSesA
import Derived.Test.YtbaldmmbphbinaaGreatDoorJoint8
set_option maxHeartbeats 2000000
set_option maxRecDepth 4000
namespace Go.Proofs.YtbaldmmbphbinaaGreatDoor
open Go.ChangeShapes Go.WideShapes Go.ChangeAt Go.RowKit
theorem zDJ {ops:Array Oper} {rest:List Oper} {o:Oper} {a:Act} {Q:Exit→Act→World→Prop} {w:World} {B g n:Nat} {v x:Value} {ys:List Value} (hgd:o.guard=none) (s y:Operand)
    (ho:o.op=.call { callee:=.builtin .append,args:=#[s,y],argTypes:=#[24,24] })
    (hO:w.ownsRow B 22 1 v n ys) (hA:Arr w g 22 [x]) (h1:x.oneCell'=true) (hs:a.eval s=v) (hx:a.eval y=.slice (some ⟨g,0,none⟩) 1 1) (hB:B≤w.heap.size) (hn:n≤2000)
    (h:∀ p q w',w'.ownsRow B 22 1 (.slice p (n+1) q) (n+1) (ys++[x])→Below B w w'→wpList Tryz.prog ops Q rest (a.put o.dst (.slice p (n+1) q)) w'):wpList Tryz.prog ops Q (o :: rest) a w:=by
  obtain⟨i0,hi,hz0,hz1,hz2⟩:=info_parts zCv
  have hnew:∀ j u,([x]:List Value)[j]?=some u→w.cell? ((⟨g,0,none⟩:Addr).add j)=some u:=fun j u hj=>hA.cells j u hj
  refine wpList_append_lies _ hgd s y 24 ho B 22 i0 (.slice none 0 0) 1 24 Tryz.underlying24 hi hz0 hz1 hz2 rfl (by decide) _ n ys hs hO ⟨g,0,none⟩ 1 1 [x] hx rfl hnew (by intro u hu;simp at hu;subst hu;exact h1) (by decide) (by unfold maxLen;omega) (by omega) hB _ rfl ?_;intro g6 c6 w6 hown6 hgrow6 hat6 hlt6;exact h _ _ _ hown6 ((Below.refl B _).grown hgrow6 hB fun k hk=>(World.ownsRow.lt hO k hk).1)
theorem zGS {w:World} {B B' n z:Nat} {t:TypeId} {v:Value} {ys:List Value} (h:w.ownsRow B t z v n ys) (hb:B'≤B):w.ownsRow B' t z v n ys:=by
  obtain⟨h1,h2⟩:=h;refine⟨h1,?_⟩;rcases h2 with h2 | ⟨g,cap,cur,rfl,hg,r⟩
  · exact .inl h2
  · exact .inr ⟨g,cap,cur,rfl,by omega,r⟩
def zCE:List (List UInt8)→List Value→List UInt8→List Value
  | a :: l,v :: xs,c=>if zAb a c then zCE l xs c else v :: zCE l xs c
  | _,_,_=>[]
theorem zGT (xs:List Value) (c:List UInt8):zCE [] xs c=[]:=by unfold zCE;rfl
theorem zE7 {c a:List UInt8} {v:Value}:∀ {l:List (List UInt8)} {xs:List Value} {k:Nat},xs.length=l.length→l[k]?=some a→xs[k]?=some v→zCE (l.take (k+1)) (xs.take (k+1)) c=if zAb a c then zCE (l.take k) (xs.take k) c else zCE (l.take k) (xs.take k) c++[v]
  | [],_,_,_,h,_=>by simp at h
  | b :: l,[],_,h,_,_=>by simp at h
  | b :: l,u :: xs,0,_,h,h2=>by
    simp only[List.getElem?_cons_zero,Option.some.injEq] at h h2;subst h h2;simp only[List.take_succ_cons,List.take_zero,zCE]
    split <;> simp
  | b :: l,u :: xs,k+1,hl,h,h2=>by
    have ih:=zE7 (c:=c) (k:=k) (l:=l) (xs:=xs) (by simpa using hl) (by simpa using h) (by simpa using h2);rw[List.take_succ_cons,List.take_succ_cons,zCE,ih,List.take_succ_cons,List.take_succ_cons,zCE]
    by_cases e1:zAb b c=true <;> by_cases e2:zAb a c=true <;> simp[e1,e2]
theorem zGU {w:World} {B:Nat} {c:List UInt8}:∀ {l:List (List UInt8)} {xs:List Value} {fp:List Nat},OwnAll bytC w B l xs fp→∃ gp,OwnAll bytC w B (wiN l c) (zCE l xs c) gp∧gp.Sublist fp
  | [],xs,fp,h=>⟨[],⟨by rw[zGT],rfl⟩,List.nil_sublist _⟩
  | a :: l,xs,fp,⟨us,ys,f,g,hx,hf,ho,hl⟩=>by
    obtain⟨gp,h1,h2⟩:=zGU (c:=c) hl;obtain⟨v,rfl,hv,rfl⟩:=ho;subst hx hf
    by_cases e:zAb a c=true
    · refine⟨gp,?_,h2.trans (List.sublist_append_right _ _)⟩;rw[show wiN (a :: l) c=wiN l c from List.filter_cons_of_neg (by simp[e]),show zCE (a :: l) ([v]++ys) c=zCE l ys c by show(if zAb a c then _ else _)=_;rw[if_pos e];rfl];exact h1
    · refine⟨v.ownBlock.toList++gp,?_,List.Sublist.append (List.Sublist.refl _) h2⟩;rw[show wiN (a :: l) c=a :: wiN l c from List.filter_cons_of_pos (by simp[e]),show zCE (a :: l) ([v]++ys) c=v :: zCE l ys c by show(if zAb a c then _ else _)=_;rw[if_neg e];rfl];exact⟨[v],_,_,_,rfl,rfl,⟨v,rfl,hv,rfl⟩,h1⟩
theorem zDa (l:List (List UInt8)) (c:List UInt8) (v:Value) (xs:List Value) (fp:List Nat) (pc:Option Addr) (qc B:Nat) (w:World) (ho:OwnL 22 bytC w B v l xs fp) (hrc:Rd w pc qc c) (hl:l.length≤1000) (hB:B≤w.heap.size):
    Calls Tryz.prog 74 #[v,.slice pc c.length qc] w fun e w'=>∃ u gp,e=.returned u∧OwnL 22 bytC w' B u (wiN l c) (zCE l xs c) gp∧(∀ k,u.ownBlock=some k→w.heap.size≤k)∧gp.Sublist fp∧Below w.heap.size w w':=by
  have hxl:xs.length=l.length:=by have:=ho.all.len;rw[show bytC.n=1 from rfl,Nat.mul_one] at this;exact this
  have HO:Hid (OwnL 22 bytC w B v l xs fp):=ho
  have HX:Hid (∀ k a,l[k]?=some a→∃ b pa qa,v=.slice (some ⟨b,0,none⟩) l.length (match v with | .slice _ _ q=>q | _=>0)∧xs[k]?=some (.slice pa a.length qa)∧w.cell? ⟨b,k,none⟩=some (.slice pa a.length qa)∧Rd w pa qa a):=fun k a ha=>by
    have hk:=(List.getElem?_eq_some_iff.1 ha).1;obtain⟨p,q,rfl,hr⟩:=ho.rd;obtain⟨b,o,rfl,hc⟩:=hr.2.2.2 (by omega);obtain⟨us,⟨pa,qa,rfl,ra⟩,hcell⟩:=hc k a ha;have c0:=hcell 0 _ rfl;rw[show bytC.n=1 from rfl,Nat.mul_one,Nat.add_zero] at c0;obtain⟨-,h2⟩:=id ho.row;rcases h2 with ⟨e,hn⟩ | ⟨g,cap,cur,e,-⟩
    · simp at e
    · simp only[Value.slice.injEq,Option.some.injEq,Addr.mk.injEq,and_true,true_and] at e;obtain⟨⟨rfl,rfl⟩,rfl⟩:=e;have hrow:=World.ownsRow.cellAt ho.row k (by rw[show bytC.n=1 from rfl];omega);rw[Nat.zero_add] at c0;exact⟨_,pa,qa,rfl,hrow.symm.trans c0,c0,ra⟩
  obtain⟨p,q,rfl,hr⟩:=ho.rd;have hq1:l.length≤q:=hr.1;have hq2:q≤2 ^ 63-1:=hr.2.1
  have HC:Hid (∀ V,Below w.heap.size w V→Rd V pc qc c):=fun V h=>hrc.keep h
  have HL:Hid (l.length≤1000):=hl;have HBB:Hid (B≤w.heap.size):=hB;clear hr ho hl hrc hB;go_enter Tryz.func74,Tryz.ntmps74;go_wp2_with fail
  go_loopw [5,10] (fun u i wr=>∃ (k:Nat),k≤l.length∧i=.int .i64 k∧wr.ownsRow w.heap.size 22 1 u (wiN (l.take k) c).length (zCE (l.take k) (xs.take k) c)∧Below w.heap.size w wr)
    (fun _ i _=>l.length-(intOf i).toNat)
  case atStart=>exact⟨0,Nat.zero_le _,rfl,by rw[List.take_zero,List.take_zero,zGT];exact⟨rfl,.inl ⟨rfl,rfl⟩⟩,Below.refl _ _⟩
  case round=>
    obtain⟨k,hk,rfl,ho,BW⟩:=hrel
    by_cases hlt:k<l.length
    · have hI:(k:Int)<(l.length:Int):=by omega
      obtain⟨a,ha⟩:∃ a,l[k]?=some a:=⟨l[k],by simp[hlt]⟩;obtain⟨b,pa,qa,e1,hxv,c0,ra⟩:=HX.out k a ha;simp only[Value.slice.injEq,and_true] at e1;subst e1;replace c0:=zE c0 BW;have KS:=zDO pa pc qa qc a c wr (ra.keep BW) (HC.out _ BW);have HV:=zE7 (c:=c) hxl ha hxv;have HW:=zK8 (c:=c) ha
      have HTl:Hid ((wiN (l.take k) c).length≤1000):=by show _≤_;have:=zMz (l.take k) c;rw[List.length_take] at this;have:=HL.out;omega
      have HB:Hid (w.heap.size≤wr.heap.size):=BW.size;clear hxv ra;cases hs:zAb a c
      · rw[hs] at KS HV HW;rw[if_neg (by decide)] at HV HW;generalize wiN (l.take k) c=out at *;generalize zCE (l.take k) (xs.take k) c=ys at *;go_wp2_with fail;refine KS.mono ?_;rintro e w2 ⟨rfl,hb⟩;have ho2:=zM (w':=w2) ho (fun j hj=>hb.block j (World.ownsRow.lt ho j hj).2);replace BW:=Below.step BW hb;have hz2:Hid (w.heap.size≤w2.heap.size):=BW.size;have A:=Arr.new w2 [.slice pa a.length qa] 22;have ho3:=zM (w':=w2.alloc (.cells #[.slice pa a.length qa] 22)) ho2 (fun j hj=>(zA w2 _).block j (World.ownsRow.lt ho2 j hj).2);have BW3:=Below.mk BW (.cells #[.slice pa a.length qa] 22);have hz3:Hid (w.heap.size≤(w2.alloc (.cells #[.slice pa a.length qa] 22)).heap.size):=BW3.size;clear KS hb ho ho2 BW c0;obtain⟨U,hU⟩:∃ U,U=u5:=⟨_,rfl⟩;rw[← hU] at ho3;go_wp2_with (at_builtin;refine zDJ rfl (.tmp 18) (.tmp 20) rfl ho3 A rfl hU.symm rfl hz3.out (by have:=HTl.out;omega) ?_;intro p6 q6 w6 ho6 hb6;clear ho3);have BW6:=BW3.trans hb6;clear BW3 hb6 A;go_roundw
        case rel=>exact⟨k+1,by omega,by go_num,by rw[HV,HW,List.length_append];exact ho6,BW6⟩
        case measure=>simp[intOf];omega
      · rw[hs] at KS HV HW;rw[if_pos rfl] at HV HW;generalize wiN (l.take k) c=out at *;generalize zCE (l.take k) (xs.take k) c=ys at *;go_wp2_with fail;refine KS.mono ?_;rintro e w2 ⟨rfl,hb⟩;have ho2:=zM (w':=w2) ho (fun j hj=>hb.block j (World.ownsRow.lt ho j hj).2);replace BW:=Below.step BW hb;clear KS hb ho c0;go_wp2_with fail;go_roundw
        case rel=>exact⟨k+1,by omega,by go_num,by rw[HV,HW];exact ho2,BW⟩
        case measure=>simp[intOf];omega
    · have e:k=l.length:=by omega
      subst e;rw[List.take_length,show xs.take l.length=xs by rw[← hxl,List.take_length]] at ho;have HO2:=HO.out.stay BW;obtain⟨gp,hg1,hg2⟩:=zGU (c:=c) HO2.all;have hlt2:=World.ownsRow.lt ho;have hins:=HO.out.all.ins;go_wp2_with fail;go_ret;refine⟨_,gp,rfl,⟨zGS ho HBB.out,hg1,?_⟩,fun k hk=>(hlt2 k hk).1,hg2,BW⟩;refine List.nodup_append.2 ⟨zAn _,hg2.nodup (List.nodup_append.1 HO.out.nd).2.1,fun a ha b hb e=>?_⟩;subst e;have h1:=(hlt2 a (mem_opt.1 ha)).1;have h2:=(hins a (hg2.subset hb)).2;omega
theorem zEX (r:Int) (h:r=1∨r=2) (w:World):Calls Tryz.prog 36 #[.int .i64 r] w fun e w'=>e=.returned (.int .i64 (3-r))∧Below w.heap.size w w':=by
  rcases h with rfl | rfl
  · go_enter Tryz.func36,Tryz.ntmps36;go_wp2;go_ret;exact⟨rfl,Below.refl _ _⟩
  · go_enter Tryz.func36,Tryz.ntmps36;go_wp2;go_ret;exact⟨rfl,Below.refl _ _⟩
theorem zG2 (b n:Nat) (D:DataW Unit) (f:Int→Option Int) (id:Int) (w:World) (ho:MapH w b n D) (hm:MapIs D f) (hid:(Lit.int .i64 id).wf=true):
    Calls Tryz.prog 73 #[.map (some b),.int .i64 id] w fun e w'=>e=.returned (.bool (f id).isSome)∧Below w.heap.size w w':=(zG0 b n D f id w ho hm hid).mono fun _ _ h=>⟨h.1,by rw[h.2];exact Below.refl _ _⟩
theorem zG3 (x:SesD) (us:List Value) (a:zAq) (vs:List Value) (w:World) (h:sessionC.rep w x us) (ha:authC.rep w a vs) (hS:Ses x) (hid:(Lit.int .i64 a.2.1.1).wf=true):
    Calls Tryz.prog 37 #[.agg us.toArray,.agg vs.toArray] w fun e w'=>e=.returned (.int .i64 (hlC x a))∧Below w.heap.size w w':=by
  obtain⟨p1,q1,p3,q3,p4,q4,p5,q5,rfl,r1,r3,r4,r5⟩:=zN h;obtain⟨a1,b1,a4,b4,rfl,s1,-⟩:=zDy ha;have A:=(Arr.new w [.slice p1 x.1.length q1,.int .i64 x.2.1,.slice p3 x.2.2.1.length q3,.slice p4 x.2.2.2.1.length q4,.slice p5 x.2.2.2.2.length q5] 27).old _ (.cells #[.slice a1 a.1.length b1,.int .i64 a.2.1.1,.int .i64 a.2.1.2.1,.int .i64 a.2.1.2.2,.int .i64 a.2.2.1,.slice a4 a.2.2.2.length b4] 70);have B:=Arr.new (w.alloc (.cells #[.slice p1 x.1.length q1,.int .i64 x.2.1,.slice p3 x.2.2.1.length q3,.slice p4 x.2.2.2.1.length q4,.slice p5 x.2.2.2.2.length q5] 27)) [.slice a1 a.1.length b1,.int .i64 a.2.1.1,.int .i64 a.2.1.2.1,.int .i64 a.2.1.2.2,.int .i64 a.2.2.1,.slice a4 a.2.2.2.length b4] 70;rw[zD] at B;have BW:=Below.mk (zA w (.cells #[.slice p1 x.1.length q1,.int .i64 x.2.1,.slice p3 x.2.2.1.length q3,.slice p4 x.2.2.2.1.length q4,.slice p5 x.2.2.2.2.length q5] 27)) (.cells #[.slice a1 a.1.length b1,.int .i64 a.2.1.1,.int .i64 a.2.1.2.1,.int .i64 a.2.1.2.2,.int .i64 a.2.2.1,.slice a4 a.2.2.2.length b4] 70);have K1:=zBo x.2.2.1 a.1 p3 a1 q3 b1 _ (r3.keep BW) (s1.keep BW)
  have R5:Hid (∀ V,Below w.heap.size w V→RdL holdC V p5 q5 x.2.2.2.2):=fun V hV=>r5.keep hV
  have HS:Hid (Ses x):=hS;have HI:Hid ((Lit.int .i64 a.2.1.1).wf=true):=hid;have HE:Hid (hlC x a=if hsB x.2.2.1 a.1=true then (if 40≤x.2.2.2.1.length∨(6≤x.2.2.2.2.length∧hasH x.2.2.2.2 a.2.1.1=false) then 10 else 0) else 8):=rfl;have c2:=zQ (A.cell 2) rfl;have e0:=zQ (B.cell 0) rfl;clear h ha hS hid r1 r3 r4 r5 s1;go_enter Tryz.func37,Tryz.ntmps37;go_wp2_with fail;refine K1.mono ?_;rintro e w1 ⟨rfl,hb⟩;replace A:=A.stay hb;replace B:=B.stay hb;replace BW:=Below.step BW hb;clear K1 hb c2 e0;cases h1:hsB x.2.2.1 a.1
  · have hz:Hid (hlC x a=8):=by show _=_;rw[HE.out,if_neg (by rw[h1];decide)]
    clear HE h1 A B;go_wp2_with fail;go_ret;exact⟨by rw[hz.out];rfl,BW⟩
  have HE2:Hid (hlC x a=if 40≤x.2.2.2.1.length∨(6≤x.2.2.2.2.length∧hasH x.2.2.2.2 a.2.1.1=false) then 10 else 0):=by show _=_;rw[HE.out,if_pos h1]
  clear HE h1;have c3:=zQ (A.cell 3) rfl
  by_cases h2:x.2.2.2.1.length=40
  · have hz:Hid (hlC x a=10):=by show _=_;rw[HE2.out,if_pos (.inl (by omega))]
    have dk:((x.2.2.2.1.length:Int)==40)=true:=by rw[beq_iff_eq];omega
    clear HE2 h2 A B;go_wp2_with fail;go_ret;exact⟨by rw[hz.out];rfl,BW⟩
  have dk:((x.2.2.2.1.length:Int)==40)=false:=by rw[beq_eq_false_iff_ne];omega
  have HE3:Hid (hlC x a=if 6≤x.2.2.2.2.length∧hasH x.2.2.2.2 a.2.1.1=false then 10 else 0):=by
    show _=_
    have:=HS.out.ln.2.1;rw[HE2.out]
    by_cases hq:6≤x.2.2.2.2.length∧hasH x.2.2.2.2 a.2.1.1=false
    · rw[if_pos hq,if_pos (.inr hq)]
    · rw[if_neg hq,if_neg (fun hh=>by rcases hh with hh | hh;omega;exact hq hh)]
  clear HE2 h2;have c4:=zQ (A.cell 4) rfl;have e1:=zQ (B.cell 1) rfl
  by_cases h3:x.2.2.2.2.length=6
  case neg=>
    have dk5:((x.2.2.2.2.length:Int)==6)=false:=by rw[beq_eq_false_iff_ne];omega
    have hz:Hid (hlC x a=0):=by show _=_;have:=HS.out.ln.2.2;rw[HE3.out,if_neg (fun hh=>h3 (by omega))]
    clear HE3 h3;go_wp2_with fail;have hne:=HW.some w1;replace c4:=HW.at c4;refine zBY rfl (by kernel_rfl) ?_
    repeat (go_big_quiet_step (fail))
    refine wpQuiet_nil ?_;intro w' hw';have BW2:=Below.step BW (HW.out hw');clear c4 hne hw' BW e1 c3 A B;go_wp2_with fail;go_ret;exact⟨by rw[hz.out];rfl,BW2⟩
  have dk5:((x.2.2.2.2.length:Int)==6)=true:=by rw[beq_iff_eq];omega
  have HE4:Hid (hlC x a=if hasH x.2.2.2.2 a.2.1.1=false then 10 else 0):=by
    show _=_
    rw[HE3.out]
    by_cases hq:hasH x.2.2.2.2 a.2.1.1=false
    · rw[if_pos hq,if_pos ⟨by omega,hq⟩]
    · rw[if_neg hq,if_neg (fun hh=>hq hh.2)]
  clear HE3 h3;go_wp2_with fail;apply zBR
  case h=>
    intro JN;have BB:=Below.refl w1.heap.size w1;have hne:=HW.some w1;have g4:=HW.at (c4);have g1:=HW.at (e1);refine wp_region_pick [0,1,2,3,4,5,6,8,9,10] 13 3 1 rfl rfl rfl (by kernel_rfl) (by kernel_rfl) (by kernel_rfl) (by kernel_rfl) ?_;simp only[zL,List.getElem?_toArray,List.getElem?_cons_zero,List.getElem?_cons_succ]
    repeat (go_big_quiet_step (fail))
    refine wpQuiet_nil ?_;clear g4 g1;refine wpM_only (i:=7) (by kernel_rfl) ?_;refine mOp_call rfl (by go_simp) 20 _ #[.slice p5 x.2.2.2.2.length q5] (fun w=>by go_simp) rfl ?_;rintro _ ⟨sg,rfl⟩;refine(zCm x.2.2.2.2 p5 q5 _ (R5.out _ (BW.trans (((Below.step BB sg.h)).mono BW.size))) HS.out.rs HS.out.ok (by have:=HS.out.ln.2.2;omega)).mono ?_;rintro e wg1 ⟨bm,D,rfl,-,ho,hm,hbx⟩;have hbg:=Below.step sg.h hbx;refine⟨_,rfl,⟨⟨wg1,hbx⟩,rfl⟩,?_⟩;have HMP:=(ho:MapH _ bm x.2.2.2.2.length D);have HMI:=(hm:MapIs D (lkH x.2.2.2.2));replace BB:=Below.step BB hbg;clear hbg hbx sg ho hm;replace hne:=HW.some wg1;refine wpM_only (i:=11) (by kernel_rfl) ?_;refine mOp_call rfl (by go_simp) 73 _ #[.map (some bm),.int .i64 a.2.1.1] (fun w=>by go_simp) rfl ?_;rintro _ ⟨sg,rfl⟩;refine(zG2 bm x.2.2.2.2.length D (lkH x.2.2.2.2) a.2.1.1 _ (HMP.keep sg.h) HMI HI.out).mono ?_;rintro e wg2 ⟨rfl,hbx⟩;have hbg:=Below.step sg.h hbx;refine⟨_,rfl,⟨⟨wg2,hbx⟩,rfl⟩,?_⟩;replace HMP:=HMP.keep hbg;replace BB:=Below.step BB hbg;clear hbg hbx sg;replace hne:=HW.some wg2;refine wpM_more [12] 1 0 rfl (by kernel_rfl) (by kernel_rfl) (by kernel_rfl) (by kernel_rfl) ?_;simp only[zL,List.getElem?_toArray,List.getElem?_cons_zero,List.getElem?_cons_succ]
    go_simp
    repeat (go_big_quiet_step (fail))
    refine wpQuiet_nil ?_;refine wpM_end (by kernel_rfl) rfl (by kernel_rfl) (by decide) ?_;rintro _ ⟨sz,rfl⟩;simp only[List.drop_succ_cons,List.drop_zero]
    go_simp
    replace HMP:=HMP.keep sz.h;replace BB:=Below.step BB sz.h;clear hne;generalize sz.w=W at *;clear sz;revert HMI;revert HMP;revert BB;revert D;revert bm;revert W;exact JN.out
  intro W bm D BB HMP HMI;have BW2:=Below.step BW BB;have hlk:=zFe (l:=x.2.2.2.2) (k:=a.2.1.1);clear BB BW HMP HMI c3 c4 e1 A B
  have hln:(lkH x.2.2.2.2 a.2.1.1).isNone=!hasH x.2.2.2.2 a.2.1.1:=by rw[← hlk];cases lkH x.2.2.2.2 a.2.1.1 <;> rfl
  clear hlk;cases hh:hasH x.2.2.2.2 a.2.1.1
  · have hz:Hid (hlC x a=10):=by show _=_;rw[HE4.out,if_pos hh]
    rw[hh] at hln;replace hln:(lkH x.2.2.2.2 a.2.1.1).isNone=true:=hln;clear HE4 hh;go_wp2_with fail;go_ret;exact⟨by rw[hz.out];rfl,BW2⟩
  · have hz:Hid (hlC x a=0):=by show _=_;rw[HE4.out,if_neg (by rw[hh];decide)]
    rw[hh] at hln;replace hln:(lkH x.2.2.2.2 a.2.1.1).isNone=false:=hln;clear HE4 hh;go_wp2_with fail;go_ret;exact⟨by rw[hz.out];rfl,BW2⟩
end Go.Proofs.YtbaldmmbphbinaaGreatDoor
