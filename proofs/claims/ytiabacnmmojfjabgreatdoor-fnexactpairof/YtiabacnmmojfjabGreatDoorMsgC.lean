import Derived.Test.YtiabacnmmojfjabGreatDoorJoint7
import Derived.Test.YtiabacnmmojfjabGreatDoorJoint6
import Derived.Test.YtiabacnmmojfjabGreatDoorJoint4
set_option maxHeartbeats 1000000
set_option maxRecDepth 4000
open Go.Proofs.Tryz
namespace Go.Proofs.YtiabacnmmojfjabGreatDoor
open Go.ChangeShapes Go.WideShapes Go.ChangeAt Go.RowKit
abbrev MsgD:=Int×List UInt8
def msgC:Cod MsgD:=zB2 (intC .i64) bytC
theorem zAf {w:World} {a:MsgD} {vs:List Value} (h:msgC.rep w a vs):∃ p q,vs=[.int .i64 a.1,.slice p a.2.length q]∧Rd w p q a.2:=by
  obtain⟨us,ts,rfl,h1,p,q,rfl,r⟩:=h;exact⟨p,q,by rw[h1];rfl,r⟩
theorem zDM {w:World} {a:MsgD} {p:Option Addr} {q:Nat} (r:Rd w p q a.2):msgC.rep w a [.int .i64 a.1,.slice p a.2.length q]:=⟨[_],[_],rfl,rfl,p,q,rfl,r⟩
theorem zKa {w:World} {B:Nat} {a:MsgD} {vs:List Value} {fp:List Nat} (h:msgC.own w B a vs fp):∃ v,vs=[.int .i64 a.1,v]∧Own w B v a.2∧fp=v.ownBlock.toList:=by
  obtain⟨us,ts,f,g,rfl,rfl,_,⟨rfl,rfl⟩,v,rfl,o,rfl⟩:=h;exact⟨v,rfl,o,rfl⟩
theorem zAL {w:World} {B:Nat} {a:MsgD} {v:Value} (o:Own w B v a.2):msgC.own w B a [.int .i64 a.1,v] v.ownBlock.toList:=
  ⟨[_],[_],[],_,rfl,rfl,zAo _,⟨rfl,rfl⟩,v,rfl,o,rfl⟩
theorem zBV:(Tryz.prog.info? 53).map (fun i=>(i.zero,i.size,i.bytes))=some (some (.agg #[.int .i64 0,.slice none 0 0]),2,32):=by kernel_rfl
def zN (l:List MsgD):Nat:=(l.map (fun a=>a.2.length)).sum+l.length
theorem zGz {l:List MsgD} {i:Nat} {a:MsgD} (h:l[i]?=some a):a.2.length≤zN l:=by
  have hm:=List.mem_of_getElem? h
  have h2:∀ l:List MsgD,a∈l→a.2.length≤(l.map (fun a:MsgD=>a.2.length)).sum:=fun l=>by
    induction l with
    | nil=>intro h;cases h
    | cons b l ih=>
      intro h;rw[List.map_cons,List.sum_cons];rcases List.mem_cons.1 h with rfl | h
      · omega
      · have:=ih h;omega
  have:=h2 l hm;unfold zN;omega
theorem zNJ (a:MsgD) (p p2:Option Addr) (q q2:Nat) (w:World) (h1:Rd w p q a.2) (h2:Rd w p2 q2 a.2):
    Calls prog 23 #[.agg #[.int .i64 a.1,.slice p a.2.length q],.agg #[.int .i64 a.1,.slice p2 a.2.length q2]] w fun e w'=>e=.returned (.bool true)∧Below w.heap.size w w':=by
  have B2:=fun o1 o2=>yr (zA w o1) o2
  go_enter func23,ntmps23;go_wp2_with fail;refine(zB4 _ _ _ _ a.2 _ (h1.keep (B2 _ _)) (h2.keep (B2 _ _))).mono ?_;rintro e w1 ⟨rfl,hb1⟩;go_wp2;go_ret;exact⟨rfl,yn (B2 _ _) hb1⟩
theorem zLi (l:List MsgD) (p p2:Option Addr) (q q2:Nat) (w:World) (h1:RdL msgC w p q l) (h2:RdL msgC w p2 q2 l):
    Calls prog 14 #[.slice p l.length q,.slice p2 l.length q2] w fun e w'=>e=.returned (.bool true)∧Below w.heap.size w w':=by
  have HR:Hid (RdL msgC w p q l):=h1;have HR2:Hid (RdL msgC w p2 q2 l):=h2;have hq1:l.length≤q:=h1.1;have hq2:q≤2 ^ 63-1:=h1.2.1;clear h1 h2;go_enter func14,ntmps14;go_wp2_with fail
  go_loopw [5] (fun i wr=>∃ k:Nat,k≤l.length∧i=.int .i64 k∧Below w.heap.size w wr)
    (fun i _=>l.length-(intOf i).toNat)
  case atStart=>exact⟨0,Nat.zero_le _,rfl,Below.refl _ _⟩
  case round=>
    obtain⟨k,hk,rfl,BW⟩:=hrel
    by_cases hlt:k<l.length
    · have hkI:(k:Int)<(l.length:Int):=by omega
      obtain⟨b,o,e1,hc⟩:=(HR.out.keep BW).2.2.2 (by omega);subst e1;obtain⟨b2,o2,e2,hc2⟩:=(HR2.out.keep BW).2.2.2 (by omega);subst e2;obtain⟨a,ha⟩:∃ a,l[k]?=some a:=⟨l[k],by simp[hlt]⟩;obtain⟨us,hrep,hcell⟩:=hc k a ha;obtain⟨pa,qa,rfl,ra⟩:=zAf hrep;obtain⟨us2,hrep2,hcell2⟩:=hc2 k a ha;obtain⟨pb,qb,rfl,rb⟩:=zAf hrep2;have c0:=hcell 0 _ rfl;have c1:=hcell 1 _ rfl;have d0:=hcell2 0 _ rfl;have d1:=hcell2 1 _ rfl;rw[show msgC.n=2 from rfl] at c0 c1 d0 d1;rw[Nat.add_zero] at c0 d0;clear hc hcell hrep hc2 hcell2 hrep2;go_wp2_with fail;replace c0:=yq c0;replace c1:=yq c1;replace d0:=yq d0;replace d1:=yq d1;have hne:=yo wr;refine zFf rfl (by kernel_rfl) ?_
      repeat (go_big_quiet_step ((go_at_call 23;exact Calls.stay (zNJ a pa pb qa qb _ (ra.keep (HW.h _)) (rb.keep (HW.h _))))))
      refine wpQuiet_nil ?_;intro w' hw';have BW2:=yn BW (HW.out hw');clear c0 c1 d0 d1 hne hw' BW;go_wp2_with fail;go_roundw
      case rel=>exact⟨k+1,by omega,by go_num,BW2⟩
      case measure=>simp[intOf];omega
    · go_wp2_with fail;go_ret;exact⟨rfl,BW⟩
def mkM:List MsgD→Nat→List MsgD
  | [],_=>[]
  | a :: l,m=>((m:Int),zBg (m+1) a.2.length) :: mkM l (m+1+a.2.length)
theorem zCH (a:MsgD) (l:List MsgD):zN (a :: l)=a.2.length+1+zN l:=by simp[zN];omega
theorem zE8 (l r:List MsgD):zN (l++r)=zN l+zN r:=by simp[zN];omega
theorem zEf:∀ (l r:List MsgD) (m:Nat),mkM (l++r) m=mkM l m++mkM r (m+zN l)
  | [],r,m=>by simp[mkM,zN]
  | a :: l,r,m=>by
    rw[yk,mkM,mkM,zEf l r,zCH,yk,show m+1+a.2.length+zN l=m+(a.2.length+1+zN l) by omega]
theorem zDz:∀ (l:List MsgD) (m:Nat),(mkM l m).length=l.length
  | [],_=>rfl
  | a :: l,m=>by rw[mkM,List.length_cons,zDz l,List.length_cons]
theorem zLj {l:List MsgD} {k:Nat} {a:MsgD} (h:l[k]?=some a) (m:Nat):mkM (l.take (k+1)) m=mkM (l.take k) m++[(((m+zN (l.take k):Nat):Int),zBg (m+zN (l.take k)+1) a.2.length)]:=by
  rw[List.take_add_one,h,zEf];rfl
theorem zGY {l:List MsgD} {k:Nat} {a:MsgD} (h:l[k]?=some a):zN (l.take (k+1))=zN (l.take k)+a.2.length+1:=by
  rw[List.take_add_one,h,zE8];simp[zN];omega
theorem zI2 (l:List MsgD) (k:Nat):zN (l.take k)≤zN l:=by
  conv=>rhs;rw[← List.take_append_drop k l,zE8]
  omega
theorem zJg (e0:TypeId) (l:List MsgD) (B:Nat) (v:Value) (xs:List Value) (fp:List Nat) (m:Nat) (w:World) (ho:OwnL e0 msgC w B v l xs fp) (hm:m+zN l≤1000000000) (hbl:zN l≤1000000000):
    Calls prog 16 #[v,.int .i64 m] w fun e w'=>e=.returned (.int .i64 ((m+zN l:Nat):Int))∧(∃ ys,OwnL e0 msgC w' B v (mkM l m) ys fp)∧Only (v.ownBlock.toList++fp) w w':=by
  obtain⟨p,q,rfl,hrd⟩:=ho.rd;have hq1:l.length≤q:=hrd.1;have hq2:q≤2 ^ 63-1:=hrd.2.1;have HM:Hid (m+zN l≤1000000000):=hm;have HBL:Hid (zN l≤1000000000):=hbl;clear hm hrd hbl;go_enter func16,ntmps16;go_wp2_with fail
  go_loopw [1,5] (fun c i wr=>∃ (k:Nat) (ys:List Value),k≤l.length∧i=.int .i64 k∧c=.int .i64 ((m+zN (l.take k):Nat):Int)∧OwnL e0 msgC wr B (.slice p l.length q) (mkM (l.take k) m++l.drop k) ys fp∧Only ((Value.slice p l.length q).ownBlock.toList++fp) w wr)
    (fun _ i _=>l.length-(intOf i).toNat)
  case atStart=>exact⟨0,xs,Nat.zero_le _,rfl,by simp[zN],by simpa [mkM] using ho,Only.refl _ _⟩
  case round=>
    clear ho xs;obtain⟨k,ys,hk,rfl,rfl,ho,hon⟩:=hrel
    by_cases hlt:k<l.length
    · have hkI:(k:Int)<(l.length:Int):=by omega
      obtain⟨a,ha⟩:∃ a,l[k]?=some a:=⟨l[k],by simp[hlt]⟩
      have HLn:Hid ((mkM (l.take k) m).length=k):=by show _=_;rw[zDz,List.length_take,Nat.min_eq_left hk]
      have HBt:=zGY ha;have HBl:Hid (zN (l.take (k+1))≤zN l):=zI2 l (k+1);have HT:=zLj ha m;rw[zKN ha] at ho
      have hgf:∃ g,p=some ⟨g,0,none⟩:=by
        rcases ho.row.2 with ⟨h1,h2⟩ | ⟨g,c,cur,h1,-⟩
        · simp at h2
        · simp at h1;exact⟨g,h1.1⟩
      obtain⟨g,rfl⟩:=hgf;have hinsL:=ho.ins;obtain⟨x1,us,x2,f1,f,f2,rfl,rfl,hx1,hof,hdis,hdis2,hback⟩:=ho.focus;obtain⟨vb,rfl,ob,rfl⟩:=zKa hof
      have HX1:Hid (x1.length=k*2):=by show _=_;rw[hx1,HLn.out];rfl
      have HLL:Hid ((mkM (l.take k) m++a :: l.drop (k+1)).length=l.length):=by show _=_;rw[List.length_append,HLn.out,List.length_cons,List.length_drop];omega
      have hrow:=ho.row;rw[HLL.out,show msgC.n=2 from rfl] at hrow
      have c0:wr.cell? ⟨g,k*2,none⟩=some (.int .i64 a.1):=by
        rw[World.ownsRow.cellAt hrow (k*2) (by omega),List.append_assoc,List.getElem?_append_right (by rw[HX1.out];exact yf _),HX1.out,Nat.sub_self];rfl
      have c1:wr.cell? ⟨g,k*2+1,none⟩=some vb:=by
        rw[World.ownsRow.cellAt hrow (k*2+1) (by omega),List.append_assoc,List.getElem?_append_right (by rw[HX1.out];omega),HX1.out,show k*2+1-k*2=1 by omega];rfl
      have fz:=World.ownsRow.frozenAt hrow;have R1:=World.ownsRow.stored hrow (k*2) (.int .i64 ((m+zN (l.take k):Nat):Int))
      have hset:(x1++[.int .i64 a.1,vb]++x2).set (k*2) (.int .i64 ((m+zN (l.take k):Nat):Int))=x1++[.int .i64 ((m+zN (l.take k):Nat):Int),vb]++x2:=by
        rw[List.append_assoc,List.set_append_right _ _ (by rw[HX1.out];exact yf _),HX1.out,Nat.sub_self,List.append_assoc];rfl
      rw[hset] at R1
      have HG:Hid (∀ j,vb.ownBlock=some j→j≠g):=fun j hj e=>by
        have h1:=(hdis j (mem_opt.2 hj)).2.2;rw[e] at h1;exact h1 rfl
      have hSome:Hid (g<wr.heap.size):=(World.ownsRow.lt hrow g rfl).2;have ob1:Own (wr.setCell ⟨g,k*2,none⟩ (.int .i64 ((m+zN (l.take k):Nat):Int))) B vb a.2:=ob.other R1.2 (fun j hj e=>by simp at e;exact HG.out j hj e.symm);generalize hMk:m+zN (l.take k)=mk at *;have HMk:Hid (m+zN (l.take k)=mk):=hMk
      have hmkI:(mk:Int)≤1000000000:=by have:=HM.out;have:=HBl.out;omega
      clear hMk ho hof;go_wp2_with fail;refine(zHj ((mk:Int)+1) B vb a.2 _ ob1 (by omega) (by omega) (by have:=HBL.out;have:=HBl.out;omega)).mono ?_;rintro e w2 ⟨rfl,ob2,hg2⟩;rw[show((mk:Int)+1).toNat=mk+1 by omega] at ob2
      have row2:=zDd (w':=w2) R1.1 (fun j hj=>by
        simp[Value.ownBlock] at hj;subst hj
        exact hg2.block _ (by rw[World.size_setCell];exact hSome.out) (fun e=>HG.out _ e.symm rfl))
      have hO:=hback w2 ((mk:Int),zBg (mk+1) a.2.length) [.int .i64 (mk:Int),vb] (zAL (a:=((mk:Int),zBg (mk+1) a.2.length)) ob2) (by rw[show(mkM (l.take k) m++((mk:Int),zBg (mk+1) a.2.length) :: l.drop (k+1)).length=l.length by rw[List.length_append,HLn.out,List.length_cons,List.length_drop];omega];exact row2) (fun j hj=>by
        have h1:vb.ownBlock≠some j:=fun e=>by
          have h2:=hdis j (mem_opt.2 e);rcases List.mem_append.1 hj with h3 | h3
          · exact h2.1 h3
          · exact h2.2.1 h3
        have h2:j≠g:=fun e=>hdis2 j hj (by rw[e];rfl)
        have hlt2:=(hinsL j (List.mem_append_right _ (by rcases List.mem_append.1 hj with h3 | h3;exact List.mem_append_left _ (List.mem_append_left _ h3);exact List.mem_append_right _ h3))).2
        rw[hg2.block j (by rw[World.size_setCell];exact hlt2) (fun e=>h1 e.symm),heap_setCell_other _ _ j _ h2])
      have hon2:Only ((Value.slice (some ⟨g,0,none⟩) l.length q).ownBlock.toList++(f1++vb.ownBlock.toList++f2)) w w2:=
        hon.trans (((Only.grown R1.2).more (fun j hj=>List.mem_append_left _ (by simpa [Value.ownBlock] using hj))).trans ((Only.grown hg2).more (fun j hj=>List.mem_append_right _ (List.mem_append_left _ (List.mem_append_right _ hj)))))
      have HT2:Hid (mkM (l.take (k+1)) m++l.drop (k+1)=mkM (l.take k) m++((mk:Int),zBg (mk+1) a.2.length) :: l.drop (k+1)):=by show _=_;rw[HT,List.append_assoc];rfl
      have HE:Hid ((mk:Int)+1+(a.2.length:Int)=((m+zN (l.take (k+1)):Nat):Int)):=by show _=_;have:=HMk.out;rw[HBt];omega
      rw[← HT2.out] at hO;clear hon c0 c1 fz R1 row2 ob ob1 ob2 hg2 hback hdis hdis2 hrow hset HT HBt hinsL;go_wp2_with fail;go_roundw
      case rel=>exact⟨k+1,_,by omega,by go_num,by rw[← HE.out],hO,hon2⟩
      case measure=>simp[intOf];omega
    · have e:k=l.length:=by omega
      subst e;rw[List.take_length,List.drop_length,List.append_nil] at ho;rw[List.take_length];go_wp2_with fail;go_ret;exact⟨rfl,⟨_,ho⟩,hon⟩
theorem zN8 {l:List MsgD} {k:Nat} {a:MsgD} (h:l[k]?=some a) (m:Nat):(mkM l m)[k]?=some (((m+zN (l.take k):Nat):Int),zBg (m+zN (l.take k)+1) a.2.length):=by
  have hk:=(List.getElem?_eq_some_iff.1 h).1
  conv=>lhs;rw[← List.take_append_drop k l,zKN h,zEf]
  rw[List.getElem?_append_right (by rw[zDz,List.length_take];omega),zDz,List.length_take,Nat.min_eq_left (by omega),Nat.sub_self];rfl
theorem zJh (l:List MsgD) (p:Option Addr) (q m:Nat) (w:World) (hr:RdL msgC w p q (mkM l m)) (hm:m+zN l≤1048577):
    Calls prog 65 #[.slice p l.length q,.int .i64 m] w fun e w'=>e=.returned (.int .i64 ((m+zN l:Nat):Int))∧Below w.heap.size w w':=by
  have HR:Hid (RdL msgC w p q (mkM l m)):=hr
  have hq1:l.length≤q:=by have:=hr.1;rw[zDz] at this;exact this
  have hq2:q≤2 ^ 63-1:=hr.2.1;have HM:Hid (m+zN l≤1048577):=hm;clear hr hm;go_enter func65,ntmps65;go_wp2_with fail
  go_loopw [1,5] (fun c i wr=>∃ k:Nat,k≤l.length∧i=.int .i64 k∧c=.int .i64 ((m+zN (l.take k):Nat):Int)∧Below w.heap.size w wr)
    (fun _ i _=>l.length-(intOf i).toNat)
  case atStart=>exact⟨0,Nat.zero_le _,rfl,by simp[zN],Below.refl _ _⟩
  case round=>
    obtain⟨k,hk,rfl,rfl,BW⟩:=hrel
    by_cases hlt:k<l.length
    · have hkI:(k:Int)<(l.length:Int):=by omega
      obtain⟨b,o,e1,hc⟩:=(HR.out.keep BW).2.2.2 (by rw[zDz];omega);subst e1;obtain⟨a,ha⟩:∃ a,l[k]?=some a:=⟨l[k],by simp[hlt]⟩;have HBt:=zGY ha;have HBl:Hid (zN (l.take (k+1))≤zN l):=zI2 l (k+1);obtain⟨us,hrep,hcell⟩:=hc k _ (zN8 ha m);obtain⟨pa,qa,rfl,ra⟩:=zAf hrep;have c0:=hcell 0 _ rfl;have c1:=hcell 1 _ rfl;rw[show msgC.n=2 from rfl] at c0 c1;rw[Nat.add_zero] at c0;simp only[zBz] at c1
      have HE:Hid (((m+zN (l.take k):Nat):Int)+1+(a.2.length:Int)=((m+zN (l.take (k+1)):Nat):Int)):=by show _=_;rw[HBt];omega
      have hb1:Hid (m+zN (l.take k)+1+a.2.length≤1048577):=by show _≤_;have:=HM.out;have:=HBl.out;omega
      generalize m+zN (l.take k)=mk at *
      have hmkI:(mk:Int)≤1048577:=by have:=hb1.out;omega
      have K:Hid (Calls prog 112 #[.slice pa a.2.length qa,.int .i64 ((mk:Int)+1)] wr fun e w'=>e=.returned (.int .i64 ((mk:Int)+1+(a.2.length:Int)))∧w'=wr):=by
        have h:=zFk pa qa a.2.length (mk+1) wr ra hb1.out;rw[show(((mk+1:Nat)):Int)=(mk:Int)+1 by omega] at h;exact h
      have hnn:¬ ((mk:Int)+1+(a.2.length:Int)<0):=by omega
      clear hc hcell hrep HBt;go_wp2_with fail;refine K.out.mono ?_;rintro e w2 ⟨rfl,rfl⟩;go_wp2_with fail;go_roundw
      case rel=>exact⟨k+1,by omega,by go_num,by rw[← HE.out],BW⟩
      case measure=>simp[intOf];omega
    · have e:k=l.length:=by omega
      subst e;rw[List.take_length];go_wp2_with fail;go_ret;exact⟨rfl,BW⟩
end Go.Proofs.YtiabacnmmojfjabGreatDoor
