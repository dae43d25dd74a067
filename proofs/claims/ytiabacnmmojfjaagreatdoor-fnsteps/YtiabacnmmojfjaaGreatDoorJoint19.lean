import Derived.Test.YtiabacnmmojfjaaGreatDoorJoint18
import Derived.Test.YtiabacnmmojfjaaGreatDoorJoint4
import Derived.Test.YtiabacnmmojfjaaGreatDoorJoint10
import Derived.Test.YtiabacnmmojfjaaGreatDoorJoint14
import Derived.Lib.AppendZeros
import Derived.Laws.AppendOwnNone
set_option maxHeartbeats 2000000
set_option maxRecDepth 4000
open Go.Proofs.Tryz
namespace Go.Proofs.YtiabacnmmojfjaaGreatDoor
open Go.ChangeShapes Go.WideShapes Go.ChangeAt Go.RowKit
theorem zEo (data:List UInt8) (k:Nat):zAK (data.drop k) 0=zAK data k:=by simp[zAK,List.getD_eq_getElem?_getD]
theorem zJa (data:List UInt8) (k:Nat):zA7 (data.drop k) 0=zA7 data k:=by unfold zA7;rw[zEo,List.drop_drop,Nat.zero_add]
theorem zLd (data:List UInt8) (p:Option Addr) (q:Nat) (w:World) (hr:Rd w p q data):
    Calls prog 207 #[.slice p data.length q] w fun e w'=>∃ v,e=.returned (.agg #[.int .i64 (ubC data),v])∧(∃ xs fp,OwnL 22 bytC w' w.heap.size v (ubL data) xs fp)∧Below w.heap.size w w':=by
  have A0:=yr w [.int .i64 0,.slice none 0 0] 216;have B0:=zA w (.cells #[.int .i64 0,.slice none 0 0] 216)
  by_cases hd:data.length≤160
  · have hdI:¬ (160<(data.length:Int)):=by omega
    have HR:Hid (Rd w p q data):=hr;have hq1:data.length≤q:=hr.1;have hq2:q≤2 ^ 63-1:=hr.2.1;obtain⟨fin,HF⟩:∃ fin,Hid (fin=zAe data 0 []):=⟨_,rfl⟩
    have HZ:Hid ((fin=none→ubC data=5∧ubL data=[])∧∀ r,fin=some r→ubC data=0∧ubL data=r):=
      ⟨fun e=>zLT hd (by rw[← HF.out,e]),fun r e=>zGr hd (by rw[← HF.out,e])⟩
    clear hr;go_enter func207,ntmps207;go_wp2_with fail
    go_loopw [3,4] (fun v i wr=>∃ (at_:Nat) (out:List BlkD) (xs:List Value) (fp:List Nat),at_≤data.length∧i=.int .i64 at_∧OwnL 22 bytC wr (w.heap.size+1) v out xs fp∧out.length≤8∧fin=zAe data at_ out∧Arr wr w.heap.size 216 [.int .i64 0,.slice none 0 0]∧Below w.heap.size w wr)
      (fun _ i _=>data.length-(intOf i).toNat)
    case atStart=>exact⟨0,[],[],[],Nat.zero_le _,rfl,zCt _ _,by decide,HF.out,A0,B0⟩
    case round=>
      clear A0 B0 HF;obtain⟨at_,out,xs,fp,hat,rfl,ho,hol,hfin,A,BW⟩:=hrel;have HFN:Hid (fin=zAe data at_ out):=hfin;clear hfin;obtain⟨po,qo,rfl,hord⟩:=ho.rd;have hqo1:out.length≤qo:=hord.1;have hqo2:qo≤2 ^ 63-1:=hord.2.1
      by_cases hlt:at_<data.length
      · have hI:(at_:Int)<(data.length:Int):=by omega
        obtain⟨b,o,e1,-⟩:=(HR.out.keep BW).2.2.2 (by omega);have HPE:Hid (p=some ⟨b,o,none⟩):=e1;rw[HPE.out]
        have hqa:¬ (q=at_):=by omega
        have hdl:Hid ((data.drop at_).length=data.length-at_):=List.length_drop
        have HD:Hid (Rd wr (some ⟨b,o+at_,none⟩) (q-at_) (data.drop at_)):=by
          have h:=HR.out.keep BW;rw[HPE.out] at h;have hcut:=h.cut at_ (data.length-at_) (q-at_) (by omega) (by omega) (by have:=HR.out.2.1;omega);rw[List.take_of_length_le (by rw[hdl.out];omega)] at hcut;exact hcut
        clear hord e1
        by_cases h2:120<zAK data at_∨data.length-at_-1<zAK data at_
        · have HE:Hid (fin=none):=by show _=_;rw[HFN.out,zCn hlt (by omega)]
          have K:Hid (Calls prog 220 #[.slice (some ⟨b,o+at_,none⟩) (data.length-at_) (q-at_)] wr fun e w'=>e=.returned (.tuple #[.slice none 0 0,.bool false])∧Below wr.heap.size wr w'):=by
            have h:=zGy b (o+at_) (q-at_) (data.drop at_) wr HD.out (by rw[hdl.out];omega) (by rw[zEo,hdl.out];exact h2);rw[hdl.out] at h;exact h
          clear HD HFN hdl h2;go_wp2_with fail;refine K.out.mono ?_;rintro e w2 ⟨rfl,hb⟩;have A2:=A.stay hb;have B2:=yn BW hb;have c0:=A2.cell 0;have c1:=A2.cell 1;have fz:=A2.frozen;simp at c0 c1;clear A A2 BW K hb ho;go_wp2_with fail;exact bodyPost_ret (v:=.agg #[.int .i64 5,.slice none 0 0]) (by simp[results,results207,go_sem,c0,c1]) rfl ⟨_,by rw[(HZ.out.1 HE.out).1],⟨_,_,by rw[(HZ.out.1 HE.out).2];exact zCt _ _⟩,(B2.setCell (yf _) _).setCell (yf _) _⟩
        · have K:Hid (Calls prog 220 #[.slice (some ⟨b,o+at_,none⟩) (data.length-at_) (q-at_)] wr fun e w'=>∃ u,e=.returned (.tuple #[u,.bool true])∧Own w' wr.heap.size u (zA7 data at_)∧Below wr.heap.size wr w'):=by
            have h:=zGz b (o+at_) (q-at_) (data.drop at_) wr HD.out (by rw[hdl.out];omega) (by rw[zEo,hdl.out];exact h2);rw[hdl.out,zJa] at h;exact h
          have HBL:Hid ((zA7 data at_).length=zAK data at_):=by show _=_;unfold zA7;rw[List.length_take,List.length_drop];omega
          have HNX:Hid (at_+1+zAK data at_≤data.length):=by show _≤_;omega
          have hnI:((zAK data at_:Nat):Int)≤160:=by omega
          by_cases h8:out.length=8
          · have h8I:((out.length:Int)==8)=true:=by rw[beq_iff_eq];omega
            have HE:Hid (fin=none):=by show _=_;rw[HFN.out,zCn hlt (by omega)]
            clear HD HFN hdl h2 h8;generalize zA7 data at_=body at *;generalize zAK data at_=n at *;go_wp2_with fail;refine K.out.mono ?_;rintro e w2 ⟨u2,rfl,-,hb⟩;have A2:=A.stay hb;have B2:=yn BW hb;have c0:=A2.cell 0;have c1:=A2.cell 1;have fz:=A2.frozen;simp at c0 c1;clear A A2 BW K hb ho;go_wp2_with fail;exact bodyPost_ret (v:=.agg #[.int .i64 5,.slice none 0 0]) (by simp[results,results207,go_sem,c0,c1]) rfl ⟨_,by rw[(HZ.out.1 HE.out).1],⟨_,_,by rw[(HZ.out.1 HE.out).2];exact zCt _ _⟩,(B2.setCell (yf _) _).setCell (yf _) _⟩
          · have h8I:((out.length:Int)==8)=false:=by rw[beq_eq_false_iff_ne];omega
            have HN:Hid (fin=zAe data (at_+1+zAK data at_) (out++[zA7 data at_])):=by show _=_;rw[HFN.out,zCo hlt (by omega)]
            have HOL:Hid ((out++[zA7 data at_]).length≤8):=by show _≤_;rw[List.length_append,List.length_singleton];omega
            clear HD HFN hdl h2 h8;generalize zA7 data at_=body at *;generalize zAK data at_=n at *;go_wp2_with fail;refine K.out.mono ?_;rintro e w2 ⟨u2,rfl,k2,hb2⟩;obtain⟨pv,qv,rfl,-⟩:=k2.rd;rw[HBL.out] at k2 ⊢;have hw2:Hid (wr.heap.size≤w2.heap.size):=hb2.size
            have hnew:∀ j u,[Value.slice pv n qv][j]?=some u→(w2.alloc (.cells #[.slice pv n qv] 22)).cell? ((⟨w2.heap.size,0,none⟩:Addr).add j)=some u:=fun j u hj=>(yr w2 [.slice pv n qv] 22).cells j u hj
            have hb4:=zA w2 (.cells #[.slice pv n qv] 22);have k5:=k2.stay hb4;have hb5:=yn hb2 hb4;have ho5:=ho.stay hb5;have A5:=A.stay hb5;have BW5:=yn BW hb5;have hrow5:Hid ((w2.alloc (.cells #[.slice pv n qv] 22)).ownsRow (w.heap.size+1) 22 1 (.slice po out.length qo) out.length xs):=ho5.row
            have hlow:Hid (∀ j,(Value.slice pv n qv).ownBlock=some j→wr.heap.size≤j):=fun j hj=>k5.ge j hj
            have hinsO:Hid (∀ j,j∈(Value.slice po out.length qo).ownBlock.toList++fp→w.heap.size+1≤j∧j<wr.heap.size):=fun j hj=>ho.ins j hj
            have hzA:Hid (w.heap.size<wr.heap.size):=A.lt
            have hz5:Hid (w.heap.size+1≤(w2.alloc (.cells #[.slice pv n qv] 22)).heap.size):=by have:=A5.lt;show _≤_;omega
            obtain⟨i0,hi,hz0,hz1,hz2⟩:=info_parts zJ8;go_wp2_with (at_builtin;go_loud (refine wpList_append_lies _ rfl (.tmp 30) (.tmp 32) 115 rfl (w.heap.size+1) 22 i0 (.slice none 0 0) 1 24 underlying115 hi hz0 hz1 hz2 rfl (by decide) (.slice po out.length qo) out.length xs rfl hrow5.out ⟨w2.heap.size,0,none⟩ 1 1 [.slice pv n qv] rfl rfl hnew (by intro u hu;simp at hu;subst hu;rfl) (by decide) (by unfold maxLen;omega) (by omega) hz5.out _ rfl ?_);intro g6 c6 w6 hown6 hgrow6 hat6 hlt6);have ka:=zGP (a:=body) (k5.lower (B':=w.heap.size+1) hzA.out)
            have OP:=ho5.push ka (fun j hj hj2=>by
              have h1:=hlow.out j (mem_opt.1 hj);have h2:=(hinsO.out j hj2).2
              omega) (k:=out.length+1) (v':=.slice (some ⟨g6,0,none⟩) (out.length+1) c6) (g:=g6) hown6 (by simp) hgrow6 rfl hat6
            have BW6:=BW5.grown hgrow6 BW5.size (fun k hk=>by have h:=(hinsO.out k (List.mem_append_left _ (mem_opt.2 hk))).1;omega);have A6:=A5.other hgrow6 (fun e=>by have h:=(hinsO.out _ (List.mem_append_left _ (mem_opt.2 e))).1;omega);clear ho ho5 k2 k5 hown6 hgrow6 hat6 hnew hrow5 ka BW5 BW hb2 hb4 hb5 A A5 K;go_roundw
            case rel=>exact⟨at_+1+n,out++[body],_,_,HNX.out,by go_num,OP,HOL.out,HN.out,A6,BW6⟩
            case measure=>have:=HNX.out;simp[intOf];omega
      · have e:at_=data.length:=by omega
        subst e
        have HE:Hid (fin=some out):=by show _=_;rw[HFN.out,zCc (by omega)]
        have c0:=A.cell 0;have c1:=A.cell 1;have fz:=A.frozen;simp at c0 c1;clear A hord;go_wp2_with fail;refine bodyPost_ret (v:=.agg #[.int .i64 0,.slice po out.length qo]) (by simp[results,results207,go_sem,c0,c1]) rfl ⟨_,by rw[(HZ.out.2 _ HE.out).1],⟨xs,fp,?_⟩,(BW.setCell (yf _) _).setCell (yf _) _⟩;rw[(HZ.out.2 _ HE.out).2];refine(ho.fr fun k hk=>?_).low (yh _);have h1:=(ho.ins k hk).1;rw[heap_setCell_other _ _ k _ (by show k≠w.heap.size;omega),heap_setCell_other _ _ k _ (by show k≠w.heap.size;omega)]
  · have hI:160<(data.length:Int):=by omega
    rw[(zIo hd).1,(zIo hd).2];go_enter func207,ntmps207;go_wp2;exact bodyPost_ret (v:=.agg #[.int .i64 2,.slice none 0 0]) (by simp[results,results207,go_sem]) rfl ⟨_,rfl,⟨_,_,zCt _ _⟩,zA _ _⟩
theorem zAL:msgC.Mono:=zAa (zCJ _) zBA
theorem zEp:msgsC.Mono:=zJK zAL
theorem zCX {w:World} {ops:Array Oper} {rest:List Oper} {o:Oper} {a:Act} {Q:Exit→Act→World→Prop} (hgd:o.guard=none) (s x:Operand)
    (ho:o.op=.call { callee:=.builtin .append,args:=#[s,x],argTypes:=#[28,28] })
    (B:Nat) (v:Value) (n:Nat) (xs:List Value) (hs:a.eval s=v) (hown:w.ownsRow B 46 2 v n xs) (p:Option Addr) (q m:Nat) (ys:List Value) (hx:a.eval x=.slice p m q) (hr:Raw w p q m 2 ys) (h1:∀ u∈ys,u.oneCell'=true)
    (hl:n+m≤1000000) (hB:B≤w.heap.size)
    (h:∀ v' w',w'.ownsRow B 46 2 v' (n+m) (xs++ys)→w.grownBy w' v.ownBlock→wpList prog ops Q rest (a.put o.dst v') w'):wpList prog ops Q (o :: rest) a w:=by
  obtain⟨i0,hi,hz0,hz1,hz2⟩:=info_parts zBM;cases p with
  | none=>
    obtain⟨rfl,rfl,rfl⟩:=hr.none_len;refine wpList_append_own_none hgd s x _ ho B _ i0 2 underlying28 hi v n _ hs hown hx ?_;exact h v w (by rw[List.append_nil];exact hown) (World.grownBy.refl _ _)
  | some ad=>
    refine wpList_append_own _ hgd s x _ ho B 46 i0 (.agg #[.int .i64 0,.slice none 0 0]) 2 32 underlying28 hi hz0 hz1 hz2 rfl (by decide) v n xs hs hown ad m q ys hx hr.1 ?_ h1 (by unfold maxLen;omega) (by omega) hB fun v' w' h2 h3 _=>h v' w' h2 h3
    intro j u hu
    have hj:j<m*2:=by rw[← hr.1];exact(List.getElem?_eq_some_iff.1 hu).1
    obtain⟨b,off,e,hc⟩:=hr.2.2.2.2 (by omega);cases e;rw[zD7];exact hc j u hu
theorem zNi (n:Nat) (w:World) (h0:0<n) (hn:n≤1000000):
    Calls prog 184 #[.slice none 0 0,.int .i64 (n:Int)] w fun e w'=>∃ g cap,e=.returned (.slice (some ⟨g,0,none⟩) 0 cap)∧w'.ownsRow w.heap.size 46 2 (.slice (some ⟨g,0,none⟩) 0 cap) 0 []∧Below w.heap.size w w':=by
  obtain⟨i0,hi,hz0,hz1,hz2⟩:=info_parts zBM
  have hI:0<(n:Int):=by omega
  have hI2:(n:Int)≤1000000:=by omega
  have hr:=Lib.run_append_nil_zeros (P:=prog) w 28 3 28 46 i0 (.agg #[.int .i64 0,.slice none 0 0]) .i64 .i64 underlying28 underlying3 hi hz0 n h0 (by rw[hz1];decide) (by omega) (by rw[hz2];omega);have hge:=grownCap_ge w n 0 46;have hcm:grownCap w n 0 46≤maxLen:=grownCap_le_maxLen w n 0 46 (by unfold maxLen;omega)
  have hown:=World.ownsRow_made (base:=w.heap.size) (e:=46) (size:=2) w.drew (Builtin.zeroCells (Value.cells (.agg #[.int .i64 0,.slice none 0 0])) n++Builtin.zeroCells (Value.cells (.agg #[.int .i64 0,.slice none 0 0])) (grownCap w n 0 46-n)) (grownCap w n 0 46) (yf _) hcm (by
    rw[Array.size_append,size_zeroCells,size_zeroCells,← Nat.add_mul]
    show _*2=_
    congr 1
    omega)
  have hb:Below w.heap.size w (w.drew.alloc (.cells (Builtin.zeroCells (Value.cells (.agg #[.int .i64 0,.slice none 0 0])) n++Builtin.zeroCells (Value.cells (.agg #[.int .i64 0,.slice none 0 0])) (grownCap w n 0 46-n)) 46)):=yt (Below.refl _ _).drew _;generalize w.drew.alloc (.cells (Builtin.zeroCells (Value.cells (.agg #[.int .i64 0,.slice none 0 0])) n++Builtin.zeroCells (Value.cells (.agg #[.int .i64 0,.slice none 0 0])) (grownCap w n 0 46-n)) 46)=W at *;generalize grownCap w n 0 46=cap at *
  have hcap:(cap:Int)≤9223372036854775807:=by unfold maxLen at hcm;omega
  clear hi hz0 hz1 hz2 hge;go_enter func184,ntmps184;go_wp2_with (at_builtin;refine Lib.wpList_append_run _ rfl _ _ _ _ rfl _ _ rfl rfl _ _ hr ?_);go_ret;exact⟨_,_,rfl,hown,hb⟩
theorem zLe (g n1 n2 q1 q2:Nat) (p1 p2:Option Addr) (xs ys:List Value) (w:World) (A:Arr w g 28 [.slice p1 n1 q1,.slice p2 n2 q2]) (r1:Raw w p1 q1 n1 2 xs) (r2:Raw w p2 q2 n2 2 ys) (o1:∀ u∈xs,u.oneCell'=true) (o2:∀ u∈ys,u.oneCell'=true) (h0:0<n1+n2) (hn:n1+n2≤1000000):
    Calls prog 146 #[.slice (some ⟨g,0,none⟩) 2 2] w fun e w'=>∃ v,e=.returned v∧w'.ownsRow w.heap.size 46 2 v (n1+n2) (xs++ys)∧Below w.heap.size w w':=by
  have HR1:Hid (Raw w p1 q1 n1 2 xs):=r1;have HR2:Hid (Raw w p2 q2 n2 2 ys):=r2;have HO1:Hid (∀ u∈xs,u.oneCell'=true):=o1;have HO2:Hid (∀ u∈ys,u.oneCell'=true):=o2;obtain⟨c0,c1⟩:=zc2 A
  have hn1:(n1:Int)≤1000000:=by omega
  have hn2:(n2:Int)≤1000000:=by omega
  have hn3:(n1:Int)+(n2:Int)≤1000000:=by omega
  have KG:=fun w=>zNi (n1+n2) w h0 hn
  have HN:Hid (n1+n2≤1000000):=hn;clear r1 r2 o1 o2 h0 hn;go_enter func146,ntmps146;go_wp2_with fail
  go_loopw [3,11] (fun sz i wr=>((i=.int .i64 0∧sz=.int .i64 0)∨(i=.int .i64 1∧sz=.int .i64 (n1:Int))∨(i=.int .i64 2∧sz=.int .i64 ((n1:Int)+(n2:Int))))∧wr=w)
    (fun _ i _=>2-(intOf i).toNat)
  case atStart=>exact⟨.inl ⟨rfl,rfl⟩,rfl⟩
  case round=>
    obtain⟨⟨rfl,rfl⟩ | ⟨rfl,rfl⟩ | ⟨rfl,rfl⟩,rfl⟩:=hrel
    · go_wp2_with fail;go_roundw
      case rel=>exact⟨.inr (.inl ⟨by go_num,by go_num⟩),trivial⟩
      case measure=>simp[intOf]
    · go_wp2_with fail;go_roundw
      case rel=>exact⟨.inr (.inr ⟨by go_num,by go_num⟩),trivial⟩
      case measure=>simp[intOf]
    · go_wp2_with fail;have kg:=KG wr;rw[Int.natCast_add] at kg;have HG:Hid (g<wr.heap.size):=A.lt;refine kg.mono ?_;rintro e w1 ⟨g1,cap1,rfl,hown,hb1⟩;replace A:=A.stay hb1;obtain⟨w3,e3⟩:∃ v,v=wr:=⟨_,rfl⟩;subst e3;clear kg KG c0 c1;go_wp2_with fail
      go_loopw [6,27] (fun v i wx=>((i=.int .i64 0∧wx.ownsRow w3.heap.size 46 2 v 0 [])∨(i=.int .i64 1∧wx.ownsRow w3.heap.size 46 2 v n1 xs)∨(i=.int .i64 2∧wx.ownsRow w3.heap.size 46 2 v (n1+n2) (xs++ys)))∧Below w3.heap.size w3 wx∧Arr wx g 28 [.slice p1 n1 q1,.slice p2 n2 q2])
        (fun _ i _=>2-(intOf i).toNat)
      case atStart=>exact⟨.inl ⟨rfl,hown⟩,hb1,A⟩
      case round=>
        clear hown hb1 A;obtain⟨⟨rfl,ho⟩ | ⟨rfl,ho⟩ | ⟨rfl,ho⟩,BX,AX⟩:=hrel
        · skip
          have c:=zQ (AX.cell 0) rfl;obtain⟨p6,q6,rfl,r6⟩:=zBU ho;have HQ6:Hid (q6≤2 ^ 63-1):=r6.2.2.1;have RR:=HR1.out.keep BX
          have hge:Hid (∀ k,(Value.slice p6 0 q6).ownBlock=some k→w3.heap.size≤k):=fun k hk=>(World.ownsRow.lt ho k hk).1
          clear r6;go_wp2_with (at_builtin;refine zCX rfl (.tmp 31) (.tmp 32) rfl w3.heap.size (.slice p6 0 q6) 0 [] rfl ho p1 q1 n1 xs rfl RR HO1.out (by have:=HN.out;omega) BX.size ?_;intro v7 w7 ho7 hg7);replace BX:=BX.grown hg7 BX.size (fun k hk=>hge.out k hk);replace AX:=AX.other hg7 (fun e=>by have h1:=hge.out g e;have h2:=HG.out;omega);obtain⟨p7,q7,rfl,r7⟩:=zBU ho7;clear ho hg7 RR c r7;go_wp2_with fail;go_roundw
          case rel=>exact⟨.inr (.inl ⟨by go_num,by rw[Nat.zero_add,yl] at ho7;first | exact ho7 | (rw[Nat.zero_add];exact ho7)⟩),BX,AX⟩
          case measure=>simp[intOf]
        · skip
          have c:=zQ (AX.cell 1) rfl;obtain⟨p6,q6,rfl,r6⟩:=zBU ho;have HQ6:Hid (q6≤2 ^ 63-1):=r6.2.2.1;have RR:=HR2.out.keep BX
          have hge:Hid (∀ k,(Value.slice p6 n1 q6).ownBlock=some k→w3.heap.size≤k):=fun k hk=>(World.ownsRow.lt ho k hk).1
          clear r6;go_wp2_with (at_builtin;refine zCX rfl (.tmp 31) (.tmp 32) rfl w3.heap.size (.slice p6 n1 q6) n1 xs rfl ho p2 q2 n2 ys rfl RR HO2.out (by have:=HN.out;omega) BX.size ?_;intro v7 w7 ho7 hg7);replace BX:=BX.grown hg7 BX.size (fun k hk=>hge.out k hk);replace AX:=AX.other hg7 (fun e=>by have h1:=hge.out g e;have h2:=HG.out;omega);obtain⟨p7,q7,rfl,r7⟩:=zBU ho7;clear ho hg7 RR c r7;go_wp2_with fail;go_roundw
          case rel=>exact⟨.inr (.inr ⟨by go_num,ho7⟩),BX,AX⟩
          case measure=>simp[intOf]
        · obtain⟨p6,q6,rfl,r6⟩:=zBU ho;clear r6;go_wp2_with fail;go_ret;exact⟨_,rfl,ho,BX⟩
end Go.Proofs.YtiabacnmmojfjaaGreatDoor
