import Derived.Test.YtbaldmmbphbinaaGreatDoorJoint12
import Derived.Test.YtbaldmmbphbinaaGreatDoorJoint11
set_option maxHeartbeats 2000000
set_option maxRecDepth 4000
namespace Go.Proofs.YtbaldmmbphbinaaGreatDoor
open Go.ChangeShapes Go.WideShapes Go.ChangeAt Go.RowKit
theorem zJJ {α:Type} {P:Nat→α→Prop}:∀ n,(∀ i,i<n→∃ x,P i x)→∃ l:List α,l.length=n∧∀ i x,l[i]?=some x→P i x
  | 0,_=>⟨[],rfl,fun i x h=>by simp at h⟩
  | n+1,h=>by
    obtain⟨l,hl,hp⟩:=zJJ n (fun i hi=>h i (by omega));obtain⟨y,hy⟩:=h n (Nat.lt_succ_self n);refine⟨l++[y],by simp[hl],fun i x hx=>?_⟩
    by_cases hi:i<n
    · rw[List.getElem?_append_left (by omega)] at hx;exact hp i x hx
    · have e:i=n:=by have:=(List.getElem?_eq_some_iff.1 hx).1;simp[hl] at this;omega
      subst e;rw[List.getElem?_append_right (by omega),hl,Nat.sub_self] at hx;simp at hx;subst hx;exact hy
def pRow (ps:List Pi) (j:Nat):List Value:=(ps.take j).map Pi.val++List.replicate (ps.length-j) .nilIface
theorem zKU {ps:List Pi} {j:Nat} {x:Pi} (h:ps[j]?=some x):(pRow ps j).set j x.val=pRow ps (j+1):=by
  have hj:=(List.getElem?_eq_some_iff.1 h).1;unfold pRow;rw[List.set_append_right _ _ (by simp;omega),List.take_add_one,h]
  have e:ps.length-j=(ps.length-(j+1))+1:=by omega
  rw[e,List.replicate_succ];simp[Nat.min_eq_left (Nat.le_of_lt hj)]
theorem zLx {ps:List Pi} {j:Nat} (h:j<ps.length):(pRow ps j)[j]?=some .nilIface:=by
  unfold pRow;rw[List.getElem?_append_right (by simp;omega)]
  have e:ps.length-j=(ps.length-(j+1))+1:=by omega
  rw[e,List.replicate_succ];simp[Nat.min_eq_left (Nat.le_of_lt h)]
theorem zKV (ps:List Pi):pRow ps ps.length=ps.map Pi.val:=by simp[pRow]
theorem zGl {w:World} {B g n:Nat} {t:TypeId} {vs:List Value} (h:w.ownsRow B t 1 (.slice (some ⟨g,0,none⟩) n n) n vs):Arr w g t vs:=by
  obtain⟨h1,h2⟩:=h;rcases h2 with ⟨e,-⟩ | ⟨g',cap,cur,e,hb,hg,hle,hm,hs,ht⟩
  · simp at e
  · simp at e;obtain⟨rfl,rfl⟩:=e
    have e2:cur.toList=vs:=by
      rw[← ht,List.take_of_length_le (by simp;omega)]
    unfold Arr;rw[hg,← e2]
theorem zJK:(Tryz.prog.info? 209).map (fun i=>(i.zero,i.size,i.bytes))=some (some .nilIface,1,16):=by kernel_rfl
theorem zGm {w:World} {B g:Nat} {ps:List Pi} (h:w.ownsRow B 209 1 (.slice (some ⟨g,0,none⟩) ps.length ps.length) ps.length (madeCells (Value.cells .nilIface) (ps.length*1)).toList):Arr w g 209 (pRow ps 0):=by
  have h2:=zGl h
  have e:(madeCells (Value.cells .nilIface) (ps.length*1)).toList=pRow ps 0:=by
    rw[Nat.mul_one,show(madeCells (Value.cells .nilIface) ps.length).toList=List.replicate ps.length .nilIface from toList_madeCells_one _ _];simp[pRow]
  rw[e] at h2;exact h2
theorem zLy (ps:List Pi) (l:List BlkD) (hl:ps.length=l.length) (h:∀ (i:Nat) (x:Pi),ps[i]?=some x→x.m=false∧l[i]?=some x.bs):(pisF ps=if okBl l=true then 0 else 2)∧pisO ps=zAQ l:=by
  induction ps generalizing l with
  | nil=>cases l with
    | nil=>exact⟨rfl,rfl⟩
    | cons a l=>simp at hl
  | cons x ps ih=>cases l with
    | nil=>simp at hl
    | cons a l=>
      obtain⟨h1,h2⟩:=ih l (by simpa using hl) (fun i y hy=>by have:=h (i+1) y (by simpa using hy);simpa using this);obtain⟨hm,ha⟩:=h 0 x rfl;simp at ha;subst ha
      have e:x.fc=blkF x.bs.length:=by rw[Pi.fc,hm];rfl
      refine⟨?_,?_⟩
      · rw[pisF,e,h1];unfold blkF
        by_cases hb:x.bs.length≤120
        · simp[hb,okBl]
        · simp[hb,okBl]
      · rw[zAy,← h2];simp[pisO,Pi.out,Pi.hd,hm,blkW]
theorem zGn {w:World} {p:Option Addr} {q:Nat} {l:List BlkD} (h:RdL bytC w p q l):∃ ps:List Pi,ps.length=l.length∧∀ (i:Nat) (x:Pi),ps[i]?=some x→(x.m=false∧l[i]?=some x.bs)∧Rd w x.p x.q x.bs∧∃ b o,p=some ⟨b,o,none⟩∧w.cell? ⟨b,o+i,none⟩=some (.slice x.p x.bs.length x.q):=by
  refine zJJ l.length (fun i hi=>?_);obtain⟨b,o,rfl,hc⟩:=h.2.2.2 (by omega);obtain⟨us,⟨pa,qa,rfl,ra⟩,hcell⟩:=hc i l[i] (by simp[hi]);have c:=hcell 0 _ rfl;rw[show bytC.n=1 from rfl,Nat.mul_one,Nat.add_zero] at c;exact⟨⟨false,0,pa,qa,l[i]⟩,⟨rfl,by simp[hi]⟩,ra,b,o,rfl,c⟩
theorem zMh {ps:List Pi} {l:List BlkD} (hl:l.length≤8) (h:(pisF ps=if okBl l=true then 0 else 2)∧pisO ps=zAQ l):pbC l=pkC ps 160∧pbL l=pkL ps 160:=by
  have e:pbC l=pkC ps 160:=by
    rw[pbC,pkC,h.1,h.2]
    cases okBl l <;> simp[hl]
  exact⟨e,by rw[pbL,pkL,e,h.2]⟩
theorem zHK {l:List BlkD} (hl:¬ l.length≤8):pbC l=2∧pbL l=[]:=by
  have e:pbC l=2:=by rw[pbC,if_neg (fun h=>hl h.1)]
  exact⟨e,by rw[pbL,e,if_neg (by decide)]⟩
theorem zKW (l:List BlkD) (p:Option Addr) (q:Nat) (w:World) (hr:RdL bytC w p q l):
    Calls Tryz.prog 144 #[.slice p l.length q] w fun e w'=>∃ u,e=.returned (.agg #[.int .i64 (pbC l),u])∧Own w' w.heap.size u (pbL l)∧Below w.heap.size w w':=by
  have A0:=Arr.new w [.int .i64 0,.slice none 0 0] 126;have B0:=zA w (.cells #[.int .i64 0,.slice none 0 0] 126)
  by_cases hl:l.length≤8
  · have hlI:¬ (8<(l.length:Int)):=by omega
    obtain⟨ps,hpl,hps⟩:=zGn hr;have HPS:Hid (∀ (i:Nat) (x:Pi),ps[i]?=some x→(x.m=false∧l[i]?=some x.bs)∧Rd w x.p x.q x.bs∧∃ b o,p=some ⟨b,o,none⟩∧w.cell? ⟨b,o+i,none⟩=some (.slice x.p x.bs.length x.q)):=hps;obtain⟨e1,e2⟩:=zMh hl (zLy ps l hpl fun i x hx=>(hps i x hx).1);rw[e1,e2,← hpl];have hq:=hr.1;have hq2:q≤2 ^ 63-1:=hr.2.1
    have hn12:ps.length≤8:=by omega
    have hnI:(ps.length:Int)≤8:=by omega
    have hnq:ps.length≤q:=by omega
    have K:Hid (∀ W,Pis W (w.heap.size+1) 0 ps→Calls Tryz.prog 166 #[.slice (some ⟨w.heap.size+1,0,none⟩) ps.length ps.length,.int .i64 160] W fun e w'=>∃ u,e=.returned (.agg #[.int .i64 (pkC ps 160),u])∧Own w' W.heap.size u (pkL ps 160)∧Below W.heap.size W w'):=fun W hP=>zKN ps (w.heap.size+1) 0 ps.length 160 W hP (by omega) (by decide)
    obtain⟨pc,HPC⟩:∃ pc,Hid (pc=pkC ps 160):=⟨_,rfl⟩;obtain⟨pl,HPL⟩:∃ pl,Hid (pl=pkL ps 160):=⟨_,rfl⟩;rw[← HPC.out,← HPL.out] at K ⊢;clear HPC HPL e1 e2 hps hr hpl hl hlI hq;obtain⟨i0,hi,hz0,hz1,hz2⟩:=info_parts zJK;go_enter Tryz.func144,Tryz.ntmps144;go_wp2_with (at_make;refine wpList_make_full _ rfl (.tmp 11) (.tmp 11) 206 rfl w.heap.size 209 i0 .nilIface 1 Tryz.underlying206 hi hz0 hz1 .i64 .i64 _ _ ps.length rfl rfl rfl rfl (by rw[hz2];omega) (by unfold maxLen;omega) (by rw[zD];omega) ?_;intro w1 hown hgrow);have A1:=A0.other hgrow (by simp);have B1:=B0.grown hgrow B0.size (fun k hk=>by simp at hk);rw[zD] at hown;have P1:=zGm hown;clear hown hgrow A0 B0
    go_loopw [15] (fun i wr=>∃ j:Nat,j≤ps.length∧i=.int .i64 j∧Arr wr (w.heap.size+1) 209 (pRow ps j)∧Arr wr w.heap.size 126 [.int .i64 0,.slice none 0 0]∧Below w.heap.size w wr)
      (fun i _=>ps.length-(intOf i).toNat)
    case atStart=>exact⟨0,Nat.zero_le _,rfl,P1,A1,B1⟩
    case round=>
      clear P1 A1 B1;obtain⟨j,hj,rfl,P,A,BW⟩:=hrel
      by_cases hlt:j<ps.length
      · have hI:(j:Int)<(ps.length:Int):=by omega
        obtain⟨x,hx⟩:∃ x,Hid (ps[j]?=some x):=⟨ps[j],by show _=_;simp[hlt]⟩;obtain⟨⟨hxm,-⟩,-,b,o,hpe,hc0⟩:=HPS.out j x hx.out;have HPE:Hid (p=some ⟨b,o,none⟩):=hpe;rw[HPE.out];clear hpe;have d0:=zE hc0 BW;have P3:=P.set j x.val;rw[zKU hx.out] at P3;have A3:=A.setOther (a:=⟨w.heap.size+1,j,none⟩) (by show w.heap.size≠w.heap.size+1;omega) x.val;have B3:=BW.setCell (p:=⟨w.heap.size+1,j,none⟩) (Nat.le_succ _) x.val;have cj:wr.cell? ⟨w.heap.size+1,j,none⟩=some .nilIface:=(P.cell j).trans (zLx hlt);have fj:=P.frozen j;obtain⟨m,k,xp,xq,xb⟩:=x;simp only at hxm d0 cj fj P3 A3 B3;subst hxm;simp only[Pi.val,Bool.false_eq_true,if_false] at P3 A3 B3;clear P A BW hc0 hx;go_wp2_with fail;go_roundw
        case rel=>exact⟨j+1,by omega,by go_num,P3,A3,B3⟩
        case measure=>simp[intOf];omega
      · have e:j=ps.length:=by omega
        subst e;rw[zKV] at P
        have HP:Hid (Pis wr (w.heap.size+1) 0 ps):=fun i x hx=>by
          rw[Nat.zero_add,P.cell,List.getElem?_map,hx];exact⟨rfl,(HPS.out i x hx).2.1.keep BW⟩
        clear hlt P;go_wp2_with fail;refine(K.out _ HP.out).mono ?_;rintro e w3 ⟨u3,rfl,k3,hb3⟩;have hlt3:Hid (w.heap.size<wr.heap.size):=A.lt;have BW3:=Below.step BW hb3;have A3:=A.stay hb3;obtain⟨p3,q3,rfl,-⟩:=k3.rd;have c0:=A3.cell 0;have c1:=A3.cell 1;have fz:=A3.frozen;simp at c0 c1;clear A A3 BW HP K hb3;go_wp2_with fail;refine bodyPost_ret (v:=.agg #[.int .i64 pc,.slice p3 pl.length q3]) (by simp[results,Tryz.results144,go_sem,c0,c1]) rfl ⟨_,rfl,?_,(BW3.setCell (Nat.le_refl _) _).setCell (Nat.le_refl _) _⟩;exact((k3.set (a:=⟨w.heap.size,0,none⟩) hlt3.out _).set (a:=⟨w.heap.size,1,none⟩) hlt3.out _).lower (B':=w.heap.size) (Nat.le_of_lt hlt3.out)
  · have hlI:8<(l.length:Int):=by omega
    rw[(zHK hl).1,(zHK hl).2];go_enter Tryz.func144,Tryz.ntmps144;go_wp2;exact bodyPost_ret (v:=.agg #[.int .i64 2,.slice none 0 0]) (by simp[results,Tryz.results144,go_sem]) rfl ⟨_,rfl,zAA _ _,zA _ _⟩
theorem zIE (a b:Nat) (ha:a<9223372036854775808) (hb:b<9223372036854775808):bits .or .i64 (a:Int) (b:Int)=((a ||| b:Nat):Int):=by
  have hx:a ||| b<2 ^ 63:=Nat.or_lt_two_pow (by omega) (by omega)
  show IntKind.i64.wrap ((BitVec.ofInt 64 (a:Int) ||| BitVec.ofInt 64 (b:Int)).toNat:Int)=_
  rw[BitVec.toNat_or,zBv a ha,zBv b hb,zCG _ (by omega)]
theorem zEw (b o q:Nat) (data:List UInt8) (w:World) (hr:Rd w (some ⟨b,o,none⟩) q data) (hl:1≤data.length):
    Calls Tryz.prog 156 #[.int .i64 1,.slice (some ⟨b,o,none⟩) data.length q] w fun e w'=>e=.returned (.tuple #[.int .u8 0,.int .i64 ((zY data 0:Nat):Int)])∧Below w.heap.size w w':=by
  obtain⟨b',o',e,hc⟩:=hr.2.2.2 (by omega);cases e;have h0:=hc 0 (by omega);rw[Nat.add_zero] at h0
  have hlI:1≤(data.length:Int):=by omega
  have l0:=zDb data 0;have u0:=zDc data 0;rw[show((zY data 0:Nat):Int)=at8 data 0 from rfl];generalize at8 data 0=y0 at *
  have HO:bits .or .i64 0 y0=y0:=by
    obtain⟨y0,rfl⟩:=Int.eq_ofNat_of_zero_le l0;have h:=zIE 0 y0 (by omega) (by omega);rw[Nat.zero_or] at h;exact h
  clear hc hr hl;go_enter Tryz.func156,Tryz.ntmps156;go_wp2_with fail;exact bodyPost_ret (v:=.tuple #[.int .u8 0,.int .i64 y0]) (by simp[results,Tryz.results156,go_sem]) rfl ⟨rfl,Below.refl _ _⟩
theorem zFM (b o q:Nat) (data:List UInt8) (w:World) (hr:Rd w (some ⟨b,o,none⟩) q data) (hl:1≤data.length) (h2:120<zY data 0∨data.length-1<zY data 0):
    Calls Tryz.prog 135 #[.slice (some ⟨b,o,none⟩) data.length q] w fun e w'=>e=.returned (.tuple #[.slice none 0 0,.bool false])∧Below w.heap.size w w':=by
  have hlI:1≤(data.length:Int):=by omega
  have hq1:data.length≤q:=hr.1;have hq2:q≤2 ^ 63-1:=hr.2.1;have K:Hid (Calls Tryz.prog 156 #[.int .i64 1,.slice (some ⟨b,o,none⟩) data.length q] w fun e w'=>e=.returned (.tuple #[.int .u8 0,.int .i64 ((zY data 0:Nat):Int)])∧Below w.heap.size w w'):=zEw b o q data w hr hl;generalize zY data 0=n at *;clear hr
  by_cases h3:120<n
  case' pos=>
    have h3I:120<(n:Int):=by omega
    clear h2 h3
  case' neg=>
    have h3I:¬ (120<(n:Int)):=by omega
    have h4I:(data.length:Int)-1<(n:Int):=by omega
    have h5:data.length-1<n:=by omega
    clear h2 h3
  all_goals
    go_enter Tryz.func135,Tryz.ntmps135;go_wp2_with fail;refine K.out.mono ?_;rintro e w2 ⟨rfl,hb⟩;clear K;go_wp2_with fail
    all_goals exact bodyPost_ret (v:=.tuple #[.slice none 0 0,.bool false]) (by simp[results,Tryz.results135,go_sem]) rfl ⟨rfl,hb⟩
theorem zFN (b o q:Nat) (data:List UInt8) (w:World) (hr:Rd w (some ⟨b,o,none⟩) q data) (hl:1≤data.length) (h2:¬ (120<zY data 0∨data.length-1<zY data 0)):
    Calls Tryz.prog 135 #[.slice (some ⟨b,o,none⟩) data.length q] w fun e w'=>∃ u,e=.returned (.tuple #[u,.bool true])∧Own w' w.heap.size u (zAk data 0)∧Below w.heap.size w w':=by
  have hlI:1≤(data.length:Int):=by omega
  have hq1:data.length≤q:=hr.1;have hq2:q≤2 ^ 63-1:=hr.2.1;have K:Hid (Calls Tryz.prog 156 #[.int .i64 1,.slice (some ⟨b,o,none⟩) data.length q] w fun e w'=>e=.returned (.tuple #[.int .u8 0,.int .i64 ((zY data 0:Nat):Int)])∧Below w.heap.size w w'):=zEw b o q data w hr hl
  have h3I:¬ (120<((zY data 0:Nat):Int)):=by omega
  have h4I:¬ ((data.length:Int)-1<((zY data 0:Nat):Int)):=by omega
  have h5:¬ (data.length-1<zY data 0):=by omega
  have hbl:Hid ((zAk data 0).length=zY data 0):=by show _=_;unfold zAk;rw[List.length_take,List.length_drop];omega
  have hR2:Hid (Rd w (if q=1 then some ⟨b,o,none⟩ else some ⟨b,o+1,none⟩) (q-1) (zAk data 0)):=by
    have hcut:=hr.cut 1 (zY data 0) (q-1) (by omega) (by omega) (by have:=hr.2.1;omega)
    show Rd _ _ _ _
    split
    · rename_i hq
      have hn0:zY data 0=0:=by omega
      have e0:zAk data 0=[]:=List.eq_nil_of_length_eq_zero (by rw[hbl.out,hn0]);rw[e0];exact⟨by simp,by unfold maxLen;omega,fun e=>by simp at e,fun h=>by simp at h⟩
    · exact hcut
  have KC:Hid (∀ W,Below w.heap.size w W→Calls Tryz.prog 21 #[.slice (if q=1 then some ⟨b,o,none⟩ else some ⟨b,o+1,none⟩) (zY data 0) (q-1)] W fun e w'=>∃ u,e=.returned u∧Own w' W.heap.size u (zAk data 0)∧Below W.heap.size W w'):=fun W hb=>by
    have h:=zAz _ _ _ W (hR2.out.keep hb) (by rw[hbl.out];omega);rw[hbl.out] at h;exact h
  generalize zAk data 0=body at *;generalize zY data 0=n at *;clear hr h2 hR2;go_enter Tryz.func135,Tryz.ntmps135;go_wp2_with fail;refine K.out.mono ?_;rintro e w2 ⟨rfl,hb⟩;clear K;go_wp2_with fail
  all_goals
    have KC2:=KC.out w2 hb;simp only[h,if_true,if_false,Nat.sub_self] at KC2;refine KC2.mono ?_;rintro e w3 ⟨u3,rfl,k3,hb3⟩;have B3:=Below.step hb hb3;have k3':=k3.lower (B':=w.heap.size) hb.size;obtain⟨p3,q3,rfl,-⟩:=k3.rd;rw[hbl.out] at k3' ⊢;clear KC KC2 hb3 k3;go_wp2_with fail;exact bodyPost_ret (v:=.tuple #[.slice p3 n q3,.bool true]) (by simp[results,Tryz.results135,go_sem]) rfl ⟨_,rfl,k3',B3⟩
theorem zDU (data:List UInt8) (k:Nat):zY (data.drop k) 0=zY data k:=by simp[zY,List.getD_eq_getElem?_getD]
theorem zIF (data:List UInt8) (k:Nat):zAk (data.drop k) 0=zAk data k:=by unfold zAk;rw[zDU,List.drop_drop,Nat.zero_add]
theorem zKX (data:List UInt8) (p:Option Addr) (q:Nat) (w:World) (hr:Rd w p q data):
    Calls Tryz.prog 115 #[.slice p data.length q] w fun e w'=>∃ v,e=.returned (.agg #[.int .i64 (ubC data),v])∧(∃ xs fp,OwnL 22 bytC w' w.heap.size v (ubL data) xs fp)∧Below w.heap.size w w':=by
  have A0:=Arr.new w [.int .i64 0,.slice none 0 0] 139;have B0:=zA w (.cells #[.int .i64 0,.slice none 0 0] 139)
  by_cases hd:data.length≤160
  · have hdI:¬ (160<(data.length:Int)):=by omega
    have HR:Hid (Rd w p q data):=hr;have hq1:data.length≤q:=hr.1;have hq2:q≤2 ^ 63-1:=hr.2.1;obtain⟨fin,HF⟩:∃ fin,Hid (fin=zAE data 0 []):=⟨_,rfl⟩
    have HZ:Hid ((fin=none→ubC data=5∧ubL data=[])∧∀ r,fin=some r→ubC data=0∧ubL data=r):=
      ⟨fun e=>zKO hd (by rw[← HF.out,e]),fun r e=>zKP hd (by rw[← HF.out,e])⟩
    clear hr;go_enter Tryz.func115,Tryz.ntmps115;go_wp2_with fail
    go_loopw [3,4] (fun v i wr=>∃ (at_:Nat) (out:List BlkD) (xs:List Value) (fp:List Nat),at_≤data.length∧i=.int .i64 at_∧OwnL 22 bytC wr (w.heap.size+1) v out xs fp∧out.length≤8∧fin=zAE data at_ out∧Arr wr w.heap.size 139 [.int .i64 0,.slice none 0 0]∧Below w.heap.size w wr)
      (fun _ i _=>data.length-(intOf i).toNat)
    case atStart=>exact⟨0,[],[],[],Nat.zero_le _,rfl,zCA _ _,by decide,HF.out,A0,B0⟩
    case round=>
      clear A0 B0 HF;obtain⟨at_,out,xs,fp,hat,rfl,ho,hol,hfin,A,BW⟩:=hrel;have HFN:Hid (fin=zAE data at_ out):=hfin;clear hfin;obtain⟨po,qo,rfl,hord⟩:=ho.rd;have hqo1:out.length≤qo:=hord.1;have hqo2:qo≤2 ^ 63-1:=hord.2.1
      by_cases hlt:at_<data.length
      · have hI:(at_:Int)<(data.length:Int):=by omega
        obtain⟨b,o,e1,-⟩:=(HR.out.keep BW).2.2.2 (by omega);have HPE:Hid (p=some ⟨b,o,none⟩):=e1;rw[HPE.out]
        have hqa:¬ (q=at_):=by omega
        have hdl:Hid ((data.drop at_).length=data.length-at_):=List.length_drop
        have HD:Hid (Rd wr (some ⟨b,o+at_,none⟩) (q-at_) (data.drop at_)):=by
          have h:=HR.out.keep BW;rw[HPE.out] at h;have hcut:=h.cut at_ (data.length-at_) (q-at_) (by omega) (by omega) (by have:=HR.out.2.1;omega);rw[List.take_of_length_le (by rw[hdl.out];omega)] at hcut;exact hcut
        clear hord e1
        by_cases h2:120<zY data at_∨data.length-at_-1<zY data at_
        · have HE:Hid (fin=none):=by show _=_;rw[HFN.out,zB5 hlt (by omega)]
          have K:Hid (Calls Tryz.prog 135 #[.slice (some ⟨b,o+at_,none⟩) (data.length-at_) (q-at_)] wr fun e w'=>e=.returned (.tuple #[.slice none 0 0,.bool false])∧Below wr.heap.size wr w'):=by
            have h:=zFM b (o+at_) (q-at_) (data.drop at_) wr HD.out (by rw[hdl.out];omega) (by rw[zDU,hdl.out];exact h2);rw[hdl.out] at h;exact h
          clear HD HFN hdl h2;go_wp2_with fail;refine K.out.mono ?_;rintro e w2 ⟨rfl,hb⟩;have A2:=A.stay hb;have B2:=Below.step BW hb;have c0:=A2.cell 0;have c1:=A2.cell 1;have fz:=A2.frozen;simp at c0 c1;clear A A2 BW K hb ho;go_wp2_with fail;exact bodyPost_ret (v:=.agg #[.int .i64 5,.slice none 0 0]) (by simp[results,Tryz.results115,go_sem,c0,c1]) rfl ⟨_,by rw[(HZ.out.1 HE.out).1],⟨_,_,by rw[(HZ.out.1 HE.out).2];exact zCA _ _⟩,(B2.setCell (Nat.le_refl _) _).setCell (Nat.le_refl _) _⟩
        · have K:Hid (Calls Tryz.prog 135 #[.slice (some ⟨b,o+at_,none⟩) (data.length-at_) (q-at_)] wr fun e w'=>∃ u,e=.returned (.tuple #[u,.bool true])∧Own w' wr.heap.size u (zAk data at_)∧Below wr.heap.size wr w'):=by
            have h:=zFN b (o+at_) (q-at_) (data.drop at_) wr HD.out (by rw[hdl.out];omega) (by rw[zDU,hdl.out];exact h2);rw[hdl.out,zIF] at h;exact h
          have HBL:Hid ((zAk data at_).length=zY data at_):=by show _=_;unfold zAk;rw[List.length_take,List.length_drop];omega
          have HNX:Hid (at_+1+zY data at_≤data.length):=by show _≤_;omega
          have hnI:((zY data at_:Nat):Int)≤160:=by omega
          by_cases h8:out.length=8
          · have h8I:((out.length:Int)==8)=true:=by rw[beq_iff_eq];omega
            have HE:Hid (fin=none):=by show _=_;rw[HFN.out,zB5 hlt (by omega)]
            clear HD HFN hdl h2 h8;generalize zAk data at_=body at *;generalize zY data at_=n at *;go_wp2_with fail;refine K.out.mono ?_;rintro e w2 ⟨u2,rfl,-,hb⟩;have A2:=A.stay hb;have B2:=Below.step BW hb;have c0:=A2.cell 0;have c1:=A2.cell 1;have fz:=A2.frozen;simp at c0 c1;clear A A2 BW K hb ho;go_wp2_with fail;exact bodyPost_ret (v:=.agg #[.int .i64 5,.slice none 0 0]) (by simp[results,Tryz.results115,go_sem,c0,c1]) rfl ⟨_,by rw[(HZ.out.1 HE.out).1],⟨_,_,by rw[(HZ.out.1 HE.out).2];exact zCA _ _⟩,(B2.setCell (Nat.le_refl _) _).setCell (Nat.le_refl _) _⟩
          · have h8I:((out.length:Int)==8)=false:=by rw[beq_eq_false_iff_ne];omega
            have HN:Hid (fin=zAE data (at_+1+zY data at_) (out++[zAk data at_])):=by show _=_;rw[HFN.out,zB6 hlt (by omega)]
            have HOL:Hid ((out++[zAk data at_]).length≤8):=by show _≤_;rw[List.length_append,List.length_singleton];omega
            clear HD HFN hdl h2 h8;generalize zAk data at_=body at *;generalize zY data at_=n at *;go_wp2_with fail;refine K.out.mono ?_;rintro e w2 ⟨u2,rfl,k2,hb2⟩;obtain⟨pv,qv,rfl,-⟩:=k2.rd;rw[HBL.out] at k2 ⊢;have hw2:Hid (wr.heap.size≤w2.heap.size):=hb2.size
            have hnew:∀ j u,[Value.slice pv n qv][j]?=some u→(w2.alloc (.cells #[.slice pv n qv] 22)).cell? ((⟨w2.heap.size,0,none⟩:Addr).add j)=some u:=fun j u hj=>(Arr.new w2 [.slice pv n qv] 22).cells j u hj
            have hb4:=zA w2 (.cells #[.slice pv n qv] 22);have k5:=k2.stay hb4;have hb5:=Below.step hb2 hb4;have ho5:=ho.stay hb5;have A5:=A.stay hb5;have BW5:=Below.step BW hb5;have hrow5:Hid ((w2.alloc (.cells #[.slice pv n qv] 22)).ownsRow (w.heap.size+1) 22 1 (.slice po out.length qo) out.length xs):=ho5.row
            have hlow:Hid (∀ j,(Value.slice pv n qv).ownBlock=some j→wr.heap.size≤j):=fun j hj=>k5.ge j hj
            have hinsO:Hid (∀ j,j∈(Value.slice po out.length qo).ownBlock.toList++fp→w.heap.size+1≤j∧j<wr.heap.size):=fun j hj=>ho.ins j hj
            have hzA:Hid (w.heap.size<wr.heap.size):=A.lt
            have hz5:Hid (w.heap.size+1≤(w2.alloc (.cells #[.slice pv n qv] 22)).heap.size):=by have:=A5.lt;show _≤_;omega
            obtain⟨i0,hi,hz0,hz1,hz2⟩:=info_parts zCv;go_wp2_with (at_builtin;go_loud (refine wpList_append_lies _ rfl (.tmp 30) (.tmp 32) 24 rfl (w.heap.size+1) 22 i0 (.slice none 0 0) 1 24 Tryz.underlying24 hi hz0 hz1 hz2 rfl (by decide) (.slice po out.length qo) out.length xs rfl hrow5.out ⟨w2.heap.size,0,none⟩ 1 1 [.slice pv n qv] rfl rfl hnew (by intro u hu;simp at hu;subst hu;rfl) (by decide) (by unfold maxLen;omega) (by omega) hz5.out _ rfl ?_);intro g6 c6 w6 hown6 hgrow6 hat6 hlt6);have ka:=zCf (a:=body) (k5.lower (B':=w.heap.size+1) hzA.out)
            have OP:=ho5.push ka (fun j hj hj2=>by
              have h1:=hlow.out j (mem_opt.1 hj);have h2:=(hinsO.out j hj2).2
              omega) (k:=out.length+1) (v':=.slice (some ⟨g6,0,none⟩) (out.length+1) c6) (g:=g6) hown6 (by simp) hgrow6 rfl hat6
            have BW6:=BW5.grown hgrow6 BW5.size (fun k hk=>by have h:=(hinsO.out k (List.mem_append_left _ (mem_opt.2 hk))).1;omega);have A6:=A5.other hgrow6 (fun e=>by have h:=(hinsO.out _ (List.mem_append_left _ (mem_opt.2 e))).1;omega);clear ho ho5 k2 k5 hown6 hgrow6 hat6 hnew hrow5 ka BW5 BW hb2 hb4 hb5 A A5 K;go_roundw
            case rel=>exact⟨at_+1+n,out++[body],_,_,HNX.out,by go_num,OP,HOL.out,HN.out,A6,BW6⟩
            case measure=>have:=HNX.out;simp[intOf];omega
      · have e:at_=data.length:=by omega
        subst e
        have HE:Hid (fin=some out):=by show _=_;rw[HFN.out,zBw (by omega)]
        have c0:=A.cell 0;have c1:=A.cell 1;have fz:=A.frozen;simp at c0 c1;clear A hord;go_wp2_with fail;refine bodyPost_ret (v:=.agg #[.int .i64 0,.slice po out.length qo]) (by simp[results,Tryz.results115,go_sem,c0,c1]) rfl ⟨_,by rw[(HZ.out.2 _ HE.out).1],⟨xs,fp,?_⟩,(BW.setCell (Nat.le_refl _) _).setCell (Nat.le_refl _) _⟩;rw[(HZ.out.2 _ HE.out).2];refine(ho.fr fun k hk=>?_).low (Nat.le_succ _);have h1:=(ho.ins k hk).1;rw[heap_setCell_other _ _ k _ (by show k≠w.heap.size;omega),heap_setCell_other _ _ k _ (by show k≠w.heap.size;omega)]
  · have hI:160<(data.length:Int):=by omega
    rw[(zHA hd).1,(zHA hd).2];go_enter Tryz.func115,Tryz.ntmps115;go_wp2;exact bodyPost_ret (v:=.agg #[.int .i64 2,.slice none 0 0]) (by simp[results,Tryz.results115,go_sem]) rfl ⟨_,rfl,⟨_,_,zCA _ _⟩,zA _ _⟩
end Go.Proofs.YtbaldmmbphbinaaGreatDoor
