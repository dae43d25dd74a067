import Derived.Test.YtiabacnmmojfjaaGreatDoorJoint16
import Derived.Test.YtiabacnmmojfjaaGreatDoorKeyI
import Derived.Test.YtiabacnmmojfjaaGreatDoorJoint14
import Derived.Test.YtiabacnmmojfjaaGreatDoorJoint13
set_option maxHeartbeats 1000000
set_option maxRecDepth 4000
open Go.Proofs.Tryz
namespace Go.Proofs.YtiabacnmmojfjaaGreatDoor
open Go.ChangeShapes Go.WideShapes Go.ChangeAt Go.RowKit
theorem zLa (p p2:Option Addr) (q q2:Nat) (key digest:List UInt8) (w:World) (hr:Rd w p q key) (hr2:Rd w p2 q2 digest) (hT:Tabs w):
    Calls prog 192 #[.slice p key.length q,.slice p2 digest.length q2] w fun e w'=>∃ u,e=.returned (.agg #[.int .i64 (fnC key digest),u])∧Own w' w.heap.size u (fnL key digest)∧Below w.heap.size w w':=by
  by_cases h1:key.length=32
  · have d1:((key.length:Int) != 32)=false:=by rw[bne_eq_false_iff_eq];omega
    by_cases h2:digest.length=32
    · have d2:((digest.length:Int) != 32)=false:=by rw[bne_eq_false_iff_eq];omega
      rw[show fnC key digest=0 by simp[fnC,h1,h2],show fnL key digest=finN key digest by simp[fnL,h1,h2]]
      have hk:keyB key=true:=by simp[keyB,h1]
      have hd:zEF digest=true:=by simp[zEF,h2]
      obtain⟨ek,hek⟩:∃ ek,Hid (ek=zAP key zBQ [] 32):=⟨_,rfl⟩
      have HL:Hid (ek.length=32):=by show _=_;rw[hek.out,zAP,zCp]
      have K:Hid (∀ w,Rd w p q key→Tabs w→Calls prog 212 #[.slice p key.length q,.string ⟨#[102,105,110,105,115,104,101,100]⟩,.slice none 0 0,.int .i64 32] w fun e w'=>∃ a c,e=.returned (.agg #[.int .i64 0,.slice a 32 c])∧Rd w' a c ek∧Below w.heap.size w w'):=fun w h h'=>by
        have g:=zEn p none q 0 key zBQ [] 32 w h ⟨yf _,by unfold maxLen;decide,fun _=>rfl,fun hp=>by simp at hp⟩ (by decide) h'
        have hc:zAm zBQ [] 32=0:=by decide
        rw[← zFB,show elC key zBQ [] 32=0 by simp[elC,hk,hc],show elL key zBQ [] 32=ek by rw[hek.out];simp[elL,elC,hk,hc]] at g;refine g.mono ?_;rintro e w1 ⟨u,rfl,ho,hb⟩;obtain⟨a,c,rfl,rd⟩:=ho.rd;rw[HL.out];exact⟨a,c,rfl,rd,hb⟩
      have KM:Hid (∀ w a c,Rd w a c ek→Rd w p2 q2 digest→Tabs w→Calls prog 213 #[.slice a 32 c,.slice p2 digest.length q2] w fun e w'=>∃ u,e=.returned (.agg #[.int .i64 0,u])∧Own w' w.heap.size u (finN key digest)∧Below w.heap.size w w'):=fun w a c h h' h''=>by
        have g:=zFk a p2 c q2 ek digest w h h' h''
        have hm:zEl ek digest=true:=by have:=HL.out;simp[zEl,keyB,hd];omega
        rw[HL.out,show macC ek digest=0 by simp[macC,hm],show macL ek digest=finN key digest by rw[zM1,← hek.out];simp[macL,hm]] at g;exact g
      have HR:Hid (Rd w p q key):=hr;have HR2:Hid (Rd w p2 q2 digest):=hr2;have HT:Hid (Tabs w):=hT;clear h1 h2 hr hr2 hT hk hd;go_enter func192,ntmps192;go_wp2_with fail;refine(K.out _ (HR.out.keep (zA _ _)) (HT.out.keep (zA _ _))).mono ?_;rintro e w1 ⟨a,cap,rfl,rd1,hb⟩;have C1:=(yr w [.int .i64 0,.slice none 0 0] 129).stay hb;have BW:=yu hb;have hz:Hid (w.heap.size<w1.heap.size):=zC8 hb;clear hb;go_wp2_with fail;refine(KM.out _ a cap (rd1.keep (zA _ _)) (HR2.out.keep (yt BW _)) (HT.out.keep (yt BW _))).mono ?_;rintro e w2 ⟨u2,rfl,k2,hb2⟩;obtain⟨a2,cap2,rfl,-⟩:=k2.rd;rw[zB] at k2;replace C1:=(C1.old _ (.cells #[.int .i64 0,.slice a 32 cap] 129)).stay hb2;replace hz:Hid (w.heap.size<w1.heap.size+1):=Nat.lt_succ_of_lt hz.out;replace BW:=yt BW (.cells #[.int .i64 0,.slice a 32 cap] 129);replace BW:=yn BW hb2;have c0:=C1.cell 0;have c1:=C1.cell 1;simp at c0 c1;have fz:=C1.frozen;clear hb2 rd1;go_wp2;refine bodyPost_ret (v:=.agg #[.int .i64 0,.slice a2 (finN key digest).length cap2]) (by simp[results,results192,go_sem,c0,c1]) rfl ⟨_,rfl,?_,(BW.setCell (yf _) _).setCell (yf _) _⟩;exact((k2.set hz.out _).set hz.out _).lower (Nat.le_of_lt hz.out)
    · have d2:((digest.length:Int) != 32)=true:=by rw[bne_iff_ne];omega
      rw[show fnC key digest=1 by simp[fnC,h2],show fnL key digest=[] by simp[fnL,h2]];clear h1 h2;go_enter func192,ntmps192;go_wp2;exact bodyPost_ret (v:=.agg #[.int .i64 1,.slice none 0 0]) (by simp[results,results192,go_sem]) rfl ⟨_,rfl,zO _ _,zA _ _⟩
  · have d1:((key.length:Int) != 32)=true:=by rw[bne_iff_ne];omega
    rw[show fnC key digest=1 by simp[fnC,h1],show fnL key digest=[] by simp[fnL,h1]];clear h1;go_enter func192,ntmps192;go_wp2;exact bodyPost_ret (v:=.agg #[.int .i64 1,.slice none 0 0]) (by simp[results,results192,go_sem]) rfl ⟨_,rfl,zO _ _,zA _ _⟩
theorem zID {α:Type} {P:Nat→α→Prop}:∀ n,(∀ i,i<n→∃ x,P i x)→∃ l:List α,l.length=n∧∀ i x,l[i]?=some x→P i x
  | 0,_=>⟨[],rfl,fun i x h=>by simp at h⟩
  | n+1,h=>by
    obtain⟨l,hl,hp⟩:=zID n (fun i hi=>h i (by omega));obtain⟨y,hy⟩:=h n (yg n);refine⟨l++[y],by simp[hl],fun i x hx=>?_⟩
    by_cases hi:i<n
    · rw[List.getElem?_append_left (by omega)] at hx;exact hp i x hx
    · have e:i=n:=by have:=(List.getElem?_eq_some_iff.1 hx).1;simp[hl] at this;omega
      subst e;rw[List.getElem?_append_right (by omega),hl,Nat.sub_self] at hx;simp at hx;subst hx;exact hy
def pRow (ps:List Pi) (j:Nat):List Value:=(ps.take j).map Pi.val++List.replicate (ps.length-j) .nilIface
theorem zIz {ps:List Pi} {j:Nat} {x:Pi} (h:ps[j]?=some x):(pRow ps j).set j x.val=pRow ps (j+1):=by
  have hj:=(List.getElem?_eq_some_iff.1 h).1;unfold pRow;rw[List.set_append_right _ _ (by simp;omega),List.take_add_one,h]
  have e:ps.length-j=(ps.length-(j+1))+1:=by omega
  rw[e,List.replicate_succ];simp[Nat.min_eq_left (Nat.le_of_lt hj)]
theorem zKd {ps:List Pi} {j:Nat} (h:j<ps.length):(pRow ps j)[j]?=some .nilIface:=by
  unfold pRow;rw[List.getElem?_append_right (by simp;omega)]
  have e:ps.length-j=(ps.length-(j+1))+1:=by omega
  rw[e,List.replicate_succ];simp[Nat.min_eq_left (Nat.le_of_lt h)]
theorem zI0 (ps:List Pi):pRow ps ps.length=ps.map Pi.val:=by simp[pRow]
theorem zIE {w:World} {B g n:Nat} {t:TypeId} {vs:List Value} (h:w.ownsRow B t 1 (.slice (some ⟨g,0,none⟩) n n) n vs):Arr w g t vs:=by
  obtain⟨h1,h2⟩:=h;rcases h2 with ⟨e,-⟩ | ⟨g',cap,cur,e,hb,hg,hle,hm,hs,ht⟩
  · simp at e
  · simp at e;obtain⟨rfl,rfl⟩:=e
    have e2:cur.toList=vs:=by
      rw[← ht,List.take_of_length_le (by simp;omega)]
    unfold Arr;rw[hg,← e2]
theorem zHm:(Tryz.prog.info? 203).map (fun i=>(i.zero,i.size,i.bytes))=some (some .nilIface,1,16):=by kernel_rfl
theorem zFl {w:World} {B g:Nat} {ps:List Pi} (h:w.ownsRow B 203 1 (.slice (some ⟨g,0,none⟩) ps.length ps.length) ps.length (madeCells (Value.cells .nilIface) (ps.length*1)).toList):Arr w g 203 (pRow ps 0):=by
  have h2:=zIE h
  have e:(madeCells (Value.cells .nilIface) (ps.length*1)).toList=pRow ps 0:=by
    rw[Nat.mul_one,show(madeCells (Value.cells .nilIface) ps.length).toList=List.replicate ps.length .nilIface from toList_madeCells_one _ _];simp[pRow]
  rw[e] at h2;exact h2
theorem zM3 (ps:List Pi) (l:List MsgD) (hl:ps.length=l.length) (h:∀ (i:Nat) (x:Pi),ps[i]?=some x→x.m=true∧l[i]?=some (x.k,x.bs)):pisF ps=zAJ l∧pisO ps=zG l:=by
  induction ps generalizing l with
  | nil=>cases l with
    | nil=>exact⟨rfl,rfl⟩
    | cons a l=>simp at hl
  | cons x ps ih=>cases l with
    | nil=>simp at hl
    | cons a l=>
      obtain⟨h1,h2⟩:=ih l (by simpa using hl) (fun i y hy=>by have:=h (i+1) y (by simpa using hy);simpa using this);obtain⟨hm,ha⟩:=h 0 x rfl;simp at ha;subst ha
      have e:x.fc=zF x.k x.bs.length:=by rw[Pi.fc,hm];rfl
      refine⟨by rw[pisF,zAJ,e,h1],?_⟩;rw[zB0,← h2];simp[pisO,Pi.out,Pi.hd,hm,zD6]
theorem zIF {w:World} {p:Option Addr} {q:Nat} {l:List MsgD} (h:RdL msgC w p q l):∃ ps:List Pi,ps.length=l.length∧∀ i x,ps[i]?=some x→(x.m=true∧l[i]?=some (x.k,x.bs))∧Rd w x.p x.q x.bs∧∃ b o,p=some ⟨b,o,none⟩∧w.cell? ⟨b,o+i*2,none⟩=some (.int .i64 x.k)∧w.cell? ⟨b,o+i*2+1,none⟩=some (.slice x.p x.bs.length x.q):=by
  refine zID l.length (fun i hi=>?_);obtain⟨b,o,rfl,hc⟩:=h.2.2.2 (by omega);obtain⟨us,hrep,hcell⟩:=hc i l[i] (by simp[hi]);obtain⟨pa,qa,rfl,ra⟩:=zAc hrep;exact⟨⟨true,l[i].1,pa,qa,l[i].2⟩,⟨rfl,by simp[hi]⟩,ra,b,o,rfl,hcell 0 _ rfl,hcell 1 _ rfl⟩
theorem zNg {ps:List Pi} {l:List MsgD} (hl:l.length≤12) (h:pisF ps=zAJ l∧pisO ps=zG l):psC l=pkC ps 600∧psL l=pkL ps 600:=by
  have e:psC l=pkC ps 600:=by rw[psC,if_pos hl,pkC,h.1,h.2]
  exact⟨e,by rw[psL,pkL,e,h.2]⟩
theorem zI1 {l:List MsgD} (hl:¬ l.length≤12):psC l=2∧psL l=[]:=by
  have e:psC l=2:=by rw[psC,if_neg hl]
  exact⟨e,by rw[psL,e,if_neg (by decide)]⟩
theorem zLb (l:List MsgD) (p:Option Addr) (q:Nat) (w:World) (hr:RdL msgC w p q l):
    Calls prog 157 #[.slice p l.length q] w fun e w'=>∃ u,e=.returned (.agg #[.int .i64 (psC l),u])∧Own w' w.heap.size u (psL l)∧Below w.heap.size w w':=by
  have A0:=yr w [.int .i64 0,.slice none 0 0] 129;have B0:=zA w (.cells #[.int .i64 0,.slice none 0 0] 129)
  by_cases hl:l.length≤12
  · have hlI:¬ (12<(l.length:Int)):=by omega
    obtain⟨ps,hpl,hps⟩:=zIF hr;have HPS:Hid (∀ i x,ps[i]?=some x→(x.m=true∧l[i]?=some (x.k,x.bs))∧Rd w x.p x.q x.bs∧∃ b o,p=some ⟨b,o,none⟩∧w.cell? ⟨b,o+i*2,none⟩=some (.int .i64 x.k)∧w.cell? ⟨b,o+i*2+1,none⟩=some (.slice x.p x.bs.length x.q)):=hps;obtain⟨e1,e2⟩:=zNg hl (zM3 ps l hpl fun i x hx=>(hps i x hx).1);rw[e1,e2,← hpl];have hq:=hr.1;have hq2:q≤2 ^ 63-1:=hr.2.1
    have hn12:ps.length≤12:=by omega
    have hnI:(ps.length:Int)≤12:=by omega
    have hnq:ps.length≤q:=by omega
    have K:Hid (∀ W,Pis W (w.heap.size+1) 0 ps→Calls prog 193 #[.slice (some ⟨w.heap.size+1,0,none⟩) ps.length ps.length,.int .i64 600] W fun e w'=>∃ u,e=.returned (.agg #[.int .i64 (pkC ps 600),u])∧Own w' W.heap.size u (pkL ps 600)∧Below W.heap.size W w'):=fun W hP=>zIn ps (w.heap.size+1) 0 ps.length 600 W hP hn12 (by decide)
    obtain⟨pc,HPC⟩:∃ pc,Hid (pc=pkC ps 600):=⟨_,rfl⟩;obtain⟨pl,HPL⟩:∃ pl,Hid (pl=pkL ps 600):=⟨_,rfl⟩;rw[← HPC.out,← HPL.out] at K ⊢;clear HPC HPL e1 e2 hps hr hpl hl hlI hq;obtain⟨i0,hi,hz0,hz1,hz2⟩:=info_parts zHm;go_enter func157,ntmps157;go_wp2_with (at_make;refine wpList_make_full _ rfl (.tmp 11) (.tmp 11) 200 rfl w.heap.size 203 i0 .nilIface 1 underlying200 hi hz0 hz1 .i64 .i64 _ _ ps.length rfl rfl rfl rfl (by rw[hz2];omega) (by unfold maxLen;omega) (by rw[zB];omega) ?_;intro w1 hown hgrow);have A1:=A0.other hgrow (by simp);have B1:=B0.grown hgrow B0.size (fun k hk=>by simp at hk);rw[zB] at hown;have P1:=zFl hown;clear hown hgrow A0 B0
    go_loopw [15] (fun i wr=>∃ j:Nat,j≤ps.length∧i=.int .i64 j∧Arr wr (w.heap.size+1) 203 (pRow ps j)∧Arr wr w.heap.size 129 [.int .i64 0,.slice none 0 0]∧Below w.heap.size w wr)
      (fun i _=>ps.length-(intOf i).toNat)
    case atStart=>exact⟨0,Nat.zero_le _,rfl,P1,A1,B1⟩
    case round=>
      clear P1 A1 B1;obtain⟨j,hj,rfl,P,A,BW⟩:=hrel
      by_cases hlt:j<ps.length
      · have hI:(j:Int)<(ps.length:Int):=by omega
        obtain⟨x,hx⟩:∃ x,Hid (ps[j]?=some x):=⟨ps[j],by show _=_;simp[hlt]⟩;obtain⟨⟨hxm,-⟩,-,b,o,hpe,hc0,hc1⟩:=HPS.out j x hx.out;have HPE:Hid (p=some ⟨b,o,none⟩):=hpe;rw[HPE.out];clear hpe;have d0:=zN hc0 BW;have d1:=zN hc1 BW;have P2:=P.old _ (.cells #[.int .i64 x.k,.slice x.p x.bs.length x.q] 46);have A2:=A.old _ (.cells #[.int .i64 x.k,.slice x.p x.bs.length x.q] 46);have B2:=yt BW (.cells #[.int .i64 x.k,.slice x.p x.bs.length x.q] 46);have P3:=P2.set j x.val;rw[zIz hx.out] at P3;have A3:=A2.setOther (a:=⟨w.heap.size+1,j,none⟩) (by show w.heap.size≠w.heap.size+1;omega) x.val;have B3:=B2.setCell (p:=⟨w.heap.size+1,j,none⟩) (yh _) x.val;have cj:(wr.alloc (.cells #[.int .i64 x.k,.slice x.p x.bs.length x.q] 46)).cell? ⟨w.heap.size+1,j,none⟩=some .nilIface:=(P2.cell j).trans (zKd hlt);have fj:=P2.frozen j;obtain⟨m,k,xp,xq,xb⟩:=x;simp only at hxm d0 d1 cj fj P3 A3 B3;subst hxm;simp only[Pi.val,if_true] at P3 A3 B3;clear P P2 A A2 BW B2 hc0 hc1 hx;go_wp2_with fail;go_roundw
        case rel=>exact⟨j+1,by omega,by go_num,P3,A3,B3⟩
        case measure=>simp[intOf];omega
      · have e:j=ps.length:=by omega
        subst e;rw[zI0] at P
        have HP:Hid (Pis wr (w.heap.size+1) 0 ps):=fun i x hx=>by
          rw[Nat.zero_add,P.cell,List.getElem?_map,hx];exact⟨rfl,(HPS.out i x hx).2.1.keep BW⟩
        clear hlt P;go_wp2_with fail;refine(K.out _ HP.out).mono ?_;rintro e w3 ⟨u3,rfl,k3,hb3⟩;have hlt3:Hid (w.heap.size<wr.heap.size):=A.lt;have BW3:=yn BW hb3;have A3:=A.stay hb3;obtain⟨p3,q3,rfl,-⟩:=k3.rd;have c0:=A3.cell 0;have c1:=A3.cell 1;have fz:=A3.frozen;simp at c0 c1;clear A A3 BW HP K hb3;go_wp2_with fail;refine bodyPost_ret (v:=.agg #[.int .i64 pc,.slice p3 pl.length q3]) (by simp[results,results157,go_sem,c0,c1]) rfl ⟨_,rfl,?_,(BW3.setCell (yf _) _).setCell (yf _) _⟩;exact((k3.set (a:=⟨w.heap.size,0,none⟩) hlt3.out _).set (a:=⟨w.heap.size,1,none⟩) hlt3.out _).lower (B':=w.heap.size) (Nat.le_of_lt hlt3.out)
  · have hlI:12<(l.length:Int):=by omega
    rw[(zI1 hl).1,(zI1 hl).2];go_enter func157,ntmps157;go_wp2;exact bodyPost_ret (v:=.agg #[.int .i64 2,.slice none 0 0]) (by simp[results,results157,go_sem]) rfl ⟨_,rfl,zO _ _,zA _ _⟩
theorem zM4 (ps:List Pi) (l:List BlkD) (hl:ps.length=l.length) (h:∀ (i:Nat) (x:Pi),ps[i]?=some x→x.m=false∧l[i]?=some x.bs):(pisF ps=if okBl l=true then 0 else 2)∧pisO ps=zA2 l:=by
  induction ps generalizing l with
  | nil=>cases l with
    | nil=>exact⟨rfl,rfl⟩
    | cons a l=>simp at hl
  | cons x ps ih=>cases l with
    | nil=>simp at hl
    | cons a l=>
      obtain⟨h1,h2⟩:=ih l (by simpa using hl) (fun i y hy=>by have:=h (i+1) y (by simpa using hy);simpa using this);obtain⟨hm,ha⟩:=h 0 x rfl;simp at ha;subst ha
      have e:x.fc=blkF x.bs.length:=by rw[Pi.fc,hm];rfl
      refine⟨?_,?_⟩
      · rw[pisF,e,h1];unfold blkF
        by_cases hb:x.bs.length≤120
        · simp[hb,okBl]
        · simp[hb,okBl]
      · rw[zBm,← h2];simp[pisO,Pi.out,Pi.hd,hm,blkW]
theorem zIG {w:World} {p:Option Addr} {q:Nat} {l:List BlkD} (h:RdL bytC w p q l):∃ ps:List Pi,ps.length=l.length∧∀ (i:Nat) (x:Pi),ps[i]?=some x→(x.m=false∧l[i]?=some x.bs)∧Rd w x.p x.q x.bs∧∃ b o,p=some ⟨b,o,none⟩∧w.cell? ⟨b,o+i,none⟩=some (.slice x.p x.bs.length x.q):=by
  refine zID l.length (fun i hi=>?_);obtain⟨b,o,rfl,hc⟩:=h.2.2.2 (by omega);obtain⟨us,⟨pa,qa,rfl,ra⟩,hcell⟩:=hc i l[i] (by simp[hi]);have c:=hcell 0 _ rfl;rw[show bytC.n=1 from rfl,Nat.mul_one,Nat.add_zero] at c;exact⟨⟨false,0,pa,qa,l[i]⟩,⟨rfl,by simp[hi]⟩,ra,b,o,rfl,c⟩
theorem zNh {ps:List Pi} {l:List BlkD} (hl:l.length≤8) (h:(pisF ps=if okBl l=true then 0 else 2)∧pisO ps=zA2 l):pbC l=pkC ps 160∧pbL l=pkL ps 160:=by
  have e:pbC l=pkC ps 160:=by
    rw[pbC,pkC,h.1,h.2]
    cases okBl l <;> simp[hl]
  exact⟨e,by rw[pbL,pkL,e,h.2]⟩
theorem zI2 {l:List BlkD} (hl:¬ l.length≤8):pbC l=2∧pbL l=[]:=by
  have e:pbC l=2:=by rw[pbC,if_neg (fun h=>hl h.1)]
  exact⟨e,by rw[pbL,e,if_neg (by decide)]⟩
theorem zLc (l:List BlkD) (p:Option Addr) (q:Nat) (w:World) (hr:RdL bytC w p q l):
    Calls prog 219 #[.slice p l.length q] w fun e w'=>∃ u,e=.returned (.agg #[.int .i64 (pbC l),u])∧Own w' w.heap.size u (pbL l)∧Below w.heap.size w w':=by
  have A0:=yr w [.int .i64 0,.slice none 0 0] 129;have B0:=zA w (.cells #[.int .i64 0,.slice none 0 0] 129)
  by_cases hl:l.length≤8
  · have hlI:¬ (8<(l.length:Int)):=by omega
    obtain⟨ps,hpl,hps⟩:=zIG hr;have HPS:Hid (∀ (i:Nat) (x:Pi),ps[i]?=some x→(x.m=false∧l[i]?=some x.bs)∧Rd w x.p x.q x.bs∧∃ b o,p=some ⟨b,o,none⟩∧w.cell? ⟨b,o+i,none⟩=some (.slice x.p x.bs.length x.q)):=hps;obtain⟨e1,e2⟩:=zNh hl (zM4 ps l hpl fun i x hx=>(hps i x hx).1);rw[e1,e2,← hpl];have hq:=hr.1;have hq2:q≤2 ^ 63-1:=hr.2.1
    have hn12:ps.length≤8:=by omega
    have hnI:(ps.length:Int)≤8:=by omega
    have hnq:ps.length≤q:=by omega
    have K:Hid (∀ W,Pis W (w.heap.size+1) 0 ps→Calls prog 193 #[.slice (some ⟨w.heap.size+1,0,none⟩) ps.length ps.length,.int .i64 160] W fun e w'=>∃ u,e=.returned (.agg #[.int .i64 (pkC ps 160),u])∧Own w' W.heap.size u (pkL ps 160)∧Below W.heap.size W w'):=fun W hP=>zIn ps (w.heap.size+1) 0 ps.length 160 W hP (by omega) (by decide)
    obtain⟨pc,HPC⟩:∃ pc,Hid (pc=pkC ps 160):=⟨_,rfl⟩;obtain⟨pl,HPL⟩:∃ pl,Hid (pl=pkL ps 160):=⟨_,rfl⟩;rw[← HPC.out,← HPL.out] at K ⊢;clear HPC HPL e1 e2 hps hr hpl hl hlI hq;obtain⟨i0,hi,hz0,hz1,hz2⟩:=info_parts zHm;go_enter func219,ntmps219;go_wp2_with (at_make;refine wpList_make_full _ rfl (.tmp 11) (.tmp 11) 200 rfl w.heap.size 203 i0 .nilIface 1 underlying200 hi hz0 hz1 .i64 .i64 _ _ ps.length rfl rfl rfl rfl (by rw[hz2];omega) (by unfold maxLen;omega) (by rw[zB];omega) ?_;intro w1 hown hgrow);have A1:=A0.other hgrow (by simp);have B1:=B0.grown hgrow B0.size (fun k hk=>by simp at hk);rw[zB] at hown;have P1:=zFl hown;clear hown hgrow A0 B0
    go_loopw [15] (fun i wr=>∃ j:Nat,j≤ps.length∧i=.int .i64 j∧Arr wr (w.heap.size+1) 203 (pRow ps j)∧Arr wr w.heap.size 129 [.int .i64 0,.slice none 0 0]∧Below w.heap.size w wr)
      (fun i _=>ps.length-(intOf i).toNat)
    case atStart=>exact⟨0,Nat.zero_le _,rfl,P1,A1,B1⟩
    case round=>
      clear P1 A1 B1;obtain⟨j,hj,rfl,P,A,BW⟩:=hrel
      by_cases hlt:j<ps.length
      · have hI:(j:Int)<(ps.length:Int):=by omega
        obtain⟨x,hx⟩:∃ x,Hid (ps[j]?=some x):=⟨ps[j],by show _=_;simp[hlt]⟩;obtain⟨⟨hxm,-⟩,-,b,o,hpe,hc0⟩:=HPS.out j x hx.out;have HPE:Hid (p=some ⟨b,o,none⟩):=hpe;rw[HPE.out];clear hpe;have d0:=zN hc0 BW;have P3:=P.set j x.val;rw[zIz hx.out] at P3;have A3:=A.setOther (a:=⟨w.heap.size+1,j,none⟩) (by show w.heap.size≠w.heap.size+1;omega) x.val;have B3:=BW.setCell (p:=⟨w.heap.size+1,j,none⟩) (yh _) x.val;have cj:wr.cell? ⟨w.heap.size+1,j,none⟩=some .nilIface:=(P.cell j).trans (zKd hlt);have fj:=P.frozen j;obtain⟨m,k,xp,xq,xb⟩:=x;simp only at hxm d0 cj fj P3 A3 B3;subst hxm;simp only[Pi.val,Bool.false_eq_true,if_false] at P3 A3 B3;clear P A BW hc0 hx;go_wp2_with fail;go_roundw
        case rel=>exact⟨j+1,by omega,by go_num,P3,A3,B3⟩
        case measure=>simp[intOf];omega
      · have e:j=ps.length:=by omega
        subst e;rw[zI0] at P
        have HP:Hid (Pis wr (w.heap.size+1) 0 ps):=fun i x hx=>by
          rw[Nat.zero_add,P.cell,List.getElem?_map,hx];exact⟨rfl,(HPS.out i x hx).2.1.keep BW⟩
        clear hlt P;go_wp2_with fail;refine(K.out _ HP.out).mono ?_;rintro e w3 ⟨u3,rfl,k3,hb3⟩;have hlt3:Hid (w.heap.size<wr.heap.size):=A.lt;have BW3:=yn BW hb3;have A3:=A.stay hb3;obtain⟨p3,q3,rfl,-⟩:=k3.rd;have c0:=A3.cell 0;have c1:=A3.cell 1;have fz:=A3.frozen;simp at c0 c1;clear A A3 BW HP K hb3;go_wp2_with fail;refine bodyPost_ret (v:=.agg #[.int .i64 pc,.slice p3 pl.length q3]) (by simp[results,results219,go_sem,c0,c1]) rfl ⟨_,rfl,?_,(BW3.setCell (yf _) _).setCell (yf _) _⟩;exact((k3.set (a:=⟨w.heap.size,0,none⟩) hlt3.out _).set (a:=⟨w.heap.size,1,none⟩) hlt3.out _).lower (B':=w.heap.size) (Nat.le_of_lt hlt3.out)
  · have hlI:8<(l.length:Int):=by omega
    rw[(zI2 hl).1,(zI2 hl).2];go_enter func219,ntmps219;go_wp2;exact bodyPost_ret (v:=.agg #[.int .i64 2,.slice none 0 0]) (by simp[results,results219,go_sem]) rfl ⟨_,rfl,zO _ _,zA _ _⟩
theorem zJZ (a b:Nat) (ha:a<9223372036854775808) (hb:b<9223372036854775808):bits .or .i64 (a:Int) (b:Int)=((a ||| b:Nat):Int):=by
  have hx:a ||| b<2 ^ 63:=Nat.or_lt_two_pow (by omega) (by omega)
  show IntKind.i64.wrap ((BitVec.ofInt 64 (a:Int) ||| BitVec.ofInt 64 (b:Int)).toNat:Int)=_
  rw[BitVec.toNat_or,zCa a ha,zCa b hb,zC9 _ (by omega)]
theorem zGa (b o q:Nat) (data:List UInt8) (w:World) (hr:Rd w (some ⟨b,o,none⟩) q data) (hl:1≤data.length):
    Calls prog 226 #[.int .i64 1,.slice (some ⟨b,o,none⟩) data.length q] w fun e w'=>e=.returned (.tuple #[.int .u8 0,.int .i64 ((zAK data 0:Nat):Int)])∧Below w.heap.size w w':=by
  obtain⟨b',o',e,hc⟩:=hr.2.2.2 (by omega);cases e;have h0:=hc 0 (by omega);rw[Nat.add_zero] at h0
  have hlI:1≤(data.length:Int):=by omega
  have l0:=zDj data 0;have u0:=zDk data 0;rw[show((zAK data 0:Nat):Int)=at8 data 0 from rfl];generalize at8 data 0=y0 at *
  have HO:bits .or .i64 0 y0=y0:=by
    obtain⟨y0,rfl⟩:=Int.eq_ofNat_of_zero_le l0;have h:=zJZ 0 y0 (by omega) (by omega);rw[Nat.zero_or] at h;exact h
  clear hc hr hl;go_enter func226,ntmps226;go_wp2_with fail;exact bodyPost_ret (v:=.tuple #[.int .u8 0,.int .i64 y0]) (by simp[results,results226,go_sem]) rfl ⟨rfl,Below.refl _ _⟩
theorem zGy (b o q:Nat) (data:List UInt8) (w:World) (hr:Rd w (some ⟨b,o,none⟩) q data) (hl:1≤data.length) (h2:120<zAK data 0∨data.length-1<zAK data 0):
    Calls prog 220 #[.slice (some ⟨b,o,none⟩) data.length q] w fun e w'=>e=.returned (.tuple #[.slice none 0 0,.bool false])∧Below w.heap.size w w':=by
  have hlI:1≤(data.length:Int):=by omega
  have hq1:data.length≤q:=hr.1;have hq2:q≤2 ^ 63-1:=hr.2.1;have K:Hid (Calls prog 226 #[.int .i64 1,.slice (some ⟨b,o,none⟩) data.length q] w fun e w'=>e=.returned (.tuple #[.int .u8 0,.int .i64 ((zAK data 0:Nat):Int)])∧Below w.heap.size w w'):=zGa b o q data w hr hl;generalize zAK data 0=n at *;clear hr
  by_cases h3:120<n
  case' pos=>
    have h3I:120<(n:Int):=by omega
    clear h2 h3
  case' neg=>
    have h3I:¬ (120<(n:Int)):=by omega
    have h4I:(data.length:Int)-1<(n:Int):=by omega
    have h5:data.length-1<n:=by omega
    clear h2 h3
  all_goals
    go_enter func220,ntmps220;go_wp2_with fail;refine K.out.mono ?_;rintro e w2 ⟨rfl,hb⟩;clear K;go_wp2_with fail
    all_goals exact bodyPost_ret (v:=.tuple #[.slice none 0 0,.bool false]) (by simp[results,results220,go_sem]) rfl ⟨rfl,hb⟩
theorem zGz (b o q:Nat) (data:List UInt8) (w:World) (hr:Rd w (some ⟨b,o,none⟩) q data) (hl:1≤data.length) (h2:¬ (120<zAK data 0∨data.length-1<zAK data 0)):
    Calls prog 220 #[.slice (some ⟨b,o,none⟩) data.length q] w fun e w'=>∃ u,e=.returned (.tuple #[u,.bool true])∧Own w' w.heap.size u (zA7 data 0)∧Below w.heap.size w w':=by
  have hlI:1≤(data.length:Int):=by omega
  have hq1:data.length≤q:=hr.1;have hq2:q≤2 ^ 63-1:=hr.2.1;have K:Hid (Calls prog 226 #[.int .i64 1,.slice (some ⟨b,o,none⟩) data.length q] w fun e w'=>e=.returned (.tuple #[.int .u8 0,.int .i64 ((zAK data 0:Nat):Int)])∧Below w.heap.size w w'):=zGa b o q data w hr hl
  have h3I:¬ (120<((zAK data 0:Nat):Int)):=by omega
  have h4I:¬ ((data.length:Int)-1<((zAK data 0:Nat):Int)):=by omega
  have h5:¬ (data.length-1<zAK data 0):=by omega
  have hbl:Hid ((zA7 data 0).length=zAK data 0):=by show _=_;unfold zA7;rw[List.length_take,List.length_drop];omega
  have hR2:Hid (Rd w (if q=1 then some ⟨b,o,none⟩ else some ⟨b,o+1,none⟩) (q-1) (zA7 data 0)):=by
    have hcut:=hr.cut 1 (zAK data 0) (q-1) (by omega) (by omega) (by have:=hr.2.1;omega)
    show Rd _ _ _ _
    split
    · rename_i hq
      have hn0:zAK data 0=0:=by omega
      have e0:zA7 data 0=[]:=List.eq_nil_of_length_eq_zero (by rw[hbl.out,hn0]);rw[e0];exact⟨by simp,by unfold maxLen;omega,fun e=>by simp at e,fun h=>by simp at h⟩
    · exact hcut
  have KC:Hid (∀ W,Below w.heap.size w W→Calls prog 179 #[.slice (if q=1 then some ⟨b,o,none⟩ else some ⟨b,o+1,none⟩) (zAK data 0) (q-1)] W fun e w'=>∃ u,e=.returned u∧Own w' W.heap.size u (zA7 data 0)∧Below W.heap.size W w'):=fun W hb=>by
    have h:=zAZ _ _ _ W (hR2.out.keep hb) (by rw[hbl.out];omega);rw[hbl.out] at h;exact h
  generalize zA7 data 0=body at *;generalize zAK data 0=n at *;clear hr h2 hR2;go_enter func220,ntmps220;go_wp2_with fail;refine K.out.mono ?_;rintro e w2 ⟨rfl,hb⟩;clear K;go_wp2_with fail
  all_goals
    have KC2:=KC.out w2 hb;simp only[h,if_true,if_false,Nat.sub_self] at KC2;refine KC2.mono ?_;rintro e w3 ⟨u3,rfl,k3,hb3⟩;have B3:=yn hb hb3;have k3':=k3.lower (B':=w.heap.size) hb.size;obtain⟨p3,q3,rfl,-⟩:=k3.rd;rw[hbl.out] at k3' ⊢;clear KC KC2 hb3 k3;go_wp2_with fail;exact bodyPost_ret (v:=.tuple #[.slice p3 n q3,.bool true]) (by simp[results,results220,go_sem]) rfl ⟨_,rfl,k3',B3⟩
theorem zKe (x y:MsgD) (px py:Option Addr) (qx qy:Nat) (w:World) (rx:Rd w px qx x.2) (ry:Rd w py qy y.2):
    Calls prog 43 #[.agg #[.int .i64 x.1,.slice px x.2.length qx],.agg #[.int .i64 y.1,.slice py y.2.length qy]] w fun e w'=>e=.returned (.bool (decide (x=y)))∧Below w.heap.size w w':=by
  obtain⟨k,bs⟩:=x;obtain⟨k2,bs2⟩:=y;simp only at rx ry ⊢;have B0:=yt (zA w (.cells #[.int .i64 k,.slice px bs.length qx] 46)) (.cells #[.int .i64 k2,.slice py bs2.length qy] 46)
  have K:Hid (∀ W,Below w.heap.size w W→Calls prog 98 #[.slice px bs.length qx,.slice py bs2.length qy] W fun e w'=>e=.returned (.bool (zD9 bs bs2))∧Below W.heap.size W w'):=fun W h=>zGM px py qx qy bs bs2 W (rx.keep h) (ry.keep h)
  by_cases h1:k=k2
  · have h1I:(k==k2)=true:=by simp[h1]
    have HD:Hid (decide ((k,bs)=(k2,bs2))=zD9 bs bs2):=by
      show _=_
      rw[Bool.eq_iff_iff];simp[zD9,h1]
    rw[HD.out];clear h1 HD;go_enter func43,ntmps43;go_wp2_with fail;refine(K.out _ B0).mono ?_;rintro e w2 ⟨rfl,hb⟩;have B2:=yn B0 hb;go_wp2_with fail;go_ret;exact⟨rfl,B2⟩
  · have h1I:(k==k2)=false:=by simp[h1]
    have HD:Hid (decide ((k,bs)=(k2,bs2))=false):=by show _=_;simp[h1]
    rw[HD.out];clear h1 HD;go_enter func43,ntmps43;go_wp2_with fail;go_ret;exact⟨rfl,B0⟩
theorem zIH (a b:List MsgD) (p p2:Option Addr) (q q2:Nat) (w:World) (hr:RdL msgC w p q a) (hr2:RdL msgC w p2 q2 b):
    Calls prog 42 #[.slice p a.length q,.slice p2 b.length q2,.func (.func 43) #[] #[]] w fun e w'=>e=.returned (.bool (zEj a b))∧Below w.heap.size w w':=by
  have HR:Hid (RdL msgC w p q a):=hr;have HR2:Hid (RdL msgC w p2 q2 b):=hr2;have hq1:a.length≤q:=hr.1;have hq2:q≤2 ^ 63-1:=hr.2.1;clear hr hr2
  by_cases hl:a.length=b.length
  · have hd:((a.length:Int) != (b.length:Int))=false:=by rw[bne_eq_false_iff_eq];omega
    have HL:Hid (a.length=b.length):=hl;clear hl;go_enter func42,ntmps42;go_wp2_with fail
    go_loopw [17] (fun i wr=>∃ k:Nat,k≤a.length∧i=.int .i64 k∧a.take k=b.take k∧Below w.heap.size w wr)
      (fun i _=>a.length-(intOf i).toNat)
    case atStart=>exact⟨0,Nat.zero_le _,rfl,by simp,Below.refl _ _⟩
    case round=>
      obtain⟨k,hk,rfl,htk,BW⟩:=hrel;have HTK:Hid (a.take k=b.take k):=htk;clear htk
      by_cases hlt:k<a.length
      · have hI:(k:Int)<(a.length:Int):=by omega
        have hI2:(k:Int)<(b.length:Int):=by have:=HL.out;omega
        obtain⟨b1,o1,e1,hc⟩:=(HR.out.keep BW).2.2.2 (by omega);have HP1:Hid (p=some ⟨b1,o1,none⟩):=e1;rw[HP1.out];obtain⟨b2,o2,e2,hc2⟩:=(HR2.out.keep BW).2.2.2 (by have:=HL.out;omega);have HP2:Hid (p2=some ⟨b2,o2,none⟩):=e2;rw[HP2.out];obtain⟨x,hx⟩:∃ x,a[k]?=some x:=⟨a[k],by simp[hlt]⟩;obtain⟨y,hy⟩:∃ y,b[k]?=some y:=⟨b[k]'(by have:=HL.out;omega),by simp[show k<b.length by have:=HL.out;omega]⟩;obtain⟨us,hrep,hcell⟩:=hc k x hx;obtain⟨px,qx,rfl,rx⟩:=zAc hrep;obtain⟨us2,hrep2,hcell2⟩:=hc2 k y hy;obtain⟨py,qy,rfl,ry⟩:=zAc hrep2;have c0:=hcell 0 _ rfl;have c1:=hcell 1 _ rfl;have d0:=hcell2 0 _ rfl;have d1:=hcell2 1 _ rfl;rw[show msgC.n=2 from rfl] at c0 c1 d0 d1;rw[Nat.add_zero] at c0 d0
        have K:Hid (∀ W,Below wr.heap.size wr W→Calls prog 43 #[.agg #[.int .i64 x.1,.slice px x.2.length qx],.agg #[.int .i64 y.1,.slice py y.2.length qy]] W fun e w'=>e=.returned (.bool (decide (x=y)))∧Below W.heap.size W w'):=fun W h=>zKe x y px py qx qy W (rx.keep h) (ry.keep h)
        have d0':=zN d0 (zA wr (.cells #[.int .i64 x.1,.slice px x.2.length qx] 46));have d1':=zN d1 (zA wr (.cells #[.int .i64 x.1,.slice px x.2.length qx] 46));have B0:=yt (zA wr (.cells #[.int .i64 x.1,.slice px x.2.length qx] 46)) (.cells #[.int .i64 y.1,.slice py y.2.length qy] 46);have HX:Hid (a[k]?=some x):=hx;have HY:Hid (b[k]?=some y):=hy
        have HTN:Hid (x=y→a.take (k+1)=b.take (k+1)):=fun e=>by rw[List.take_add_one,List.take_add_one,HTK.out,hx,hy,e]
        clear hc hcell hrep hc2 hcell2 hrep2 e1 e2 hx hy rx ry d0 d1 HTK;go_wp2_with fail;refine(K.out _ B0).mono ?_;rintro e w2 ⟨rfl,hb⟩;have B2:=yn (yn BW B0) hb;clear K B0 hb BW c0 c1 d0' d1'
        by_cases hxy:x=y
        · have hE:Hid (decide (x=y)=true):=by show _=_;simp[hxy]
          have HT2:Hid (a.take (k+1)=b.take (k+1)):=HTN.out hxy;rw[hE.out];clear HTN hE hxy;go_wp2_with fail;go_roundw
          case rel=>exact⟨k+1,by omega,by go_num,HT2.out,B2⟩
          case measure=>simp[intOf];omega
        · have hE:Hid (decide (x=y)=false):=by show _=_;simp[hxy]
          have hs:Hid (zEj a b=false):=zLU HX.out HY.out hxy;rw[hE.out];clear HTN hE hxy;go_wp2_with fail;go_ret;exact⟨by rw[hs.out];rfl,B2⟩
      · have e:k=a.length:=by omega
        subst e
        have hs:Hid (zEj a b=true):=by
          have h:=HTK.out;rw[List.take_length,HL.out,List.take_length] at h
          show _=_
          simp[zEj,h]
        go_wp2_with fail;go_ret;exact⟨by rw[hs.out];rfl,BW⟩
  · have hd:((a.length:Int) != (b.length:Int))=true:=by rw[bne_iff_ne];omega
    have hs:Hid (zEj a b=false):=by show _=_;simp only[zEj,decide_eq_false_iff_not];intro e;exact hl (by rw[e])
    go_enter func42,ntmps42;go_wp2;go_ret;exact⟨by rw[hs.out];rfl,Below.refl _ _⟩
theorem zI3 (a b:List MsgD) (p p2:Option Addr) (q q2:Nat) (w:World) (hr:RdL msgC w p q a) (hr2:RdL msgC w p2 q2 b):
    Calls prog 12 #[.slice p a.length q,.slice p2 b.length q2] w fun e w'=>e=.returned (.bool (zEj a b))∧Below w.heap.size w w':=by
  go_enter func12,ntmps12;go_wp2_with fail;refine(zIH a b p p2 q q2 w hr hr2).mono ?_;rintro e w' ⟨rfl,hb⟩;go_wp2;go_ret;exact⟨rfl,hb⟩
end Go.Proofs.YtiabacnmmojfjaaGreatDoor
