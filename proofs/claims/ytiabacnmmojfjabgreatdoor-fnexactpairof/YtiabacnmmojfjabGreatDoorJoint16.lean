import Derived.Test.YtiabacnmmojfjabGreatDoorJoint14
import Derived.Test.YtiabacnmmojfjabGreatDoorKeyI
import Derived.Test.YtiabacnmmojfjabGreatDoorJoint13
import Derived.Test.YtiabacnmmojfjabGreatDoorJoint12
set_option maxHeartbeats 2000000
set_option maxRecDepth 4000
open Go.Proofs.Tryz
namespace Go.Proofs.YtiabacnmmojfjabGreatDoor
open Go.ChangeShapes Go.WideShapes Go.ChangeAt Go.RowKit
theorem zL2 (p p2:Option Addr) (q q2:Nat) (key digest:List UInt8) (w:World) (hr:Rd w p q key) (hr2:Rd w p2 q2 digest) (hT:Tabs w):
    Calls prog 181 #[.slice p key.length q,.slice p2 digest.length q2] w fun e w'=>∃ u,e=.returned (.agg #[.int .i64 (fnC key digest),u])∧Own w' w.heap.size u (fnL key digest)∧Below w.heap.size w w':=by
  by_cases h1:key.length=32
  · have d1:((key.length:Int) != 32)=false:=by rw[bne_eq_false_iff_eq];omega
    by_cases h2:digest.length=32
    · have d2:((digest.length:Int) != 32)=false:=by rw[bne_eq_false_iff_eq];omega
      rw[show fnC key digest=0 by simp[fnC,h1,h2],show fnL key digest=finN key digest by simp[fnL,h1,h2]]
      have hk:keyB key=true:=by simp[keyB,h1]
      have hd:zEN digest=true:=by simp[zEN,h2]
      obtain⟨ek,hek⟩:∃ ek,Hid (ek=zAS key zBO [] 32):=⟨_,rfl⟩
      have HL:Hid (ek.length=32):=by show _=_;rw[hek.out,zAS,zCs]
      have K:Hid (∀ w,Rd w p q key→Tabs w→Calls prog 197 #[.slice p key.length q,.string ⟨#[102,105,110,105,115,104,101,100]⟩,.slice none 0 0,.int .i64 32] w fun e w'=>∃ a c,e=.returned (.agg #[.int .i64 0,.slice a 32 c])∧Rd w' a c ek∧Below w.heap.size w w'):=fun w h h'=>by
        have g:=zEq p none q 0 key zBO [] 32 w h ⟨yf _,by unfold maxLen;decide,fun _=>rfl,fun hp=>by simp at hp⟩ (by decide) h'
        have hc:zAl zBO [] 32=0:=by decide
        rw[← zFH,show elC key zBO [] 32=0 by simp[elC,hk,hc],show elL key zBO [] 32=ek by rw[hek.out];simp[elL,elC,hk,hc]] at g;refine g.mono ?_;rintro e w1 ⟨u,rfl,ho,hb⟩;obtain⟨a,c,rfl,rd⟩:=ho.rd;rw[HL.out];exact⟨a,c,rfl,rd,hb⟩
      have KM:Hid (∀ w a c,Rd w a c ek→Rd w p2 q2 digest→Tabs w→Calls prog 198 #[.slice a 32 c,.slice p2 digest.length q2] w fun e w'=>∃ u,e=.returned (.agg #[.int .i64 0,u])∧Own w' w.heap.size u (finN key digest)∧Below w.heap.size w w'):=fun w a c h h' h''=>by
        have g:=zFy a p2 c q2 ek digest w h h' h''
        have hm:zEo ek digest=true:=by have:=HL.out;simp[zEo,keyB,hd];omega
        rw[HL.out,show macC ek digest=0 by simp[macC,hm],show macL ek digest=finN key digest by rw[zNW,← hek.out];simp[macL,hm]] at g;exact g
      have HR:Hid (Rd w p q key):=hr;have HR2:Hid (Rd w p2 q2 digest):=hr2;have HT:Hid (Tabs w):=hT;clear h1 h2 hr hr2 hT hk hd;go_enter func181,ntmps181;go_wp2_with fail;refine(K.out _ (HR.out.keep (zA _ _)) (HT.out.keep (zA _ _))).mono ?_;rintro e w1 ⟨a,cap,rfl,rd1,hb⟩;have C1:=(yp w [.int .i64 0,.slice none 0 0] 130).stay hb;have BW:=yt hb;have hz:Hid (w.heap.size<w1.heap.size):=zBj hb;clear hb;go_wp2_with fail;refine(KM.out _ a cap (rd1.keep (zA _ _)) (HR2.out.keep (yr BW _)) (HT.out.keep (yr BW _))).mono ?_;rintro e w2 ⟨u2,rfl,k2,hb2⟩;obtain⟨a2,cap2,rfl,-⟩:=k2.rd;rw[zB] at k2;replace C1:=(C1.old _ (.cells #[.int .i64 0,.slice a 32 cap] 130)).stay hb2;replace hz:Hid (w.heap.size<w1.heap.size+1):=Nat.lt_succ_of_lt hz.out;replace BW:=yr BW (.cells #[.int .i64 0,.slice a 32 cap] 130);replace BW:=yn BW hb2;have c0:=C1.cell 0;have c1:=C1.cell 1;simp at c0 c1;have fz:=C1.frozen;clear hb2 rd1;go_wp2;refine bodyPost_ret (v:=.agg #[.int .i64 0,.slice a2 (finN key digest).length cap2]) (by simp[results,results181,go_sem,c0,c1]) rfl ⟨_,rfl,?_,(BW.setCell (yf _) _).setCell (yf _) _⟩;exact((k2.set hz.out _).set hz.out _).lower (Nat.le_of_lt hz.out)
    · have d2:((digest.length:Int) != 32)=true:=by rw[bne_iff_ne];omega
      rw[show fnC key digest=1 by simp[fnC,h2],show fnL key digest=[] by simp[fnL,h2]];clear h1 h2;go_enter func181,ntmps181;go_wp2;exact bodyPost_ret (v:=.agg #[.int .i64 1,.slice none 0 0]) (by simp[results,results181,go_sem]) rfl ⟨_,rfl,zK _ _,zA _ _⟩
  · have d1:((key.length:Int) != 32)=true:=by rw[bne_iff_ne];omega
    rw[show fnC key digest=1 by simp[fnC,h1],show fnL key digest=[] by simp[fnL,h1]];clear h1;go_enter func181,ntmps181;go_wp2;exact bodyPost_ret (v:=.agg #[.int .i64 1,.slice none 0 0]) (by simp[results,results181,go_sem]) rfl ⟨_,rfl,zK _ _,zA _ _⟩
theorem zIU {α:Type} {P:Nat→α→Prop}:∀ n,(∀ i,i<n→∃ x,P i x)→∃ l:List α,l.length=n∧∀ i x,l[i]?=some x→P i x
  | 0,_=>⟨[],rfl,fun i x h=>by simp at h⟩
  | n+1,h=>by
    obtain⟨l,hl,hp⟩:=zIU n (fun i hi=>h i (by omega));obtain⟨y,hy⟩:=h n (yg n);refine⟨l++[y],by simp[hl],fun i x hx=>?_⟩
    by_cases hi:i<n
    · rw[List.getElem?_append_left (by omega)] at hx;exact hp i x hx
    · have e:i=n:=by have:=(List.getElem?_eq_some_iff.1 hx).1;simp[hl] at this;omega
      subst e;rw[List.getElem?_append_right (by omega),hl,Nat.sub_self] at hx;simp at hx;subst hx;exact hy
def pRow (ps:List Pi) (j:Nat):List Value:=(ps.take j).map Pi.val++List.replicate (ps.length-j) .nilIface
theorem zJI {ps:List Pi} {j:Nat} {x:Pi} (h:ps[j]?=some x):(pRow ps j).set j x.val=pRow ps (j+1):=by
  have hj:=(List.getElem?_eq_some_iff.1 h).1;unfold pRow;rw[List.set_append_right _ _ (by simp;omega),List.take_add_one,h]
  have e:ps.length-j=(ps.length-(j+1))+1:=by omega
  rw[e,List.replicate_succ];simp[Nat.min_eq_left (Nat.le_of_lt hj)]
theorem zK7 {ps:List Pi} {j:Nat} (h:j<ps.length):(pRow ps j)[j]?=some .nilIface:=by
  unfold pRow;rw[List.getElem?_append_right (by simp;omega)]
  have e:ps.length-j=(ps.length-(j+1))+1:=by omega
  rw[e,List.replicate_succ];simp[Nat.min_eq_left (Nat.le_of_lt h)]
theorem zJJ (ps:List Pi):pRow ps ps.length=ps.map Pi.val:=by simp[pRow]
theorem zIV {w:World} {B g n:Nat} {t:TypeId} {vs:List Value} (h:w.ownsRow B t 1 (.slice (some ⟨g,0,none⟩) n n) n vs):Arr w g t vs:=by
  obtain⟨h1,h2⟩:=h;rcases h2 with ⟨e,-⟩ | ⟨g',cap,cur,e,hb,hg,hle,hm,hs,ht⟩
  · simp at e
  · simp at e;obtain⟨rfl,rfl⟩:=e
    have e2:cur.toList=vs:=by
      rw[← ht,List.take_of_length_le (by simp;omega)]
    unfold Arr;rw[hg,← e2]
theorem zH2:(Tryz.prog.info? 192).map (fun i=>(i.zero,i.size,i.bytes))=some (some .nilIface,1,16):=by kernel_rfl
theorem zFz {w:World} {B g:Nat} {ps:List Pi} (h:w.ownsRow B 192 1 (.slice (some ⟨g,0,none⟩) ps.length ps.length) ps.length (madeCells (Value.cells .nilIface) (ps.length*1)).toList):Arr w g 192 (pRow ps 0):=by
  have h2:=zIV h
  have e:(madeCells (Value.cells .nilIface) (ps.length*1)).toList=pRow ps 0:=by
    rw[Nat.mul_one,show(madeCells (Value.cells .nilIface) ps.length).toList=List.replicate ps.length .nilIface from toList_madeCells_one _ _];simp[pRow]
  rw[e] at h2;exact h2
theorem zNY (ps:List Pi) (l:List MsgD) (hl:ps.length=l.length) (h:∀ (i:Nat) (x:Pi),ps[i]?=some x→x.m=true∧l[i]?=some (x.k,x.bs)):pisF ps=zAH l∧pisO ps=zE l:=by
  induction ps generalizing l with
  | nil=>cases l with
    | nil=>exact⟨rfl,rfl⟩
    | cons a l=>simp at hl
  | cons x ps ih=>cases l with
    | nil=>simp at hl
    | cons a l=>
      obtain⟨h1,h2⟩:=ih l (by simpa using hl) (fun i y hy=>by have:=h (i+1) y (by simpa using hy);simpa using this);obtain⟨hm,ha⟩:=h 0 x rfl;simp at ha;subst ha
      have e:x.fc=zD x.k x.bs.length:=by rw[Pi.fc,hm];rfl
      refine⟨by rw[pisF,zAH,e,h1],?_⟩;rw[zB0,← h2];simp[pisO,Pi.out,Pi.hd,hm,zEB]
theorem zIW {w:World} {p:Option Addr} {q:Nat} {l:List MsgD} (h:RdL msgC w p q l):∃ ps:List Pi,ps.length=l.length∧∀ i x,ps[i]?=some x→(x.m=true∧l[i]?=some (x.k,x.bs))∧Rd w x.p x.q x.bs∧∃ b o,p=some ⟨b,o,none⟩∧w.cell? ⟨b,o+i*2,none⟩=some (.int .i64 x.k)∧w.cell? ⟨b,o+i*2+1,none⟩=some (.slice x.p x.bs.length x.q):=by
  refine zIU l.length (fun i hi=>?_);obtain⟨b,o,rfl,hc⟩:=h.2.2.2 (by omega);obtain⟨us,hrep,hcell⟩:=hc i l[i] (by simp[hi]);obtain⟨pa,qa,rfl,ra⟩:=zAf hrep;exact⟨⟨true,l[i].1,pa,qa,l[i].2⟩,⟨rfl,by simp[hi]⟩,ra,b,o,rfl,hcell 0 _ rfl,hcell 1 _ rfl⟩
theorem zOB {ps:List Pi} {l:List MsgD} (hl:l.length≤12) (h:pisF ps=zAH l∧pisO ps=zE l):psC l=pkC ps 600∧psL l=pkL ps 600:=by
  have e:psC l=pkC ps 600:=by rw[psC,if_pos hl,pkC,h.1,h.2]
  exact⟨e,by rw[psL,pkL,e,h.2]⟩
theorem zJK {l:List MsgD} (hl:¬ l.length≤12):psC l=2∧psL l=[]:=by
  have e:psC l=2:=by rw[psC,if_neg hl]
  exact⟨e,by rw[psL,e,if_neg (by decide)]⟩
theorem zL3 (l:List MsgD) (p:Option Addr) (q:Nat) (w:World) (hr:RdL msgC w p q l):
    Calls prog 155 #[.slice p l.length q] w fun e w'=>∃ u,e=.returned (.agg #[.int .i64 (psC l),u])∧Own w' w.heap.size u (psL l)∧Below w.heap.size w w':=by
  have A0:=yp w [.int .i64 0,.slice none 0 0] 130;have B0:=zA w (.cells #[.int .i64 0,.slice none 0 0] 130)
  by_cases hl:l.length≤12
  · have hlI:¬ (12<(l.length:Int)):=by omega
    obtain⟨ps,hpl,hps⟩:=zIW hr;have HPS:Hid (∀ i x,ps[i]?=some x→(x.m=true∧l[i]?=some (x.k,x.bs))∧Rd w x.p x.q x.bs∧∃ b o,p=some ⟨b,o,none⟩∧w.cell? ⟨b,o+i*2,none⟩=some (.int .i64 x.k)∧w.cell? ⟨b,o+i*2+1,none⟩=some (.slice x.p x.bs.length x.q)):=hps;obtain⟨e1,e2⟩:=zOB hl (zNY ps l hpl fun i x hx=>(hps i x hx).1);rw[e1,e2,← hpl];have hq:=hr.1;have hq2:q≤2 ^ 63-1:=hr.2.1
    have hn12:ps.length≤12:=by omega
    have hnI:(ps.length:Int)≤12:=by omega
    have hnq:ps.length≤q:=by omega
    have K:Hid (∀ W,Pis W (w.heap.size+1) 0 ps→Calls prog 182 #[.slice (some ⟨w.heap.size+1,0,none⟩) ps.length ps.length,.int .i64 600] W fun e w'=>∃ u,e=.returned (.agg #[.int .i64 (pkC ps 600),u])∧Own w' W.heap.size u (pkL ps 600)∧Below W.heap.size W w'):=fun W hP=>zI7 ps (w.heap.size+1) 0 ps.length 600 W hP hn12 (by decide)
    obtain⟨pc,HPC⟩:∃ pc,Hid (pc=pkC ps 600):=⟨_,rfl⟩;obtain⟨pl,HPL⟩:∃ pl,Hid (pl=pkL ps 600):=⟨_,rfl⟩;rw[← HPC.out,← HPL.out] at K ⊢;clear HPC HPL e1 e2 hps hr hpl hl hlI hq;obtain⟨i0,hi,hz0,hz1,hz2⟩:=info_parts zH2;go_enter func155,ntmps155;go_wp2_with (at_make;refine wpList_make_full _ rfl (.tmp 11) (.tmp 11) 189 rfl w.heap.size 192 i0 .nilIface 1 underlying189 hi hz0 hz1 .i64 .i64 _ _ ps.length rfl rfl rfl rfl (by rw[hz2];omega) (by unfold maxLen;omega) (by rw[zB];omega) ?_;intro w1 hown hgrow);have A1:=A0.other hgrow (by simp);have B1:=B0.grown hgrow B0.size (fun k hk=>by simp at hk);rw[zB] at hown;have P1:=zFz hown;clear hown hgrow A0 B0
    go_loopw [15] (fun i wr=>∃ j:Nat,j≤ps.length∧i=.int .i64 j∧Arr wr (w.heap.size+1) 192 (pRow ps j)∧Arr wr w.heap.size 130 [.int .i64 0,.slice none 0 0]∧Below w.heap.size w wr)
      (fun i _=>ps.length-(intOf i).toNat)
    case atStart=>exact⟨0,Nat.zero_le _,rfl,P1,A1,B1⟩
    case round=>
      clear P1 A1 B1;obtain⟨j,hj,rfl,P,A,BW⟩:=hrel
      by_cases hlt:j<ps.length
      · have hI:(j:Int)<(ps.length:Int):=by omega
        obtain⟨x,hx⟩:∃ x,Hid (ps[j]?=some x):=⟨ps[j],by show _=_;simp[hlt]⟩;obtain⟨⟨hxm,-⟩,-,b,o,hpe,hc0,hc1⟩:=HPS.out j x hx.out;have HPE:Hid (p=some ⟨b,o,none⟩):=hpe;rw[HPE.out];clear hpe;have d0:=zL hc0 BW;have d1:=zL hc1 BW;have P2:=P.old _ (.cells #[.int .i64 x.k,.slice x.p x.bs.length x.q] 53);have A2:=A.old _ (.cells #[.int .i64 x.k,.slice x.p x.bs.length x.q] 53);have B2:=yr BW (.cells #[.int .i64 x.k,.slice x.p x.bs.length x.q] 53);have P3:=P2.set j x.val;rw[zJI hx.out] at P3;have A3:=A2.setOther (a:=⟨w.heap.size+1,j,none⟩) (by show w.heap.size≠w.heap.size+1;omega) x.val;have B3:=B2.setCell (p:=⟨w.heap.size+1,j,none⟩) (yh _) x.val;have cj:(wr.alloc (.cells #[.int .i64 x.k,.slice x.p x.bs.length x.q] 53)).cell? ⟨w.heap.size+1,j,none⟩=some .nilIface:=(P2.cell j).trans (zK7 hlt);have fj:=P2.frozen j;obtain⟨m,k,xp,xq,xb⟩:=x;simp only at hxm d0 d1 cj fj P3 A3 B3;subst hxm;simp only[Pi.val,if_true] at P3 A3 B3;clear P P2 A A2 BW B2 hc0 hc1 hx;go_wp2_with fail;go_roundw
        case rel=>exact⟨j+1,by omega,by go_num,P3,A3,B3⟩
        case measure=>simp[intOf];omega
      · have e:j=ps.length:=by omega
        subst e;rw[zJJ] at P
        have HP:Hid (Pis wr (w.heap.size+1) 0 ps):=fun i x hx=>by
          rw[Nat.zero_add,P.cell,List.getElem?_map,hx];exact⟨rfl,(HPS.out i x hx).2.1.keep BW⟩
        clear hlt P;go_wp2_with fail;refine(K.out _ HP.out).mono ?_;rintro e w3 ⟨u3,rfl,k3,hb3⟩;have hlt3:Hid (w.heap.size<wr.heap.size):=A.lt;have BW3:=yn BW hb3;have A3:=A.stay hb3;obtain⟨p3,q3,rfl,-⟩:=k3.rd;have c0:=A3.cell 0;have c1:=A3.cell 1;have fz:=A3.frozen;simp at c0 c1;clear A A3 BW HP K hb3;go_wp2_with fail;refine bodyPost_ret (v:=.agg #[.int .i64 pc,.slice p3 pl.length q3]) (by simp[results,results155,go_sem,c0,c1]) rfl ⟨_,rfl,?_,(BW3.setCell (yf _) _).setCell (yf _) _⟩;exact((k3.set (a:=⟨w.heap.size,0,none⟩) hlt3.out _).set (a:=⟨w.heap.size,1,none⟩) hlt3.out _).lower (B':=w.heap.size) (Nat.le_of_lt hlt3.out)
  · have hlI:12<(l.length:Int):=by omega
    rw[(zJK hl).1,(zJK hl).2];go_enter func155,ntmps155;go_wp2;exact bodyPost_ret (v:=.agg #[.int .i64 2,.slice none 0 0]) (by simp[results,results155,go_sem]) rfl ⟨_,rfl,zK _ _,zA _ _⟩
theorem zNZ (ps:List Pi) (l:List BlkD) (hl:ps.length=l.length) (h:∀ (i:Nat) (x:Pi),ps[i]?=some x→x.m=false∧l[i]?=some x.bs):(pisF ps=if okBl l=true then 0 else 2)∧pisO ps=zA1 l:=by
  induction ps generalizing l with
  | nil=>cases l with
    | nil=>exact⟨rfl,rfl⟩
    | cons a l=>simp at hl
  | cons x ps ih=>cases l with
    | nil=>simp at hl
    | cons a l=>
      obtain⟨h1,h2⟩:=ih l (by simpa using hl) (fun i y hy=>by have:=h (i+1) y (by simpa using hy);simpa using this);obtain⟨hm,ha⟩:=h 0 x rfl;simp at ha;subst ha
      have e:x.fc=blkF x.bs.length:=by rw[Pi.fc,hm];rfl
      refine⟨?_,?_⟩
      · rw[pisF,e,h1];unfold blkF
        by_cases hb:x.bs.length≤120
        · simp[hb,okBl]
        · simp[hb,okBl]
      · rw[zBl,← h2];simp[pisO,Pi.out,Pi.hd,hm,blkW]
theorem zIX {w:World} {p:Option Addr} {q:Nat} {l:List BlkD} (h:RdL bytC w p q l):∃ ps:List Pi,ps.length=l.length∧∀ (i:Nat) (x:Pi),ps[i]?=some x→(x.m=false∧l[i]?=some x.bs)∧Rd w x.p x.q x.bs∧∃ b o,p=some ⟨b,o,none⟩∧w.cell? ⟨b,o+i,none⟩=some (.slice x.p x.bs.length x.q):=by
  refine zIU l.length (fun i hi=>?_);obtain⟨b,o,rfl,hc⟩:=h.2.2.2 (by omega);obtain⟨us,⟨pa,qa,rfl,ra⟩,hcell⟩:=hc i l[i] (by simp[hi]);have c:=hcell 0 _ rfl;rw[show bytC.n=1 from rfl,Nat.mul_one,Nat.add_zero] at c;exact⟨⟨false,0,pa,qa,l[i]⟩,⟨rfl,by simp[hi]⟩,ra,b,o,rfl,c⟩
theorem zOC {ps:List Pi} {l:List BlkD} (hl:l.length≤8) (h:(pisF ps=if okBl l=true then 0 else 2)∧pisO ps=zA1 l):pbC l=pkC ps 160∧pbL l=pkL ps 160:=by
  have e:pbC l=pkC ps 160:=by
    rw[pbC,pkC,h.1,h.2]
    cases okBl l <;> simp[hl]
  exact⟨e,by rw[pbL,pkL,e,h.2]⟩
theorem zJL {l:List BlkD} (hl:¬ l.length≤8):pbC l=2∧pbL l=[]:=by
  have e:pbC l=2:=by rw[pbC,if_neg (fun h=>hl h.1)]
  exact⟨e,by rw[pbL,e,if_neg (by decide)]⟩
theorem zL4 (l:List BlkD) (p:Option Addr) (q:Nat) (w:World) (hr:RdL bytC w p q l):
    Calls prog 213 #[.slice p l.length q] w fun e w'=>∃ u,e=.returned (.agg #[.int .i64 (pbC l),u])∧Own w' w.heap.size u (pbL l)∧Below w.heap.size w w':=by
  have A0:=yp w [.int .i64 0,.slice none 0 0] 130;have B0:=zA w (.cells #[.int .i64 0,.slice none 0 0] 130)
  by_cases hl:l.length≤8
  · have hlI:¬ (8<(l.length:Int)):=by omega
    obtain⟨ps,hpl,hps⟩:=zIX hr;have HPS:Hid (∀ (i:Nat) (x:Pi),ps[i]?=some x→(x.m=false∧l[i]?=some x.bs)∧Rd w x.p x.q x.bs∧∃ b o,p=some ⟨b,o,none⟩∧w.cell? ⟨b,o+i,none⟩=some (.slice x.p x.bs.length x.q)):=hps;obtain⟨e1,e2⟩:=zOC hl (zNZ ps l hpl fun i x hx=>(hps i x hx).1);rw[e1,e2,← hpl];have hq:=hr.1;have hq2:q≤2 ^ 63-1:=hr.2.1
    have hn12:ps.length≤8:=by omega
    have hnI:(ps.length:Int)≤8:=by omega
    have hnq:ps.length≤q:=by omega
    have K:Hid (∀ W,Pis W (w.heap.size+1) 0 ps→Calls prog 182 #[.slice (some ⟨w.heap.size+1,0,none⟩) ps.length ps.length,.int .i64 160] W fun e w'=>∃ u,e=.returned (.agg #[.int .i64 (pkC ps 160),u])∧Own w' W.heap.size u (pkL ps 160)∧Below W.heap.size W w'):=fun W hP=>zI7 ps (w.heap.size+1) 0 ps.length 160 W hP (by omega) (by decide)
    obtain⟨pc,HPC⟩:∃ pc,Hid (pc=pkC ps 160):=⟨_,rfl⟩;obtain⟨pl,HPL⟩:∃ pl,Hid (pl=pkL ps 160):=⟨_,rfl⟩;rw[← HPC.out,← HPL.out] at K ⊢;clear HPC HPL e1 e2 hps hr hpl hl hlI hq;obtain⟨i0,hi,hz0,hz1,hz2⟩:=info_parts zH2;go_enter func213,ntmps213;go_wp2_with (at_make;refine wpList_make_full _ rfl (.tmp 11) (.tmp 11) 189 rfl w.heap.size 192 i0 .nilIface 1 underlying189 hi hz0 hz1 .i64 .i64 _ _ ps.length rfl rfl rfl rfl (by rw[hz2];omega) (by unfold maxLen;omega) (by rw[zB];omega) ?_;intro w1 hown hgrow);have A1:=A0.other hgrow (by simp);have B1:=B0.grown hgrow B0.size (fun k hk=>by simp at hk);rw[zB] at hown;have P1:=zFz hown;clear hown hgrow A0 B0
    go_loopw [15] (fun i wr=>∃ j:Nat,j≤ps.length∧i=.int .i64 j∧Arr wr (w.heap.size+1) 192 (pRow ps j)∧Arr wr w.heap.size 130 [.int .i64 0,.slice none 0 0]∧Below w.heap.size w wr)
      (fun i _=>ps.length-(intOf i).toNat)
    case atStart=>exact⟨0,Nat.zero_le _,rfl,P1,A1,B1⟩
    case round=>
      clear P1 A1 B1;obtain⟨j,hj,rfl,P,A,BW⟩:=hrel
      by_cases hlt:j<ps.length
      · have hI:(j:Int)<(ps.length:Int):=by omega
        obtain⟨x,hx⟩:∃ x,Hid (ps[j]?=some x):=⟨ps[j],by show _=_;simp[hlt]⟩;obtain⟨⟨hxm,-⟩,-,b,o,hpe,hc0⟩:=HPS.out j x hx.out;have HPE:Hid (p=some ⟨b,o,none⟩):=hpe;rw[HPE.out];clear hpe;have d0:=zL hc0 BW;have P3:=P.set j x.val;rw[zJI hx.out] at P3;have A3:=A.setOther (a:=⟨w.heap.size+1,j,none⟩) (by show w.heap.size≠w.heap.size+1;omega) x.val;have B3:=BW.setCell (p:=⟨w.heap.size+1,j,none⟩) (yh _) x.val;have cj:wr.cell? ⟨w.heap.size+1,j,none⟩=some .nilIface:=(P.cell j).trans (zK7 hlt);have fj:=P.frozen j;obtain⟨m,k,xp,xq,xb⟩:=x;simp only at hxm d0 cj fj P3 A3 B3;subst hxm;simp only[Pi.val,Bool.false_eq_true,if_false] at P3 A3 B3;clear P A BW hc0 hx;go_wp2_with fail;go_roundw
        case rel=>exact⟨j+1,by omega,by go_num,P3,A3,B3⟩
        case measure=>simp[intOf];omega
      · have e:j=ps.length:=by omega
        subst e;rw[zJJ] at P
        have HP:Hid (Pis wr (w.heap.size+1) 0 ps):=fun i x hx=>by
          rw[Nat.zero_add,P.cell,List.getElem?_map,hx];exact⟨rfl,(HPS.out i x hx).2.1.keep BW⟩
        clear hlt P;go_wp2_with fail;refine(K.out _ HP.out).mono ?_;rintro e w3 ⟨u3,rfl,k3,hb3⟩;have hlt3:Hid (w.heap.size<wr.heap.size):=A.lt;have BW3:=yn BW hb3;have A3:=A.stay hb3;obtain⟨p3,q3,rfl,-⟩:=k3.rd;have c0:=A3.cell 0;have c1:=A3.cell 1;have fz:=A3.frozen;simp at c0 c1;clear A A3 BW HP K hb3;go_wp2_with fail;refine bodyPost_ret (v:=.agg #[.int .i64 pc,.slice p3 pl.length q3]) (by simp[results,results213,go_sem,c0,c1]) rfl ⟨_,rfl,?_,(BW3.setCell (yf _) _).setCell (yf _) _⟩;exact((k3.set (a:=⟨w.heap.size,0,none⟩) hlt3.out _).set (a:=⟨w.heap.size,1,none⟩) hlt3.out _).lower (B':=w.heap.size) (Nat.le_of_lt hlt3.out)
  · have hlI:8<(l.length:Int):=by omega
    rw[(zJL hl).1,(zJL hl).2];go_enter func213,ntmps213;go_wp2;exact bodyPost_ret (v:=.agg #[.int .i64 2,.slice none 0 0]) (by simp[results,results213,go_sem]) rfl ⟨_,rfl,zK _ _,zA _ _⟩
theorem zJy (a b:Nat) (ha:a<9223372036854775808) (hb:b<9223372036854775808):bits .or .i64 (a:Int) (b:Int)=((a ||| b:Nat):Int):=by
  have hx:a ||| b<2 ^ 63:=Nat.or_lt_two_pow (by omega) (by omega)
  show IntKind.i64.wrap ((BitVec.ofInt 64 (a:Int) ||| BitVec.ofInt 64 (b:Int)).toNat:Int)=_
  rw[BitVec.toNat_or,zCe a ha,zCe b hb,zDA _ (by omega)]
theorem zGk (b o q:Nat) (data:List UInt8) (w:World) (hr:Rd w (some ⟨b,o,none⟩) q data) (hl:1≤data.length):
    Calls prog 214 #[.int .i64 1,.slice (some ⟨b,o,none⟩) data.length q] w fun e w'=>e=.returned (.tuple #[.int .u8 0,.int .i64 ((zAI data 0:Nat):Int)])∧Below w.heap.size w w':=by
  obtain⟨b',o',e,hc⟩:=hr.2.2.2 (by omega);cases e;have h0:=hc 0 (by omega);rw[Nat.add_zero] at h0
  have hlI:1≤(data.length:Int):=by omega
  have l0:=zE1 data 0;have u0:=zE2 data 0;rw[show((zAI data 0:Nat):Int)=at8 data 0 from rfl];generalize at8 data 0=y0 at *
  have HO:bits .or .i64 0 y0=y0:=by
    obtain⟨y0,rfl⟩:=Int.eq_ofNat_of_zero_le l0;have h:=zJy 0 y0 (by omega) (by omega);rw[Nat.zero_or] at h;exact h
  clear hc hr hl;go_enter func214,ntmps214;go_wp2_with fail;exact bodyPost_ret (v:=.tuple #[.int .u8 0,.int .i64 y0]) (by simp[results,results214,go_sem]) rfl ⟨rfl,Below.refl _ _⟩
theorem zG9 (b o q:Nat) (data:List UInt8) (w:World) (hr:Rd w (some ⟨b,o,none⟩) q data) (hl:1≤data.length) (h2:120<zAI data 0∨data.length-1<zAI data 0):
    Calls prog 207 #[.slice (some ⟨b,o,none⟩) data.length q] w fun e w'=>e=.returned (.tuple #[.slice none 0 0,.bool false])∧Below w.heap.size w w':=by
  have hlI:1≤(data.length:Int):=by omega
  have hq1:data.length≤q:=hr.1;have hq2:q≤2 ^ 63-1:=hr.2.1;have K:Hid (Calls prog 214 #[.int .i64 1,.slice (some ⟨b,o,none⟩) data.length q] w fun e w'=>e=.returned (.tuple #[.int .u8 0,.int .i64 ((zAI data 0:Nat):Int)])∧Below w.heap.size w w'):=zGk b o q data w hr hl;generalize zAI data 0=n at *;clear hr
  by_cases h3:120<n
  case' pos=>
    have h3I:120<(n:Int):=by omega
    clear h2 h3
  case' neg=>
    have h3I:¬ (120<(n:Int)):=by omega
    have h4I:(data.length:Int)-1<(n:Int):=by omega
    have h5:data.length-1<n:=by omega
    clear h2 h3
  all_goals
    go_enter func207,ntmps207;go_wp2_with fail;refine K.out.mono ?_;rintro e w2 ⟨rfl,hb⟩;clear K;go_wp2_with fail
    all_goals exact bodyPost_ret (v:=.tuple #[.slice none 0 0,.bool false]) (by simp[results,results207,go_sem]) rfl ⟨rfl,hb⟩
theorem zHA (b o q:Nat) (data:List UInt8) (w:World) (hr:Rd w (some ⟨b,o,none⟩) q data) (hl:1≤data.length) (h2:¬ (120<zAI data 0∨data.length-1<zAI data 0)):
    Calls prog 207 #[.slice (some ⟨b,o,none⟩) data.length q] w fun e w'=>∃ u,e=.returned (.tuple #[u,.bool true])∧Own w' w.heap.size u (zA6 data 0)∧Below w.heap.size w w':=by
  have hlI:1≤(data.length:Int):=by omega
  have hq1:data.length≤q:=hr.1;have hq2:q≤2 ^ 63-1:=hr.2.1;have K:Hid (Calls prog 214 #[.int .i64 1,.slice (some ⟨b,o,none⟩) data.length q] w fun e w'=>e=.returned (.tuple #[.int .u8 0,.int .i64 ((zAI data 0:Nat):Int)])∧Below w.heap.size w w'):=zGk b o q data w hr hl
  have h3I:¬ (120<((zAI data 0:Nat):Int)):=by omega
  have h4I:¬ ((data.length:Int)-1<((zAI data 0:Nat):Int)):=by omega
  have h5:¬ (data.length-1<zAI data 0):=by omega
  have hbl:Hid ((zA6 data 0).length=zAI data 0):=by show _=_;unfold zA6;rw[List.length_take,List.length_drop];omega
  have hR2:Hid (Rd w (if q=1 then some ⟨b,o,none⟩ else some ⟨b,o+1,none⟩) (q-1) (zA6 data 0)):=by
    have hcut:=hr.cut 1 (zAI data 0) (q-1) (by omega) (by omega) (by have:=hr.2.1;omega)
    show Rd _ _ _ _
    split
    · rename_i hq
      have hn0:zAI data 0=0:=by omega
      have e0:zA6 data 0=[]:=List.eq_nil_of_length_eq_zero (by rw[hbl.out,hn0]);rw[e0];exact⟨by simp,by unfold maxLen;omega,fun e=>by simp at e,fun h=>by simp at h⟩
    · exact hcut
  have KC:Hid (∀ W,Below w.heap.size w W→Calls prog 167 #[.slice (if q=1 then some ⟨b,o,none⟩ else some ⟨b,o+1,none⟩) (zAI data 0) (q-1)] W fun e w'=>∃ u,e=.returned u∧Own w' W.heap.size u (zA6 data 0)∧Below W.heap.size W w'):=fun W hb=>by
    have h:=zAZ _ _ _ W (hR2.out.keep hb) (by rw[hbl.out];omega);rw[hbl.out] at h;exact h
  generalize zA6 data 0=body at *;generalize zAI data 0=n at *;clear hr h2 hR2;go_enter func207,ntmps207;go_wp2_with fail;refine K.out.mono ?_;rintro e w2 ⟨rfl,hb⟩;clear K;go_wp2_with fail
  all_goals
    have KC2:=KC.out w2 hb;simp only[h,if_true,if_false,Nat.sub_self] at KC2;refine KC2.mono ?_;rintro e w3 ⟨u3,rfl,k3,hb3⟩;have B3:=yn hb hb3;have k3':=k3.lower (B':=w.heap.size) hb.size;obtain⟨p3,q3,rfl,-⟩:=k3.rd;rw[hbl.out] at k3' ⊢;clear KC KC2 hb3 k3;go_wp2_with fail;exact bodyPost_ret (v:=.tuple #[.slice p3 n q3,.bool true]) (by simp[results,results207,go_sem]) rfl ⟨_,rfl,k3',B3⟩
theorem zEr (data:List UInt8) (k:Nat):zAI (data.drop k) 0=zAI data k:=by simp[zAI,List.getD_eq_getElem?_getD]
theorem zJz (data:List UInt8) (k:Nat):zA6 (data.drop k) 0=zA6 data k:=by unfold zA6;rw[zEr,List.drop_drop,Nat.zero_add]
theorem zL5 (data:List UInt8) (p:Option Addr) (q:Nat) (w:World) (hr:Rd w p q data):
    Calls prog 191 #[.slice p data.length q] w fun e w'=>∃ v,e=.returned (.agg #[.int .i64 (ubC data),v])∧(∃ xs fp,OwnL 22 bytC w' w.heap.size v (ubL data) xs fp)∧Below w.heap.size w w':=by
  have A0:=yp w [.int .i64 0,.slice none 0 0] 204;have B0:=zA w (.cells #[.int .i64 0,.slice none 0 0] 204)
  by_cases hd:data.length≤160
  · have hdI:¬ (160<(data.length:Int)):=by omega
    have HR:Hid (Rd w p q data):=hr;have hq1:data.length≤q:=hr.1;have hq2:q≤2 ^ 63-1:=hr.2.1;obtain⟨fin,HF⟩:∃ fin,Hid (fin=zAg data 0 []):=⟨_,rfl⟩
    have HZ:Hid ((fin=none→ubC data=5∧ubL data=[])∧∀ r,fin=some r→ubC data=0∧ubL data=r):=
      ⟨fun e=>zLx hd (by rw[← HF.out,e]),fun r e=>zG4 hd (by rw[← HF.out,e])⟩
    clear hr;go_enter func191,ntmps191;go_wp2_with fail
    go_loopw [3,4] (fun v i wr=>∃ (at_:Nat) (out:List BlkD) (xs:List Value) (fp:List Nat),at_≤data.length∧i=.int .i64 at_∧OwnL 22 bytC wr (w.heap.size+1) v out xs fp∧out.length≤8∧fin=zAg data at_ out∧Arr wr w.heap.size 204 [.int .i64 0,.slice none 0 0]∧Below w.heap.size w wr)
      (fun _ i _=>data.length-(intOf i).toNat)
    case atStart=>exact⟨0,[],[],[],Nat.zero_le _,rfl,zCv _ _,by decide,HF.out,A0,B0⟩
    case round=>
      clear A0 B0 HF;obtain⟨at_,out,xs,fp,hat,rfl,ho,hol,hfin,A,BW⟩:=hrel;have HFN:Hid (fin=zAg data at_ out):=hfin;clear hfin;obtain⟨po,qo,rfl,hord⟩:=ho.rd;have hqo1:out.length≤qo:=hord.1;have hqo2:qo≤2 ^ 63-1:=hord.2.1
      by_cases hlt:at_<data.length
      · have hI:(at_:Int)<(data.length:Int):=by omega
        obtain⟨b,o,e1,-⟩:=(HR.out.keep BW).2.2.2 (by omega);have HPE:Hid (p=some ⟨b,o,none⟩):=e1;rw[HPE.out]
        have hqa:¬ (q=at_):=by omega
        have hdl:Hid ((data.drop at_).length=data.length-at_):=List.length_drop
        have HD:Hid (Rd wr (some ⟨b,o+at_,none⟩) (q-at_) (data.drop at_)):=by
          have h:=HR.out.keep BW;rw[HPE.out] at h;have hcut:=h.cut at_ (data.length-at_) (q-at_) (by omega) (by omega) (by have:=HR.out.2.1;omega);rw[List.take_of_length_le (by rw[hdl.out];omega)] at hcut;exact hcut
        clear hord e1
        by_cases h2:120<zAI data at_∨data.length-at_-1<zAI data at_
        · have HE:Hid (fin=none):=by show _=_;rw[HFN.out,zCq hlt (by omega)]
          have K:Hid (Calls prog 207 #[.slice (some ⟨b,o+at_,none⟩) (data.length-at_) (q-at_)] wr fun e w'=>e=.returned (.tuple #[.slice none 0 0,.bool false])∧Below wr.heap.size wr w'):=by
            have h:=zG9 b (o+at_) (q-at_) (data.drop at_) wr HD.out (by rw[hdl.out];omega) (by rw[zEr,hdl.out];exact h2);rw[hdl.out] at h;exact h
          clear HD HFN hdl h2;go_wp2_with fail;refine K.out.mono ?_;rintro e w2 ⟨rfl,hb⟩;have A2:=A.stay hb;have B2:=yn BW hb;have c0:=A2.cell 0;have c1:=A2.cell 1;have fz:=A2.frozen;simp at c0 c1;clear A A2 BW K hb ho;go_wp2_with fail;exact bodyPost_ret (v:=.agg #[.int .i64 5,.slice none 0 0]) (by simp[results,results191,go_sem,c0,c1]) rfl ⟨_,by rw[(HZ.out.1 HE.out).1],⟨_,_,by rw[(HZ.out.1 HE.out).2];exact zCv _ _⟩,(B2.setCell (yf _) _).setCell (yf _) _⟩
        · have K:Hid (Calls prog 207 #[.slice (some ⟨b,o+at_,none⟩) (data.length-at_) (q-at_)] wr fun e w'=>∃ u,e=.returned (.tuple #[u,.bool true])∧Own w' wr.heap.size u (zA6 data at_)∧Below wr.heap.size wr w'):=by
            have h:=zHA b (o+at_) (q-at_) (data.drop at_) wr HD.out (by rw[hdl.out];omega) (by rw[zEr,hdl.out];exact h2);rw[hdl.out,zJz] at h;exact h
          have HBL:Hid ((zA6 data at_).length=zAI data at_):=by show _=_;unfold zA6;rw[List.length_take,List.length_drop];omega
          have HNX:Hid (at_+1+zAI data at_≤data.length):=by show _≤_;omega
          have hnI:((zAI data at_:Nat):Int)≤160:=by omega
          by_cases h8:out.length=8
          · have h8I:((out.length:Int)==8)=true:=by rw[beq_iff_eq];omega
            have HE:Hid (fin=none):=by show _=_;rw[HFN.out,zCq hlt (by omega)]
            clear HD HFN hdl h2 h8;generalize zA6 data at_=body at *;generalize zAI data at_=n at *;go_wp2_with fail;refine K.out.mono ?_;rintro e w2 ⟨u2,rfl,-,hb⟩;have A2:=A.stay hb;have B2:=yn BW hb;have c0:=A2.cell 0;have c1:=A2.cell 1;have fz:=A2.frozen;simp at c0 c1;clear A A2 BW K hb ho;go_wp2_with fail;exact bodyPost_ret (v:=.agg #[.int .i64 5,.slice none 0 0]) (by simp[results,results191,go_sem,c0,c1]) rfl ⟨_,by rw[(HZ.out.1 HE.out).1],⟨_,_,by rw[(HZ.out.1 HE.out).2];exact zCv _ _⟩,(B2.setCell (yf _) _).setCell (yf _) _⟩
          · have h8I:((out.length:Int)==8)=false:=by rw[beq_eq_false_iff_ne];omega
            have HN:Hid (fin=zAg data (at_+1+zAI data at_) (out++[zA6 data at_])):=by show _=_;rw[HFN.out,zCr hlt (by omega)]
            have HOL:Hid ((out++[zA6 data at_]).length≤8):=by show _≤_;rw[List.length_append,List.length_singleton];omega
            clear HD HFN hdl h2 h8;generalize zA6 data at_=body at *;generalize zAI data at_=n at *;go_wp2_with fail;refine K.out.mono ?_;rintro e w2 ⟨u2,rfl,k2,hb2⟩;obtain⟨pv,qv,rfl,-⟩:=k2.rd;rw[HBL.out] at k2 ⊢;have hw2:Hid (wr.heap.size≤w2.heap.size):=hb2.size
            have hnew:∀ j u,[Value.slice pv n qv][j]?=some u→(w2.alloc (.cells #[.slice pv n qv] 22)).cell? ((⟨w2.heap.size,0,none⟩:Addr).add j)=some u:=fun j u hj=>(yp w2 [.slice pv n qv] 22).cells j u hj
            have hb4:=zA w2 (.cells #[.slice pv n qv] 22);have k5:=k2.stay hb4;have hb5:=yn hb2 hb4;have ho5:=ho.stay hb5;have A5:=A.stay hb5;have BW5:=yn BW hb5;have hrow5:Hid ((w2.alloc (.cells #[.slice pv n qv] 22)).ownsRow (w.heap.size+1) 22 1 (.slice po out.length qo) out.length xs):=ho5.row
            have hlow:Hid (∀ j,(Value.slice pv n qv).ownBlock=some j→wr.heap.size≤j):=fun j hj=>k5.ge j hj
            have hinsO:Hid (∀ j,j∈(Value.slice po out.length qo).ownBlock.toList++fp→w.heap.size+1≤j∧j<wr.heap.size):=fun j hj=>ho.ins j hj
            have hzA:Hid (w.heap.size<wr.heap.size):=A.lt
            have hz5:Hid (w.heap.size+1≤(w2.alloc (.cells #[.slice pv n qv] 22)).heap.size):=by have:=A5.lt;show _≤_;omega
            obtain⟨i0,hi,hz0,hz1,hz2⟩:=info_parts zKc;go_wp2_with (at_builtin;go_loud (refine wpList_append_lies _ rfl (.tmp 30) (.tmp 32) 144 rfl (w.heap.size+1) 22 i0 (.slice none 0 0) 1 24 underlying144 hi hz0 hz1 hz2 rfl (by decide) (.slice po out.length qo) out.length xs rfl hrow5.out ⟨w2.heap.size,0,none⟩ 1 1 [.slice pv n qv] rfl rfl hnew (by intro u hu;simp at hu;subst hu;rfl) (by decide) (by unfold maxLen;omega) (by omega) hz5.out _ rfl ?_);intro g6 c6 w6 hown6 hgrow6 hat6 hlt6);have ka:=zGZ (a:=body) (k5.lower (B':=w.heap.size+1) hzA.out)
            have OP:=ho5.push ka (fun j hj hj2=>by
              have h1:=hlow.out j (mem_opt.1 hj);have h2:=(hinsO.out j hj2).2
              omega) (k:=out.length+1) (v':=.slice (some ⟨g6,0,none⟩) (out.length+1) c6) (g:=g6) hown6 (by simp) hgrow6 rfl hat6
            have BW6:=BW5.grown hgrow6 BW5.size (fun k hk=>by have h:=(hinsO.out k (List.mem_append_left _ (mem_opt.2 hk))).1;omega);have A6:=A5.other hgrow6 (fun e=>by have h:=(hinsO.out _ (List.mem_append_left _ (mem_opt.2 e))).1;omega);clear ho ho5 k2 k5 hown6 hgrow6 hat6 hnew hrow5 ka BW5 BW hb2 hb4 hb5 A A5 K;go_roundw
            case rel=>exact⟨at_+1+n,out++[body],_,_,HNX.out,by go_num,OP,HOL.out,HN.out,A6,BW6⟩
            case measure=>have:=HNX.out;simp[intOf];omega
      · have e:at_=data.length:=by omega
        subst e
        have HE:Hid (fin=some out):=by show _=_;rw[HFN.out,zCg (by omega)]
        have c0:=A.cell 0;have c1:=A.cell 1;have fz:=A.frozen;simp at c0 c1;clear A hord;go_wp2_with fail;refine bodyPost_ret (v:=.agg #[.int .i64 0,.slice po out.length qo]) (by simp[results,results191,go_sem,c0,c1]) rfl ⟨_,by rw[(HZ.out.2 _ HE.out).1],⟨xs,fp,?_⟩,(BW.setCell (yf _) _).setCell (yf _) _⟩;rw[(HZ.out.2 _ HE.out).2];refine(ho.fr fun k hk=>?_).low (yh _);have h1:=(ho.ins k hk).1;rw[heap_setCell_other _ _ k _ (by show k≠w.heap.size;omega),heap_setCell_other _ _ k _ (by show k≠w.heap.size;omega)]
  · have hI:160<(data.length:Int):=by omega
    rw[(zI8 hd).1,(zI8 hd).2];go_enter func191,ntmps191;go_wp2;exact bodyPost_ret (v:=.agg #[.int .i64 2,.slice none 0 0]) (by simp[results,results191,go_sem]) rfl ⟨_,rfl,⟨_,_,zCv _ _⟩,zA _ _⟩
end Go.Proofs.YtiabacnmmojfjabGreatDoor
