import Derived.Test.YtiabacnmmojfjabGreatDoorJoint17
import Derived.Test.YtiabacnmmojfjabGreatDoorJoint7
import Derived.Test.YtiabacnmmojfjabGreatDoorJoint23
import Derived.Test.YtiabacnmmojfjabGreatDoorJoint16
set_option maxHeartbeats 2000000
set_option maxRecDepth 4000
open Go.Proofs.Tryz
namespace Go.Proofs.YtiabacnmmojfjabGreatDoor
open Go.ChangeShapes Go.WideShapes Go.ChangeAt Go.RowKit
theorem zEW (t:Bool) (w:World):Calls prog 118 #[.bool t] w fun e w'=>e=.returned (.int .i64 (if t then 32 else 0))∧w'=w:=by
 cases t
 ·go_enter func118,ntmps118;go_wp2;go_ret;exact⟨rfl,rfl⟩
 ·go_enter func118,ntmps118;go_wp2;go_ret;exact⟨rfl,rfl⟩
theorem zFa (s:zO) (us:List Value) (w:World) (r:sideC.rep w s us):
  Calls prog 72 #[.agg us.toArray] w fun e w'=>e=.returned (.int .i64 (sfC s))∧Below w.heap.size w w':=by
 obtain⟨p2,q2,p4,q4,rfl,-,-⟩:=zJ r;clear r;have BW:=zA w (.cells #[.int .i64 s.1,.slice p2 s.2.1.length q2,.int .i64 s.2.2.1,.slice p4 s.2.2.2.length q4] 32);have A:=yp w [.int .i64 s.1,.slice p2 s.2.1.length q2,.int .i64 s.2.2.1,.slice p4 s.2.2.2.length q4] 32
 suffices H:∀ Q:Ending→World→Prop,Hid (∀ c w',c=sfC s→Below w.heap.size w w'→Q (.returned (.int .i64 c)) w')→Calls prog 72 #[.agg #[.int .i64 s.1,.slice p2 s.2.1.length q2,.int .i64 s.2.2.1,.slice p4 s.2.2.2.length q4]] w Q from H _ (show Hid _ from fun c w' hc hb=>⟨by rw[hc],hb⟩)
 intro Q HQ;cases h1:inB s.1 1 65519
 ·have hc:Hid (3=sfC s):=by show _=_;simp[sfC,h1]
  go_enter func72,ntmps72;go_wp2_with fail;refine(zAB _ _).mono ?_;rintro e w' ⟨rfl,rfl⟩;rw[h1];go_wp2;exact HQ.out _ _ hc.out BW
 ·cases h2:inB s.2.2.1 0 9
  ·have hc:Hid (3=sfC s):=by show _=_;simp[sfC,h2]
   go_enter func72,ntmps72;go_wp2_with fail;refine(zAB _ _).mono ?_;rintro e w' ⟨rfl,rfl⟩;rw[h1];go_wp2_with fail;refine(zEw _ _).mono ?_;rintro e w' ⟨rfl,rfl⟩;rw[h2];go_wp2;exact HQ.out _ _ hc.out BW
  ·have HF:Hid (sfC s=if s.2.1.length=8∧s.2.2.2.length=keyW s.2.2.1 then 0 else 1):=by show _=_;simp[sfC,h1,h2]
   have KW:=fun w=>zDU p2 q2 s.2.1 w
   by_cases h8:s.2.1.length=8
   ·rw[show decide (s.2.1.length=8)=true by simp[h8]] at KW
    have KL:=fun w=>zEW (s.2.2.1 != 0) w
    by_cases hk:s.2.2.2.length=keyW s.2.2.1
    ·have hc:Hid (0=sfC s):=by show _=_;rw[HF.out,if_pos ⟨h8,hk⟩]
     have dk:((s.2.2.2.length:Int) != (if (s.2.2.1 != 0)=true then 32 else 0))=false:=by
      rw[bne_eq_false_iff_eq,hk];unfold keyW
      by_cases h0:s.2.2.1=0 <;> simp[h0]
     clear h8 hk HF;generalize (if (s.2.2.1 != 0)=true then (32:Int) else 0)=lw at *;go_enter func72,ntmps72;go_wp2_with fail;refine(zAB _ _).mono ?_;rintro e w' ⟨rfl,rfl⟩;rw[h1];go_wp2_with fail;refine(zEw _ _).mono ?_;rintro e w' ⟨rfl,rfl⟩;rw[h2];go_wp2_with fail
     go_quiet (first | (go_at_call 117;exact Calls.quiet_of_same (KW _)) | (go_at_call 118;exact Calls.quiet_of_same (KL _)))
     go_wp2;exact HQ.out _ _ hc.out ⟨BW.os,BW.tape,BW.output,BW.size,BW.block⟩
    ·have hc:Hid (1=sfC s):=by show _=_;rw[HF.out,if_neg (fun h=>hk h.2)]
     have dk:((s.2.2.2.length:Int) != (if (s.2.2.1 != 0)=true then 32 else 0))=true:=by
      rw[bne_iff_ne];intro e;apply hk;unfold keyW
      by_cases h0:s.2.2.1=0 <;> simp[h0] at e ⊢ <;> omega
     clear h8 hk HF;generalize (if (s.2.2.1 != 0)=true then (32:Int) else 0)=lw at *;go_enter func72,ntmps72;go_wp2_with fail;refine(zAB _ _).mono ?_;rintro e w' ⟨rfl,rfl⟩;rw[h1];go_wp2_with fail;refine(zEw _ _).mono ?_;rintro e w' ⟨rfl,rfl⟩;rw[h2];go_wp2_with fail
     go_quiet (first | (go_at_call 117;exact Calls.quiet_of_same (KW _)) | (go_at_call 118;exact Calls.quiet_of_same (KL _)))
     go_wp2;exact HQ.out _ _ hc.out ⟨BW.os,BW.tape,BW.output,BW.size,BW.block⟩
   ·rw[show decide (s.2.1.length=8)=false by simp[h8]] at KW
    have hc:Hid (1=sfC s):=by show _=_;rw[HF.out,if_neg (fun h=>h8 h.1)]
    clear h8 HF;go_enter func72,ntmps72;go_wp2_with fail;refine(zAB _ _).mono ?_;rintro e w' ⟨rfl,rfl⟩;rw[h1];go_wp2_with fail;refine(zEw _ _).mono ?_;rintro e w' ⟨rfl,rfl⟩;rw[h2];go_wp2_with fail
    go_quiet ((go_at_call 117;exact Calls.quiet_of_same (KW _)))
    go_wp2;exact HQ.out _ _ hc.out ⟨BW.os,BW.tape,BW.output,BW.size,BW.block⟩
theorem zOE (x:zZ) (n:Nat):seB x n=([x.1,x.2.1,x.2.2.1,x.2.2.2].all fun b=>decide (b.length=n)):=by simp[seB]
theorem zJ2 (x:zZ) (st:Int) (p1 p2 p3 p4:Option Addr) (q1 q2 q3 q4:Nat) (w:World):
  Calls prog 142 #[.agg #[.slice p1 x.1.length q1,.slice p2 x.2.1.length q2,.slice p3 x.2.2.1.length q3,.slice p4 x.2.2.2.length q4],.int .i64 st] w fun e w'=>e=.returned (.bool (seB x (zBi st)))∧Below w.heap.size w w':=by
 obtain⟨a,b,c,d⟩:=x;have BW:=yr (zA w (.cells #[.slice p1 a.length q1,.slice p2 b.length q2,.slice p3 c.length q3,.slice p4 d.length q4] 34)) (.cells #[.slice p1 a.length q1,.slice p2 b.length q2,.slice p3 c.length q3,.slice p4 d.length q4] 22)
 have KL:=fun w=>zEW (st==3) w
 obtain⟨n,hn⟩:∃ n:Nat,n=zBi st:=⟨_,rfl⟩
 have hlw:(if (st==3)=true then (32:Int) else 0)=(n:Int):=by
  rw[hn];unfold zBi
  by_cases h0:st=3 <;> simp[h0]
 rw[hlw] at KL;rw[← hn]
 have hn32:n≤32:=by rw[hn];unfold zBi;split <;> decide
 clear hlw hn
 suffices H:∀ Q:Ending→World→Prop,Hid (∀ c' w',c'=seB (a,b,c,d) n→Below w.heap.size w w'→Q (.returned (.bool c')) w')→Calls prog 142 #[.agg #[.slice p1 a.length q1,.slice p2 b.length q2,.slice p3 c.length q3,.slice p4 d.length q4],.int .i64 st] w Q from H _ (show Hid _ from fun c w' hc hb=>⟨by rw[hc],hb⟩)
 intro Q HQ;have HE:Hid (seB (a,b,c,d) n=([a,b,c,d].all fun b=>decide (b.length=n))):=zOE _ _;have A:=yp (w.alloc (.cells #[.slice p1 a.length q1,.slice p2 b.length q2,.slice p3 c.length q3,.slice p4 d.length q4] 34)) [.slice p1 a.length q1,.slice p2 b.length q2,.slice p3 c.length q3,.slice p4 d.length q4] 22;rw[zB] at A
 have HV:Hid (∀ k,k<4→∃ x pk qk,[a,b,c,d][k]?=some x∧[Value.slice p1 a.length q1,.slice p2 b.length q2,.slice p3 c.length q3,.slice p4 d.length q4][k]?=some (.slice pk x.length qk)):=fun k hk=>by
  match k,hk with
  | 0,_=>exact⟨_,_,_,rfl,rfl⟩
  | 1,_=>exact⟨_,_,_,rfl,rfl⟩
  | 2,_=>exact⟨_,_,_,rfl,rfl⟩
  | 3,_=>exact⟨_,_,_,rfl,rfl⟩
 go_enter func142,ntmps142;go_wp2_with fail;refine(KL _).mono ?_;rintro e w' ⟨rfl,rfl⟩;go_wp2_with fail;generalize hW:(w.alloc (.cells #[.slice p1 a.length q1,.slice p2 b.length q2,.slice p3 c.length q3,.slice p4 d.length q4] 34)).alloc (.cells #[.slice p1 a.length q1,.slice p2 b.length q2,.slice p3 c.length q3,.slice p4 d.length q4] 22)=W at *;clear hW KL;generalize [Value.slice p1 a.length q1,.slice p2 b.length q2,.slice p3 c.length q3,.slice p4 d.length q4]=vs at *;obtain⟨ls,HLS⟩:∃ ls,Hid (ls=[a,b,c,d]):=⟨_,rfl⟩;rw[← HLS.out] at HE HV
 have H4:Hid (ls.length=4):=by show _=_;rw[HLS.out];rfl
 go_loopw [21] (fun i wr=>∃ k:Nat,k≤4∧i=.int .i64 k∧(∀ (j:Nat) (x:List UInt8),j<k→ls[j]?=some x→x.length=n)∧wr=W)
  (fun i _=>4-(intOf i).toNat)
 case atStart=>exact⟨0,Nat.zero_le _,rfl,fun j b hj=>absurd hj (Nat.not_lt_zero _),rfl⟩
 case round=>
  obtain⟨k,hk,rfl,hall,rfl⟩:=hrel
  by_cases hlt:k<4
  ·have hI:(k:Int)<4:=by omega
   obtain⟨x,pk,qk,hx,hv⟩:=HV.out k hlt;have cx:=(A.cell k).trans hv
   by_cases hf:x.length=n
   ·have hall2:Hid (∀ (j:Nat) (y:List UInt8),j<k+1→ls[j]?=some y→y.length=n):=fun j y hj hy=>by
     by_cases h:j<k
     ·exact hall j y h hy
     ·rw[show j=k by omega,hx] at hy;cases hy;exact hf
    have dn:((x.length:Int) != (n:Int))=false:=by rw[bne_eq_false_iff_eq];omega
    clear hf hall hx hv;go_wp2_with fail;go_roundw
    case rel=>exact⟨k+1,by omega,by go_num,hall2.out,trivial⟩
    case measure=>simp[intOf];omega
   ·have dn:((x.length:Int) != (n:Int))=true:=by rw[bne_iff_ne];omega
    have HE2:Hid (seB (a,b,c,d) n=false):=by
     show _=_
     rw[HE.out,List.all_eq_false];exact⟨x,List.mem_of_getElem? hx,by simpa using hf⟩
    clear hf hall hx hv;go_wp2;exact HQ.out _ _ HE2.out.symm BW
  ·have ek:k=4:=by omega
   subst ek
   have HE2:Hid (seB (a,b,c,d) n=true):=by
    show _=_
    rw[HE.out,List.all_eq_true];intro x hx;obtain⟨j,hj,rfl⟩:=List.getElem_of_mem hx;have h4:=H4.out
    simpa using hall j _ (by omega) (List.getElem?_eq_getElem hj)
   clear hall;go_wp2;exact HQ.out _ _ HE2.out.symm BW
theorem zMO (e:EndD) (us:List Value) (w:World) (r:endC.rep w e us):
  Calls prog 98 #[.agg us.toArray] w fun x w'=>x=.returned (.int .i64 (efC e))∧Below w.heap.size w w':=by
 obtain⟨p1,q1,p2,q2,p3,q3,p4,q4,p5,q5,p6,q6,p7,q7,p8,q8,rfl,r1,r2,rm,-,-,-,-,-⟩:=zAC r;clear r;have BW:=zA w (.cells #[.int .i64 e.1.1,.slice p1 e.1.2.1.length q1,.int .i64 e.1.2.2.1,.slice p2 e.1.2.2.2.length q2,.int .i64 e.2.1,.int .i64 e.2.2.1,.slice p3 e.2.2.2.1.length q3,.slice p4 e.2.2.2.2.1.length q4,.slice p5 e.2.2.2.2.2.1.length q5,.slice p6 e.2.2.2.2.2.2.1.length q6,.slice p7 e.2.2.2.2.2.2.2.1.length q7,.slice p8 e.2.2.2.2.2.2.2.2.length q8] 36);have A:=yp w [.int .i64 e.1.1,.slice p1 e.1.2.1.length q1,.int .i64 e.1.2.2.1,.slice p2 e.1.2.2.2.length q2,.int .i64 e.2.1,.int .i64 e.2.2.1,.slice p3 e.2.2.2.1.length q3,.slice p4 e.2.2.2.2.1.length q4,.slice p5 e.2.2.2.2.2.1.length q5,.slice p6 e.2.2.2.2.2.2.1.length q6,.slice p7 e.2.2.2.2.2.2.2.1.length q7,.slice p8 e.2.2.2.2.2.2.2.2.length q8] 36
 have KS:Hid (Calls prog 72 #[.agg #[.int .i64 e.1.1,.slice p1 e.1.2.1.length q1,.int .i64 e.1.2.2.1,.slice p2 e.1.2.2.2.length q2]] (w.alloc (.cells #[.int .i64 e.1.1,.slice p1 e.1.2.1.length q1,.int .i64 e.1.2.2.1,.slice p2 e.1.2.2.2.length q2,.int .i64 e.2.1,.int .i64 e.2.2.1,.slice p3 e.2.2.2.1.length q3,.slice p4 e.2.2.2.2.1.length q4,.slice p5 e.2.2.2.2.2.1.length q5,.slice p6 e.2.2.2.2.2.2.1.length q6,.slice p7 e.2.2.2.2.2.2.2.1.length q7,.slice p8 e.2.2.2.2.2.2.2.2.length q8] 36)) fun x w'=>x=.returned (.int .i64 (sfC e.1))∧Below (w.alloc (.cells #[.int .i64 e.1.1,.slice p1 e.1.2.1.length q1,.int .i64 e.1.2.2.1,.slice p2 e.1.2.2.2.length q2,.int .i64 e.2.1,.int .i64 e.2.2.1,.slice p3 e.2.2.2.1.length q3,.slice p4 e.2.2.2.2.1.length q4,.slice p5 e.2.2.2.2.2.1.length q5,.slice p6 e.2.2.2.2.2.2.1.length q6,.slice p7 e.2.2.2.2.2.2.2.1.length q7,.slice p8 e.2.2.2.2.2.2.2.2.length q8] 36)).heap.size (w.alloc (.cells #[.int .i64 e.1.1,.slice p1 e.1.2.1.length q1,.int .i64 e.1.2.2.1,.slice p2 e.1.2.2.2.length q2,.int .i64 e.2.1,.int .i64 e.2.2.1,.slice p3 e.2.2.2.1.length q3,.slice p4 e.2.2.2.2.1.length q4,.slice p5 e.2.2.2.2.2.1.length q5,.slice p6 e.2.2.2.2.2.2.1.length q6,.slice p7 e.2.2.2.2.2.2.2.1.length q7,.slice p8 e.2.2.2.2.2.2.2.2.length q8] 36)) w'):=
  zFa e.1 _ _ (zDN (r1.keep BW) (r2.keep BW))
 have HR:Hid (RdL msgC w p3 q3 e.2.2.2.1):=rm;clear r1 r2 rm
 suffices H:∀ Q:Ending→World→Prop,Hid (∀ c w',c=efC e→Below w.heap.size w w'→Q (.returned (.int .i64 c)) w')→Calls prog 98 #[.agg #[.int .i64 e.1.1,.slice p1 e.1.2.1.length q1,.int .i64 e.1.2.2.1,.slice p2 e.1.2.2.2.length q2,.int .i64 e.2.1,.int .i64 e.2.2.1,.slice p3 e.2.2.2.1.length q3,.slice p4 e.2.2.2.2.1.length q4,.slice p5 e.2.2.2.2.2.1.length q5,.slice p6 e.2.2.2.2.2.2.1.length q6,.slice p7 e.2.2.2.2.2.2.2.1.length q7,.slice p8 e.2.2.2.2.2.2.2.2.length q8]] w Q from H _ (show Hid _ from fun c w' hc hb=>⟨by rw[hc],hb⟩)
 intro Q HQ
 by_cases hs:sfC e.1=0
 ·rw[hs] at KS
  have HE:Hid (efC e=if inB e.2.1 1 3&&inB e.2.2.1 0 2 then (if e.2.2.2.1.length≤4 then (if zAH e.2.2.2.1=0 then (if (e.2.2.2.2.1.length=0∨e.2.2.2.2.1.length=32)∧seB e.2.2.2.2.2 (zBi e.2.1)=true then 0 else 1) else zAH e.2.2.2.1) else 2) else 3):=by show _=_;unfold efC;rw[if_pos hs]
  clear hs;go_enter func98,ntmps98;go_wp2_with fail;refine KS.out.mono ?_;rintro x w1 ⟨rfl,hb1⟩;replace BW:=yn BW hb1;replace A:=A.stay hb1;clear hb1 KS;have c4:=zQ (A.cell 4) rfl;have c5:=zQ (A.cell 5) rfl;have c6:=zQ (A.cell 6) rfl
  by_cases h13:1≤e.2.1∧e.2.1≤3∧0≤e.2.2.1∧e.2.2.1≤2
  ·have d1:¬ (e.2.1<1):=by omega
   have d2:¬ (3<e.2.1):=by omega
   have d3:¬ (e.2.2.1<0):=by omega
   have d4:¬ (2<e.2.2.1):=by omega
   replace HE:Hid (efC e=if e.2.2.2.1.length≤4 then (if zAH e.2.2.2.1=0 then (if (e.2.2.2.2.1.length=0∨e.2.2.2.2.1.length=32)∧seB e.2.2.2.2.2 (zBi e.2.1)=true then 0 else 1) else zAH e.2.2.2.1) else 2):=by show _=_;rw[HE.out,if_pos (by simp[inB,h13])]
   clear h13
   by_cases h4:e.2.2.2.1.length≤4
   ·have h4I:¬ (4<(e.2.2.2.1.length:Int)):=by omega
    replace HE:Hid (efC e=if zAH e.2.2.2.1=0 then (if (e.2.2.2.2.1.length=0∨e.2.2.2.2.1.length=32)∧seB e.2.2.2.2.2 (zBi e.2.1)=true then 0 else 1) else zAH e.2.2.2.1):=by show _=_;rw[HE.out,if_pos h4]
    have H4:Hid (e.2.2.2.1.length≤4):=h4;clear h4;generalize e.2.2.2.1=l at *;go_wp2_with fail;clear c4 c5 c6 d1 d2 d3 d4 h4I
    go_loopw [37] (fun i wr=>∃ k:Nat,k≤l.length∧i=.int .i64 k∧(∀ (j:Nat) (b:Int×List UInt8),j<k→l[j]?=some b→zD b.1 b.2.length=0)∧Below w1.heap.size w1 wr)
     (fun i _=>l.length-(intOf i).toNat)
    case atStart=>exact⟨0,Nat.zero_le _,rfl,fun j b hj=>absurd hj (Nat.not_lt_zero _),Below.refl _ _⟩
    case round=>
     obtain⟨k,hk,rfl,hall,hbr⟩:=hrel;replace BW:=yn BW hbr;replace A:=A.stay hbr
     by_cases hlt:k<l.length
     ·have hI:(k:Int)<(l.length:Int):=by omega
      obtain⟨bb,o,e1,hc⟩:=(HR.out.keep BW).2.2.2 (by omega);subst e1;obtain⟨a,ha⟩:∃ a,l[k]?=some a:=⟨l[k],by simp[hlt]⟩;obtain⟨us,hrep,hcell⟩:=hc k a ha;obtain⟨pa,qa,rfl,ra⟩:=zAf hrep;have m0:=hcell 0 _ rfl;have m1:=hcell 1 _ rfl;rw[show msgC.n=2 from rfl] at m0 m1;rw[Nat.add_zero] at m0;have KF:Hid (∀ w,Calls prog 140 #[.agg #[.int .i64 a.1,.slice pa a.2.length qa]] w fun e w'=>e=.returned (.int .i64 (zD a.1 a.2.length))∧Below w.heap.size w w'):=zFV a.1 a.2.length qa pa;have HBR:Hid (Below w1.heap.size w1 wr):=hbr;clear hc hcell hrep hbr A
      by_cases hf:zD a.1 a.2.length=0
      ·have hall2:Hid (∀ (j:Nat) (b:Int×List UInt8),j<k+1→l[j]?=some b→zD b.1 b.2.length=0):=fun j b hj hb=>by
        by_cases h:j<k
        ·exact hall j b h hb
        ·rw[show j=k by omega,ha] at hb;cases hb;exact hf
       rw[hf] at KF;clear hf hall;go_wp2_with fail;refine(KF.out _).mono ?_;rintro e w2 ⟨rfl,hb2⟩;have HB2:Hid (Below w1.heap.size w1 w2):=yn (yn HBR.out (zA _ _)) hb2;clear hb2 m0 m1 HBR;go_wp2_with fail;go_roundw
       case rel=>exact⟨k+1,by omega,by go_num,hall2.out,HB2.out⟩
       case measure=>simp[intOf];omega
      ·have hFF:Hid (zAH l=zD a.1 a.2.length):=zFb ha hall hf
       have HE2:Hid (efC e=zD a.1 a.2.length):=by show _=_;rw[HE.out,if_neg (by rw[hFF.out];exact hf),hFF.out]
       obtain⟨fc,hfc⟩:∃ fc,Hid (zD a.1 a.2.length=fc):=⟨_,rfl⟩
       have hz:(fc != 0)=true:=by rw[bne_iff_ne,← hfc.out];exact hf
       rw[hfc.out] at KF HE2;clear hf hall hFF HE;go_wp2_with fail;refine(KF.out _).mono ?_;rintro e w2 ⟨rfl,hb2⟩;replace BW:=yn (yn BW (zA _ _)) hb2;clear hb2 m0 m1 HBR;go_wp2;exact HQ.out _ _ HE2.out.symm BW
     ·have ek:k=l.length:=by omega
      subst ek
      have hF0:Hid (zAH l=0):=zCp fun j b hb=>hall j b (List.getElem?_eq_some_iff.1 hb).1 hb
      replace HE:Hid (efC e=if (e.2.2.2.2.1.length=0∨e.2.2.2.2.1.length=32)∧seB e.2.2.2.2.2 (zBi e.2.1)=true then 0 else 1):=by show _=_;rw[HE.out,if_pos hF0.out]
      clear hF0 hall hlt hbr;have c4:=zQ (A.cell 4) rfl;have c7:=zQ (A.cell 7) rfl;have c8:=zQ (A.cell 8) rfl;have c9:=zQ (A.cell 9) rfl;have c10:=zQ (A.cell 10) rfl;have c11:=zQ (A.cell 11) rfl
      have KI:=fun w=>zFZ p4 q4 e.2.2.2.2.1 w
      have KFS:=zJ2 e.2.2.2.2.2 e.2.1 p5 p6 p7 p8 q5 q6 q7 q8 wr;clear A;obtain⟨x,hx⟩:∃ x,x=e.2.2.2.2.2:=⟨_,rfl⟩;obtain⟨bs,hbs⟩:∃ bs,bs=e.2.2.2.2.1:=⟨_,rfl⟩;rw[← hx] at HE KFS c8 c9 c10 c11;rw[← hbs] at HE KI c7;clear hx hbs
      by_cases hb0:bs.length=0
      ·have d0:((bs.length:Int) != 0)=false:=by rw[bne_eq_false_iff_eq];omega
       cases hse:seB x (zBi e.2.1)
       ·have HE2:Hid (efC e=1):=by show _=_;rw[HE.out,hse,if_neg (fun h=>absurd h.2 (by decide))]
        rw[hse] at KFS;clear HE hb0 hse KI;go_wp2_with fail;refine KFS.mono ?_;rintro e w2 ⟨rfl,hb2⟩;replace BW:=yn BW hb2;go_wp2;exact HQ.out _ _ HE2.out.symm BW
       ·have HE2:Hid (efC e=0):=by show _=_;rw[HE.out,hse,if_pos ⟨.inl hb0,rfl⟩]
        rw[hse] at KFS;clear HE hb0 hse KI;go_wp2_with fail;refine KFS.mono ?_;rintro e w2 ⟨rfl,hb2⟩;replace BW:=yn BW hb2;go_wp2;exact HQ.out _ _ HE2.out.symm BW
      ·have d0:((bs.length:Int) != 0)=true:=by rw[bne_iff_ne];omega
       by_cases hb32:bs.length=32
       ·rw[show is32 bs=true by simp[is32,hb32]] at KI;cases hse:seB x (zBi e.2.1)
        ·have HE2:Hid (efC e=1):=by show _=_;rw[HE.out,hse,if_neg (fun h=>absurd h.2 (by decide))]
         rw[hse] at KFS;clear HE hb0 hse hb32;go_wp2_with fail;refine(KI _).mono ?_;rintro e w2 ⟨rfl,hw⟩;subst w2;go_wp2_with fail;refine KFS.mono ?_;rintro e w2 ⟨rfl,hb2⟩;replace BW:=yn BW hb2;go_wp2;exact HQ.out _ _ HE2.out.symm BW
        ·have HE2:Hid (efC e=0):=by show _=_;rw[HE.out,hse,if_pos ⟨.inr hb32,rfl⟩]
         rw[hse] at KFS;clear HE hb0 hse hb32;go_wp2_with fail;refine(KI _).mono ?_;rintro e w2 ⟨rfl,hw⟩;subst w2;go_wp2_with fail;refine KFS.mono ?_;rintro e w2 ⟨rfl,hb2⟩;replace BW:=yn BW hb2;go_wp2;exact HQ.out _ _ HE2.out.symm BW
       ·rw[show is32 bs=false by simp[is32,hb32]] at KI
        have HE2:Hid (efC e=1):=by show _=_;rw[HE.out,if_neg (fun h=>h.1.elim hb0 hb32)]
        clear HE hb0 hb32 KFS;go_wp2_with fail;refine(KI _).mono ?_;rintro e w2 ⟨rfl,hw⟩;subst w2;go_wp2;exact HQ.out _ _ HE2.out.symm BW
   ·have h4I:4<(e.2.2.2.1.length:Int):=by omega
    have HE2:Hid (efC e=2):=by show _=_;rw[HE.out,if_neg h4]
    clear h4 HE;go_wp2;exact HQ.out _ _ HE2.out.symm BW
  ·have HE2:Hid (efC e=3):=by
    show _=_
    rw[HE.out,if_neg];intro h;apply h13
    simpa [inB,and_assoc] using h
   have hd:e.2.1<1∨¬ e.2.1<1∧(3<e.2.1∨¬ 3<e.2.1∧(e.2.2.1<0∨¬ e.2.2.1<0∧2<e.2.2.1)):=by omega
   clear h13 HE;rcases hd with d1 | ⟨d1,d2 | ⟨d2,d3 | ⟨d3,d4⟩⟩⟩
   all_goals
    go_wp2;exact HQ.out _ _ HE2.out.symm BW
 ·have hd:(sfC e.1 != 0)=true:=by rw[bne_iff_ne];exact hs
  have HE:Hid (efC e=sfC e.1):=by show _=_;unfold efC;rw[if_neg hs]
  clear hs;generalize sfC e.1=ac at *;go_enter func98,ntmps98;go_wp2_with fail;refine KS.out.mono ?_;rintro x w1 ⟨rfl,hb1⟩;replace BW:=yn BW hb1;go_wp2;exact HQ.out _ _ HE.out.symm BW
end Go.Proofs.YtiabacnmmojfjabGreatDoor
