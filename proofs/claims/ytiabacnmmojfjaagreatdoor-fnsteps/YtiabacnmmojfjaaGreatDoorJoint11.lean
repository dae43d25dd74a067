import Derived.Test.YtiabacnmmojfjaaGreatDoorJoint8
import Derived.Test.YtiabacnmmojfjaaGreatDoorJoint10
import Derived.Test.YtiabacnmmojfjaaGreatDoorJoint4
import Derived.Test.YtiabacnmmojfjaaGreatDoorJoint7
import Derived.Deep.AppendLies
import Derived.Test.YtiabacnmmojfjaaGreatDoorJoint3
set_option maxHeartbeats 2000000
set_option maxRecDepth 4000
open Go.Proofs.Tryz
namespace Go.Proofs.YtiabacnmmojfjaaGreatDoor
open Go.ChangeShapes Go.WideShapes Go.ChangeAt Go.RowKit
abbrev zAf:=Int×EndD×List MsgD
def endResultC:Cod zAf:=zCI (intC .i64) (zCI endC msgsC)
theorem zS {w:World} {a:zAf} {vs:List Value} (h:endResultC.rep w a vs):∃ p2_1_2 q2_1_2 p2_1_4 q2_1_4 p2_4 q2_4 p2_5 q2_5 p2_6_1 q2_6_1 p2_6_2 q2_6_2 p2_6_3 q2_6_3 p2_6_4 q2_6_4 p3 q3,vs=[.int .i64 a.1,.int .i64 a.2.1.1.1,.slice p2_1_2 a.2.1.1.2.1.length q2_1_2,.int .i64 a.2.1.1.2.2.1,.slice p2_1_4 a.2.1.1.2.2.2.length q2_1_4,.int .i64 a.2.1.2.1,.int .i64 a.2.1.2.2.1,.slice p2_4 a.2.1.2.2.2.1.length q2_4,.slice p2_5 a.2.1.2.2.2.2.1.length q2_5,.slice p2_6_1 a.2.1.2.2.2.2.2.1.length q2_6_1,.slice p2_6_2 a.2.1.2.2.2.2.2.2.1.length q2_6_2,.slice p2_6_3 a.2.1.2.2.2.2.2.2.2.1.length q2_6_3,.slice p2_6_4 a.2.1.2.2.2.2.2.2.2.2.length q2_6_4,.slice p3 a.2.2.length q3]∧Rd w p2_1_2 q2_1_2 a.2.1.1.2.1∧Rd w p2_1_4 q2_1_4 a.2.1.1.2.2.2∧RdL msgC w p2_4 q2_4 a.2.1.2.2.2.1∧Rd w p2_5 q2_5 a.2.1.2.2.2.2.1∧Rd w p2_6_1 q2_6_1 a.2.1.2.2.2.2.2.1∧Rd w p2_6_2 q2_6_2 a.2.1.2.2.2.2.2.2.1∧Rd w p2_6_3 q2_6_3 a.2.1.2.2.2.2.2.2.2.1∧Rd w p2_6_4 q2_6_4 a.2.1.2.2.2.2.2.2.2.2∧RdL msgC w p3 q3 a.2.2:=by
 obtain⟨us0,ts0,rfl,h0,us1,ts1,rfl,h1,h2⟩:=h;have e0:us0=[Value.int .i64 _]:=h0;subst e0;obtain⟨p2_1_2,q2_1_2,p2_1_4,q2_1_4,p2_4,q2_4,p2_5,q2_5,p2_6_1,q2_6_1,p2_6_2,q2_6_2,p2_6_3,q2_6_3,p2_6_4,q2_6_4,rfl,r2_1_2,r2_1_4,r2_4,r2_5,r2_6_1,r2_6_2,r2_6_3,r2_6_4⟩:=zAC h1;obtain⟨p3,q3,rfl,r3⟩:=h2;exact⟨p2_1_2,q2_1_2,p2_1_4,q2_1_4,p2_4,q2_4,p2_5,q2_5,p2_6_1,q2_6_1,p2_6_2,q2_6_2,p2_6_3,q2_6_3,p2_6_4,q2_6_4,p3,q3,rfl,r2_1_2,r2_1_4,r2_4,r2_5,r2_6_1,r2_6_2,r2_6_3,r2_6_4,r3⟩
abbrev BlkD:=List UInt8
theorem zMp {w:World} {a:BlkD} {vs:List Value} (h:bytC.rep w a vs):∃ p q,vs=[.slice p a.length q]∧Rd w p q a:=h
theorem zGP {w:World} {B:Nat} {a:BlkD} {v:Value} (o:Own w B v a):bytC.own w B a [v] v.ownBlock.toList:=⟨v,rfl,o,rfl⟩
theorem zJ8:(Tryz.prog.info? 22).map (fun i=>(i.zero,i.size,i.bytes))=some (some (.slice none 0 0),1,24):=by kernel_rfl
abbrev zBx:=Int×zAQ
def secretsResultC:Cod zBx:=zCI (intC .i64) secretsC
theorem zEe {w:World} {a:zBx} {vs:List Value} (h:secretsResultC.rep w a vs):∃ p2_1 q2_1 p2_2 q2_2 p2_3 q2_3 p2_4 q2_4,vs=[.int .i64 a.1,.slice p2_1 a.2.1.length q2_1,.slice p2_2 a.2.2.1.length q2_2,.slice p2_3 a.2.2.2.1.length q2_3,.slice p2_4 a.2.2.2.2.length q2_4]∧Rd w p2_1 q2_1 a.2.1∧Rd w p2_2 q2_2 a.2.2.1∧Rd w p2_3 q2_3 a.2.2.2.1∧Rd w p2_4 q2_4 a.2.2.2.2:=by
 obtain⟨us0,ts0,rfl,h0,h1⟩:=h;have e0:us0=[Value.int .i64 _]:=h0;subst e0;obtain⟨p2_1,q2_1,p2_2,q2_2,p2_3,q2_3,p2_4,q2_4,rfl,r2_1,r2_2,r2_3,r2_4⟩:=zAj h1;exact⟨p2_1,q2_1,p2_2,q2_2,p2_3,q2_3,p2_4,q2_4,rfl,r2_1,r2_2,r2_3,r2_4⟩
theorem zDK {w x y:World} {b:Nat} {row:Option Nat} (h:w.grownBy x (some b)) (k:x.grownBy y row) (hr:∀ j,row=some j→w.heap.size≤j∨j=b):w.grownBy y (some b):=
 ⟨k.os.trans h.os,k.tape.trans h.tape,k.output.trans h.output,yi h.size k.size,fun i hi hne=>
  (k.block i (Nat.lt_of_lt_of_le hi h.size) (fun e=>by
   rcases hr i e.symm with h1 | h1
   ·omega
   ·exact hne (by rw[h1]))).trans (h.block i hi hne)⟩
theorem zJL (b:Nat) (p:Option Addr) (q:Nat) (cs:List UInt8) (t n:Int) (w:World) (hs:Src w b p q cs t) (ht:0≤t) (ht2:t≤1000000000) (hn:1≤n) (hn2:n≤1000000):
  Calls prog 73 #[.pointer (some ⟨b,0,none⟩),.int .i64 n] w fun e w'=>∃ r:Bool,e=.returned (.bool r)∧Src w' b p q cs (t+1)∧w.grownBy w' (some b):=by
 go_enter func73,ntmps73;go_wp2_with fail;refine(zAl b p q cs t n w hs ht ht2 hn (by omega)).mono ?_;rintro e w1 ⟨r,rfl,hr0,hr1,hs1,hg1⟩;go_wp2;go_ret;exact⟨_,rfl,hs1,hg1⟩
theorem zIj (b:Nat) (p:Option Addr) (q:Nat) (cs:List UInt8) (t n:Int) (w:World) (hs:Src w b p q cs t) (ht:0≤t) (ht2:t≤900000000) (hn:0≤n) (hn2:n≤1000000):
  Calls prog 134 #[.pointer (some ⟨b,0,none⟩),.int .i64 n] w fun e w'=>∃ (u:Value) (bs:List UInt8),e=.returned u∧bs.length=n.toNat∧Own w' w.heap.size u bs∧Src w' b p q cs (t+n)∧w.grownBy w' (some b):=by
 obtain⟨i0,hi,hz0,hz1,hz2⟩:=info_parts zCr;have hbw:=hs.lt;go_enter func134,ntmps134;go_wp2
 go_loopw [1,5] (fun m v wr=>∃ (k:Nat) (bs:List UInt8),(k:Int)≤n∧m=.int .i64 (n-k)∧bs.length=k∧Own wr w.heap.size v bs∧Src wr b p q cs (t+k)∧w.grownBy wr (some b))
  (fun m _ _=>(intOf m).toNat)
 case atStart=>exact⟨0,[],by omega,by simp,rfl,⟨by simp,.inr ⟨w.heap.size,0,#[],rfl,yf _,heap_alloc_new w _,yf _,by simp[maxLen],by simp,by simp⟩⟩,by simpa using hs.keep (zA _ _),World.grownBy_alloc _ _ _⟩
 case round=>
  obtain⟨k,bs,hk,rfl,hbs,ho,hs1,hg⟩:=hrel;obtain⟨pv,cv,rfl,-⟩:=ho.rd
  by_cases hend:(k:Int)=n
  ·have hge:n-(k:Int)≤0:=by omega
   have HE:Hid ((k:Int)=n):=hend;clear hend;go_wp2;go_ret;exact⟨_,bs,rfl,by have:=HE.out;omega,ho,by have:=HE.out;rw[← this];exact hs1,hg⟩
  ·have hpos:0<n-(k:Int):=by omega
   go_wp2_with fail;refine(zAl b p q cs (t+k) 256 wr hs1 (by omega) (by omega) (by omega) (by omega)).mono ?_;rintro e w1 ⟨r,rfl,hr0,hr1,hs2,hg2⟩;have ho1:=ho.other hg2 (fun j hj e=>by have:=ho.ge j hj;simp at e;omega)
   have ho2:w1.ownsRow w.heap.size 5 1 (.slice pv k cv) k (bs.map u8v):=by have h:=ho1;unfold Own at h;rw[hbs] at h;exact h
   have hge:Hid (∀ j,(Value.slice pv k cv).ownBlock=some j→w.heap.size≤j):=fun j hj=>(World.ownsRow.lt ho2 j hj).1
   have hsz:w.heap.size≤w1.heap.size:=yi hg.size hg2.size
   have hkk:k≤1000000:=by omega
   rw[hbs]
   go_wp2_with (first
    | (at_builtin;refine wpList_append_lies _ rfl (.tmp 11) (.tmp 15) 22 rfl w.heap.size 5 i0 (.int .u8 0) 1 1 underlying22 hi hz0 hz1 hz2 rfl (by decide) (.slice pv k cv) k (bs.map u8v) rfl (World.ownsRow.alloc ho2 _) ⟨w1.heap.size,0,none⟩ 1 1 [.int .u8 r] rfl rfl (zHN w1 _ _) (by intro u hu;simp at hu;subst hu;rfl) (by decide) (by unfold maxLen;omega) (by omega) (by simp;omega) (w1.heap.size+1) (by simp) ?_;intro g cap2 w3 hown3 hgrow3 hat3 hlt3)
    | go_in)
   have er:r=((UInt8.ofNat r.toNat).toNat:Int):=by rw[UInt8.toNat_ofNat'];omega
   have R:Own w3 w.heap.size (.slice (some ⟨g,0,none⟩) (k+1) cap2) (bs++[UInt8.ofNat r.toNat]):=by
    refine zMb ?_;rw[← er,hbs];exact hown3
   have RS:Src w3 b p q cs (t+k+1):=(hs2.keep (zA _ _)).other hgrow3 (fun j hj=>by have:=hge.out j hj;omega);have RG:w.grownBy w3 (some b):=zDK (zDK (zDK hg hg2 (fun j hj=>.inr (by simpa using hj.symm))) (World.grownBy_alloc _ _ none) (fun j hj=>by simp at hj)) hgrow3 (fun j hj=>.inl (hge.out j hj));go_roundw
   case rel=>exact⟨k+1,bs++[UInt8.ofNat r.toNat],by omega,by go_num,by simp[hbs],R,by rw[show t+((k+1:Nat):Int)=t+k+1 by omega];exact RS,RG⟩
   case measure=>simp[intOf];omega
def isW (v:Int):Bool:=inB v 0 4294967295
def zNe (l:List Int) (word key:Int):Bool:=l.all isW&&isW word&&isW key
def s8 (l:List Int):S8:=⟨(atI l 0).toNat,(atI l 1).toNat,(atI l 2).toNat,(atI l 3).toNat,(atI l 4).toNat,(atI l 5).toNat,(atI l 6).toNat,(atI l 7).toNat⟩
def zOF (l:List Int) (word key:Int):Int:=if l.length=8 then (if zNe l word key then 0 else 3) else 1
def zOG (l:List Int) (word key:Int):List Int:=if l.length=8 then (if zNe l word key then (zCB (s8 l) word.toNat key.toNat).list.map Int.ofNat else []) else []
theorem zJ9 (s:S8) (word key:Nat) (w:World) (h:s.ok) (hw:word<4294967296) (hk:key<4294967296):
  Calls prog 171 #[.agg s.i64,.int .i64 word,.int .i64 key] w fun r w'=>r=.returned (.agg (zCB s word key).i64)∧Below w.heap.size w w':=
 zJ5 s.a s.b s.c s.d s.e s.f s.g s.h word key w h.1 h.2.1 h.2.2.1 h.2.2.2.1 h.2.2.2.2.1 h.2.2.2.2.2.1 h.2.2.2.2.2.2.1 h.2.2.2.2.2.2.2 hw hk
theorem zMq (s:S8) (word key:Nat) (w:World) (h:s.ok):
  Calls prog 217 #[.agg s.u32,.int .u32 word,.int .u32 key] w fun r w'=>r=.returned (.agg (zCB s word key).u32)∧Below w.heap.size w w':=
 zMm s.a s.b s.c s.d s.e s.f s.g s.h word key w h.1 h.2.1 h.2.2.1 h.2.2.2.2.1 h.2.2.2.2.2.1 h.2.2.2.2.2.2.1
theorem S8.words {s:S8} (h:s.ok):Words s.list:=by
 intro x hx;simp only[S8.list,List.mem_cons,List.not_mem_nil,or_false] at hx;obtain⟨h1,h2,h3,h4,h5,h6,h7,h8⟩:=h
 rcases hx with rfl | rfl | rfl | rfl | rfl | rfl | rfl | rfl <;> assumption
end Go.Proofs.YtiabacnmmojfjaaGreatDoor
