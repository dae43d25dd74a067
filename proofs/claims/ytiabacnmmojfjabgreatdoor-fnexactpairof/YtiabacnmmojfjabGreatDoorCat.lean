import Derived.Test.YtiabacnmmojfjabGreatDoorJoint4
import Derived.Test.YtiabacnmmojfjabGreatDoorJoint9
import Derived.Test.YtiabacnmmojfjabGreatDoorJoint13
import Derived.Lib.AppendZeros
import Derived.Laws.AppendOwnNone
set_option maxHeartbeats 2000000
set_option maxRecDepth 4000
open Go.Proofs.Tryz
namespace Go.Proofs.YtiabacnmmojfjabGreatDoor
open Go.ChangeShapes Go.WideShapes Go.ChangeAt Go.RowKit
theorem zAM:msgC.Mono:=zAa (zCK _) zA9
theorem zEs:msgsC.Mono:=zJe zAM
theorem zCZ {w:World} {ops:Array Oper} {rest:List Oper} {o:Oper} {a:Act} {Q:Exit→Act→World→Prop} (hgd:o.guard=none) (s x:Operand)
    (ho:o.op=.call { callee:=.builtin .append,args:=#[s,x],argTypes:=#[33,33] })
    (B:Nat) (v:Value) (n:Nat) (xs:List Value) (hs:a.eval s=v) (hown:w.ownsRow B 53 2 v n xs) (p:Option Addr) (q m:Nat) (ys:List Value) (hx:a.eval x=.slice p m q) (hr:Raw w p q m 2 ys) (h1:∀ u∈ys,u.oneCell'=true)
    (hl:n+m≤1000000) (hB:B≤w.heap.size)
    (h:∀ v' w',w'.ownsRow B 53 2 v' (n+m) (xs++ys)→w.grownBy w' v.ownBlock→wpList prog ops Q rest (a.put o.dst v') w'):wpList prog ops Q (o :: rest) a w:=by
  obtain⟨i0,hi,hz0,hz1,hz2⟩:=info_parts zBV;cases p with
  | none=>
    obtain⟨rfl,rfl,rfl⟩:=hr.none_len;refine wpList_append_own_none hgd s x _ ho B _ i0 2 underlying33 hi v n _ hs hown hx ?_;exact h v w (by rw[List.append_nil];exact hown) (World.grownBy.refl _ _)
  | some ad=>
    refine wpList_append_own _ hgd s x _ ho B 53 i0 (.agg #[.int .i64 0,.slice none 0 0]) 2 32 underlying33 hi hz0 hz1 hz2 rfl (by decide) v n xs hs hown ad m q ys hx hr.1 ?_ h1 (by unfold maxLen;omega) (by omega) hB fun v' w' h2 h3 _=>h v' w' h2 h3
    intro j u hu
    have hj:j<m*2:=by rw[← hr.1];exact(List.getElem?_eq_some_iff.1 hu).1
    obtain⟨b,off,e,hc⟩:=hr.2.2.2.2 (by omega);cases e;rw[zED];exact hc j u hu
theorem zOD (n:Nat) (w:World) (h0:0<n) (hn:n≤1000000):
    Calls prog 172 #[.slice none 0 0,.int .i64 (n:Int)] w fun e w'=>∃ g cap,e=.returned (.slice (some ⟨g,0,none⟩) 0 cap)∧w'.ownsRow w.heap.size 53 2 (.slice (some ⟨g,0,none⟩) 0 cap) 0 []∧Below w.heap.size w w':=by
  obtain⟨i0,hi,hz0,hz1,hz2⟩:=info_parts zBV
  have hI:0<(n:Int):=by omega
  have hI2:(n:Int)≤1000000:=by omega
  have hr:=Lib.run_append_nil_zeros (P:=prog) w 33 3 33 53 i0 (.agg #[.int .i64 0,.slice none 0 0]) .i64 .i64 underlying33 underlying3 hi hz0 n h0 (by rw[hz1];decide) (by omega) (by rw[hz2];omega);have hge:=grownCap_ge w n 0 53;have hcm:grownCap w n 0 53≤maxLen:=grownCap_le_maxLen w n 0 53 (by unfold maxLen;omega)
  have hown:=World.ownsRow_made (base:=w.heap.size) (e:=53) (size:=2) w.drew (Builtin.zeroCells (Value.cells (.agg #[.int .i64 0,.slice none 0 0])) n++Builtin.zeroCells (Value.cells (.agg #[.int .i64 0,.slice none 0 0])) (grownCap w n 0 53-n)) (grownCap w n 0 53) (yf _) hcm (by
    rw[Array.size_append,size_zeroCells,size_zeroCells,← Nat.add_mul]
    show _*2=_
    congr 1
    omega)
  have hb:Below w.heap.size w (w.drew.alloc (.cells (Builtin.zeroCells (Value.cells (.agg #[.int .i64 0,.slice none 0 0])) n++Builtin.zeroCells (Value.cells (.agg #[.int .i64 0,.slice none 0 0])) (grownCap w n 0 53-n)) 53)):=yr (Below.refl _ _).drew _;generalize w.drew.alloc (.cells (Builtin.zeroCells (Value.cells (.agg #[.int .i64 0,.slice none 0 0])) n++Builtin.zeroCells (Value.cells (.agg #[.int .i64 0,.slice none 0 0])) (grownCap w n 0 53-n)) 53)=W at *;generalize grownCap w n 0 53=cap at *
  have hcap:(cap:Int)≤9223372036854775807:=by unfold maxLen at hcm;omega
  clear hi hz0 hz1 hz2 hge;go_enter func172,ntmps172;go_wp2_with (at_builtin;refine Lib.wpList_append_run _ rfl _ _ _ _ rfl _ _ rfl rfl _ _ hr ?_);go_ret;exact⟨_,_,rfl,hown,hb⟩
theorem zL6 (g n1 n2 q1 q2:Nat) (p1 p2:Option Addr) (xs ys:List Value) (w:World) (A:Arr w g 33 [.slice p1 n1 q1,.slice p2 n2 q2]) (r1:Raw w p1 q1 n1 2 xs) (r2:Raw w p2 q2 n2 2 ys) (o1:∀ u∈xs,u.oneCell'=true) (o2:∀ u∈ys,u.oneCell'=true) (h0:0<n1+n2) (hn:n1+n2≤1000000):
    Calls prog 144 #[.slice (some ⟨g,0,none⟩) 2 2] w fun e w'=>∃ v,e=.returned v∧w'.ownsRow w.heap.size 53 2 v (n1+n2) (xs++ys)∧Below w.heap.size w w':=by
  have HR1:Hid (Raw w p1 q1 n1 2 xs):=r1;have HR2:Hid (Raw w p2 q2 n2 2 ys):=r2;have HO1:Hid (∀ u∈xs,u.oneCell'=true):=o1;have HO2:Hid (∀ u∈ys,u.oneCell'=true):=o2;obtain⟨c0,c1⟩:=zc2 A
  have hn1:(n1:Int)≤1000000:=by omega
  have hn2:(n2:Int)≤1000000:=by omega
  have hn3:(n1:Int)+(n2:Int)≤1000000:=by omega
  have KG:=fun w=>zOD (n1+n2) w h0 hn
  have HN:Hid (n1+n2≤1000000):=hn;clear r1 r2 o1 o2 h0 hn;go_enter func144,ntmps144;go_wp2_with fail
  go_loopw [3,11] (fun sz i wr=>((i=.int .i64 0∧sz=.int .i64 0)∨(i=.int .i64 1∧sz=.int .i64 (n1:Int))∨(i=.int .i64 2∧sz=.int .i64 ((n1:Int)+(n2:Int))))∧wr=w)
    (fun _ i _=>2-(intOf i).toNat)
  case atStart=>exact⟨.inl ⟨rfl,rfl⟩,rfl⟩
  case round=>
    obtain⟨⟨rfl,rfl⟩ | ⟨rfl,rfl⟩ | ⟨rfl,rfl⟩,rfl⟩:=hrel
    · go_wp2_with fail;go_roundw
      case rel=>exact⟨.inr (.inl ⟨by go_num,by go_num⟩),trivial⟩
      case measure=>simp[intOf]
    · go_wp2_with fail;go_roundw
      case rel=>exact⟨.inr (.inr ⟨by go_num,by go_num⟩),trivial⟩
      case measure=>simp[intOf]
    · go_wp2_with fail;have kg:=KG wr;rw[Int.natCast_add] at kg;have HG:Hid (g<wr.heap.size):=A.lt;refine kg.mono ?_;rintro e w1 ⟨g1,cap1,rfl,hown,hb1⟩;replace A:=A.stay hb1;obtain⟨w3,e3⟩:∃ v,v=wr:=⟨_,rfl⟩;subst e3;clear kg KG c0 c1;go_wp2_with fail
      go_loopw [6,27] (fun v i wx=>((i=.int .i64 0∧wx.ownsRow w3.heap.size 53 2 v 0 [])∨(i=.int .i64 1∧wx.ownsRow w3.heap.size 53 2 v n1 xs)∨(i=.int .i64 2∧wx.ownsRow w3.heap.size 53 2 v (n1+n2) (xs++ys)))∧Below w3.heap.size w3 wx∧Arr wx g 33 [.slice p1 n1 q1,.slice p2 n2 q2])
        (fun _ i _=>2-(intOf i).toNat)
      case atStart=>exact⟨.inl ⟨rfl,hown⟩,hb1,A⟩
      case round=>
        clear hown hb1 A;obtain⟨⟨rfl,ho⟩ | ⟨rfl,ho⟩ | ⟨rfl,ho⟩,BX,AX⟩:=hrel
        · skip
          have c:=zQ (AX.cell 0) rfl;obtain⟨p6,q6,rfl,r6⟩:=zBS ho;have HQ6:Hid (q6≤2 ^ 63-1):=r6.2.2.1;have RR:=HR1.out.keep BX
          have hge:Hid (∀ k,(Value.slice p6 0 q6).ownBlock=some k→w3.heap.size≤k):=fun k hk=>(World.ownsRow.lt ho k hk).1
          clear r6;go_wp2_with (at_builtin;refine zCZ rfl (.tmp 31) (.tmp 32) rfl w3.heap.size (.slice p6 0 q6) 0 [] rfl ho p1 q1 n1 xs rfl RR HO1.out (by have:=HN.out;omega) BX.size ?_;intro v7 w7 ho7 hg7);replace BX:=BX.grown hg7 BX.size (fun k hk=>hge.out k hk);replace AX:=AX.other hg7 (fun e=>by have h1:=hge.out g e;have h2:=HG.out;omega);obtain⟨p7,q7,rfl,r7⟩:=zBS ho7;clear ho hg7 RR c r7;go_wp2_with fail;go_roundw
          case rel=>exact⟨.inr (.inl ⟨by go_num,by rw[Nat.zero_add,yl] at ho7;first | exact ho7 | (rw[Nat.zero_add];exact ho7)⟩),BX,AX⟩
          case measure=>simp[intOf]
        · skip
          have c:=zQ (AX.cell 1) rfl;obtain⟨p6,q6,rfl,r6⟩:=zBS ho;have HQ6:Hid (q6≤2 ^ 63-1):=r6.2.2.1;have RR:=HR2.out.keep BX
          have hge:Hid (∀ k,(Value.slice p6 n1 q6).ownBlock=some k→w3.heap.size≤k):=fun k hk=>(World.ownsRow.lt ho k hk).1
          clear r6;go_wp2_with (at_builtin;refine zCZ rfl (.tmp 31) (.tmp 32) rfl w3.heap.size (.slice p6 n1 q6) n1 xs rfl ho p2 q2 n2 ys rfl RR HO2.out (by have:=HN.out;omega) BX.size ?_;intro v7 w7 ho7 hg7);replace BX:=BX.grown hg7 BX.size (fun k hk=>hge.out k hk);replace AX:=AX.other hg7 (fun e=>by have h1:=hge.out g e;have h2:=HG.out;omega);obtain⟨p7,q7,rfl,r7⟩:=zBS ho7;clear ho hg7 RR c r7;go_wp2_with fail;go_roundw
          case rel=>exact⟨.inr (.inr ⟨by go_num,ho7⟩),BX,AX⟩
          case measure=>simp[intOf]
        · obtain⟨p6,q6,rfl,r6⟩:=zBS ho;clear r6;go_wp2_with fail;go_ret;exact⟨_,rfl,ho,BX⟩
end Go.Proofs.YtiabacnmmojfjabGreatDoor
