import Derived.Test.YtbaldmmbphbinaaGreatDoorJoint4
import Derived.Test.YtbaldmmbphbinaaGreatDoorJoint8
import Derived.Test.YtbaldmmbphbinaaGreatDoorJoint5
import Derived.Lib.AppendZeros
import Derived.Laws.AppendOwnNone
set_option maxHeartbeats 2000000
set_option maxRecDepth 4000
namespace Go.Proofs.YtbaldmmbphbinaaGreatDoor
open Go.ChangeShapes Go.WideShapes Go.ChangeAt Go.RowKit
theorem zAS {w:World} {ops:Array Oper} {rest:List Oper} {o:Oper} {a:Act} {Q:Exit→Act→World→Prop} (hgd:o.guard=none) (s x:Operand)
    (ho:o.op=.call { callee:=.builtin .append,args:=#[s,x],argTypes:=#[24,24] })
    (B:Nat) (v:Value) (n:Nat) (xs:List Value) (hs:a.eval s=v) (hown:w.ownsRow B 22 1 v n xs) (p:Option Addr) (q m:Nat) (ys:List Value) (hx:a.eval x=.slice p m q) (hr:Raw w p q m 1 ys) (h1:∀ u∈ys,u.oneCell'=true)
    (hl:n+m≤1000000) (hB:B≤w.heap.size)
    (h:∀ v' w',w'.ownsRow B 22 1 v' (n+m) (xs++ys)→w.grownBy w' v.ownBlock→wpList Tryz.prog ops Q rest (a.put o.dst v') w'):wpList Tryz.prog ops Q (o :: rest) a w:=by
  obtain⟨i0,hi,hz0,hz1,hz2⟩:=info_parts zCv;cases p with
  | none=>
    obtain⟨rfl,rfl,rfl⟩:=hr.none_len;refine wpList_append_own_none hgd s x _ ho B _ i0 1 Tryz.underlying24 hi v n _ hs hown hx ?_;exact h v w (by rw[List.append_nil];exact hown) (World.grownBy.refl _ _)
  | some ad=>
    refine wpList_append_own _ hgd s x _ ho B 22 i0 (.slice none 0 0) 1 24 Tryz.underlying24 hi hz0 hz1 hz2 rfl (by decide) v n xs hs hown ad m q ys hx hr.1 ?_ h1 (by unfold maxLen;omega) (by omega) hB fun v' w' h2 h3 _=>h v' w' h2 h3
    intro j u hu
    have hj:j<m*1:=by rw[← hr.1];exact(List.getElem?_eq_some_iff.1 hu).1
    obtain⟨b,off,e,hc⟩:=hr.2.2.2.2 (by omega);cases e;rw[zC4];exact hc j u hu
theorem zLn (n:Nat) (w:World) (hn:n≤1000000):
    Calls Tryz.prog 78 #[.slice none 0 0,.int .i64 (n:Int)] w fun e w'=>∃ v,e=.returned v∧w'.ownsRow w.heap.size 22 1 v 0 []∧Below w.heap.size w w':=by
  by_cases h0:0<n
  case neg=>
    obtain rfl:n=0:=by omega
    clear h0 hn;go_enter Tryz.func78,Tryz.ntmps78;go_wp2;go_ret;exact⟨_,rfl,⟨rfl,.inl ⟨rfl,rfl⟩⟩,Below.refl _ _⟩
  obtain⟨i0,hi,hz0,hz1,hz2⟩:=info_parts zCv
  have hI:0<(n:Int):=by omega
  have hI2:(n:Int)≤1000000:=by omega
  have hr:=Lib.run_append_nil_zeros (P:=Tryz.prog) w 24 3 24 22 i0 (.slice none 0 0) .i64 .i64 Tryz.underlying24 Tryz.underlying3 hi hz0 n h0 (by rw[hz1];decide) (by omega) (by rw[hz2];omega);have hge:=grownCap_ge w n 0 22;have hcm:grownCap w n 0 22≤maxLen:=grownCap_le_maxLen w n 0 22 (by unfold maxLen;omega)
  have hown:=World.ownsRow_made (base:=w.heap.size) (e:=22) (size:=1) w.drew (Builtin.zeroCells (Value.cells (.slice none 0 0)) n++Builtin.zeroCells (Value.cells (.slice none 0 0)) (grownCap w n 0 22-n)) (grownCap w n 0 22) (Nat.le_refl _) hcm (by
    rw[Array.size_append,size_zeroCells,size_zeroCells,← Nat.add_mul]
    show _*1=_
    congr 1
    omega)
  have hb:Below w.heap.size w (w.drew.alloc (.cells (Builtin.zeroCells (Value.cells (.slice none 0 0)) n++Builtin.zeroCells (Value.cells (.slice none 0 0)) (grownCap w n 0 22-n)) 22)):=Below.mk (Below.refl _ _).drew _;generalize w.drew.alloc (.cells (Builtin.zeroCells (Value.cells (.slice none 0 0)) n++Builtin.zeroCells (Value.cells (.slice none 0 0)) (grownCap w n 0 22-n)) 22)=W at *;generalize grownCap w n 0 22=cap at *
  have hcap:(cap:Int)≤9223372036854775807:=by unfold maxLen at hcm;omega
  clear hi hz0 hz1 hz2 hge;go_enter Tryz.func78,Tryz.ntmps78;go_wp2_with (at_builtin;refine Lib.wpList_append_run _ rfl _ _ _ _ rfl _ _ rfl rfl _ _ hr ?_);go_ret;exact⟨_,rfl,hown,hb⟩
theorem zIy (g n1 n2 q1 q2:Nat) (p1 p2:Option Addr) (xs ys:List Value) (w:World) (A:Arr w g 24 [.slice p1 n1 q1,.slice p2 n2 q2]) (r1:Raw w p1 q1 n1 1 xs) (r2:Raw w p2 q2 n2 1 ys) (o1:∀ u∈xs,u.oneCell'=true) (o2:∀ u∈ys,u.oneCell'=true) (hn:n1+n2≤1000000):
    Calls Tryz.prog 45 #[.slice (some ⟨g,0,none⟩) 2 2] w fun e w'=>∃ v,e=.returned v∧w'.ownsRow w.heap.size 22 1 v (n1+n2) (xs++ys)∧Below w.heap.size w w':=by
  have HR1:Hid (Raw w p1 q1 n1 1 xs):=r1;have HR2:Hid (Raw w p2 q2 n2 1 ys):=r2;have HO1:Hid (∀ u∈xs,u.oneCell'=true):=o1;have HO2:Hid (∀ u∈ys,u.oneCell'=true):=o2;have c0:=zQ (A.cell 0) rfl;have c1:=zQ (A.cell 1) rfl
  have hn1:(n1:Int)≤1000000:=by omega
  have hn2:(n2:Int)≤1000000:=by omega
  have hn3:(n1:Int)+(n2:Int)≤1000000:=by omega
  have KG:=fun w=>zLn (n1+n2) w hn
  have HN:Hid (n1+n2≤1000000):=hn;clear r1 r2 o1 o2 hn;go_enter Tryz.func45,Tryz.ntmps45;go_wp2_with fail
  go_loopw [3,11] (fun sz i wr=>((i=.int .i64 0∧sz=.int .i64 0)∨(i=.int .i64 1∧sz=.int .i64 (n1:Int))∨(i=.int .i64 2∧sz=.int .i64 ((n1:Int)+(n2:Int))))∧wr=w)
    (fun _ i _=>2-(intOf i).toNat)
  case atStart=>exact⟨.inl ⟨rfl,rfl⟩,rfl⟩
  case round=>
    obtain⟨⟨rfl,rfl⟩ | ⟨rfl,rfl⟩ | ⟨rfl,rfl⟩,rfl⟩:=hrel
    · go_wp2_with fail;go_roundw
      case rel=>exact⟨.inr (.inl ⟨by go_num,by go_num⟩),trivial⟩
      case measure=>simp[intOf]
    · go_wp2_with fail;go_roundw
      case rel=>exact⟨.inr (.inr ⟨by go_num,by go_num⟩),trivial⟩
      case measure=>simp[intOf]
    · go_wp2_with fail;have kg:=KG wr;rw[Int.natCast_add] at kg;have HG:Hid (g<wr.heap.size):=A.lt;refine kg.mono ?_;rintro e w1 ⟨v1,rfl,hown,hb1⟩;obtain⟨p1g,q1g,rfl,-⟩:=zT hown;replace A:=A.stay hb1;obtain⟨w3,e3⟩:∃ v,v=wr:=⟨_,rfl⟩;subst e3;clear kg KG c0 c1;go_wp2_with fail
      go_loopw [6,27] (fun v i wx=>((i=.int .i64 0∧wx.ownsRow w3.heap.size 22 1 v 0 [])∨(i=.int .i64 1∧wx.ownsRow w3.heap.size 22 1 v n1 xs)∨(i=.int .i64 2∧wx.ownsRow w3.heap.size 22 1 v (n1+n2) (xs++ys)))∧Below w3.heap.size w3 wx∧Arr wx g 24 [.slice p1 n1 q1,.slice p2 n2 q2])
        (fun _ i _=>2-(intOf i).toNat)
      case atStart=>exact⟨.inl ⟨rfl,hown⟩,hb1,A⟩
      case round=>
        clear hown hb1 A;obtain⟨⟨rfl,ho⟩ | ⟨rfl,ho⟩ | ⟨rfl,ho⟩,BX,AX⟩:=hrel
        · skip
          have c:=zQ (AX.cell 0) rfl;obtain⟨p6,q6,rfl,r6⟩:=zT ho;have HQ6:Hid (q6≤2 ^ 63-1):=r6.2.2.1;have RR:=HR1.out.keep BX
          have hge:Hid (∀ k,(Value.slice p6 0 q6).ownBlock=some k→w3.heap.size≤k):=fun k hk=>(World.ownsRow.lt ho k hk).1
          clear r6;go_wp2_with (at_builtin;refine zAS rfl (.tmp 31) (.tmp 32) rfl w3.heap.size (.slice p6 0 q6) 0 [] rfl ho p1 q1 n1 xs rfl RR HO1.out (by have:=HN.out;omega) BX.size ?_;intro v7 w7 ho7 hg7);replace BX:=BX.grown hg7 BX.size (fun k hk=>hge.out k hk);replace AX:=AX.other hg7 (fun e=>by have h1:=hge.out g e;have h2:=HG.out;omega);obtain⟨p7,q7,rfl,r7⟩:=zT ho7;clear ho hg7 RR c r7;go_wp2_with fail;go_roundw
          case rel=>exact⟨.inr (.inl ⟨by go_num,by rw[Nat.zero_add,List.nil_append] at ho7;first | exact ho7 | (rw[Nat.zero_add];exact ho7)⟩),BX,AX⟩
          case measure=>simp[intOf]
        · skip
          have c:=zQ (AX.cell 1) rfl;obtain⟨p6,q6,rfl,r6⟩:=zT ho;have HQ6:Hid (q6≤2 ^ 63-1):=r6.2.2.1;have RR:=HR2.out.keep BX
          have hge:Hid (∀ k,(Value.slice p6 n1 q6).ownBlock=some k→w3.heap.size≤k):=fun k hk=>(World.ownsRow.lt ho k hk).1
          clear r6;go_wp2_with (at_builtin;refine zAS rfl (.tmp 31) (.tmp 32) rfl w3.heap.size (.slice p6 n1 q6) n1 xs rfl ho p2 q2 n2 ys rfl RR HO2.out (by have:=HN.out;omega) BX.size ?_;intro v7 w7 ho7 hg7);replace BX:=BX.grown hg7 BX.size (fun k hk=>hge.out k hk);replace AX:=AX.other hg7 (fun e=>by have h1:=hge.out g e;have h2:=HG.out;omega);obtain⟨p7,q7,rfl,r7⟩:=zT ho7;clear ho hg7 RR c r7;go_wp2_with fail;go_roundw
          case rel=>exact⟨.inr (.inr ⟨by go_num,ho7⟩),BX,AX⟩
          case measure=>simp[intOf]
        · obtain⟨p6,q6,rfl,r6⟩:=zT ho;clear r6;go_wp2_with fail;go_ret;exact⟨_,rfl,ho,BX⟩
end Go.Proofs.YtbaldmmbphbinaaGreatDoor
