import Derived.Test.YtbaldmmbphbinaaGreatDoorJoint4
import Derived.OpenShut
import Derived.ChangeSlices
import Derived.Deep.Slices
import Derived.BigQuiet
import Derived.Test.YtbaldmmbphbinaaGreatDoorJoint1
import Derived.Deep.Quiet
namespace Go.Proofs.YtbaldmmbphbinaaGreatDoor
open Go.ChangeShapes Go.WideShapes Go.RowKit
section
variable {H:Type} {enc:TypeId×Value→H} {P:Program} {w:World}
end
end Go.Proofs.YtbaldmmbphbinaaGreatDoor
namespace Go.Proofs.YtbaldmmbphbinaaGreatDoor
open Go.RowKit
structure Win (F:World→Prop) (lo hi:Nat) (w:World):Prop where
  now:F w
  top:hi≤w.heap.size
  fr:∀ w':World,(∀ k,lo≤k→k<hi→w'.heap[k]?=w.heap[k]?)→F w'
structure Seg (lo hi:Nat) (w w':World):Prop where
  os:w'.os=w.os
  tape:w'.tape=w.tape
  output:w'.output=w.output
  size:w.heap.size≤w'.heap.size
  block:∀ k,k<w.heap.size→(k<lo∨hi≤k)→w'.heap[k]?=w.heap[k]?
theorem Win.move {F:World→Prop} {lo hi:Nat} {w w':World} (h:Win F lo hi w) (ht:w.heap.size≤w'.heap.size) (hs:∀ k,lo≤k→k<hi→w'.heap[k]?=w.heap[k]?):Win F lo hi w':=
  ⟨h.fr w' hs,Nat.le_trans h.top ht,fun w'' h2=>h.fr w'' fun k h3 h4=>(h2 k h3 h4).trans (hs k h3 h4)⟩
theorem Win.stay {F:World→Prop} {lo hi:Nat} {w w':World} (h:Win F lo hi w) (hb:Below w.heap.size w w'):Win F lo hi w':=
  h.move hb.size fun k _ h2=>hb.block k (Nat.lt_of_lt_of_le h2 h.top)
theorem Own.ins {w:World} {B:Nat} {v:Value} {bs:List UInt8} (h:Own w B v bs):∀ k,k∈v.ownBlock.toList→B≤k∧k<w.heap.size:=fun k hk=>⟨h.ge k (mem_opt.1 hk),h.lt k (mem_opt.1 hk)⟩
theorem RdL.own {α:Type} {e:TypeId} {c:Cod α} {w:World} {B n q:Nat} {p:Option Addr} {l:List α} {xs:List Value} {fp:List Nat} (h:OwnL e c w B (.slice p n q) l xs fp):RdL c w p q l:=by
  obtain⟨p',q',e1,hr⟩:=h.rd;simp only[Value.slice.injEq] at e1;obtain⟨rfl,-,rfl⟩:=e1;exact hr
theorem Cod.own.ins {α:Type} {c:Cod α} {w:World} {B:Nat} {a:α} {us:List Value} {fp:List Nat} (h:c.own w B a us fp):∀ k,k∈fp→B≤k∧k<w.heap.size:=c.ins h
end Go.Proofs.YtbaldmmbphbinaaGreatDoor
namespace Go.Proofs.YtbaldmmbphbinaaGreatDoor
open Go Go.RowKit
structure HW (V:World) where
  w:World
  h:Below V.heap.size V w
theorem HW.at {V:World} {p:Addr} {v:Value} (h:V.cell? p=some v):∀ s:HW V,s.w.cell? p=some v:=fun s=>zE h s.h
theorem HW.out {V w:World} (h:∃ s:HW V,w=s.w):Below V.heap.size V w:=by
  obtain⟨s,rfl⟩:=h;exact s.h
theorem HW.some (V:World):Nonempty (HW V):=⟨⟨V,Below.refl _ _⟩⟩
theorem HW.down {V w':World} {p:Addr} {v:Value} (h:∀ s:HW V,s.w.cell? p=Option.some v) (hb:Below V.heap.size V w'):∀ s:HW w',s.w.cell? p=Option.some v:=HW.at (h ⟨w',hb⟩)
theorem zBY {P:Program} {id:Nat} {Q:Exit→Act→World→Prop} {a:Act} {V:World} {l:List Oper}
    (hm:P.follows .mixedOrders=true) (hB:Region.lexB .any l.toArray=true)
    (h:wpQuiet P l.toArray (fun w'=>∃ s:HW V,w'=s.w) (fun a'=>∀ w',(∃ s:HW V,w'=s.w)→Q .normal a' w') l a):(Code.region id l.toArray true).wp P Q a V:=
  wp_region_quiet (C:=fun w'=>∃ s:HW V,w'=s.w) hm hB ⟨⟨V.drew,(Below.refl _ _).drew⟩,rfl⟩ (by simpa using h)
theorem Calls.stay {P:Program} {V:World} {f:FuncId} {args:Array Value} {v:Value} {s:HW V}
    (h:Calls P f args s.w fun e w'=>e=.returned v∧Below s.w.heap.size s.w w'):Calls P f args s.w fun e w''=>e=.returned v∧∃ s':HW V,w''=s'.w:=
  h.mono fun _ w'' ⟨he,hb⟩=>⟨he,⟨w'',Below.step s.h hb⟩,rfl⟩
theorem Calls.stay_same {P:Program} {V:World} {f:FuncId} {args:Array Value} {v:Value} {s:HW V}
    (h:Calls P f args s.w fun e w'=>e=.returned v∧w'=s.w):Calls P f args s.w fun e w''=>e=.returned v∧∃ s':HW V,w''=s'.w:=
  h.mono fun _ _ ⟨he,hb⟩=>⟨he,s,hb⟩
theorem zEA {P:Program} {id:Nat} {Q:Exit→Act→World→Prop} {a:Act} {V:World} {k:Nat} {l:List Oper}
    (hm:P.follows .mixedOrders=true) (hB:Region.lexB .any l.toArray=true)
    (h:wpQuiet P l.toArray (fun w'=>∃ n,w'=V.drewN n) (fun a'=>∀ w',(∃ n,w'=V.drewN n)→Q .normal a' w') l a):(Code.region id l.toArray true).wp P Q a (V.drewN k):=
  wp_region_quiet (C:=fun w'=>∃ n,w'=V.drewN n) hm hB ⟨k+1,rfl⟩ (by simpa using h)
section
variable {P:Program} {ops:Array Oper} {md:Region.Mode} {C:World→Prop} {Q':Exit→Act→World→Prop} {last:Nat}
def lexT (md:Region.Mode) (ops:Array Oper):Nat→Nat→Array Bool→Bool
  | 0,k,listed=>(Region.ready md ops listed==[k])&&(Region.ready md ops (listed.setIfInBounds k true)).isEmpty
  | n+1,k,listed=>(Region.ready md ops listed).contains k&&Region.free md ops listed k&&lexT md ops n (k+1) (listed.setIfInBounds k true)
def zCd (md:Region.Mode) (ops:Array Oper) (last:Nat):Bool:=
  match ops[last]? with
  | none=>false
  | some o=>(List.range last).all fun i=>o.after.toList.any fun e=>Region.binds md e&&e.on==i
theorem zFB (h:zCd md ops last=true) {listed:Array Bool} (hr:last∈Region.ready md ops listed) {i:Nat} (hi:i<last):listed.getD i false=true:=by
  obtain⟨-,o,ho,hall⟩:=mem_ready.1 hr;unfold zCd at h;simp only[ho,List.all_eq_true,List.mem_range] at h;obtain⟨e,he,hb⟩:=List.any_eq_true.1 (h i hi);simp only[Bool.and_eq_true,beq_iff_eq] at hb;have:=hall e (by simpa using he) hb.1;rw[hb.2] at this;exact this
def zFC (P:Program) (ops:Array Oper) (C:World→Prop) (Q':Exit→Act→World→Prop) (last:Nat) (a:Act):Prop:=
  ∀ w,C w→∀ K:Act→World→Prop,(∀ a' w',Q' .normal a' w'→K a' w')→wpOp P ops Q' last K a w
def zFs (P:Program) (md:Region.Mode) (ops:Array Oper) (C:World→Prop) (Q':Exit→Act→World→Prop) (last:Nat):Nat→Array Bool→Act→Prop
  | 0,listed,a=>Region.ready md ops listed=[last]∧Region.ready md ops (listed.setIfInBounds last true)=[]∧zFC P ops C Q' last a
  | fuel+1,listed,a=>Region.ready md ops listed≠[]∧∀ i∈Region.ready md ops listed,qOp P ops C i (zFs P md ops C Q' last fuel (listed.setIfInBounds i true)) a
theorem zEm:∀ (fuel:Nat) (listed:Array Bool) (a:Act) (w:World),C w→zFs P md ops C Q' last fuel listed a→wpAny P md ops Q' (fuel+1) listed a w
  | 0,_,_,_,hw,h=>⟨fun h0=>(by rw[h.1] at h0;cases h0),fun i hi=>by
      rw[h.1] at hi;rw[List.mem_singleton.1 hi]
      exact h.2.2 _ hw _ (fun a' w' hq=>⟨h.2.1,hq⟩)⟩
  | fuel+1,_,_,_,hw,h=>⟨fun h0=>absurd h0 h.1,fun i hi=>wpOp_of_qOp hw (fun a' w' hw'=>zEm fuel _ a' w' hw') (h.2 i hi)⟩
theorem zFt (hlast:zCd md ops last=true) {i:Nat} {oi:Oper} {v:Value} (hi:ops[i]?=some oi) (hil:i<last) (hsel:∀ (j:Nat) (o:Oper) cs b,ops[j]?=some o→o.op≠.select cs b):
    ∀ (fuel:Nat) (listed:Array Bool) (a:Act),
      (∀ j oj,ops[j]?=some oj→j≠i→listed.getD j true=false→(∀ e∈oj.after,Region.binds md e=true→e.on≠i)→oi.apart ops oj=true)→
      i∈Region.ready md ops listed→YieldsIn P ops C oi v a→
      zFs P md ops C Q' last fuel (listed.setIfInBounds i true) (a.put oi.dst v)→zFs P md ops C Q' last (fuel+1) listed a:=by
  intro fuel
  induction fuel with
  | zero=>
    intro listed a _ hr hy H;refine⟨fun h=>(by rw[h] at hr;cases hr),fun j hj=>?_⟩
    by_cases hji:j=i
    · subst hji;exact hy.qOp hi H
    · have h1:=ready_mono hj hji;rw[H.1] at h1;have h2:=List.mem_singleton.1 h1;subst h2;have h3:=zFB hlast hj hil;have h4:=(mem_ready.1 hr).1;rcases Nat.lt_or_ge i listed.size with h' | h'
      · simp[h'] at h3 h4;rw[h3] at h4;cases h4
      · simp[Array.getElem?_eq_none h'] at h3
  | succ fuel ih=>
    intro listed a hfree hr hy H;refine⟨fun h=>(by rw[h] at hr;cases hr),fun j hj=>?_⟩
    by_cases hji:j=i
    · subst hji;exact hy.qOp hi H
    · have h1:=H.2 j (ready_mono hj hji);obtain⟨hjun,oj,hoj,hall⟩:=mem_ready.1 hj
      have hnot:∀ e∈oj.after,Region.binds md e=true→e.on≠i:=fun e he hb heq=>by
        have h1:=hall e he hb;have h0:=(mem_ready.1 hr).1;rw[heq] at h1;rcases Nat.lt_or_ge i listed.size with h' | h'
        · simp[h'] at h0 h1;rw[h0] at h1;cases h1
        · simp[Array.getElem?_eq_none h'] at h1
      have h2:=qOp_put hoj (hfree j oj hoj hji hjun hnot) (fun cs b=>hsel i oi cs b hi) (fun cs b=>hsel j oj cs b hoj) hy h1
      have hfree':∀ k ok,ops[k]?=some ok→k≠i→(listed.setIfInBounds j true).getD k true=false→
          (∀ e∈ok.after,Region.binds md e=true→e.on≠i)→oi.apart ops ok=true:=fun k ok hk hki hun hno=>by
        refine hfree k ok hk hki ?_ hno
        by_cases hjk:j=k
        · subst hjk;exact hjun
        · rw[getD_set_ne true hjk] at hun;exact hun
      refine qOp_mono (fun a' h3=>ih (listed.setIfInBounds j true) a' hfree' (ready_mono hr (Ne.symm hji)) h3.1 ?_) h2;rw[Array.setIfInBounds_comm _ _ hji];exact h3.2
theorem zEn (hlast:zCd md ops last=true) (hs:Region.noSelect ops=true):∀ (l:List Oper) (k:Nat) (listed:Array Bool) (a:Act),(∀ j,j<l.length→l[j]?=ops[k+j]?)→k+l.length=last→
    lexT md ops l.length k listed=true→wpQuiet P ops C (zFC P ops C Q' last) l a→zFs P md ops C Q' last l.length listed a
  | [],k,_,_,_,hk,hB,h=>by
    simp only[List.length_nil,Nat.add_zero] at hk;subst hk;simp only[List.length_nil,lexT,Bool.and_eq_true,beq_iff_eq,List.isEmpty_iff] at hB;exact⟨hB.1,hB.2,h⟩
  | o :: l,k,listed,a,hl,hk,hB,h=>by
    have h0:ops[k]?=some o:=by simpa using (hl 0 (by simp)).symm
    simp only[List.length_cons,lexT,Bool.and_eq_true] at hB;obtain⟨⟨hr,hf⟩,hB'⟩:=hB
    have hst:qOp P ops C k (wpQuiet P ops C (zFC P ops C Q' last) l) a:=by unfold qOp;simp only[h0];exact h
    obtain⟨v,hy,hK⟩:=yieldsIn_of_qOp h0 hst;exact zFt hlast h0 (by simp at hk;omega) (Region.noSelect_spec hs) l.length listed a (Region.free_spec h0 hf) (by simpa using hr) hy
      (zEn hlast hs l (k+1) _ _ (fun j hj=>by have:=hl (j+1) (by simpa using hj);simpa [Nat.add_assoc,Nat.add_comm 1 j] using this) (by simp at hk;omega) hB' hK)
end
theorem zCK {P:Program} {ops:Array Oper} {C:World→Prop} {Q Q':Act→Prop} (h:∀ a,Q a→Q' a):∀ (l:List Oper) (a:Act),wpQuiet P ops C Q l a→wpQuiet P ops C Q' l a
  | [],a,hh=>h a hh
  | o :: l,a,hh=>by
    unfold wpQuiet at *;split
    · rename_i hw;rw[if_pos hw] at hh;exact Oper.quiet_mono (fun a'=>zCK h l a') hh
    · rename_i hw;rw[if_neg hw] at hh;exact zCK h l _ hh
theorem zCp {P:Program} {ops:Array Oper} {C:World→Prop} {Q:Exit→Act→World→Prop} {a:Act} {w:World} {id:Nat} (n:Nat) {o:Oper} (hn:ops.size=n+1) (ho:ops[n]?=some o) (hgd:o.guard=none)
    (hm:P.follows .mixedOrders=true) (hs:Region.noSelect ops=true) (hB:lexT .any ops n 0 (Array.replicate ops.size false)=true) (hw:zCd .any ops n=true) (hC:C { w with drawn:=w.drawn+1 })
    (h:wpQuiet P ops C (fun a'=>∀ w',C w'→∀ K:Act→World→Prop,(∀ a'' w'',Q .normal a'' w''→K a'' w'')→o.wp P a' w' K Q) (ops.toList.take n) a):(Code.region id ops true).wp P Q a w:=by
  refine wp_region_any hm ?_;rw[hn]
  have hlen:(ops.toList.take n).length=n:=by simp;omega
  have hq:wpQuiet P ops C (zFC P ops C Q n) (ops.toList.take n) a:=by
    refine zCK (fun a' h1=>?_) _ _ h;intro w' hw' K hK;unfold wpOp;simp only[ho];rw[if_pos (by simp[Region.wanted,hgd])];exact .inl (h1 w' hw' K hK)
  have:=zEn (Q':=Q) hw hs (ops.toList.take n) 0 (Array.replicate (n+1) false) a (fun j hj=>by rw[List.getElem?_take_of_lt (by omega)];simp) (by omega) (by rw[hlen,← hn];exact hB) hq;rw[hlen] at this;exact zEm n _ a _ hC this
end Go.Proofs.YtbaldmmbphbinaaGreatDoor
