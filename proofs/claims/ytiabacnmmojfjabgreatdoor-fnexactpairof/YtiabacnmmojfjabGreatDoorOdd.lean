import Derived.Deep.Quiet
import Derived.BigQuiet
import Derived.Test.YtiabacnmmojfjabGreatDoorJoint4
namespace Go.Proofs.YtiabacnmmojfjabGreatDoor
open Go Go.RowKit
section
variable {P:Program} {ops:Array Oper} {md:Region.Mode} {Q':Exit→Act→World→Prop}
theorem zII (V:World):∃ s:HW V,V=s.w:=⟨⟨V,Below.refl _ _⟩,rfl⟩
theorem zFS {V w x:World} (h:∃ s:HW V,w=s.w) (k:∃ s:HW w,x=s.w):∃ s:HW V,x=s.w:=by
  obtain⟨s,rfl⟩:=h;obtain⟨t,rfl⟩:=k;exact⟨⟨t.w,yn s.h t.h⟩,rfl⟩
def zCL (o:Oper):Bool:=match o.op with
  | .move _ | .assign _ | .pick .. | .binOp .. | .unOp .. | .field .. | .fieldAddr .. | .indexAddr .. | .index .. | .load .. | .slice .. | .convert .. | .extract .. | .nilCheck _ | .build ..=>true
  | .call c=>match c.callee with
    | .builtin .len=>true
    | _=>false
  | _=>false
theorem zIJ (s:Sem Value) (w:World) (n:Next) (w':World) (h:(do pure (Next.value (← s)):Sem Next).run P w=.ok n w'):∃ u,n=.value u:=by
  simp only[Sem.run_bind,Sem.run_pure] at h;cases hs:s.run P w with
  | ok u w1=>rw[hs] at h;simp only[Result.andThen] at h;cases h;exact⟨_,rfl⟩
  | halt x w1=>rw[hs] at h;simp only[Result.andThen] at h;cases h
theorem zNE (s:Sem Bool) (x y:Value) (w:World) (n:Next) (w':World) (h:(do pure (Next.value (if ← s then x else y)):Sem Next).run P w=.ok n w'):∃ u,n=.value u:=by
  simp only[Sem.run_bind,Sem.run_pure] at h;cases hs:s.run P w with
  | ok u w1=>rw[hs] at h;simp only[Result.andThen] at h;cases h;exact⟨_,rfl⟩
  | halt x w1=>rw[hs] at h;simp only[Result.andThen] at h;cases h
theorem zKP (r:Result Value) (n:Next) (w':World) (h:(r.andThen fun a w'=>Result.ok (Next.value a) w')=.ok n w'):∃ u,n=.value u:=by
  cases r with
  | ok u w1=>simp only[Result.andThen] at h;cases h;exact⟨_,rfl⟩
  | halt x w1=>simp only[Result.andThen] at h;cases h
theorem zKQ {α β:Type} {r:Result α} {f:α→World→Result β} {n:β} {w':World} (h:r.andThen f=.ok n w'):∃ a w1,f a w1=.ok n w':=by
  cases r with
  | ok u w1=>exact⟨u,w1,h⟩
  | halt x w1=>simp only[Result.andThen] at h;cases h
theorem zB3 {o:Oper} (hp:zCL o=true) (ρ:Operand→Value) (w:World) (n:Next) (w':World) (h:(execOp ρ o).run P w=.ok n w'):∃ u,n=.value u:=by
  unfold zCL at hp;unfold execOp at h
  split at hp <;> rename_i ho <;> simp only[ho] at h
  all_goals first | exact zIJ _ w n w' h | skip
  all_goals first | (simp only[Sem.run_pure] at h;cases h;exact⟨_,rfl⟩) | skip
  all_goals first | exact zNE _ _ _ w n w' h | skip
  · split at h
    · simp[runtimePanic] at h
    · simp[runtimePanic] at h
    · simp[runtimePanic] at h
    · split at h
      · simp[runtimePanic] at h
      · simp only[Sem.run_bind] at h;obtain⟨a1,w1,h⟩:=zKQ h;obtain⟨a2,w2,h⟩:=zKQ h;split at h
        · simp only[Sem.run_bind,Sem.run_pure] at h;obtain⟨a3,w3,h⟩:=zKQ h;cases h;exact⟨_,rfl⟩
        · simp only[Sem.run_pure] at h;cases h;exact⟨_,rfl⟩
      · simp only[Sem.run_pure] at h;cases h;exact⟨_,rfl⟩
    · simp only[Sem.run_pure] at h;cases h;exact⟨_,rfl⟩
  · split at hp
    · rename_i hc;simp only[resolve,hc,Sem.run_bind,Sem.run_pure,Result.andThen_ok,invoke,builtin] at h;exact zKP _ n w' h
    · cases hp
  · cases hp
def gOp (P:Program) (ops:Array Oper) (i:Nat) (K:Act→World→Prop) (a:Act) (V:World):Prop:=
  match ops[i]? with
  | none=>K a V
  | some o=>if Region.wanted o (yielded ops a.tmps) then
      (∃ v,(∀ w,(∃ s:HW V,w=s.w)→o.quietAt P a (fun w'=>∃ s:HW V,w'=s.w) w v)∧K (a.put o.dst v) V)∨
      (∀ w,(∃ s:HW V,w=s.w)→∃ f args,(execOp a.eval o).run P w=.ok (.enter f args) w∧Calls P f args w (fun e w'=>∃ v,e=.returned v∧(∃ s:HW w,w'=s.w)∧K (a.put o.dst v) w'))
    else K (a.put o.dst undef) V
def wpG (P:Program) (md:Region.Mode) (ops:Array Oper) (Q':Exit→Act→World→Prop):Nat→Array Bool→Act→World→Prop
  | 0,listed,a,V=>Region.ready md ops listed=[]∧∀ w,(∃ s:HW V,w=s.w)→Q' .normal a w
  | fuel+1,listed,a,V=>Region.ready md ops listed≠[]∧∀ i∈Region.ready md ops listed,gOp P ops i (wpG P md ops Q' fuel (listed.setIfInBounds i true)) a V
theorem zN6 {i:Nat} {K:Act→World→Prop} {K':Act→World→Prop} {a:Act} {V w:World} (hw:∃ s:HW V,w=s.w) (h:∀ a' V' w',(∃ s:HW V',w'=s.w)→K a' V'→K' a' w') (hh:gOp P ops i K a V):wpOp P ops Q' i K' a w:=by
  unfold gOp at hh;unfold wpOp;split
  · rename_i ho;simp only[ho] at hh;exact h _ _ _ hw hh
  · rename_i o ho;simp only[ho] at hh;split
    · rename_i hwt;simp only[hwt,if_true] at hh;rcases hh with ⟨v,h1,h2⟩ | h1
      · exact .inl (Oper.wp_of_quiet (C:=fun w'=>∃ s:HW V,w'=s.w) (K:=fun a'=>K a' V) hw (fun a' w' hw' hk=>h a' V w' hw' hk) ⟨v,h1,h2⟩)
      · obtain⟨f,args,hr,hc⟩:=h1 w hw;refine .inl ?_;unfold Oper.wp;rw[hr];simp only[Oper.upon]
        exact hc.mono fun e w'' ⟨v,he,hs,hk⟩=>by subst he;exact h _ _ _ (zII w'') hk
    · rename_i hwt;simp only[hwt] at hh;exact h _ _ _ hw hh
theorem zGX:∀ (fuel:Nat) (listed:Array Bool) (a:Act) (V w:World),(∃ s:HW V,w=s.w)→wpG P md ops Q' fuel listed a V→wpAny P md ops Q' fuel listed a w
  | 0,_,_,_,_,hw,h=>⟨h.1,h.2 _ hw⟩
  | fuel+1,_,_,_,_,hw,h=>⟨fun h0=>absurd h0 h.1,fun i hi=>zN6 hw (fun a' V' w' hw' hk=>zGX fuel _ a' V' w' hw' hk) (h.2 i hi)⟩
def Calm (P:Program) (ops:Array Oper) (o:Oper) (v:Value) (a:Act) (V:World):Prop:=
  (Region.wanted o (yielded ops a.tmps)=true∧∀ w,(∃ s:HW V,w=s.w)→(execOp a.eval o).run P w=.ok (.value v) w)∨
  (Region.wanted o (yielded ops a.tmps)=false∧v=undef)
theorem Calm.down {o:Oper} {v:Value} {a:Act} {V w:World} (h:Calm P ops o v a V) (hw:∃ s:HW V,w=s.w):Calm P ops o v a w:=by
  rcases h with ⟨h1,h2⟩ | h
  · exact .inl ⟨h1,fun x hx=>h2 x (zFS hw hx)⟩
  · exact .inr h
theorem Calm.same {o:Oper} {v:Value} {a a':Act} {V:World} (h:Calm P ops o v a V) (he:execOp a'.eval o=execOp a.eval o) (hw:Region.wanted o (yielded ops a'.tmps)=Region.wanted o (yielded ops a.tmps)):Calm P ops o v a' V:=by
  unfold Calm at *;rw[he,hw];exact h
theorem Calm.gOp {i:Nat} {o:Oper} {v:Value} {a:Act} {V:World} (hi:ops[i]?=some o) (h:Calm P ops o v a V) {K:Act→World→Prop} (hk:K (a.put o.dst v) V):gOp P ops i K a V:=by
  unfold Go.Proofs.YtiabacnmmojfjabGreatDoor.gOp;simp only[hi];rcases h with ⟨hw,hv⟩ | ⟨hw,rfl⟩
  · simp only[hw,if_true];refine .inl ⟨v,fun w hw'=>?_,hk⟩;unfold Oper.quietAt;rw[hv w hw'];exact⟨rfl,rfl⟩
  · simp only[hw,Bool.false_eq_true,if_false];exact hk
theorem zNF {j:Nat} {oi oj:Oper} {v:Value} (hj:ops[j]?=some oj) (hap:oi.apart ops oj=true)
    (hsi:∀ cs b,oi.op≠.select cs b) (hsj:∀ cs b,oj.op≠.select cs b) {K:Act→World→Prop} {a:Act} {V:World}
    (hy:Calm P ops oi v a V) (h:gOp P ops j K (a.put oi.dst v) V):
    gOp P ops j (fun a' V'=>Calm P ops oi v a' V'∧K (a'.put oi.dst v) V') a V:=by
  obtain⟨h1,h2,h3⟩:=Oper.apart_spec hap
  have keep:∀ u,Calm P ops oi v (a.put oj.dst u) V:=fun u=>
    hy.same (execOp_put oi hsi a oj.dst u h3) (wanted_put oi a oj.dst u h3)
  unfold gOp at *;simp only[hj] at *;rw[wanted_put oj a oi.dst v h1] at h;split
  · rename_i hw;simp only[hw,if_true] at h;rcases h with ⟨u,hu,hn⟩ | ho
    · refine .inl ⟨u,fun w hw'=>?_,keep u,by rw[← Act.put_comm a v u h2];exact hn⟩;have:=hu w hw';unfold Oper.quietAt at *
      rwa [execOp_put oj hsj a oi.dst v h1] at this
    · refine .inr (fun w hw'=>?_);obtain⟨f,args,hr,hc⟩:=ho w hw';rw[execOp_put oj hsj a oi.dst v h1] at hr;exact⟨f,args,hr,hc.mono fun e w'' ⟨u,he,hs,hk⟩=>⟨u,he,hs,(keep u).down (zFS hw' hs),by rw[← Act.put_comm a v u h2];exact hk⟩⟩
  · rename_i hw;simp only[hw] at h;exact⟨keep _,by rw[← Act.put_comm a v undef h2];exact h⟩
theorem zLd {i:Nat} {a:Act} {V:World} {K K':Act→World→Prop} (h:∀ a V,K a V→K' a V) (hh:gOp P ops i K a V):gOp P ops i K' a V:=by
  unfold gOp at *;split
  · exact h _ _ (by simpa [*] using hh)
  · rename_i o ho;simp only[ho] at hh;split
    · rename_i hw;simp only[hw,if_true] at hh;rcases hh with ⟨u,hu,hn⟩ | ho
      · exact .inl ⟨u,hu,h _ _ hn⟩
      · exact .inr fun w hw'=>by
          obtain⟨f,args,hr,hc⟩:=ho w hw';exact⟨f,args,hr,hc.mono fun e w'' ⟨u,he,hs,hk⟩=>⟨u,he,hs,h _ _ hk⟩⟩
    · rename_i hw;simp only[hw] at hh;exact h _ _ hh
theorem zKR {i:Nat} {oi:Oper} {v:Value} (hi:ops[i]?=some oi) (hsel:∀ (j:Nat) (o:Oper) cs b,ops[j]?=some o→o.op≠.select cs b):
    ∀ (fuel:Nat) (listed:Array Bool) (a:Act) (V:World),
      (∀ j oj,ops[j]?=some oj→j≠i→listed.getD j true=false→(∀ e∈oj.after,Region.binds md e=true→e.on≠i)→oi.apart ops oj=true)→
      i∈Region.ready md ops listed→Calm P ops oi v a V→
      wpG P md ops Q' fuel (listed.setIfInBounds i true) (a.put oi.dst v) V→wpG P md ops Q' (fuel+1) listed a V:=by
  intro fuel
  induction fuel with
  | zero=>
    intro listed a V _ hr hy H;refine⟨fun h=>(by rw[h] at hr;cases hr),fun j hj=>?_⟩
    by_cases hji:j=i
    · subst hji;exact hy.gOp hi H
    · have:=ready_mono hj hji;rw[H.1] at this;cases this
  | succ fuel ih=>
    intro listed a V hfree hr hy H;refine⟨fun h=>(by rw[h] at hr;cases hr),fun j hj=>?_⟩
    by_cases hji:j=i
    · subst hji;exact hy.gOp hi H
    · have h1:=H.2 j (ready_mono hj hji);obtain⟨hjun,oj,hoj,hall⟩:=mem_ready.1 hj
      have hnot:∀ e∈oj.after,Region.binds md e=true→e.on≠i:=fun e he hb heq=>by
        have h1:=hall e he hb;have h0:=(mem_ready.1 hr).1;rw[heq] at h1;rcases Nat.lt_or_ge i listed.size with h' | h'
        · simp[h'] at h0 h1;rw[h0] at h1;cases h1
        · simp[Array.getElem?_eq_none h'] at h1
      have h2:=zNF hoj (hfree j oj hoj hji hjun hnot) (fun cs b=>hsel i oi cs b hi) (fun cs b=>hsel j oj cs b hoj) hy h1
      have hfree':∀ k ok,ops[k]?=some ok→k≠i→(listed.setIfInBounds j true).getD k true=false→
          (∀ e∈ok.after,Region.binds md e=true→e.on≠i)→oi.apart ops ok=true:=fun k ok hk hki hun hno=>by
        refine hfree k ok hk hki ?_ hno
        by_cases hjk:j=k
        · subst hjk;exact hjun
        · rw[getD_set_ne true hjk] at hun;exact hun
      refine zLd (fun a' V' h3=>ih (listed.setIfInBounds j true) a' V' hfree' (ready_mono hr (Ne.symm hji)) h3.1 ?_) h2;rw[Array.setIfInBounds_comm _ _ hji];exact h3.2
def upTo (n k:Nat):Array Bool:=Array.ofFn (n:=n) (fun i=>decide (i.val<k))
theorem zDH (n k j:Nat) (d:Bool):(upTo n k).getD j d=if j<n then decide (j<k) else d:=by
  unfold upTo
  by_cases h:j<n
  · simp[h]
  · simp[h]
theorem zFh (n:Nat):Array.replicate n false=upTo n 0:=by
  apply Array.ext_getElem?;intro i
  by_cases h:i<n
  · simp[upTo,h]
  · simp[upTo,h]
theorem zBa (n k:Nat):(upTo n k).setIfInBounds k true=upTo n (k+1):=by
  apply Array.ext_getElem?;intro i
  by_cases h:i<n
  · by_cases hk:k=i
    · subst hk;simp[upTo,h]
    · rw[Array.getElem?_setIfInBounds_ne hk];simp[upTo,h];omega
  · by_cases hk:k=i
    · subst hk;simp[upTo,h]
    · rw[Array.getElem?_setIfInBounds_ne hk];simp[upTo,h]
def okR (md:Region.Mode) (ops:Array Oper) (k:Nat):Bool:=match ops[k]? with
  | some o=>o.after.toList.all (fun e=>!(Region.binds md e) || decide (e.on<k))
  | none=>false
def okF (md:Region.Mode) (ops:Array Oper) (k:Nat):Bool:=match ops[k]? with
  | some o=>(List.range ops.size).all (fun j=>decide (j≤k) || (match ops[j]? with
    | some oj=>oj.after.toList.any (fun e=>Region.binds md e&&e.on==k) || o.apart ops oj
    | none=>true))
  | none=>false
def zEF (md:Region.Mode) (ops:Array Oper) (k:Nat):Bool:=(List.range ops.size).all (fun j=>decide (j≤k) || (match ops[j]? with
    | some oj=>oj.after.toList.any (fun e=>Region.binds md e&&decide (k≤e.on))
    | none=>true))
theorem zCE {k:Nat} (h:okR md ops k=true):k∈Region.ready md ops (upTo ops.size k):=by
  unfold okR at h;split at h
  · rename_i o ho;have hk:k<ops.size:=(Array.getElem?_eq_some_iff.1 ho).1;rw[mem_ready];refine⟨by rw[zDH];simp[hk],o,ho,fun e he hb=>?_⟩;have h1:=(List.all_eq_true.1 h) e (by simpa using he);simp only[hb,Bool.not_true,Bool.false_or,decide_eq_true_eq] at h1;rw[zDH,if_pos (by omega)]
    simpa using h1
  · cases h
theorem zGv {k:Nat} {o:Oper} (ho:ops[k]?=some o) (h:okF md ops k=true):∀ j oj,ops[j]?=some oj→j≠k→(upTo ops.size k).getD j true=false→(∀ e∈oj.after,Region.binds md e=true→e.on≠k)→o.apart ops oj=true:=by
  intro j oj hj hjk hun hno;have hjs:j<ops.size:=(Array.getElem?_eq_some_iff.1 hj).1;rw[zDH,if_pos hjs] at hun;simp only[decide_eq_false_iff_not] at hun;unfold okF at h;simp only[ho] at h;have h1:=(List.all_eq_true.1 h) j (by simpa using hjs);simp only[hj,Bool.or_eq_true,decide_eq_true_eq,List.any_eq_true,Bool.and_eq_true,beq_iff_eq] at h1;rcases h1 with h1 | ⟨e,he,hb,hon⟩ | h1
  · omega
  · exact absurd hon (hno e (by simpa using he) hb)
  · exact h1
theorem zBX {k:Nat} (h:zEF md ops k=true):∀ j∈Region.ready md ops (upTo ops.size k),j=k:=by
  intro j hj;obtain⟨hun,oj,ho,hall⟩:=mem_ready.1 hj;have hjs:j<ops.size:=(Array.getElem?_eq_some_iff.1 ho).1;rw[zDH,if_pos hjs] at hun;simp only[decide_eq_false_iff_not] at hun;unfold zEF at h;have h1:=(List.all_eq_true.1 h) j (by simpa using hjs);simp only[ho,Bool.or_eq_true,decide_eq_true_eq,List.any_eq_true,Bool.and_eq_true] at h1;rcases h1 with h1 | ⟨e,he,hb,hon⟩
  · omega
  · have h2:=hall e (by simpa using he) hb;rw[zDH] at h2;split at h2
    · simp at h2;omega
    · cases h2
theorem zHh:Region.ready md ops (upTo ops.size ops.size)=[]:=by
  rw[List.eq_nil_iff_forall_not_mem];intro j hj;obtain⟨hun,oj,ho,-⟩:=mem_ready.1 hj;have hjs:j<ops.size:=(Array.getElem?_eq_some_iff.1 ho).1;rw[zDH,if_pos hjs] at hun;simp at hun;omega
theorem zIK (hs:Region.noSelect ops=true) {V:World} (fuel:Nat):∀ (l:List Oper) (k:Nat) (a:Act),(∀ j,j<l.length→l[j]?=ops[k+j]?)→l.all zCL=true→
    (List.range' k l.length).all (fun i=>okR md ops i&&okF md ops i)=true→wpQuiet P ops (fun w'=>∃ s:HW V,w'=s.w) (fun a'=>wpG P md ops Q' fuel (upTo ops.size (k+l.length)) a' V) l a→wpG P md ops Q' (l.length+fuel) (upTo ops.size k) a V
  | [],k,a,_,_,_,h=>by simpa [wpQuiet] using h
  | o :: l,k,a,hl,hp,hB,h=>by
    have h0:ops[k]?=some o:=by simpa using (hl 0 (by simp)).symm
    simp only[List.all_cons,Bool.and_eq_true] at hp;simp only[List.length_cons,List.range'_succ,List.all_cons,Bool.and_eq_true] at hB;obtain⟨⟨hr,hf⟩,hB'⟩:=hB
    have hst:qOp P ops (fun w'=>∃ s:HW V,w'=s.w) k (wpQuiet P ops (fun w'=>∃ s:HW V,w'=s.w) (fun a'=>wpG P md ops Q' fuel (upTo ops.size (k+(l.length+1))) a' V) l) a:=by unfold qOp;simp only[h0];exact h
    obtain⟨v,hy,hK⟩:=yieldsIn_of_qOp h0 hst;rw[show k+(l.length+1)=k+1+l.length by omega] at hK;have hrest:=zIK hs fuel l (k+1) (a.put o.dst v) (fun j hj=>by have:=hl (j+1) (by simpa using hj);simpa [Nat.add_assoc,Nat.add_comm 1 j] using this) hp.2 hB' hK;rw[← zBa] at hrest;rw[show(o :: l).length+fuel=(l.length+fuel)+1 by simp;omega];refine zKR h0 (Region.noSelect_spec hs) (l.length+fuel) _ a V (zGv h0 hf) (zCE hr) ?_ hrest;rcases hy with ⟨hw,hv⟩ | ⟨hw,rfl⟩
    · refine .inl ⟨hw,fun w hw'=>?_⟩;have h3:=hv w hw';unfold Oper.quietAt at h3;cases hrn:(execOp a.eval o).run P w with
      | ok n w1=>
        obtain⟨u,rfl⟩:=zB3 hp.1 a.eval w n w1 hrn;rw[hrn] at h3;obtain⟨e1,e2⟩:=h3;rw[e1,e2]
      | halt x w1=>rw[hrn] at h3;exact h3.elim
    · exact .inr ⟨hw,rfl⟩
theorem zFT {k:Nat} {o:Oper} {fuel:Nat} {a:Act} {V:World} (h0:ops[k]?=some o) (hr1:okR md ops k=true) (hone:zEF md ops k=true) (hw:Region.wanted o (yielded ops a.tmps)=true)
    (f:FuncId) (args args':Array Value) (hr:∀ w,(execOp a.eval o).run P w=.ok (.enter f args) w) (he:args=args')
    (h:∀ w,(∃ s:HW V,w=s.w)→Calls P f args' w (fun e w'=>∃ v,e=.returned v∧(∃ s:HW w,w'=s.w)∧wpG P md ops Q' fuel (upTo ops.size (k+1)) (a.put o.dst v) w')):wpG P md ops Q' (fuel+1) (upTo ops.size k) a V:=by
  subst he;have hk:=zCE hr1;refine⟨fun e=>(by rw[e] at hk;cases hk),fun i hi=>?_⟩;rw[zBX hone i hi,zBa];unfold gOp;simp only[h0,hw,if_true]
  exact .inr fun w hw'=>⟨f,args,hr w,h w hw'⟩
theorem zGw {id:Nat} {a:Act} {w:World} (hm:P.follows .mixedOrders=true) (h:wpG P .any ops Q' ops.size (upTo ops.size 0) a w):(Code.region id ops true).wp P Q' a w:=
  wp_region_any hm (by rw[zFh];exact zGX _ _ _ w _ ⟨⟨w.drew,(Below.refl _ _).drew⟩,rfl⟩ h)
theorem zCk {id:Nat} {a:Act} {w:World} (n m:Nat) (hn:ops.size=n+m) (hm:P.follows .mixedOrders=true) (hs:Region.noSelect ops=true) (hB:(List.range' 0 n).all (fun i=>okR .any ops i&&okF .any ops i)=true) (hp:(ops.toList.take n).all zCL=true)
    (h:wpQuiet P ops (fun w'=>∃ s:HW w,w'=s.w) (fun a'=>wpG P .any ops Q' m (upTo ops.size n) a' w) (ops.toList.take n) a):(Code.region id ops true).wp P Q' a w:=by
  refine zGw hm ?_
  have hlen:(ops.toList.take n).length=n:=by simp;omega
  have:=zIK (Q':=Q') hs m (ops.toList.take n) 0 a (fun j hj=>by rw[List.getElem?_take_of_lt (by omega)];simp) hp (by rw[hlen];exact hB) (by rw[hlen,Nat.zero_add];exact h);rw[hlen] at this;rw[← hn] at this;exact this
theorem zIx {a:Act} {V:World} (k n m:Nat) (hn:k+n≤ops.size) (hs:Region.noSelect ops=true) (hB:(List.range' k n).all (fun i=>okR md ops i&&okF md ops i)=true) (hp:((ops.toList.drop k).take n).all zCL=true)
    (h:wpQuiet P ops (fun w'=>∃ s:HW V,w'=s.w) (fun a'=>wpG P md ops Q' m (upTo ops.size (k+n)) a' V) ((ops.toList.drop k).take n) a):wpG P md ops Q' (n+m) (upTo ops.size k) a V:=by
  have hlen:((ops.toList.drop k).take n).length=n:=by simp;omega
  have:=zIK (Q':=Q') hs m ((ops.toList.drop k).take n) k a (fun j hj=>by rw[List.getElem?_take_of_lt (by omega),List.getElem?_drop];simp) hp (by rw[hlen];exact hB) (by rw[hlen];exact h);rw[hlen] at this;exact this
theorem zKS {k:Nat} {a:Act} {V:World} (hk:k=ops.size) (h:∀ w,(∃ s:HW V,w=s.w)→Q' .normal a w):wpG P md ops Q' 0 (upTo ops.size k) a V:=by
  subst hk;exact⟨zHh,h⟩
end
end Go.Proofs.YtiabacnmmojfjabGreatDoor
