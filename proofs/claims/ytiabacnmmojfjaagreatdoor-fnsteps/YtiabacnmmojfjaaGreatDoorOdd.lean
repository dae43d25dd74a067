import Derived.Deep.Quiet
import Derived.BigQuiet
import Derived.Test.YtiabacnmmojfjaaGreatDoorJoint4
namespace Go.Proofs.YtiabacnmmojfjaaGreatDoor
open Go Go.RowKit
section
variable {P:Program} {ops:Array Oper} {md:Region.Mode} {Q':Exit→Act→World→Prop}
theorem zJy (V:World):∃ s:HW V,V=s.w:=⟨⟨V,Below.refl _ _⟩,rfl⟩
theorem zGl {V w x:World} (h:∃ s:HW V,w=s.w) (k:∃ s:HW w,x=s.w):∃ s:HW V,x=s.w:=by
  obtain⟨s,rfl⟩:=h;obtain⟨t,rfl⟩:=k;exact⟨⟨t.w,yn s.h t.h⟩,rfl⟩
def zB2 (o:Oper):Bool:=match o.op with
  | .move _ | .assign _ | .pick .. | .binOp .. | .unOp .. | .field .. | .fieldAddr .. | .indexAddr .. | .index .. | .load .. | .slice .. | .convert .. | .extract .. | .nilCheck _ | .build ..=>true
  | .call c=>match c.callee with
    | .builtin .len=>true
    | _=>false
  | _=>false
theorem zGm (s:Sem Value) (w:World) (n:Next) (w':World) (h:(do pure (Next.value (← s)):Sem Next).run P w=.ok n w'):∃ u,n=.value u:=by
  simp only[Sem.run_bind,Sem.run_pure] at h;cases hs:s.run P w with
  | ok u w1=>rw[hs] at h;simp only[Result.andThen] at h;cases h;exact⟨_,rfl⟩
  | halt x w1=>rw[hs] at h;simp only[Result.andThen] at h;cases h
theorem zMk (s:Sem Bool) (x y:Value) (w:World) (n:Next) (w':World) (h:(do pure (Next.value (if ← s then x else y)):Sem Next).run P w=.ok n w'):∃ u,n=.value u:=by
  simp only[Sem.run_bind,Sem.run_pure] at h;cases hs:s.run P w with
  | ok u w1=>rw[hs] at h;simp only[Result.andThen] at h;cases h;exact⟨_,rfl⟩
  | halt x w1=>rw[hs] at h;simp only[Result.andThen] at h;cases h
theorem zH3 (r:Result Value) (n:Next) (w':World) (h:(r.andThen fun a w'=>Result.ok (Next.value a) w')=.ok n w'):∃ u,n=.value u:=by
  cases r with
  | ok u w1=>simp only[Result.andThen] at h;cases h;exact⟨_,rfl⟩
  | halt x w1=>simp only[Result.andThen] at h;cases h
theorem zJz {α β:Type} {r:Result α} {f:α→World→Result β} {n:β} {w':World} (h:r.andThen f=.ok n w'):∃ a w1,f a w1=.ok n w':=by
  cases r with
  | ok u w1=>exact⟨u,w1,h⟩
  | halt x w1=>simp only[Result.andThen] at h;cases h
theorem zBX {o:Oper} (hp:zB2 o=true) (ρ:Operand→Value) (w:World) (n:Next) (w':World) (h:(execOp ρ o).run P w=.ok n w'):∃ u,n=.value u:=by
  unfold zB2 at hp;unfold execOp at h
  split at hp <;> rename_i ho <;> simp only[ho] at h
  all_goals first | exact zGm _ w n w' h | skip
  all_goals first | (simp only[Sem.run_pure] at h;cases h;exact⟨_,rfl⟩) | skip
  all_goals first | exact zMk _ _ _ w n w' h | skip
  · split at h
    · simp[runtimePanic] at h
    · simp[runtimePanic] at h
    · simp[runtimePanic] at h
    · split at h
      · simp[runtimePanic] at h
      · simp only[Sem.run_bind] at h;obtain⟨a1,w1,h⟩:=zJz h;obtain⟨a2,w2,h⟩:=zJz h;split at h
        · simp only[Sem.run_bind,Sem.run_pure] at h;obtain⟨a3,w3,h⟩:=zJz h;cases h;exact⟨_,rfl⟩
        · simp only[Sem.run_pure] at h;cases h;exact⟨_,rfl⟩
      · simp only[Sem.run_pure] at h;cases h;exact⟨_,rfl⟩
    · simp only[Sem.run_pure] at h;cases h;exact⟨_,rfl⟩
  · split at hp
    · rename_i hc;simp only[resolve,hc,Sem.run_bind,Sem.run_pure,Result.andThen_ok,invoke,builtin] at h;exact zH3 _ n w' h
    · cases hp
  · cases hp
def Calm (P:Program) (ops:Array Oper) (o:Oper) (v:Value) (a:Act) (V:World):Prop:=
  (Region.wanted o (yielded ops a.tmps)=true∧∀ w,(∃ s:HW V,w=s.w)→(execOp a.eval o).run P w=.ok (.value v) w)∨
  (Region.wanted o (yielded ops a.tmps)=false∧v=undef)
theorem Calm.down {o:Oper} {v:Value} {a:Act} {V w:World} (h:Calm P ops o v a V) (hw:∃ s:HW V,w=s.w):Calm P ops o v a w:=by
  rcases h with ⟨h1,h2⟩ | h
  · exact .inl ⟨h1,fun x hx=>h2 x (zGl hw hx)⟩
  · exact .inr h
theorem Calm.same {o:Oper} {v:Value} {a a':Act} {V:World} (h:Calm P ops o v a V) (he:execOp a'.eval o=execOp a.eval o) (hw:Region.wanted o (yielded ops a'.tmps)=Region.wanted o (yielded ops a.tmps)):Calm P ops o v a' V:=by
  unfold Calm at *;rw[he,hw];exact h
def upTo (n k:Nat):Array Bool:=Array.ofFn (n:=n) (fun i=>decide (i.val<k))
theorem zDG (n k j:Nat) (d:Bool):(upTo n k).getD j d=if j<n then decide (j<k) else d:=by
  unfold upTo
  by_cases h:j<n
  · simp[h]
  · simp[h]
theorem zFX (n:Nat):Array.replicate n false=upTo n 0:=by
  apply Array.ext_getElem?;intro i
  by_cases h:i<n
  · simp[upTo,h]
  · simp[upTo,h]
theorem zBO (n k:Nat):(upTo n k).setIfInBounds k true=upTo n (k+1):=by
  apply Array.ext_getElem?;intro i
  by_cases h:i<n
  · by_cases hk:k=i
    · subst hk;simp[upTo,h]
    · rw[Array.getElem?_setIfInBounds_ne hk];simp[upTo,h];omega
  · by_cases hk:k=i
    · subst hk;simp[upTo,h]
    · rw[Array.getElem?_setIfInBounds_ne hk];simp[upTo,h]
def okR (md:Region.Mode) (ops:Array Oper) (k:Nat):Bool:=match ops[k]? with
  | some o=>o.after.toList.all (fun e=>!(Region.binds md e) || decide (e.on<k))
  | none=>false
def okF (md:Region.Mode) (ops:Array Oper) (k:Nat):Bool:=match ops[k]? with
  | some o=>(List.range ops.size).all (fun j=>decide (j≤k) || (match ops[j]? with
    | some oj=>oj.after.toList.any (fun e=>Region.binds md e&&e.on==k) || o.apart ops oj
    | none=>true))
  | none=>false
def zC4 (md:Region.Mode) (ops:Array Oper) (k:Nat):Bool:=(List.range ops.size).all (fun j=>decide (j≤k) || (match ops[j]? with
    | some oj=>oj.after.toList.any (fun e=>Region.binds md e&&decide (k≤e.on))
    | none=>true))
theorem zBu {k:Nat} (h:okR md ops k=true):k∈Region.ready md ops (upTo ops.size k):=by
  unfold okR at h;split at h
  · rename_i o ho;have hk:k<ops.size:=(Array.getElem?_eq_some_iff.1 ho).1;rw[mem_ready];refine⟨by rw[zDG];simp[hk],o,ho,fun e he hb=>?_⟩;have h1:=(List.all_eq_true.1 h) e (by simpa using he);simp only[hb,Bool.not_true,Bool.false_or,decide_eq_true_eq] at h1;rw[zDG,if_pos (by omega)]
    simpa using h1
  · cases h
theorem zGn {k:Nat} {o:Oper} (ho:ops[k]?=some o) (h:okF md ops k=true):∀ j oj,ops[j]?=some oj→j≠k→(upTo ops.size k).getD j true=false→(∀ e∈oj.after,Region.binds md e=true→e.on≠k)→o.apart ops oj=true:=by
  intro j oj hj hjk hun hno;have hjs:j<ops.size:=(Array.getElem?_eq_some_iff.1 hj).1;rw[zDG,if_pos hjs] at hun;simp only[decide_eq_false_iff_not] at hun;unfold okF at h;simp only[ho] at h;have h1:=(List.all_eq_true.1 h) j (by simpa using hjs);simp only[hj,Bool.or_eq_true,decide_eq_true_eq,List.any_eq_true,Bool.and_eq_true,beq_iff_eq] at h1;rcases h1 with h1 | ⟨e,he,hb,hon⟩ | h1
  · omega
  · exact absurd hon (hno e (by simpa using he) hb)
  · exact h1
theorem zA4 {k:Nat} (h:zC4 md ops k=true):∀ j∈Region.ready md ops (upTo ops.size k),j=k:=by
  intro j hj;obtain⟨hun,oj,ho,hall⟩:=mem_ready.1 hj;have hjs:j<ops.size:=(Array.getElem?_eq_some_iff.1 ho).1;rw[zDG,if_pos hjs] at hun;simp only[decide_eq_false_iff_not] at hun;unfold zC4 at h;have h1:=(List.all_eq_true.1 h) j (by simpa using hjs);simp only[ho,Bool.or_eq_true,decide_eq_true_eq,List.any_eq_true,Bool.and_eq_true] at h1;rcases h1 with h1 | ⟨e,he,hb,hon⟩
  · omega
  · have h2:=hall e (by simpa using he) hb;rw[zDG] at h2;split at h2
    · simp at h2;omega
    · cases h2
theorem zJ0:Region.ready md ops (upTo ops.size ops.size)=[]:=by
  rw[List.eq_nil_iff_forall_not_mem];intro j hj;obtain⟨hun,oj,ho,-⟩:=mem_ready.1 hj;have hjs:j<ops.size:=(Array.getElem?_eq_some_iff.1 ho).1;rw[zDG,if_pos hjs] at hun;simp at hun;omega
end
end Go.Proofs.YtiabacnmmojfjaaGreatDoor
