/- A drawn region over classes of worlds where just two operations can come up next. No program in it. -/
import Derived.Test.YtflhoefocjmihaaPickG
import Derived.Test.YtflhoefocjmihaaPick
import Derived.Test.YtflhoefocjmihaaArr
namespace Go.Proofs.Ytflhoefocjmihaa.Gen
open Go Go.RowKit
theorem wpM_two {R : World → World → Prop} {P : Program} {md : Region.Mode} {ops : Array Oper} {Q' : Exit → Act → World → Prop} {last m : Nat} {L : Array Bool} {i j fuel : Nat} {a : Act} {V : World} (hr : Region.ready md ops L = [i, j]) (h : mOp R P ops i (wpM R P md ops Q' last m fuel (L.setIfInBounds i true)) a V) (h2 : mOp R P ops j (wpM R P md ops Q' last m fuel (L.setIfInBounds j true)) a V) : wpM R P md ops Q' last m (fuel + 1) L a V :=
  ⟨by rw [hr]; simp, fun k hk => by
    rw [hr] at hk
    rcases List.mem_cons.1 hk with rfl | h3
    · exact h
    · rw [List.mem_singleton.1 h3]; exact h2⟩
theorem wpM_three {R : World → World → Prop} {P : Program} {md : Region.Mode} {ops : Array Oper} {Q' : Exit → Act → World → Prop} {last m : Nat} {L : Array Bool} {i j k fuel : Nat} {a : Act} {V : World} (hr : Region.ready md ops L = [i, j, k]) (h : mOp R P ops i (wpM R P md ops Q' last m fuel (L.setIfInBounds i true)) a V) (h2 : mOp R P ops j (wpM R P md ops Q' last m fuel (L.setIfInBounds j true)) a V) (h3 : mOp R P ops k (wpM R P md ops Q' last m fuel (L.setIfInBounds k true)) a V) : wpM R P md ops Q' last m (fuel + 1) L a V :=
  ⟨by rw [hr]; simp, fun x hx => by
    rw [hr] at hx
    rcases List.mem_cons.1 hx with rfl | hx
    · exact h
    · rcases List.mem_cons.1 hx with rfl | hx
      · exact h2
      · rw [List.mem_singleton.1 hx]; exact h3⟩
theorem mOp_mk {R : World → World → Prop} {P : Program} {ops : Array Oper} {k : Nat} {o : Oper} {a : Act} {V : World} {K : Act → World → Prop} (h0 : ops[k]? = some o) (hw : Region.wanted o (yielded ops a.tmps) = true) (hk : makesS o = true)
    (h : ∀ w, (∃ n, w = V.drewN n) → wpList P ops (fun e a' w' => e = .normal ∧ R w w' ∧ K a' w') [{ o with guard := none }] a w) : mOp R P ops k K a V := by
  unfold mOp
  simp only [h0, hw, if_true]
  refine .inr fun w hw' => .inr ?_
  have h1 := h w hw'
  unfold wpList at h1
  simp only [show ∀ f, Region.wanted { o with guard := none } f = true from fun _ => rfl, if_true] at h1
  rcases h1 with h1 | ⟨-, a1, w1, h1, -⟩
  · unfold Oper.wp at h1
    rw [show execOp a.eval { o with guard := none } = execOp a.eval o from rfl] at h1
    cases hrn : (execOp a.eval o).run P w with
    | ok n w1 =>
      obtain ⟨u, rfl⟩ := makesS_value hk a.eval w n w1 hrn
      rw [hrn] at h1
      simp only [Oper.upon, wpList] at h1
      exact ⟨u, w1, rfl, ⟨⟨w1, h1.2.1⟩, rfl⟩, h1.2.2⟩
    | halt x w1 =>
      rw [hrn] at h1
      cases x <;> simp [Oper.upon] at h1
  · cases h1
theorem grown_any {a b : World} (h : a.grownBy b none) (row : Option Nat) : a.grownBy b row := ⟨h.os, h.tape, h.output, h.size, fun k hk _ => h.block k hk (by simp)⟩
end Go.Proofs.Ytflhoefocjmihaa.Gen

/- Behind a drawn region in which a local is made at any time and the answer of the last call is stored in it (tools/picks.py store_region): the local holds it, all else is left; share: one walk for all branches. No program in it. -/
namespace Go.Proofs.Ytflhoefocjmihaa
open Go Go.RowKit

def NotIn (p : Option Addr) (n q g : Nat) : Prop := ∀ k, (Value.slice p n q).ownBlock = some k → k ≠ g
theorem stored {V W : World} {g n q : Nat} {t : TypeId} {p : Option Addr} {L : List UInt8} (BB : Below V.heap.size V W) (AA : Arr W g t [.int .i64 0, .slice none 0 0]) (GG : V.heap.size ≤ g) (r : Rd W p q L) (NE : NotIn p n q g) :
    Arr ((W.setCell ⟨g, 0, none⟩ (.int .i64 0)).setCell ⟨g, 1, none⟩ (.slice p n q)) g t [.int .i64 0, .slice p n q] ∧ Rd ((W.setCell ⟨g, 0, none⟩ (.int .i64 0)).setCell ⟨g, 1, none⟩ (.slice p n q)) p q L ∧ Below V.heap.size V ((W.setCell ⟨g, 0, none⟩ (.int .i64 0)).setCell ⟨g, 1, none⟩ (.slice p n q)) := by
  refine ⟨(AA.set 0 _).set 1 _, ⟨r.1, r.2.1, r.2.2.1, fun hp => ?_⟩, (BB.setCell GG _).setCell GG _⟩
  obtain ⟨b, o, rfl, hc⟩ := r.2.2.2 hp
  have hb : b ≠ g := NE b (by simp [Value.ownBlock])
  refine ⟨b, o, rfl, fun i hi => ?_⟩
  rw [World.cell?_setCell_other _ _ _ _ (by simp; try omega), World.cell?_setCell_other _ _ _ _ (by simp; try omega)]
  exact hc i hi
theorem share {J A : Prop} (h : Hid J → A) (hj : J) : A := h hj
end Go.Proofs.Ytflhoefocjmihaa

