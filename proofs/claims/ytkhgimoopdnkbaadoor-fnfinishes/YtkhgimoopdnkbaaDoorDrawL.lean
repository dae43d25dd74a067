/- The contracts of the draws of chapter 5: extras, plain bytes, what is sealed and bent: within bounds, no more. -/
import Derived.Test.YtkhgimoopdnkbaaDoorDrawS
namespace Go.Proofs.YtkhgimoopdnkbaaDoor
open Go.ChangeShapes Go.WideShapes Go.ChangeAt Go.RowKit




set_option maxRecDepth 4000 in
set_option maxHeartbeats 1000000 in
theorem drawFin_c (p : Option Addr) (q : Nat) (cs : List UInt8) (w : World) (hr : Rd w p q cs) :
    Calls Tryd.prog 18 #[.slice p cs.length q] w fun e w' => ∃ (p1 p2 : Option Addr) (q1 q2 : Nat) (key digest : List UInt8), e = .returned (.tuple #[.slice p1 key.length q1, .slice p2 digest.length q2]) ∧ Rd w' p1 q1 key ∧ Rd w' p2 q2 digest ∧ key.length ≤ 32 ∧ digest.length ≤ 32 ∧ Below w.heap.size w w' := by
  go_enter Tryd.func18, Tryd.ntmps18
  go_wp2_with fail
  refine (l1Source_c p q cs w hr).mono ?_
  rintro e w0 ⟨rfl, hs0, BW, hz0⟩
  have z0 : Hid (w.heap.size < w0.heap.size) := hz0
  clear hz0
  go_wp2_with fail
  refine (l4Key_c _ p q cs (0) w0 hs0 (by omega) (by omega)).mono ?_
  rintro e w1 ⟨u1, key, t1, rfl, hl1, ha1, hb1, ho1, hs1, hg1⟩
  obtain ⟨p1, q1, rfl, -⟩ := ho1.rd
  have z1 : Hid (w.heap.size < w1.heap.size) := by have h1 := hg1.size; have h2 := z0.out; show _ < _; omega
  replace BW := below_of_grown BW hg1
  clear hg1
  go_wp2_with fail
  refine (l4Key_c _ p q cs (t1) w1 hs1 (by omega) (by omega)).mono ?_
  rintro e w2 ⟨u2, digest, t2, rfl, hl2, ha2, hb2, ho2, hs2, hg2⟩
  obtain ⟨p2, q2, rfl, -⟩ := ho2.rd
  have z2 : Hid (w.heap.size < w2.heap.size) := by have h1 := hg2.size; have h2 := z1.out; show _ < _; omega
  replace ho1 := ho1.draw hg2 z0.out
  replace BW := below_of_grown BW hg2
  clear hg2
  clear hs2
  go_wp2
  exact bodyPost_ret (v := .tuple #[.slice p1 key.length q1, .slice p2 digest.length q2]) (by simp [results, Tryd.results18, go_sem]) rfl ⟨p1, p2, q1, q2, key, digest, rfl, Rd.own ho1, Rd.own ho2, hl1, hl2, BW⟩


theorem Rd.below {w : World} {a : Option Addr} {cap : Nat} {bs : List UInt8} (h : Rd w a cap bs) : 0 < bs.length → ∀ y, a = some y → y.block < w.heap.size := fun hp y hy => by
  obtain ⟨b, o, rfl, hc⟩ := h.2.2.2 hp
  simp at hy
  subst hy
  exact World.block_lt_of_cell? w _ (hc 0 hp)
theorem Rd.draw {w w' : World} {a : Option Addr} {cap b : Nat} {bs : List UInt8} (h : Rd w a cap bs) (hg : w.grownBy w' (some b)) (hlt : 0 < bs.length → ∀ y, a = some y → y.block < b) : Rd w' a cap bs :=
  h.other hg (fun hp y hy e => by have := hlt hp y hy; simp at e; omega)
end Go.Proofs.YtkhgimoopdnkbaaDoor
