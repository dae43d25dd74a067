/- How the answers of chapter 11 own their memory, piece by piece; lists of messages in a block of their own. No program in it. -/
import Derived.Test.YtiabacnmmojfjaaShk
import Derived.Test.YtiabacnmmojfjaaJoint14
namespace Go.Proofs.Ytiabacnmmojfjaa
open Go.ChangeShapes Go.WideShapes Go.ChangeAt Go.RowKit

theorem own_apartK {α β : Type} {c : Cod α} {d : Cod β} {w : World} {B : Nat} {a : α × β} {us ts : List Value} {f g : List Nat} (h1 : c.own w B a.1 us f) (h2 : d.own w B a.2 ts g) (hd : ∀ k, k ∈ f → k ∉ g) : (prodC c d).own w B a (us ++ ts) (f ++ g) :=
  ⟨us, ts, f, g, rfl, rfl, List.nodup_append.2 ⟨c.nd h1, d.nd h2, fun _ ha _ hb e => hd _ ha (e ▸ hb)⟩, h1, h2⟩
theorem byt_nil (w : World) (B : Nat) : bytC.own w B [] [.slice none 0 0] [] := ⟨_, rfl, Own_nil _ _, rfl⟩
theorem zeroX_own (w : World) (B : Nat) : secretsC.own w B zeroX [.slice none 0 0, .slice none 0 0, .slice none 0 0, .slice none 0 0] [] :=
  own_apartK (a := zeroX) (us := [.slice none 0 0]) (f := []) (byt_nil w B) (own_apartK (a := zeroX.2) (us := [.slice none 0 0]) (f := []) (byt_nil w B) (own_apartK (a := zeroX.2.2) (us := [.slice none 0 0]) (f := []) (byt_nil w B) (byt_nil w B) (fun _ h => by cases h)) (fun _ h => by cases h)) (fun _ h => by cases h)
/-- An end by its pieces. -/
theorem end_of {w : World} {B : Nat} {e : EndD} {us xs : List Value} {um ub : Value} {fs fm fb fx : List Nat} (ks : sideC.own w B e.1 us fs) (km : msgsC.own w B e.2.2.2.1 [um] fm) (kb : bytC.own w B e.2.2.2.2.1 [ub] fb) (kx : secretsC.own w B e.2.2.2.2.2 xs fx)
    (a1 : ∀ k, k ∈ fs → k ∉ fm) (a2 : ∀ k, k ∈ fs → k ∉ fb) (a3 : ∀ k, k ∈ fs → k ∉ fx) (a4 : ∀ k, k ∈ fm → k ∉ fb) (a5 : ∀ k, k ∈ fm → k ∉ fx) (a6 : ∀ k, k ∈ fb → k ∉ fx) :
    endC.own w B e (us ++ ([.int .i64 e.2.1] ++ ([.int .i64 e.2.2.1] ++ ([um] ++ ([ub] ++ xs))))) (fs ++ ([] ++ ([] ++ (fm ++ (fb ++ fx))))) :=
  own_apartK (a := e) ks (own_apartK (a := e.2) (us := [.int .i64 e.2.1]) own_int (own_apartK (a := e.2.2) (us := [.int .i64 e.2.2.1]) own_int (own_apartK (a := e.2.2.2) km (own_apartK (a := e.2.2.2.2) kb kx a6) (fun k h h2 => by
    rcases List.mem_append.1 h2 with h3 | h3
    · exact a4 k h h3
    · exact a5 k h h3)) (fun _ h => by cases h)) (fun _ h => by cases h)) (fun k h h2 => by
    simp only [List.nil_append, List.mem_append] at h2
    rcases h2 with h3 | h3 | h3
    · exact a1 k h h3
    · exact a2 k h h3
    · exact a3 k h h3)
theorem endR_of {w : World} {B : Nat} {r : EndResultD} {us : List Value} {ud : Value} {fe fd : List Nat} (ke : endC.own w B r.2.1 us fe) (kd : msgsC.own w B r.2.2 [ud] fd) (hd : ∀ k, k ∈ fe → k ∉ fd) :
    endResultC.own w B r ([.int .i64 r.1] ++ (us ++ [ud])) ([] ++ (fe ++ fd)) :=
  own_apartK (a := r) (us := [.int .i64 r.1]) own_int (own_apartK (a := r.2) ke kd hd) (fun _ h => by cases h)
theorem zeroE_own (w : World) (B : Nat) : endC.own w B zeroE [.int .i64 0, .slice none 0 0, .int .i64 0, .slice none 0 0, .int .i64 0, .int .i64 0, .slice none 0 0, .slice none 0 0, .slice none 0 0, .slice none 0 0, .slice none 0 0, .slice none 0 0] [] :=
  end_of (e := zeroE) (us := [.int .i64 0, .slice none 0 0, .int .i64 0, .slice none 0 0]) (fs := []) (fm := []) (fb := []) (fx := []) (own_apartK (a := zeroS) (us := [.int .i64 0]) (f := []) own_int (own_apartK (a := zeroS.2) (us := [.slice none 0 0]) (f := []) (byt_nil w B) (own_apartK (a := zeroS.2.2) (us := [.int .i64 0]) (f := []) own_int (byt_nil w B) (fun _ h => by cases h)) (fun _ h => by cases h)) (fun _ h => by cases h)) ⟨_, _, _, rfl, nil_ownM w B, rfl⟩ (byt_nil w B) (zeroX_own w B) (fun _ h => by cases h) (fun _ h => by cases h) (fun _ h => by cases h) (fun _ h => by cases h) (fun _ h => by cases h) (fun _ h => by cases h)
theorem badE_own (w : World) (B : Nat) (c : Int) : endResultC.own w B (badE c) [.int .i64 c, .int .i64 0, .slice none 0 0, .int .i64 0, .slice none 0 0, .int .i64 0, .int .i64 0, .slice none 0 0, .slice none 0 0, .slice none 0 0, .slice none 0 0, .slice none 0 0, .slice none 0 0, .slice none 0 0] [] :=
  endR_of (r := badE c) (fe := []) (fd := []) (zeroE_own w B) ⟨_, _, _, rfl, nil_ownM w B, rfl⟩ (fun _ h => by cases h)
/-- A list of messages in a block of its own. -/
theorem ownL_arr {w : World} {B g : Nat} {l : List MsgD} {xs : List Value} {fp : List Nat} (A : Arr w g 67 xs) (hg : B ≤ g) (hall : OwnAll msgC w B l xs fp) (hnd : fp.Nodup) (hne : g ∉ fp) (hn : l.length ≤ 1000) :
    OwnL 67 msgC w B (.slice (some ⟨g, 0, none⟩) l.length l.length) l xs fp := by
  have hl := hall.len
  refine ⟨⟨hl, .inr ⟨g, l.length, xs.toArray, rfl, hg, A, Nat.le_refl _, by unfold maxLen; omega, by simpa using hl, ?_⟩⟩, hall, ?_⟩
  · rw [List.take_of_length_le (by simp [hl])]
  · show ([g] ++ fp).Nodup
    exact List.nodup_append.2 ⟨by simp, hnd, fun x hx y hy e => by
      rw [List.mem_singleton.1 hx] at e
      subst e
      exact hne hy⟩
theorem ownL_one {w : World} {B g q : Nat} {k : Int} {p : Option Addr} {bs : List UInt8} (A : Arr w g 67 [.int .i64 k, .slice p bs.length q]) (hg : B ≤ g) (o : Own w B (.slice p bs.length q) bs) (hne : g ∉ (Value.slice p bs.length q).ownBlock.toList) :
    msgsC.own w B [(k, bs)] [.slice (some ⟨g, 0, none⟩) 1 1] (g :: (Value.slice p bs.length q).ownBlock.toList) := by
  have h := ownL_arr (l := [(k, bs)]) A hg ⟨_, [], _, [], by simp, by simp, msg_own_mk (a := (k, bs)) o, rfl, rfl⟩ (nodup_opt _) hne (by simp)
  exact ⟨_, _, _, rfl, h, rfl⟩
theorem rdL_oneM {w : World} {g q : Nat} {k : Int} {p : Option Addr} {bs : List UInt8} (A : Arr w g 67 [.int .i64 k, .slice p bs.length q]) (r : Rd w p q bs) : RdL msgC w (some ⟨g, 0, none⟩) 1 [(k, bs)] := by
  refine ⟨Nat.le_refl _, by unfold maxLen; omega, (fun e => by cases e), fun _ => ⟨g, 0, rfl, fun i a hi => ?_⟩⟩
  have h0 : i = 0 := by
    have := (List.getElem?_eq_some_iff.1 hi).1
    simp at this
    exact this
  subst h0
  cases hi
  refine ⟨_, msg_mk (a := (k, bs)) r, fun j u hj => ?_⟩
  rw [Nat.zero_mul, Nat.zero_add]
  exact (A.cell j).trans hj
end Go.Proofs.Ytiabacnmmojfjaa

