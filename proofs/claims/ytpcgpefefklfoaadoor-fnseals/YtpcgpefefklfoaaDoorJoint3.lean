/- Chapter 3 as plain functions on bytes, with no program in it: a key's block (blockK), the mac (macN), what is extracted (extractN), what is expanded (expandN), a label's bytes (labelB); their lengths. No conditions but those in each line. -/
import Derived.Test.YtpcgpefefklfoaaDoorSha
import Derived.Test.YtpcgpefefklfoaaDoorJoint2
import Derived.Test.YtpcgpefefklfoaaDoorArr
import Derived.Test.YtpcgpefefklfoaaDoorDraws2
namespace Go.Proofs.YtpcgpefefklfoaaDoor
open Go.RowKit

def blockK (key : List UInt8) (x : UInt8) : List UInt8 := (key ++ zs (64 - key.length)).map (· ^^^ x)
theorem blockK_len {key : List UInt8} (x : UInt8) (h : key.length ≤ 64) : (blockK key x).length = 64 := by simp [blockK, zs_len]; omega
def macN (key data : List UInt8) : List UInt8 := digestN (blockK key 92 ++ digestN (blockK key 54 ++ data))
theorem macN_len (key data : List UInt8) : (macN key data).length = 32 := digestN_len _
/-- A key with zeros behind it is the same key. -/
theorem blockK_zeros (key : List UInt8) (n : Nat) (x : UInt8) (h : key.length + n ≤ 64) : blockK (key ++ zs n) x = blockK key x := by
  unfold blockK
  rw [List.length_append, zs_len, List.append_assoc]
  congr 2
  rw [show zs n ++ zs (64 - (key.length + n)) = zs (64 - key.length) by unfold zs; rw [List.replicate_append_replicate]; congr 1; omega]
theorem macN_zeros (key data : List UInt8) (n : Nat) (h : key.length + n ≤ 64) : macN (key ++ zs n) data = macN key data := by
  unfold macN
  rw [blockK_zeros key n _ h, blockK_zeros key n _ h]
def saltN (salt : List UInt8) : List UInt8 := if salt.length = 0 then zs 32 else salt
theorem saltN_len (salt : List UInt8) (h : salt.length ≤ 64) : (saltN salt).length ≤ 64 := by
  unfold saltN; split
  · rw [zs_len]; decide
  · exact h
def extractN (salt data : List UInt8) : List UInt8 := macN (saltN salt) data
theorem extractN_len (salt data : List UInt8) : (extractN salt data).length = 32 := macN_len _ _
theorem extractN_eq (salt data : List UInt8) : extractN salt data = macN salt data := by
  unfold extractN saltN
  split
  · rename_i h
    have e : salt = [] := List.eq_nil_of_length_eq_zero h
    subst e
    exact macN_zeros [] data 32 (by decide)
  · rfl

/-- t i, and all up to it. -/
def lastN (key info : List UInt8) : Nat → List UInt8
  | 0 => []
  | i + 1 => macN key (lastN key info i ++ info ++ [UInt8.ofNat (i + 1)])
def outN (key info : List UInt8) : Nat → List UInt8
  | 0 => []
  | i + 1 => outN key info i ++ lastN key info (i + 1)
theorem lastN_len (key info : List UInt8) (i : Nat) : (lastN key info i).length ≤ 32 := by
  cases i with
  | zero => simp [lastN]
  | succ i => exact Nat.le_of_eq (macN_len _ _)
theorem lastN_succ (key info : List UInt8) (i : Nat) : lastN key info (i + 1) = macN key (lastN key info i ++ info ++ [UInt8.ofNat (i + 1)]) := rfl
theorem outN_len (key info : List UInt8) (i : Nat) : (outN key info i).length = 32 * i := by
  induction i with
  | zero => rfl
  | succ i ih => rw [outN, List.length_append, ih, lastN_succ, macN_len]; omega
def expandN (key info : List UInt8) (n : Nat) : List UInt8 := (outN key info ((n + 31) / 32)).take n
theorem expandN_len (key info : List UInt8) (n : Nat) : (expandN key info n).length = n := by
  rw [expandN, List.length_take, outN_len]; omega
theorem outN_take (key info : List UInt8) (i j : Nat) (h : i ≤ j) : (outN key info j).take (32 * i) = outN key info i := by
  induction j with
  | zero => have : i = 0 := by omega
            subst this; rfl
  | succ j ih =>
    by_cases e : i = j + 1
    · subst e; rw [List.take_of_length_le (by rw [outN_len]; exact Nat.le_refl _)]
    · rw [outN, List.take_append_of_le_length (by rw [outN_len]; omega)]; exact ih (by omega)
/-- A shorter key is the beginning of a longer one. -/
theorem expandN_take (key info : List UInt8) (m n : Nat) (h : m ≤ n) : (expandN key info n).take m = expandN key info m := by
  unfold expandN
  rw [List.take_take, Nat.min_eq_left h, ← outN_take key info ((m + 31) / 32) ((n + 31) / 32) (by omega), List.take_take, Nat.min_eq_left (by omega)]

/-- A label: 1 to 40 bytes of 32 to 126. -/
def labelOk (l : List UInt8) : Bool := l.all (fun b => decide (32 ≤ b.toNat) && decide (b.toNat ≤ 126)) && decide (1 ≤ l.length) && decide (l.length ≤ 40)
def tls13 : List UInt8 := [116, 108, 115, 49, 51, 32]
def labelB (l ctx : List UInt8) (n : Nat) : List UInt8 := putB n 2 ++ UInt8.ofNat (6 + l.length) :: (tls13 ++ l ++ UInt8.ofNat ctx.length :: ctx)
theorem labelB_len (l ctx : List UInt8) (n : Nat) : (labelB l ctx n).length = l.length + ctx.length + 10 := by simp [labelB, putB_len, tls13]; omega
end Go.Proofs.YtpcgpefefklfoaaDoor

/- The contracts of the draws of chapter 3: keys, data, labels, contexts, numbers: within bounds, no more. -/
namespace Go.Proofs.YtpcgpefefklfoaaDoor
open Go.ChangeShapes Go.WideShapes Go.ChangeAt Go.RowKit



/-- A row that was drawn ahead of other draws. -/
theorem Own.draw {w w' : World} {B b : Nat} {v : Value} {bs : List UInt8} (h : Own w B v bs) (hg : w.grownBy w' (some b)) (hb : b < B) : Own w' B v bs :=
  h.other hg (fun k hk e => by have := h.ge k hk; simp at e; omega)




def labs : List (List UInt8) := [[100, 101, 114, 105, 118, 101, 100], [99, 32, 104, 115, 32, 116, 114, 97, 102, 102, 105, 99], [102, 105, 110, 105, 115, 104, 101, 100], [97], [], [120, 10], [97, 98, 99, 100, 101, 102, 103, 104, 105, 106, 107, 108, 109, 110, 111, 112, 113, 114, 115, 116, 117, 118, 119, 120, 121, 122, 97, 98, 99, 100, 101, 102, 103, 104, 105, 106, 107, 108, 109, 110, 111]]
def labsV : List Value := labs.map (fun l => .string (strB l))
theorem labsV_at {k : Nat} (h : k < 7) : ∃ l : List UInt8, labsV[k]? = some (.string (strB l)) ∧ l.length ≤ 41 := by
  have hl : k < labs.length := h
  refine ⟨labs[k], by simp [labsV, hl], ?_⟩
  have : ∀ x ∈ labs, x.length ≤ 41 := by unfold labs; decide
  exact this _ (List.getElem_mem hl)



theorem emod_nat (v : Int) (n : Nat) (h : 0 < n) : ∃ m : Nat, v % (n : Int) = (m : Int) ∧ m < n := by
  have h1 := Int.emod_nonneg v (show (n : Int) ≠ 0 by omega)
  have h2 := Int.emod_lt_of_pos v (show (0 : Int) < (n : Int) by omega)
  exact ⟨(v % (n : Int)).toNat, by omega, by omega⟩

end Go.Proofs.YtpcgpefefklfoaaDoor

/- The contracts of the draws of chapter 4: keys, nonces, data, states, counts, bases, numbers: within bounds, no more. -/
namespace Go.Proofs.YtpcgpefefklfoaaDoor
open Go.ChangeShapes Go.WideShapes Go.ChangeAt Go.RowKit

set_option maxRecDepth 4000 in
set_option maxHeartbeats 1000000 in
theorem l4Key_c (b : Nat) (p : Option Addr) (q : Nat) (cs : List UInt8) (t : Int) (w : World) (hs : Src w b p q cs t) (ht : 0 ≤ t) (ht2 : t ≤ 800000000) :
    Calls Tryd.prog 32 #[.pointer (some ⟨b, 0, none⟩)] w fun e w' => ∃ (u : Value) (bs : List UInt8) (t' : Int), e = .returned u ∧ bs.length ≤ 32 ∧ t ≤ t' ∧ t' ≤ t + 1000 ∧ Own w' w.heap.size u bs ∧ Src w' b p q cs t' ∧ w.grownBy w' (some b) := by
  go_enter Tryd.func32, Tryd.ntmps32
  go_wp2_with fail
  refine (l1Pick_c b p q cs t w.heap.size [32, 32, 32, 32, 32, 32, 31, 0] 8 _ (hs.keep (alloc_below _ _)) ht (by omega) rfl (by decide) (by decide) (by have := hs.lt; omega) (new_ints _ _ _ [32, 32, 32, 32, 32, 32, 31, 0] rfl)).mono ?_
  rintro e w5 ⟨k, hk, rfl, hs5, hg5⟩
  have hR : Hid (0 ≤ k ∧ k ≤ 32) := by
    show _ ∧ _
    simp only [List.mem_cons, List.not_mem_nil, or_false] at hk
    omega
  clear hk
  have hg : w.grownBy w5 (some b) := grownBy_trans (World.grownBy_alloc _ _ _) hg5
  clear hg5
  go_wp2_with fail
  refine (l1Some_c b p q cs (t + 1) k w5 hs5 (by omega) (by omega) hR.out.1 (by have := hR.out.2; omega)).mono ?_
  rintro e w6 ⟨u, bs, rfl, hl, ho, hs6, hg6⟩
  go_wp2
  go_ret
  have h1 := hR.out.1
  have h2 := hR.out.2
  exact ⟨u, bs, _, rfl, by omega, by omega, by omega, ho.lower hg.size, hs6, grownBy_trans hg hg6⟩

set_option maxRecDepth 4000 in
set_option maxHeartbeats 1000000 in
theorem l4DrawNonce_c (b : Nat) (p : Option Addr) (q : Nat) (cs : List UInt8) (t : Int) (w : World) (hs : Src w b p q cs t) (ht : 0 ≤ t) (ht2 : t ≤ 800000000) :
    Calls Tryd.prog 33 #[.pointer (some ⟨b, 0, none⟩)] w fun e w' => ∃ (u : Value) (bs : List UInt8) (t' : Int), e = .returned u ∧ bs.length ≤ 12 ∧ t ≤ t' ∧ t' ≤ t + 1000 ∧ Own w' w.heap.size u bs ∧ Src w' b p q cs t' ∧ w.grownBy w' (some b) := by
  go_enter Tryd.func33, Tryd.ntmps33
  go_wp2_with fail
  refine (l1Pick_c b p q cs t w.heap.size [12, 12, 12, 12, 12, 12, 11, 0] 8 _ (hs.keep (alloc_below _ _)) ht (by omega) rfl (by decide) (by decide) (by have := hs.lt; omega) (new_ints _ _ _ [12, 12, 12, 12, 12, 12, 11, 0] rfl)).mono ?_
  rintro e w5 ⟨k, hk, rfl, hs5, hg5⟩
  have hR : Hid (0 ≤ k ∧ k ≤ 12) := by
    show _ ∧ _
    simp only [List.mem_cons, List.not_mem_nil, or_false] at hk
    omega
  clear hk
  have hg : w.grownBy w5 (some b) := grownBy_trans (World.grownBy_alloc _ _ _) hg5
  clear hg5
  go_wp2_with fail
  refine (l1Some_c b p q cs (t + 1) k w5 hs5 (by omega) (by omega) hR.out.1 (by have := hR.out.2; omega)).mono ?_
  rintro e w6 ⟨u, bs, rfl, hl, ho, hs6, hg6⟩
  go_wp2
  go_ret
  have h1 := hR.out.1
  have h2 := hR.out.2
  exact ⟨u, bs, _, rfl, by omega, by omega, by omega, ho.lower hg.size, hs6, grownBy_trans hg hg6⟩




end Go.Proofs.YtpcgpefefklfoaaDoor

