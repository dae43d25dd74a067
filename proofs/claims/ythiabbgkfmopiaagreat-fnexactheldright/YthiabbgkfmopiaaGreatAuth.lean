/- Chapter 13 as plain functions on data, with no program in it: keys (kyN), digests (dgN), macs (mcN) and what is made of them (mkN), read back (raR), believed (caC); that what is made is read back, and what is read is what it is made as. No conditions but those in each line. -/
import Derived.Test.YthiabbgkfmopiaaGreatWire
import Derived.Test.YthiabbgkfmopiaaGreatCert
import Derived.Test.YthiabbgkfmopiaaGreatJoint9
namespace Go.Proofs.YthiabbgkfmopiaaGreat
open Go.RowKit

def clientB : List UInt8 := [97, 117, 116, 104, 32, 99, 108, 105, 101, 110, 116, 32]
def serverB : List UInt8 := [97, 117, 116, 104, 32, 115, 101, 114, 118, 101, 114, 32]
def contextB : List UInt8 := [99, 111, 110, 116, 101, 120, 116]
def finishB : List UInt8 := [102, 105, 110, 105, 115, 104]
def bindingB : List UInt8 := [99, 104, 97, 110, 110, 101, 108, 32, 98, 105, 110, 100, 105, 110, 103]
def roleB (r : Int) : Bool := decide (r = 1) || decide (r = 2)
def labN (r : Int) (fin : Bool) : List UInt8 := (if r = 2 then serverB else clientB) ++ (if fin then finishB else contextB)
def kyN (x : List UInt8) (r : Int) (fin : Bool) : List UInt8 := exportN x (labN r fin) [] 32
def biN (x : List UInt8) : List UInt8 := exportN x bindingB [] 32
def akC (x : List UInt8) (r : Int) : Int := if is32 x then (if roleB r then 0 else 3) else 1
def akD (x : List UInt8) (r : Int) (fin : Bool) : Int × List UInt8 := if akC x r = 0 then (0, kyN x r fin) else (akC x r, [])
def biD (x : List UInt8) : Int × List UInt8 := if is32 x then (0, biN x) else (1, [])
def ctxB (c : List UInt8) : Bool := inB (c.length : Int) 1 20
def dgN (x : List UInt8) (r : Int) (ctx : List UInt8) (c : CertD) : List UInt8 := digestN (kyN x r false ++ [UInt8.ofNat ctx.length] ++ ctx ++ pcL c)
def adC (x : List UInt8) (r : Int) (ctx : List UInt8) (c : CertD) : Int := if akC x r = 0 then (if ctxB ctx then (if okC c then 0 else 3) else 2) else akC x r
def adD (x : List UInt8) (r : Int) (ctx : List UInt8) (c : CertD) : Int × List UInt8 := if adC x r ctx c = 0 then (0, dgN x r ctx c) else (adC x r ctx c, [])
def mcN (x : List UInt8) (r : Int) (ctx : List UInt8) (c : CertD) (place : Int) : List UInt8 := macN (kyN x r true) (dgN x r ctx c ++ [UInt8.ofNat place.toNat])
def mkBl (x : List UInt8) (r : Int) (ctx : List UInt8) (c : CertD) (place : Int) : List (List UInt8) := [ctx, pcL c, [UInt8.ofNat place.toNat], mcN x r ctx c place]
def mkN (x : List UInt8) (r : Int) (ctx : List UInt8) (c : CertD) (place : Int) : List UInt8 := blksN (mkBl x r ctx c place)
def maC (x : List UInt8) (r : Int) (ctx : List UInt8) (c : CertD) (place : Int) : Int := if adC x r ctx c = 0 then (if inB place 0 39 then 0 else 3) else adC x r ctx c
def maD (x : List UInt8) (r : Int) (ctx : List UInt8) (c : CertD) (place : Int) : Int × List UInt8 := if maC x r ctx c place = 0 then (0, mkN x r ctx c place) else (maC x r ctx c place, [])
def zeroA : AuthD := ([], zC, 0, [])
def a4 : List (List UInt8) → Option AuthD
  | [a, b, c, m] => if ctxB a = true ∧ c.length = 1 ∧ m.length = 32 ∧ (ucD b).1 = 0 then some (a, (ucD b).2, (((c.getD 0 0).toNat : Nat) : Int), m) else none
  | _ => none
def raR (data : List UInt8) : Option AuthD := if data.length ≤ 160 then (splitR data 0 []).bind a4 else none
def raD (data : List UInt8) : Int × AuthD := match raR data with
  | some a => (0, a)
  | none => (5, zeroA)

theorem labN_len (r : Int) (fin : Bool) : (labN r fin).length ≤ 19 := by
  unfold labN; split <;> cases fin <;> decide
theorem kyN_len (x : List UInt8) (r : Int) (fin : Bool) : (kyN x r fin).length = 32 := expLabN_len _ _ _ _
theorem biN_len (x : List UInt8) : (biN x).length = 32 := expLabN_len _ _ _ _
theorem dgN_len (x : List UInt8) (r : Int) (ctx : List UInt8) (c : CertD) : (dgN x r ctx c).length = 32 := digestN_len _
theorem mcN_len (x : List UInt8) (r : Int) (ctx : List UInt8) (c : CertD) (place : Int) : (mcN x r ctx c place).length = 32 := macN_len _ _
theorem ctxB_parts {c : List UInt8} (h : ctxB c = true) : 1 ≤ c.length ∧ c.length ≤ 20 := by
  simp only [ctxB, inB, decide_eq_true_eq] at h; omega
theorem adC_ok {x : List UInt8} {r : Int} {ctx : List UInt8} {c : CertD} (h : adC x r ctx c = 0) : akC x r = 0 ∧ ctxB ctx = true ∧ okC c = true := by
  unfold adC at h
  by_cases h1 : akC x r = 0
  · rw [if_pos h1] at h
    cases h2 : ctxB ctx
    · rw [h2] at h; cases h
    · rw [h2, if_pos rfl] at h
      cases h3 : okC c
      · rw [h3] at h; cases h
      · exact ⟨h1, rfl, rfl⟩
  · rw [if_neg h1] at h; exact absurd h h1
theorem maC_ok {x : List UInt8} {r : Int} {ctx : List UInt8} {c : CertD} {place : Int} (h : maC x r ctx c place = 0) : adC x r ctx c = 0 ∧ 0 ≤ place ∧ place ≤ 39 := by
  unfold maC at h
  by_cases h1 : adC x r ctx c = 0
  · rw [if_pos h1] at h
    cases h2 : inB place 0 39
    · rw [h2] at h; cases h
    · simp only [inB, decide_eq_true_eq] at h2
      exact ⟨h1, h2.1, h2.2⟩
  · rw [if_neg h1] at h; exact absurd h h1
theorem four_len (ctx : List UInt8) (c : CertD) (z : UInt8) {m : List UInt8} (hm : m.length = 32) : (blksN [ctx, pcL c, [z], m]).length = ctx.length + 41 := by
  rw [blksN_cons, blksN_cons, blksN_cons, blksN_one, List.length_append, List.length_append, List.length_append, blkW_len, blkW_len, blkW_len, blkW_len, hm]
  simp [pcL]
theorem mkN_len (x : List UInt8) (r : Int) (ctx : List UInt8) (c : CertD) (place : Int) : (mkN x r ctx c place).length = ctx.length + 41 := by
  unfold mkN mkBl
  exact four_len ctx c _ (mcN_len x r ctx c place)
theorem a4_make {ctx : List UInt8} {c : CertD} {place : Int} {m : List UInt8} (h1 : ctxB ctx = true) (h2 : okC c = true) (h3 : 0 ≤ place) (h4 : place ≤ 255) (hm : m.length = 32) : a4 [ctx, pcL c, [UInt8.ofNat place.toNat], m] = some (ctx, c, place, m) := by
  have e : (((([UInt8.ofNat place.toNat] : List UInt8).getD 0 0).toNat : Nat) : Int) = place := by
    show (((UInt8.ofNat place.toNat).toNat : Nat) : Int) = _
    rw [UInt8.toNat_ofNat']
    omega
  unfold a4
  simp only
  rw [rdC_pack h2, e, if_pos ⟨h1, rfl, hm, rfl⟩]
theorem raR_four {ctx : List UInt8} {c : CertD} {place : Int} {m : List UInt8} (h1 : ctxB ctx = true) (h2 : okC c = true) (h3 : 0 ≤ place) (h4 : place ≤ 255) (hm : m.length = 32) : raR (blksN [ctx, pcL c, [UInt8.ofNat place.toNat], m]) = some (ctx, c, place, m) := by
  have hc := ctxB_parts h1
  have hs := split_pack [ctx, pcL c, [UInt8.ofNat place.toNat], m] [] [] (fun b hb => by
    simp only [List.mem_cons, List.not_mem_nil, or_false] at hb
    rcases hb with rfl | rfl | rfl | rfl
    · omega
    · simp [pcL]
    · simp
    · omega) (by simp)
  unfold raR
  rw [if_pos (by rw [four_len _ _ _ hm]; omega), show splitR (blksN [ctx, pcL c, [UInt8.ofNat place.toNat], m]) 0 [] = some [ctx, pcL c, [UInt8.ofNat place.toNat], m] from hs]
  exact a4_make h1 h2 h3 h4 hm
/-- What is made is read back. -/
theorem raR_make {x : List UInt8} {r : Int} {ctx : List UInt8} {c : CertD} {place : Int} (h1 : ctxB ctx = true) (h2 : okC c = true) (h3 : 0 ≤ place) (h4 : place ≤ 255) : raR (mkN x r ctx c place) = some (ctx, c, place, mcN x r ctx c place) := by
  have h := raR_four h1 h2 h3 h4 (mcN_len x r ctx c place)
  unfold mkN mkBl
  exact h
/-- What is read is what it is made as, but for the mac. -/
theorem raR_back {data : List UInt8} {a : AuthD} (h : raR data = some a) : ctxB a.1 = true ∧ okC a.2.1 = true ∧ 0 ≤ a.2.2.1 ∧ a.2.2.1 ≤ 255 ∧ a.2.2.2.length = 32 ∧ data.length ≤ 160 ∧ blksN [a.1, pcL a.2.1, [UInt8.ofNat a.2.2.1.toNat], a.2.2.2] = data := by
  unfold raR at h
  by_cases hl : data.length ≤ 160
  · rw [if_pos hl] at h
    cases hs : splitR data 0 [] with
    | none => rw [hs] at h; cases h
    | some bl =>
      rw [hs] at h
      have hb := pack_split data data.length 0 [] bl (by omega) (Nat.zero_le _) rfl (by decide) (fun b hb => by cases hb) hs
      match bl, h with
      | [p, b, c, m], h =>
        have hu2 : a4 [p, b, c, m] = some a := h
        unfold a4 at hu2
        simp only at hu2
        by_cases hc : ctxB p = true ∧ c.length = 1 ∧ m.length = 32 ∧ (ucD b).1 = 0
        · rw [if_pos hc] at hu2
          cases hu2
          have hr := pcL_read hc.2.2.2
          have e2 : [UInt8.ofNat ((((c.getD 0 0).toNat : Nat) : Int)).toNat] = c := by
            rw [Int.toNat_natCast, UInt8.ofNat_toNat]
            match c, hc.2.1 with
            | [x], _ => rfl
          refine ⟨hc.1, hr.1, by show (0 : Int) ≤ (((c.getD 0 0).toNat : Nat) : Int); omega, by have := (c.getD 0 0).toNat_lt; show (((c.getD 0 0).toNat : Nat) : Int) ≤ 255; omega, hc.2.2.1, hl, ?_⟩
          simp only
          rw [hr.2, e2]
          exact hb.1
        · rw [if_neg hc] at hu2; cases hu2
      | [], h => cases h
      | [_], h => cases h
      | [_, _], h => cases h
      | [_, _, _], h => cases h
      | _ :: _ :: _ :: _ :: _ :: _, h => cases h
  · rw [if_neg hl] at h; cases h
/-- Heard by right arguments: a code. -/
def hkC (x : List UInt8) (r : Int) (certs : List CertD) (signs : List SignD) (now : Int) (a : AuthD) : Int :=
  if hasC certs a.2.1.1 = true ∧ foC certs a.2.1.1 = a.2.1 then
    (if a.2.1.2.2 < now then 9 else (if ckA signs a.2.2.1 a.2.1.1 (dgN x r a.1 a.2.1) = true ∧ a.2.2.2 = mcN x r a.1 a.2.1 a.2.2.1 then 0 else 7))
  else 4
def caC (x : List UInt8) (r : Int) (certs : List CertD) (signs : List SignD) (now : Int) (data : List UInt8) : Int :=
  if akC x r = 0 then (if ctC certs = 0 then (if sgC signs = 0 then (if inB now 0 9999 then (match raR data with
    | some a => hkC x r certs signs now a
    | none => 5) else 3) else sgC signs) else ctC certs) else akC x r
def caD (x : List UInt8) (r : Int) (certs : List CertD) (signs : List SignD) (now : Int) (data : List UInt8) : Int × AuthD :=
  if caC x r certs signs now data = 0 then (0, (raR data).getD zeroA) else (caC x r certs signs now data, zeroA)
theorem hkC_ok {x : List UInt8} {r : Int} {certs : List CertD} {signs : List SignD} {now : Int} {a : AuthD} (h : hkC x r certs signs now a = 0) :
    hasC certs a.2.1.1 = true ∧ foC certs a.2.1.1 = a.2.1 ∧ now ≤ a.2.1.2.2 ∧ ckA signs a.2.2.1 a.2.1.1 (dgN x r a.1 a.2.1) = true ∧ a.2.2.2 = mcN x r a.1 a.2.1 a.2.2.1 := by
  unfold hkC at h
  by_cases h1 : hasC certs a.2.1.1 = true ∧ foC certs a.2.1.1 = a.2.1
  · rw [if_pos h1] at h
    by_cases h2 : a.2.1.2.2 < now
    · rw [if_pos h2] at h; cases h
    · rw [if_neg h2] at h
      by_cases h3 : ckA signs a.2.2.1 a.2.1.1 (dgN x r a.1 a.2.1) = true ∧ a.2.2.2 = mcN x r a.1 a.2.1 a.2.2.1
      · exact ⟨h1.1, h1.2, by omega, h3.1, h3.2⟩
      · rw [if_neg h3] at h; cases h
  · rw [if_neg h1] at h; cases h
/-- What is believed is what it is made as. -/
theorem hk_made {x : List UInt8} {r : Int} {certs : List CertD} {signs : List SignD} {now : Int} {data : List UInt8} {a : AuthD} (hr : raR data = some a) (h : hkC x r certs signs now a = 0) : mkN x r a.1 a.2.1 a.2.2.1 = data := by
  have h1 := raR_back hr
  have h2 := (hkC_ok h).2.2.2.2
  unfold mkN mkBl
  rw [← h2]
  exact h1.2.2.2.2.2.2
end Go.Proofs.YthiabbgkfmopiaaGreat

