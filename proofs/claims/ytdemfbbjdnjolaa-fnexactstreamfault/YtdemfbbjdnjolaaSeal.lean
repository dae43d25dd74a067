/- Chapter 5 as plain functions on bytes, with no program in it: a tag (tagN), what is sealed (sealN), what is opened (openN), a finished value (finN); their lengths; what is sealed is opened again. No conditions but those in each line. -/
import Derived.Test.YtdemfbbjdnjolaaMac
import Derived.Test.YtdemfbbjdnjolaaStream
namespace Go.Proofs.Ytdemfbbjdnjolaa
open Go.RowKit

def tagN (key nonce extra sealed : List UInt8) : List UInt8 := (macN key (nonce ++ [UInt8.ofNat extra.length] ++ extra ++ sealed)).take 16
theorem tagN_len (key nonce extra sealed : List UInt8) : (tagN key nonce extra sealed).length = 16 := by rw [tagN, List.length_take, macN_len]; rfl
def sealN (key nonce extra plain : List UInt8) : List UInt8 := hideN key nonce plain ++ tagN key nonce extra (hideN key nonce plain)
theorem sealN_len (key nonce extra plain : List UInt8) : (sealN key nonce extra plain).length = plain.length + 16 := by rw [sealN, List.length_append, hideN_len, tagN_len]
/-- Does the tag bear the others? -/
def borne (key nonce extra sealed : List UInt8) : Bool := tagN key nonce extra (sealed.take (sealed.length - 16)) == sealed.drop (sealed.length - 16)
def openC (key nonce extra sealed : List UInt8) : Int := if sealed.length < 16 then 5 else (if 220 < sealed.length - 16 then 2 else (if borne key nonce extra sealed then 0 else 7))
def openL (key nonce extra sealed : List UInt8) : List UInt8 := if openC key nonce extra sealed = 0 then hideN key nonce (sealed.take (sealed.length - 16)) else []
theorem openC_zero {key nonce extra sealed : List UInt8} (h : openC key nonce extra sealed = 0) : 16 ≤ sealed.length ∧ sealed.length - 16 ≤ 220 ∧ borne key nonce extra sealed = true := by
  unfold openC at h
  split at h
  · cases h
  · split at h
    · cases h
    · split at h
      · rename_i h1 h2 h3
        exact ⟨by omega, by omega, h3⟩
      · cases h
theorem openL_len (key nonce extra sealed : List UInt8) : (openL key nonce extra sealed).length ≤ 1048576 := by
  unfold openL; split
  · rename_i h
    have := (openC_zero h).2.1
    rw [hideN_len, List.length_take]; omega
  · simp
/-- What is sealed is opened again. -/
theorem sealN_take (key nonce extra plain : List UInt8) : (sealN key nonce extra plain).take plain.length = hideN key nonce plain := by
  rw [sealN, List.take_append_of_le_length (by rw [hideN_len]; exact Nat.le_refl _), List.take_of_length_le (by rw [hideN_len]; exact Nat.le_refl _)]
theorem sealN_drop (key nonce extra plain : List UInt8) : (sealN key nonce extra plain).drop plain.length = tagN key nonce extra (hideN key nonce plain) := by
  have h := hideN_len key nonce plain
  conv => lhs; rw [sealN, ← h]
  exact List.drop_left
theorem open_seal (key nonce extra plain : List UInt8) (h : plain.length ≤ 220) : openC key nonce extra (sealN key nonce extra plain) = 0 ∧ openL key nonce extra (sealN key nonce extra plain) = plain := by
  have hl := sealN_len key nonce extra plain
  have e : (sealN key nonce extra plain).length - 16 = plain.length := by omega
  have hb : borne key nonce extra (sealN key nonce extra plain) = true := by
    unfold borne
    rw [e, sealN_take, sealN_drop]
    simp
  have hc : openC key nonce extra (sealN key nonce extra plain) = 0 := by
    unfold openC
    rw [if_neg (by omega), if_neg (by omega), hb]
    rfl
  refine ⟨hc, ?_⟩
  unfold openL
  rw [if_pos hc, e, sealN_take, hideN_twice]
/-- What is opened is sealed again as it was. -/
theorem seal_open {key nonce extra sealed : List UInt8} (h : openC key nonce extra sealed = 0) : sealN key nonce extra (openL key nonce extra sealed) = sealed := by
  obtain ⟨h1, h2, h3⟩ := openC_zero h
  unfold openL
  rw [if_pos h, sealN, hideN_twice]
  unfold borne at h3
  rw [eq_of_beq h3, List.take_append_drop]
def finN (key digest : List UInt8) : List UInt8 := macN (expandN key (labelB [102, 105, 110, 105, 115, 104, 101, 100] [] 32) 32) digest
theorem finN_len (key digest : List UInt8) : (finN key digest).length = 32 := macN_len _ _
end Go.Proofs.Ytdemfbbjdnjolaa
