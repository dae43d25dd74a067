/- How MsgResult lies in memory, and the contracts of the laws' helpers on it (written by tools/codgen.py). -/
import Derived.Test.YtpbkncliepkhaaaDoorJoint7
import Derived.Test.YtpbkncliepkhaaaDoorMsgK
import Derived.Test.YtpbkncliepkhaaaDoorWire
import Derived.Test.YtpbkncliepkhaaaDoorJoint6
import Derived.Test.YtpbkncliepkhaaaDoorJoint8
namespace Go.Proofs.YtpbkncliepkhaaaDoor
open Go.ChangeShapes Go.WideShapes Go.ChangeAt Go.RowKit

abbrev MsgResultD := Int × MsgD
def msgResultC : Cod MsgResultD := prodC (intC .i64) msgC
theorem msgResult_rep {w : World} {a : MsgResultD} {vs : List Value} (h : msgResultC.rep w a vs) : ∃ p2_2 q2_2, vs = [.int .i64 a.1, .int .i64 a.2.1, .slice p2_2 a.2.2.length q2_2] ∧ Rd w p2_2 q2_2 a.2.2 := by
  obtain ⟨us0, ts0, rfl, h0, h1⟩ := h
  have e0 : us0 = [Value.int .i64 _] := h0
  subst e0
  obtain ⟨p2_2, q2_2, rfl, r2_2⟩ := msg_rep h1
  exact ⟨p2_2, q2_2, rfl, r2_2⟩
theorem msgResult_mk {w : World} {a : MsgResultD} {p2_2 : Option Addr} {q2_2 : Nat} (r2_2 : Rd w p2_2 q2_2 a.2.2) : msgResultC.rep w a [.int .i64 a.1, .int .i64 a.2.1, .slice p2_2 a.2.2.length q2_2] := ⟨[.int .i64 a.1], _, rfl, rfl, (msg_mk r2_2)⟩
def msgResultT (a : MsgResultD) : Nat := msgT a.2
def msgResultM (a : MsgResultD) (m : Nat) : MsgResultD := (a.1, msgM a.2 m)

def msgResultN (a : MsgResultD) : Nat := msgN a.2
theorem msgResultT_le (a : MsgResultD) : msgResultT a ≤ 8 * msgResultN a := by
  have h1 := msgT_le a.2
  unfold msgResultT msgResultN
  omega






end Go.Proofs.YtpbkncliepkhaaaDoor

/- Chapter 10 as plain functions, with no program in it: faults of hellos, their messages, what is read of a body, finished messages; that a hello is read back. No conditions but those in each line. -/
namespace Go.Proofs.YtpbkncliepkhaaaDoor
open Go.RowKit

def hfC (h : HelloD) : Int := if h.1.length = 8 then (if inB h.2.1 1 65520 && inB h.2.2 0 9 then 0 else 3) else 1
def hkB (k : Int) : Bool := decide (k = 1) || decide (k = 2)
def hpB (h : HelloD) : List (List UInt8) := [h.1, putB h.2.1.toNat 2, [UInt8.ofNat h.2.2.toNat]]
def hpL (h : HelloD) : List UInt8 := blksN (hpB h)
def zeroH : HelloD := ([], 0, 0)
def phC (k : Int) (h : HelloD) : Int := if hkB k then hfC h else 3
def phD (k : Int) (h : HelloD) : MsgResultD := if phC k h = 0 then (0, k, hpL h) else (phC k h, 0, [])
/-- A body as a hello. -/
def h3 (bl : List (List UInt8)) : Option HelloD := match bl with
  | [a, b, c] => if b.length = 2 ∧ c.length = 1 ∧ hfC (a, ((getB b : Nat) : Int), (((c.getD 0 0).toNat : Nat) : Int)) = 0 then some (a, ((getB b : Nat) : Int), (((c.getD 0 0).toNat : Nat) : Int)) else none
  | _ => none
def huR (body : List UInt8) : Option HelloD := (splitR body 0 []).bind h3
def uhC (k : Int) (m : MsgD) : Int := if hkB k then (if faultW m.1 m.2.length = 0 then (if m.1 = k then (if (huR m.2).isSome then 0 else 5) else 1) else faultW m.1 m.2.length) else 3
def uhD (k : Int) (m : MsgD) : HelloResultD := (uhC k m, if uhC k m = 0 then (huR m.2).getD zeroH else zeroH)
def trL (l : List MsgD) : List UInt8 := if psC l = 0 then digestN (packAll l) else []
def fmC (s : List UInt8) (l : List MsgD) : Int := if is32 s then psC l else 1
def fmL (s : List UInt8) (l : List MsgD) : List UInt8 := finN s (digestN (packAll l))
def fmD (s : List UInt8) (l : List MsgD) : MsgResultD := if fmC s l = 0 then (0, 20, fmL s l) else (fmC s l, 0, [])
def cfC (s : List UInt8) (l : List MsgD) (m : MsgD) : Int := if fmC s l = 0 then (if faultW m.1 m.2.length = 0 then (if m.1 = 20 then (if m.2 = fmL s l then 0 else 7) else 1) else faultW m.1 m.2.length) else fmC s l

theorem putB2_get (bs : List UInt8) (h : bs.length = 2) : putB (getB bs) 2 = bs := by
  match bs, h with
  | [a, b], _ =>
    have e : getB [a, b] = a.toNat * 256 + b.toNat := by simp [getB]
    have ha := a.toNat_lt
    have hb := b.toNat_lt
    rw [show putB (getB [a, b]) 2 = [UInt8.ofNat (getB [a, b] / 256 ^ 1 % 256), UInt8.ofNat (getB [a, b] / 256 ^ 0 % 256)] from rfl, e]
    have e1 : (a.toNat * 256 + b.toNat) / 256 ^ 1 % 256 = a.toNat := by omega
    have e2 : (a.toNat * 256 + b.toNat) / 256 ^ 0 % 256 = b.toNat := by omega
    rw [e1, e2, UInt8.ofNat_toNat, UInt8.ofNat_toNat]
theorem getB2_put (n : Nat) (h : n < 65536) : getB (putB n 2) = n := by
  rw [show putB n 2 = [UInt8.ofNat (n / 256 ^ 1 % 256), UInt8.ofNat (n / 256 ^ 0 % 256)] from rfl]
  simp only [getB, List.foldl_cons, List.foldl_nil, UInt8.toNat_ofNat', Nat.pow_one, Nat.pow_zero, Nat.div_one]
  omega
theorem hf_parts {h : HelloD} (hc : hfC h = 0) : h.1.length = 8 ∧ 1 ≤ h.2.1 ∧ h.2.1 ≤ 65520 ∧ 0 ≤ h.2.2 ∧ h.2.2 ≤ 9 := by
  unfold hfC at hc
  by_cases h1 : h.1.length = 8
  · rw [if_pos h1] at hc
    by_cases h2 : (inB h.2.1 1 65520 && inB h.2.2 0 9) = true
    · have h3 : (1 ≤ h.2.1 ∧ h.2.1 ≤ 65520) ∧ 0 ≤ h.2.2 ∧ h.2.2 ≤ 9 := by simpa [inB] using h2
      exact ⟨h1, h3.1.1, h3.1.2, h3.2.1, h3.2.2⟩
    · rw [if_neg h2] at hc; exact absurd hc (by decide)
  · rw [if_neg h1] at hc; exact absurd hc (by decide)
theorem hpL_len {h : HelloD} (hc : hfC h = 0) : (hpL h).length = 14 := by
  have h1 := (hf_parts hc).1
  unfold hpL hpB
  rw [blksN_cons, blksN_cons, blksN_one, List.length_append, List.length_append, blkW_len, blkW_len, blkW_len, putB_len, h1]
  rfl
theorem h3_pack {h : HelloD} (hc : hfC h = 0) : h3 (hpB h) = some h := by
  obtain ⟨p1, p2, p3, p4, p5⟩ := hf_parts hc
  have e1 : ((getB (putB h.2.1.toNat 2) : Nat) : Int) = h.2.1 := by rw [getB2_put _ (by omega)]; omega
  have e2 : ((([UInt8.ofNat h.2.2.toNat].getD 0 0).toNat : Nat) : Int) = h.2.2 := by
    show (((UInt8.ofNat h.2.2.toNat).toNat : Nat) : Int) = _
    rw [UInt8.toNat_ofNat']
    omega
  unfold h3 hpB
  simp only
  rw [e1, e2, if_pos ⟨putB_len _ _, rfl, hc⟩]
/-- What is packed is read back. -/
theorem huR_pack {h : HelloD} (hc : hfC h = 0) : huR (hpL h) = some h := by
  obtain ⟨p1, p2, p3, p4, p5⟩ := hf_parts hc
  have hs := split_pack (hpB h) [] [] (fun b hb => by
    unfold hpB at hb
    simp only [List.mem_cons, List.not_mem_nil, or_false] at hb
    rcases hb with rfl | rfl | rfl
    · omega
    · rw [putB_len]; decide
    · simp) (by simp [hpB])
  unfold huR
  rw [show splitR (hpL h) 0 [] = some (hpB h) from hs]
  exact h3_pack hc
/-- What is read is what it is packed as. -/
theorem huR_back {body : List UInt8} {h : HelloD} (hu : huR body = some h) : hfC h = 0 ∧ hpL h = body := by
  unfold huR at hu
  cases hs : splitR body 0 [] with
  | none => rw [hs] at hu; cases hu
  | some bl =>
    rw [hs] at hu
    have hb := pack_split body body.length 0 [] bl (by omega) (Nat.zero_le _) rfl (by decide) (fun b hb => by cases hb) hs
    match bl, hu with
    | [a, b, c], hu =>
      have hu2 : h3 [a, b, c] = some h := hu
      unfold h3 at hu2
      simp only at hu2
      by_cases hc : b.length = 2 ∧ c.length = 1 ∧ hfC (a, ((getB b : Nat) : Int), (((c.getD 0 0).toNat : Nat) : Int)) = 0
      · rw [if_pos hc] at hu2
        cases hu2
        refine ⟨hc.2.2, ?_⟩
        have e1 : putB (((getB b : Nat) : Int)).toNat 2 = b := by rw [Int.toNat_natCast]; exact putB2_get b hc.1
        have e2 : [UInt8.ofNat ((((c.getD 0 0).toNat : Nat) : Int)).toNat] = c := by
          rw [Int.toNat_natCast, UInt8.ofNat_toNat]
          match c, hc.2.1 with
          | [x], _ => rfl
        unfold hpL hpB
        simp only
        rw [e1, e2]
        exact hb.1
      · rw [if_neg hc] at hu2; cases hu2
    | [], hu => cases hu
    | [_], hu => cases hu
    | [_, _], hu => cases hu
    | _ :: _ :: _ :: _ :: _, hu => cases hu
theorem phD_small (k : Int) (h : HelloD) : msgResultT (phD k h) ≤ 1048576 := by
  unfold phD
  split
  · rename_i hc
    unfold phC at hc
    split at hc
    · show (hpL h).length ≤ _
      rw [hpL_len hc]
      decide
    · exact absurd hc (by decide)
  · exact Nat.zero_le _
theorem uhD_small (k : Int) (m : MsgD) : helloResultT (uhD k m) ≤ 1048576 := by
  unfold uhD
  split
  · rename_i hc
    cases hu : huR m.2 with
    | none => exact Nat.zero_le _
    | some h =>
      show h.1.length ≤ _
      rw [(hf_parts (huR_back hu).1).1]
      decide
  · exact Nat.zero_le _
end Go.Proofs.YtpbkncliepkhaaaDoor

