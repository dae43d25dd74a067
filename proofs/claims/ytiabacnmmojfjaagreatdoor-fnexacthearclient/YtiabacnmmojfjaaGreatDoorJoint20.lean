/- Chapter 10 as plain functions, with no program in it: faults of hellos, their messages, what is read of a body, finished messages; that a hello is read back. No conditions but those in each line. -/
import Derived.Test.YtiabacnmmojfjaaGreatDoorJoint1
import Derived.Test.YtiabacnmmojfjaaGreatDoorJoint16
import Derived.Test.YtiabacnmmojfjaaGreatDoorJoint3
import Derived.Test.YtiabacnmmojfjaaGreatDoorJoint8
import Derived.Test.YtiabacnmmojfjaaGreatDoorJoint9
import Derived.Test.YtiabacnmmojfjaaGreatDoorJoint11
namespace Go.Proofs.YtiabacnmmojfjaaGreatDoor
open Go.RowKit
def hfC (h : HelloD) : Int := if h.1.length = 8 then (if inB h.2.1 1 65520 && inB h.2.2 0 9 then 0 else 3) else 1
def hkB (k : Int) : Bool := decide (k = 1) || decide (k = 2)
def hpB (h : HelloD) : List (List UInt8) := [h.1, putB h.2.1.toNat 2, [UInt8.ofNat h.2.2.toNat]]
def hpL (h : HelloD) : List UInt8 := blksN (hpB h)
def zeroH : HelloD := ([], 0, 0)
def phC (k : Int) (h : HelloD) : Int := if hkB k then hfC h else 3
def phD (k : Int) (h : HelloD) : MsgResultD := if phC k h = 0 then (0, k, hpL h) else (phC k h, 0, [])
def h3 (bl : List (List UInt8)) : Option HelloD := match bl with
  | [a, b, c] => if b.length = 2 ∧ c.length = 1 ∧ hfC (a, ((getB b : Nat) : Int), (((c.getD 0 0).toNat : Nat) : Int)) = 0 then some (a, ((getB b : Nat) : Int), (((c.getD 0 0).toNat : Nat) : Int)) else none
  | _ => none
def huR (body : List UInt8) : Option HelloD := (splitR body 0 []).bind h3
def uhC (k : Int) (m : MsgD) : Int := if hkB k then (if faultW m.1 m.2.length = 0 then (if m.1 = k then (if (huR m.2).isSome then 0 else 5) else 1) else faultW m.1 m.2.length) else 3
def uhD (k : Int) (m : MsgD) : HelloResultD := (uhC k m, if uhC k m = 0 then (huR m.2).getD zeroH else zeroH)
def trL (l : List MsgD) : List UInt8 := if psC l = 0 then digestN (packAll l) else []
def fmC (s : List UInt8) (l : List MsgD) : Int := if is32 s then psC l else 1
def fmL (s : List UInt8) (l : List MsgD) : List UInt8 := finN s (digestN (packAll l))
def fmD (s : List UInt8) (l : List MsgD) : MsgResultD := if fmC s l = 0 then (0, 20, fmL s l) else (fmC s l, 0, [])
theorem putB2_get (bs : List UInt8) (h : bs.length = 2) : putB (getB bs) 2 = bs := by
  match bs, h with
  | [a, b], _ =>
    have e : getB [a, b] = a.toNat * 256 + b.toNat := by simp [getB]
    have ha := a.toNat_lt
    have hb := b.toNat_lt
    rw [show putB (getB [a, b]) 2 = [UInt8.ofNat (getB [a, b] / 256 ^ 1 % 256), UInt8.ofNat (getB [a, b] / 256 ^ 0 % 256)] from rfl, e]
    have e1 : (a.toNat * 256 + b.toNat) / 256 ^ 1 % 256 = a.toNat := by omega
    have e2 : (a.toNat * 256 + b.toNat) / 256 ^ 0 % 256 = b.toNat := by omega
    rw [e1, e2, UInt8.ofNat_toNat, UInt8.ofNat_toNat]
theorem hf_parts {h : HelloD} (hc : hfC h = 0) : h.1.length = 8 ∧ 1 ≤ h.2.1 ∧ h.2.1 ≤ 65520 ∧ 0 ≤ h.2.2 ∧ h.2.2 ≤ 9 := by
  unfold hfC at hc
  by_cases h1 : h.1.length = 8
  · rw [if_pos h1] at hc
    by_cases h2 : (inB h.2.1 1 65520 && inB h.2.2 0 9) = true
    · have h3 : (1 ≤ h.2.1 ∧ h.2.1 ≤ 65520) ∧ 0 ≤ h.2.2 ∧ h.2.2 ≤ 9 := by simpa [inB] using h2
      exact ⟨h1, h3.1.1, h3.1.2, h3.2.1, h3.2.2⟩
    · rw [if_neg h2] at hc; exact absurd hc (by decide)
  · rw [if_neg h1] at hc; exact absurd hc (by decide)
theorem hpL_len {h : HelloD} (hc : hfC h = 0) : (hpL h).length = 14 := by
  have h1 := (hf_parts hc).1
  unfold hpL hpB
  rw [blksN_cons, blksN_cons, blksN_one, List.length_append, List.length_append, blkW_len, blkW_len, blkW_len, putB_len, h1]
  rfl
theorem huR_back {body : List UInt8} {h : HelloD} (hu : huR body = some h) : hfC h = 0 ∧ hpL h = body := by
  unfold huR at hu
  cases hs : splitR body 0 [] with
  | none => rw [hs] at hu; cases hu
  | some bl =>
    rw [hs] at hu
    have hb := pack_split body body.length 0 [] bl (by omega) (Nat.zero_le _) rfl (by decide) (fun b hb => by cases hb) hs
    match bl, hu with
    | [a, b, c], hu =>
      have hu2 : h3 [a, b, c] = some h := hu
      unfold h3 at hu2
      simp only at hu2
      by_cases hc : b.length = 2 ∧ c.length = 1 ∧ hfC (a, ((getB b : Nat) : Int), (((c.getD 0 0).toNat : Nat) : Int)) = 0
      · rw [if_pos hc] at hu2
        cases hu2
        refine ⟨hc.2.2, ?_⟩
        have e1 : putB (((getB b : Nat) : Int)).toNat 2 = b := by rw [Int.toNat_natCast]; exact putB2_get b hc.1
        have e2 : [UInt8.ofNat ((((c.getD 0 0).toNat : Nat) : Int)).toNat] = c := by
          rw [Int.toNat_natCast, UInt8.ofNat_toNat]
          match c, hc.2.1 with
          | [x], _ => rfl
        unfold hpL hpB
        simp only
        rw [e1, e2]
        exact hb.1
      · rw [if_neg hc] at hu2; cases hu2
    | [], hu => cases hu
    | [_], hu => cases hu
    | [_, _], hu => cases hu
    | _ :: _ :: _ :: _ :: _, hu => cases hu
end Go.Proofs.YtiabacnmmojfjaaGreatDoor
/- Chapter 11 as plain functions, with no program in it: faults of sides and ends, what each end answers, pairs; that two ends that have one key or none come to the same secrets. No conditions but those in each line. -/
namespace Go.Proofs.YtiabacnmmojfjaaGreatDoor
open Go.RowKit
def zeroS : SideD := (0, [], 0, [])
def zeroX : SecretsD := ([], [], [], [])
def zeroE : EndD := (zeroS, 0, 0, [], [], zeroX)
def badE (c : Int) : EndResultD := (c, zeroE, [])
def keyW (psk : Int) : Nat := if psk = 0 then 0 else 32
def sfC (s : SideD) : Int := if inB s.1 1 65519 && inB s.2.2.1 0 9 then (if s.2.1.length = 8 ∧ s.2.2.2.length = keyW s.2.2.1 then 0 else 1) else 3
def seB (x : SecretsD) (n : Nat) : Bool := decide (x.1.length = n) && (decide (x.2.1.length = n) && (decide (x.2.2.1.length = n) && decide (x.2.2.2.length = n)))
def wantW (stage : Int) : Nat := if stage = 3 then 32 else 0
def efC (e : EndD) : Int :=
  if sfC e.1 = 0 then (if inB e.2.1 1 3 && inB e.2.2.1 0 2 then (if e.2.2.2.1.length ≤ 4 then (if firstF e.2.2.2.1 = 0 then (if (e.2.2.2.2.1.length = 0 ∨ e.2.2.2.2.1.length = 32) ∧ seB e.2.2.2.2.2 (wantW e.2.1) = true then 0 else 1) else firstF e.2.2.2.1) else 2) else 3) else sfC e.1
def shareN (s : SideD) : Int := ((powN 17 s.1.toNat : Nat) : Int)
def helH (s : SideD) (psk : Int) : HelloD := (s.2.1, shareN s, psk)
def helM (s : SideD) (kind psk : Int) : MsgD := (kind, hpL (helH s psk))
def secN (s : SideD) (share mode : Int) : List UInt8 := handN (earlyN (if mode = 2 then s.2.2.2 else [])) (putB (powN share.toNat s.1.toNat) 2)
def digM (l : List MsgD) : List UInt8 := digestN (packAll l)
def finM (secret lab : List UInt8) (l : List MsgD) : MsgD := (20, finN (trafN secret lab (digM (l.take 2))) (digM l))
def sHsB : List UInt8 := [115, 32, 104, 115, 32, 116, 114, 97, 102, 102, 105, 99]
theorem sHs_str : (⟨#[115, 32, 104, 115, 32, 116, 114, 97, 102, 102, 105, 99]⟩ : ByteArray) = strB sHsB := rfl
def pskB (h : HelloD) (s : SideD) : Bool := decide (h.2.2 ≠ 0) && decide (h.2.2 = s.2.2.1)
def modeN (h : HelloD) (s : SideD) : Int := if pskB h s then 2 else 1
def pskN2 (h : HelloD) (s : SideD) : Int := if pskB h s then s.2.2.1 else 0
def hcC (s : SideD) (m : MsgD) : Int := if sfC s = 0 then uhC 1 m else sfC s
def hcS (s : SideD) (h : HelloD) : List UInt8 := secN s h.2.1 (modeN h s)
def hcF (s : SideD) (m : MsgD) (h : HelloD) : MsgD := finM (hcS s h) sHsB [m, helM s 2 (pskN2 h s)]
def hcE (s : SideD) (m : MsgD) : EndResultD :=
  if hcC s m = 0 then (0, (s, 2, modeN (uhD 1 m).2 s, [m, helM s 2 (pskN2 (uhD 1 m).2 s), hcF s m (uhD 1 m).2], masterN (hcS s (uhD 1 m).2), zeroX), [helM s 2 (pskN2 (uhD 1 m).2 s), hcF s m (uhD 1 m).2])
  else badE (hcC s m)
theorem sf_parts {s : SideD} (h : sfC s = 0) : 1 ≤ s.1 ∧ s.1 ≤ 65519 ∧ 0 ≤ s.2.2.1 ∧ s.2.2.1 ≤ 9 ∧ s.2.1.length = 8 ∧ s.2.2.2.length = keyW s.2.2.1 := by
  unfold sfC at h
  by_cases h1 : (inB s.1 1 65519 && inB s.2.2.1 0 9) = true
  · rw [if_pos h1] at h
    by_cases h2 : s.2.1.length = 8 ∧ s.2.2.2.length = keyW s.2.2.1
    · have h3 : (1 ≤ s.1 ∧ s.1 ≤ 65519) ∧ 0 ≤ s.2.2.1 ∧ s.2.2.1 ≤ 9 := by simpa [inB] using h1
      exact ⟨h3.1.1, h3.1.2, h3.2.1, h3.2.2, h2.1, h2.2⟩
    · rw [if_neg h2] at h; exact absurd h (by decide)
  · rw [if_neg h1] at h; exact absurd h (by decide)
theorem shareN_ok {s : SideD} (h : sfC s = 0) : 1 ≤ shareN s ∧ shareN s ≤ 65520 := by
  have hp := sf_parts h
  have h1 := powN_lt 17 s.1.toNat
  have h2 : 1 ≤ powN 17 s.1.toNat := powN_pos (by decide) (by decide) (by omega)
  unfold shareN
  omega
theorem helH_ok {s : SideD} {psk : Int} (h : sfC s = 0) (h0 : 0 ≤ psk) (h9 : psk ≤ 9) : hfC (helH s psk) = 0 := by
  have hp := sf_parts h
  have hs := shareN_ok h
  have e : (inB (helH s psk).2.1 1 65520 && inB (helH s psk).2.2 0 9) = true := by
    show (inB (shareN s) 1 65520 && inB psk 0 9) = true
    simp [inB, hs.1, hs.2, h0, h9]
  unfold hfC
  rw [if_pos (show (helH s psk).1.length = 8 from hp.2.2.2.2.1), if_pos e]
theorem faultW_ok {k : Int} {n : Nat} (h0 : 0 ≤ k) (h1 : k ≤ 255) (hn : n ≤ 160) : faultW k n = 0 := by
  rw [faultW, if_pos (by simp [inB, h0, h1]), if_pos hn]
theorem helM_len {s : SideD} {kind psk : Int} (h : sfC s = 0) (h0 : 0 ≤ psk) (h9 : psk ≤ 9) : (helM s kind psk).2.length = 14 := hpL_len (helH_ok h h0 h9)
theorem uh_fault {k : Int} {m : MsgD} (h : uhC k m = 0) : hkB k = true ∧ faultW m.1 m.2.length = 0 ∧ m.1 = k ∧ ∃ x, huR m.2 = some x ∧ (uhD k m).2 = x ∧ hfC x = 0 ∧ m.2.length = 14 := by
  have hc := h
  unfold uhC at h
  by_cases h1 : hkB k = true
  · rw [if_pos h1] at h
    by_cases h2 : faultW m.1 m.2.length = 0
    · rw [if_pos h2] at h
      by_cases h3 : m.1 = k
      · rw [if_pos h3] at h
        cases hu : huR m.2 with
        | none => rw [hu] at h; exact absurd h (by decide)
        | some x =>
          have hb := huR_back hu
          refine ⟨h1, h2, h3, x, rfl, ?_, hb.1, ?_⟩
          · rw [uhD, if_pos hc, hu]; rfl
          · rw [← hb.2]; exact hpL_len hb.1
      · rw [if_neg h3] at h; exact absurd h (by decide)
    · rw [if_neg h2] at h; exact absurd h h2
  · rw [if_neg h1] at h; exact absurd h (by decide)
theorem firstF_ok {l : List MsgD} (h : ∀ a ∈ l, faultW a.1 a.2.length = 0) : firstF l = 0 := firstF_zero fun _ _ hb => h _ (List.mem_of_getElem? hb)
theorem packAll_small {l : List MsgD} (h : ∀ a ∈ l, faultW a.1 a.2.length = 0) : (packAll l).length ≤ 164 * l.length := by
  induction l with
  | nil => simp [packAll]
  | cons a l ih =>
    have h1 := (faultW_zero (h a (List.mem_cons_self ..))).2
    have h2 := ih fun b hb => h b (List.mem_cons_of_mem _ hb)
    rw [packAll_cons, List.length_append, packW_len, List.length_cons]
    omega
theorem psC_ok {l : List MsgD} (h : ∀ a ∈ l, faultW a.1 a.2.length = 0) (hl : l.length ≤ 3) : psC l = 0 := by
  have h1 := packAll_small h
  rw [psC, if_pos (by omega), if_pos (firstF_ok h), if_pos (by omega)]
theorem trL_ok {l : List MsgD} (h : psC l = 0) : trL l = digM l := by rw [trL, if_pos h]; rfl
theorem digM_len (l : List MsgD) : (digM l).length = 32 := digestN_len _
theorem secN_len (s : SideD) (a b : Int) : (secN s a b).length = 32 := handN_len _ _
theorem finM_fault (a b : List UInt8) (l : List MsgD) : faultW (finM a b l).1 (finM a b l).2.length = 0 := faultW_ok (by show (0 : Int) ≤ 20; decide) (by show (20 : Int) ≤ 255; decide) (by rw [show (finM a b l).2.length = 32 from finN_len _ _]; decide)
theorem finM_len (a b : List UInt8) (l : List MsgD) : (finM a b l).2.length = 32 := finN_len _ _
theorem ef_parts {e : EndD} (h : efC e = 0) : sfC e.1 = 0 ∧ (1 ≤ e.2.1 ∧ e.2.1 ≤ 3) ∧ (0 ≤ e.2.2.1 ∧ e.2.2.1 ≤ 2) ∧ e.2.2.2.1.length ≤ 4 ∧ firstF e.2.2.2.1 = 0 ∧ (e.2.2.2.2.1.length = 0 ∨ e.2.2.2.2.1.length = 32) ∧ seB e.2.2.2.2.2 (wantW e.2.1) = true := by
  unfold efC at h
  by_cases h0 : sfC e.1 = 0
  · rw [if_pos h0] at h
    by_cases h1 : (inB e.2.1 1 3 && inB e.2.2.1 0 2) = true
    · rw [if_pos h1] at h
      by_cases h2 : e.2.2.2.1.length ≤ 4
      · rw [if_pos h2] at h
        by_cases h3 : firstF e.2.2.2.1 = 0
        · rw [if_pos h3] at h
          by_cases h4 : (e.2.2.2.2.1.length = 0 ∨ e.2.2.2.2.1.length = 32) ∧ seB e.2.2.2.2.2 (wantW e.2.1) = true
          · have h5 : (1 ≤ e.2.1 ∧ e.2.1 ≤ 3) ∧ 0 ≤ e.2.2.1 ∧ e.2.2.1 ≤ 2 := by simpa [inB] using h1
            exact ⟨h0, h5.1, h5.2, h2, h3, h4.1, h4.2⟩
          · rw [if_neg h4] at h; exact absurd h (by decide)
        · rw [if_neg h3] at h; exact absurd h h3
      · rw [if_neg h2] at h; exact absurd h (by decide)
    · rw [if_neg h1] at h; exact absurd h (by decide)
  · rw [if_neg h0] at h; exact absurd h h0
theorem ef_ok {s : SideD} {st mo : Int} {l : List MsgD} {b : List UInt8} {x : SecretsD} (h0 : sfC s = 0) (h1 : 1 ≤ st ∧ st ≤ 3) (h2 : 0 ≤ mo ∧ mo ≤ 2) (h3 : l.length ≤ 4) (h4 : firstF l = 0) (h5 : b.length = 0 ∨ b.length = 32) (h6 : seB x (wantW st) = true) : efC (s, st, mo, l, b, x) = 0 := by
  unfold efC
  rw [if_pos (show sfC (s, st, mo, l, b, x).1 = 0 from h0), if_pos (show (inB st 1 3 && inB mo 0 2) = true by simp [inB, h1, h2]), if_pos (show l.length ≤ 4 from h3), if_pos (show firstF l = 0 from h4), if_pos (show (b.length = 0 ∨ b.length = 32) ∧ seB x (wantW st) = true from ⟨h5, h6⟩)]
theorem se_zero : seB zeroX 0 = true := rfl
theorem modeN_cases (h : HelloD) (s : SideD) : modeN h s = 1 ∨ modeN h s = 2 := by unfold modeN; split <;> simp
theorem pskN2_ok {h : HelloD} {s : SideD} (hs : sfC s = 0) : 0 ≤ pskN2 h s ∧ pskN2 h s ≤ 9 := by
  have hp := sf_parts hs
  unfold pskN2
  split <;> omega
theorem hc_fault {s : SideD} {m : MsgD} (h : hcC s m = 0) : sfC s = 0 ∧ uhC 1 m = 0 := by
  unfold hcC at h
  by_cases h0 : sfC s = 0
  · rw [if_pos h0] at h; exact ⟨h0, h⟩
  · rw [if_neg h0] at h; exact absurd h h0
theorem helM_fault {s : SideD} {kind psk : Int} (h : sfC s = 0) (h0 : 0 ≤ psk) (h9 : psk ≤ 9) (hk : kind = 1 ∨ kind = 2) : faultW (helM s kind psk).1 (helM s kind psk).2.length = 0 :=
  faultW_ok (by show 0 ≤ kind; omega) (by show kind ≤ 255; omega) (by rw [helM_len h h0 h9]; decide)
theorem hcE_ok {s : SideD} {m : MsgD} (h : hcC s m = 0) : hcE s m = (0, (s, 2, modeN (uhD 1 m).2 s, [m, helM s 2 (pskN2 (uhD 1 m).2 s), hcF s m (uhD 1 m).2], masterN (hcS s (uhD 1 m).2), zeroX), [helM s 2 (pskN2 (uhD 1 m).2 s), hcF s m (uhD 1 m).2]) := by rw [hcE, if_pos h]
theorem hcE_bad {s : SideD} {m : MsgD} (h : ¬ hcC s m = 0) : hcE s m = badE (hcC s m) := by rw [hcE, if_neg h]
theorem hcE_end {s : SideD} {m : MsgD} (h : hcC s m = 0) : efC (hcE s m).2.1 = 0 := by
  obtain ⟨h0, h1⟩ := hc_fault h
  obtain ⟨-, hf, -⟩ := uh_fault h1
  have hp := pskN2_ok (h := (uhD 1 m).2) h0
  rw [hcE_ok h]
  refine ef_ok h0 (by decide) (by rcases modeN_cases (uhD 1 m).2 s with h | h <;> rw [h] <;> decide) (by simp) (firstF_ok fun a ha => ?_) (.inr (masterN_len _)) se_zero
  simp only [List.mem_cons, List.not_mem_nil, or_false] at ha
  rcases ha with rfl | rfl | rfl
  · exact hf
  · exact helM_fault h0 hp.1 hp.2 (.inr rfl)
  · exact finM_fault _ _ _
theorem bulk_small {l : List MsgD} (h : ∀ a ∈ l, faultW a.1 a.2.length = 0) : bulkM l ≤ 161 * l.length := by
  induction l with
  | nil => simp [bulkM]
  | cons a l ih =>
    have h1 := (faultW_zero (h a (List.mem_cons_self ..))).2
    have h2 := ih fun b hb => h b (List.mem_cons_of_mem _ hb)
    rw [bulkM_cons, List.length_cons]
    omega
theorem end_small {e : EndD} (h : efC e = 0) : endT e ≤ 1000 := by
  have hp := ef_parts h
  have h1 := sf_parts hp.1
  have h2 := bulk_small (firstF_all hp.2.2.2.2.1)
  have h3 : e.1.2.2.2.length ≤ 32 := by rw [h1.2.2.2.2.2]; unfold keyW; split <;> decide
  have h4 : e.2.2.2.2.1.length ≤ 32 := by rcases hp.2.2.2.2.2.1 with h | h <;> omega
  have h5 : secretsT e.2.2.2.2.2 ≤ 128 := by
    have hs := hp.2.2.2.2.2.2
    have hw : wantW e.2.1 ≤ 32 := by unfold wantW; split <;> decide
    simp only [seB, Bool.and_eq_true, decide_eq_true_eq] at hs
    unfold secretsT
    omega
  have h6 := hp.2.2.2.1
  unfold endT sideT
  omega
theorem badE_T (c : Int) : endResultT (badE c) = 0 := rfl
theorem endR_small {r : EndResultD} (h : efC r.2.1 = 0) (h2 : bulkM r.2.2 ≤ 1000) : endResultT r ≤ 1048576 := by
  have := end_small h
  unfold endResultT
  omega
theorem hcE_small (s : SideD) (m : MsgD) : endResultT (hcE s m) ≤ 1048576 := by
  by_cases h : hcC s m = 0
  · refine endR_small (hcE_end h) ?_
    obtain ⟨h0, -⟩ := hc_fault h
    have hp := pskN2_ok (h := (uhD 1 m).2) h0
    have hb : bulkM [helM s 2 (pskN2 (uhD 1 m).2 s), hcF s m (uhD 1 m).2] ≤ 161 * 2 := bulk_small fun a ha => by
      simp only [List.mem_cons, List.not_mem_nil, or_false] at ha
      rcases ha with rfl | rfl
      · exact helM_fault h0 hp.1 hp.2 (.inr rfl)
      · exact finM_fault _ _ _
    rw [hcE_ok h]
    show bulkM [helM s 2 (pskN2 (uhD 1 m).2 s), hcF s m (uhD 1 m).2] ≤ _
    omega
  · rw [hcE_bad h, badE_T]; exact Nat.zero_le _
end Go.Proofs.YtiabacnmmojfjaaGreatDoor
