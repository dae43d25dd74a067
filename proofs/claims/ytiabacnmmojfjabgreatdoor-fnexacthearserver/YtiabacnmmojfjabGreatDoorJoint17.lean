import Derived.Test.YtiabacnmmojfjabGreatDoorJoint1
import Derived.Test.YtiabacnmmojfjabGreatDoorJoint14
import Derived.Test.YtiabacnmmojfjabGreatDoorJoint3
import Derived.Test.YtiabacnmmojfjabGreatDoorJoint7
import Derived.Test.YtiabacnmmojfjabGreatDoorJoint8
import Derived.Test.YtiabacnmmojfjabGreatDoorEndResultC
import Derived.Test.YtiabacnmmojfjabGreatDoorEndC
namespace Go.Proofs.YtiabacnmmojfjabGreatDoor
open Go.RowKit
def hfC (h : HelloD) : Int := if h.1.length = 8 then (if inB h.2.1 1 65520 && inB h.2.2 0 9 then 0 else 3) else 1
def hkB (k : Int) : Bool := decide (k = 1) || decide (k = 2)
def hpB (h : HelloD) : List (List UInt8) := [h.1, putB h.2.1.toNat 2, [UInt8.ofNat h.2.2.toNat]]
def hpL (h : HelloD) : List UInt8 := blksN (hpB h)
def zeroH : HelloD := ([], 0, 0)
def h3 (bl : List (List UInt8)) : Option HelloD := match bl with
  | [a, b, c] => if b.length = 2 ∧ c.length = 1 ∧ hfC (a, ((getB b : Nat) : Int), (((c.getD 0 0).toNat : Nat) : Int)) = 0 then some (a, ((getB b : Nat) : Int), (((c.getD 0 0).toNat : Nat) : Int)) else none
  | _ => none
def huR (body : List UInt8) : Option HelloD := (splitR body 0 []).bind h3
def uhC (k : Int) (m : MsgD) : Int := if hkB k then (if faultW m.1 m.2.length = 0 then (if m.1 = k then (if (huR m.2).isSome then 0 else 5) else 1) else faultW m.1 m.2.length) else 3
def uhD (k : Int) (m : MsgD) : HelloResultD := (uhC k m, if uhC k m = 0 then (huR m.2).getD zeroH else zeroH)
def trL (l : List MsgD) : List UInt8 := if psC l = 0 then digestN (packAll l) else []
def fmC (s : List UInt8) (l : List MsgD) : Int := if is32 s then psC l else 1
def fmL (s : List UInt8) (l : List MsgD) : List UInt8 := finN s (digestN (packAll l))
def fmD (s : List UInt8) (l : List MsgD) : MsgResultD := if fmC s l = 0 then (0, 20, fmL s l) else (fmC s l, 0, [])
def cfC (s : List UInt8) (l : List MsgD) (m : MsgD) : Int := if fmC s l = 0 then (if faultW m.1 m.2.length = 0 then (if m.1 = 20 then (if m.2 = fmL s l then 0 else 7) else 1) else faultW m.1 m.2.length) else fmC s l
theorem putB2_get (bs : List UInt8) (h : bs.length = 2) : putB (getB bs) 2 = bs := by
  match bs, h with
  | [a, b], _ =>
    have e : getB [a, b] = a.toNat * 256 + b.toNat := by simp [getB]
    have ha := a.toNat_lt
    have hb := b.toNat_lt
    rw [show putB (getB [a, b]) 2 = [UInt8.ofNat (getB [a, b] / 256 ^ 1 % 256), UInt8.ofNat (getB [a, b] / 256 ^ 0 % 256)] from rfl, e]
    have e1 : (a.toNat * 256 + b.toNat) / 256 ^ 1 % 256 = a.toNat := by omega
    have e2 : (a.toNat * 256 + b.toNat) / 256 ^ 0 % 256 = b.toNat := by omega
    rw [e1, e2, UInt8.ofNat_toNat, UInt8.ofNat_toNat]
theorem hf_parts {h : HelloD} (hc : hfC h = 0) : h.1.length = 8 ∧ 1 ≤ h.2.1 ∧ h.2.1 ≤ 65520 ∧ 0 ≤ h.2.2 ∧ h.2.2 ≤ 9 := by
  unfold hfC at hc
  by_cases h1 : h.1.length = 8
  · rw [if_pos h1] at hc
    by_cases h2 : (inB h.2.1 1 65520 && inB h.2.2 0 9) = true
    · have h3 : (1 ≤ h.2.1 ∧ h.2.1 ≤ 65520) ∧ 0 ≤ h.2.2 ∧ h.2.2 ≤ 9 := by simpa [inB] using h2
      exact ⟨h1, h3.1.1, h3.1.2, h3.2.1, h3.2.2⟩
    · rw [if_neg h2] at hc; exact absurd hc (by decide)
  · rw [if_neg h1] at hc; exact absurd hc (by decide)
theorem hpL_len {h : HelloD} (hc : hfC h = 0) : (hpL h).length = 14 := by
  have h1 := (hf_parts hc).1
  unfold hpL hpB
  rw [blksN_cons, blksN_cons, blksN_one, List.length_append, List.length_append, blkW_len, blkW_len, blkW_len, putB_len, h1]
  rfl
theorem huR_back {body : List UInt8} {h : HelloD} (hu : huR body = some h) : hfC h = 0 ∧ hpL h = body := by
  unfold huR at hu
  cases hs : splitR body 0 [] with
  | none => rw [hs] at hu; cases hu
  | some bl =>
    rw [hs] at hu
    have hb := pack_split body body.length 0 [] bl (by omega) (Nat.zero_le _) rfl (by decide) (fun b hb => by cases hb) hs
    match bl, hu with
    | [a, b, c], hu =>
      have hu2 : h3 [a, b, c] = some h := hu
      unfold h3 at hu2
      simp only at hu2
      by_cases hc : b.length = 2 ∧ c.length = 1 ∧ hfC (a, ((getB b : Nat) : Int), (((c.getD 0 0).toNat : Nat) : Int)) = 0
      · rw [if_pos hc] at hu2
        cases hu2
        refine ⟨hc.2.2, ?_⟩
        have e1 : putB (((getB b : Nat) : Int)).toNat 2 = b := by rw [Int.toNat_natCast]; exact putB2_get b hc.1
        have e2 : [UInt8.ofNat ((((c.getD 0 0).toNat : Nat) : Int)).toNat] = c := by
          rw [Int.toNat_natCast, UInt8.ofNat_toNat]
          match c, hc.2.1 with
          | [x], _ => rfl
        unfold hpL hpB
        simp only
        rw [e1, e2]
        exact hb.1
      · rw [if_neg hc] at hu2; cases hu2
    | [], hu => cases hu
    | [_], hu => cases hu
    | [_, _], hu => cases hu
    | _ :: _ :: _ :: _ :: _, hu => cases hu
def zeroS : SideD := (0, [], 0, [])
def zeroX : SecretsD := ([], [], [], [])
def zeroE : EndD := (zeroS, 0, 0, [], [], zeroX)
def badE (c : Int) : EndResultD := (c, zeroE, [])
def keyW (psk : Int) : Nat := if psk = 0 then 0 else 32
def sfC (s : SideD) : Int := if inB s.1 1 65519 && inB s.2.2.1 0 9 then (if s.2.1.length = 8 ∧ s.2.2.2.length = keyW s.2.2.1 then 0 else 1) else 3
def seB (x : SecretsD) (n : Nat) : Bool := decide (x.1.length = n) && (decide (x.2.1.length = n) && (decide (x.2.2.1.length = n) && decide (x.2.2.2.length = n)))
def wantW (stage : Int) : Nat := if stage = 3 then 32 else 0
def efC (e : EndD) : Int :=
  if sfC e.1 = 0 then (if inB e.2.1 1 3 && inB e.2.2.1 0 2 then (if e.2.2.2.1.length ≤ 4 then (if firstF e.2.2.2.1 = 0 then (if (e.2.2.2.2.1.length = 0 ∨ e.2.2.2.2.1.length = 32) ∧ seB e.2.2.2.2.2 (wantW e.2.1) = true then 0 else 1) else firstF e.2.2.2.1) else 2) else 3) else sfC e.1
def secN (s : SideD) (share mode : Int) : List UInt8 := handN (earlyN (if mode = 2 then s.2.2.2 else [])) (putB (powN share.toNat s.1.toNat) 2)
def digM (l : List MsgD) : List UInt8 := digestN (packAll l)
def finM (secret lab : List UInt8) (l : List MsgD) : MsgD := (20, finN (trafN secret lab (digM (l.take 2))) (digM l))
def sHsB : List UInt8 := [115, 32, 104, 115, 32, 116, 114, 97, 102, 102, 105, 99]
def cHsB : List UInt8 := [99, 32, 104, 115, 32, 116, 114, 97, 102, 102, 105, 99]
theorem sHs_str : (⟨#[115, 32, 104, 115, 32, 116, 114, 97, 102, 102, 105, 99]⟩ : ByteArray) = strB sHsB := rfl
theorem cHs_str : (⟨#[99, 32, 104, 115, 32, 116, 114, 97, 102, 102, 105, 99]⟩ : ByteArray) = strB cHsB := rfl
def secsN (base digest : List UInt8) : SecretsD := (trafN base cApB digest, trafN base sApB digest, trafN base expMB digest, trafN base resMB digest)
def doneE (s : SideD) (mode : Int) (base : List UInt8) (l : List MsgD) : EndD := (s, 3, mode, l, base, secsN base (digM (l.take 3)))
def pskB (h : HelloD) (s : SideD) : Bool := decide (h.2.2 ≠ 0) && decide (h.2.2 = s.2.2.1)
def modeN (h : HelloD) (s : SideD) : Int := if pskB h s then 2 else 1
def smode (h : HelloD) : Int := if h.2.2 = 0 then 1 else 2
def hvS (s : SideD) (h : HelloD) : List UInt8 := secN s h.2.1 (smode h)
def hvK (s : SideD) (a b : MsgD) (h : HelloD) : List UInt8 := trafN (hvS s h) sHsB (digM [a, b])
def hvC2 (s : SideD) (a b c : MsgD) : Int := if uhC 2 b = 0 then (if (uhD 2 b).2.2.2 = 0 ∨ (uhD 2 b).2.2.2 = s.2.2.1 then cfC (hvK s a b (uhD 2 b).2) [a, b] c else 8) else uhC 2 b
def hvF (s : SideD) (a b c : MsgD) : MsgD := finM (hvS s (uhD 2 b).2) cHsB [a, b, c]
def hvE2 (s : SideD) (a b c : MsgD) : EndResultD :=
  if hvC2 s a b c = 0 then (0, doneE s (smode (uhD 2 b).2) (masterN (hvS s (uhD 2 b).2)) [a, b, c, hvF s a b c], [hvF s a b c]) else badE (hvC2 s a b c)
def headM (l : List MsgD) : MsgD := l.headD (0, [])
def hvE (e : EndD) (l : List MsgD) : EndResultD :=
  if efC e = 0 then (if e.2.1 = 1 ∧ e.2.2.2.1.length = 1 then (if l.length = 2 then hvE2 e.1 (headM e.2.2.2.1) (headM l) (headM l.tail) else badE 1) else badE 8) else badE (efC e)
def hnS (e : EndD) (h : HelloD) : List UInt8 := secN e.1 h.2.1 e.2.2.1
def hnK (e : EndD) (a b : MsgD) (h : HelloD) : List UInt8 := trafN (hnS e h) cHsB (digM [a, b])
def hnC2 (e : EndD) (a b c m : MsgD) : Int := if uhC 1 a = 0 then cfC (hnK e a b (uhD 1 a).2) [a, b, c] m else uhC 1 a
def hnE2 (e : EndD) (a b c m : MsgD) : EndResultD :=
  if hnC2 e a b c m = 0 then (0, doneE e.1 e.2.2.1 e.2.2.2.2.1 [a, b, c, m], []) else badE (hnC2 e a b c m)
def hnE (e : EndD) (m : MsgD) : EndResultD :=
  if efC e = 0 then (if e.2.1 = 2 ∧ e.2.2.2.1.length = 3 ∧ e.2.2.2.2.1.length ≠ 0 then hnE2 e (headM e.2.2.2.1) (headM e.2.2.2.1.tail) (headM e.2.2.2.1.tail.tail) m else badE 8) else badE (efC e)
theorem sf_parts {s : SideD} (h : sfC s = 0) : 1 ≤ s.1 ∧ s.1 ≤ 65519 ∧ 0 ≤ s.2.2.1 ∧ s.2.2.1 ≤ 9 ∧ s.2.1.length = 8 ∧ s.2.2.2.length = keyW s.2.2.1 := by
  unfold sfC at h
  by_cases h1 : (inB s.1 1 65519 && inB s.2.2.1 0 9) = true
  · rw [if_pos h1] at h
    by_cases h2 : s.2.1.length = 8 ∧ s.2.2.2.length = keyW s.2.2.1
    · have h3 : (1 ≤ s.1 ∧ s.1 ≤ 65519) ∧ 0 ≤ s.2.2.1 ∧ s.2.2.1 ≤ 9 := by simpa [inB] using h1
      exact ⟨h3.1.1, h3.1.2, h3.2.1, h3.2.2, h2.1, h2.2⟩
    · rw [if_neg h2] at h; exact absurd h (by decide)
  · rw [if_neg h1] at h; exact absurd h (by decide)
theorem faultW_ok {k : Int} {n : Nat} (h0 : 0 ≤ k) (h1 : k ≤ 255) (hn : n ≤ 160) : faultW k n = 0 := by
  rw [faultW, if_pos (by simp [inB, h0, h1]), if_pos hn]
theorem uh_fault {k : Int} {m : MsgD} (h : uhC k m = 0) : hkB k = true ∧ faultW m.1 m.2.length = 0 ∧ m.1 = k ∧ ∃ x, huR m.2 = some x ∧ (uhD k m).2 = x ∧ hfC x = 0 ∧ m.2.length = 14 := by
  have hc := h
  unfold uhC at h
  by_cases h1 : hkB k = true
  · rw [if_pos h1] at h
    by_cases h2 : faultW m.1 m.2.length = 0
    · rw [if_pos h2] at h
      by_cases h3 : m.1 = k
      · rw [if_pos h3] at h
        cases hu : huR m.2 with
        | none => rw [hu] at h; exact absurd h (by decide)
        | some x =>
          have hb := huR_back hu
          refine ⟨h1, h2, h3, x, rfl, ?_, hb.1, ?_⟩
          · rw [uhD, if_pos hc, hu]; rfl
          · rw [← hb.2]; exact hpL_len hb.1
      · rw [if_neg h3] at h; exact absurd h (by decide)
    · rw [if_neg h2] at h; exact absurd h h2
  · rw [if_neg h1] at h; exact absurd h (by decide)
theorem firstF_ok {l : List MsgD} (h : ∀ a ∈ l, faultW a.1 a.2.length = 0) : firstF l = 0 := firstF_zero fun _ _ hb => h _ (List.mem_of_getElem? hb)
theorem packAll_small {l : List MsgD} (h : ∀ a ∈ l, faultW a.1 a.2.length = 0) : (packAll l).length ≤ 164 * l.length := by
  induction l with
  | nil => simp [packAll]
  | cons a l ih =>
    have h1 := (faultW_zero (h a (List.mem_cons_self ..))).2
    have h2 := ih fun b hb => h b (List.mem_cons_of_mem _ hb)
    rw [packAll_cons, List.length_append, packW_len, List.length_cons]
    omega
theorem psC_ok {l : List MsgD} (h : ∀ a ∈ l, faultW a.1 a.2.length = 0) (hl : l.length ≤ 3) : psC l = 0 := by
  have h1 := packAll_small h
  rw [psC, if_pos (by omega), if_pos (firstF_ok h), if_pos (by omega)]
theorem trL_ok {l : List MsgD} (h : psC l = 0) : trL l = digM l := by rw [trL, if_pos h]; rfl
theorem digM_len (l : List MsgD) : (digM l).length = 32 := digestN_len _
theorem secN_len (s : SideD) (a b : Int) : (secN s a b).length = 32 := handN_len _ _
theorem finM_fault (a b : List UInt8) (l : List MsgD) : faultW (finM a b l).1 (finM a b l).2.length = 0 := faultW_ok (by show (0 : Int) ≤ 20; decide) (by show (20 : Int) ≤ 255; decide) (by rw [show (finM a b l).2.length = 32 from finN_len _ _]; decide)
theorem finM_len (a b : List UInt8) (l : List MsgD) : (finM a b l).2.length = 32 := finN_len _ _
theorem cf_fault {sec : List UInt8} {l : List MsgD} {m : MsgD} (h : cfC sec l m = 0) : faultW m.1 m.2.length = 0 ∧ m.1 = 20 := by
  unfold cfC at h
  by_cases h0 : fmC sec l = 0
  · rw [if_pos h0] at h
    by_cases h1 : faultW m.1 m.2.length = 0
    · rw [if_pos h1] at h
      by_cases h2 : m.1 = 20
      · exact ⟨h1, h2⟩
      · rw [if_neg h2] at h; exact absurd h (by decide)
    · rw [if_neg h1] at h; exact absurd h h1
  · rw [if_neg h0] at h; exact absurd h h0
theorem ef_parts {e : EndD} (h : efC e = 0) : sfC e.1 = 0 ∧ (1 ≤ e.2.1 ∧ e.2.1 ≤ 3) ∧ (0 ≤ e.2.2.1 ∧ e.2.2.1 ≤ 2) ∧ e.2.2.2.1.length ≤ 4 ∧ firstF e.2.2.2.1 = 0 ∧ (e.2.2.2.2.1.length = 0 ∨ e.2.2.2.2.1.length = 32) ∧ seB e.2.2.2.2.2 (wantW e.2.1) = true := by
  unfold efC at h
  by_cases h0 : sfC e.1 = 0
  · rw [if_pos h0] at h
    by_cases h1 : (inB e.2.1 1 3 && inB e.2.2.1 0 2) = true
    · rw [if_pos h1] at h
      by_cases h2 : e.2.2.2.1.length ≤ 4
      · rw [if_pos h2] at h
        by_cases h3 : firstF e.2.2.2.1 = 0
        · rw [if_pos h3] at h
          by_cases h4 : (e.2.2.2.2.1.length = 0 ∨ e.2.2.2.2.1.length = 32) ∧ seB e.2.2.2.2.2 (wantW e.2.1) = true
          · have h5 : (1 ≤ e.2.1 ∧ e.2.1 ≤ 3) ∧ 0 ≤ e.2.2.1 ∧ e.2.2.1 ≤ 2 := by simpa [inB] using h1
            exact ⟨h0, h5.1, h5.2, h2, h3, h4.1, h4.2⟩
          · rw [if_neg h4] at h; exact absurd h (by decide)
        · rw [if_neg h3] at h; exact absurd h h3
      · rw [if_neg h2] at h; exact absurd h (by decide)
    · rw [if_neg h1] at h; exact absurd h (by decide)
  · rw [if_neg h0] at h; exact absurd h h0
theorem ef_ok {s : SideD} {st mo : Int} {l : List MsgD} {b : List UInt8} {x : SecretsD} (h0 : sfC s = 0) (h1 : 1 ≤ st ∧ st ≤ 3) (h2 : 0 ≤ mo ∧ mo ≤ 2) (h3 : l.length ≤ 4) (h4 : firstF l = 0) (h5 : b.length = 0 ∨ b.length = 32) (h6 : seB x (wantW st) = true) : efC (s, st, mo, l, b, x) = 0 := by
  unfold efC
  rw [if_pos (show sfC (s, st, mo, l, b, x).1 = 0 from h0), if_pos (show (inB st 1 3 && inB mo 0 2) = true by simp [inB, h1, h2]), if_pos (show l.length ≤ 4 from h3), if_pos (show firstF l = 0 from h4), if_pos (show (b.length = 0 ∨ b.length = 32) ∧ seB x (wantW st) = true from ⟨h5, h6⟩)]
theorem se_secs (b d : List UInt8) : seB (secsN b d) 32 = true := by simp [seB, secsN, trafN_len]
theorem ef_done {s : SideD} {mo : Int} {l : List MsgD} {b : List UInt8} (h0 : sfC s = 0) (h2 : 0 ≤ mo ∧ mo ≤ 2) (h3 : l.length ≤ 4) (h4 : firstF l = 0) (h5 : b.length = 0 ∨ b.length = 32) : efC (doneE s mo b l) = 0 :=
  ef_ok h0 (by decide) h2 h3 h4 h5 (se_secs _ _)
theorem smode_cases (h : HelloD) : smode h = 1 ∨ smode h = 2 := by unfold smode; split <;> simp
theorem hvE_bad {e : EndD} {l : List MsgD} (h : ¬ efC e = 0) : hvE e l = badE (efC e) := by rw [hvE, if_neg h]
theorem hvE_state {e : EndD} {l : List MsgD} (h : efC e = 0) (hs : ¬ (e.2.1 = 1 ∧ e.2.2.2.1.length = 1)) : hvE e l = badE 8 := by rw [hvE, if_pos h, if_neg hs]
theorem hvE_form {e : EndD} {l : List MsgD} (h : efC e = 0) (h1 : e.2.1 = 1) (h2 : e.2.2.2.1.length = 1) (hl : ¬ l.length = 2) : hvE e l = badE 1 := by rw [hvE, if_pos h, if_pos ⟨h1, h2⟩, if_neg hl]
theorem hvE_go {e : EndD} {a b c : MsgD} (h : efC e = 0) (h1 : e.2.1 = 1) (h2 : e.2.2.2.1 = [a]) : hvE e [b, c] = hvE2 e.1 a b c := by
  rw [hvE, if_pos h, if_pos ⟨h1, by rw [h2]; rfl⟩, if_pos (show [b, c].length = 2 from rfl), h2]
  rfl
theorem hnE_bad {e : EndD} {m : MsgD} (h : ¬ efC e = 0) : hnE e m = badE (efC e) := by rw [hnE, if_neg h]
theorem hnE_state {e : EndD} {m : MsgD} (h : efC e = 0) (hs : ¬ (e.2.1 = 2 ∧ e.2.2.2.1.length = 3 ∧ e.2.2.2.2.1.length ≠ 0)) : hnE e m = badE 8 := by rw [hnE, if_pos h, if_neg hs]
theorem hnE_go {e : EndD} {a b c m : MsgD} (h : efC e = 0) (h1 : e.2.1 = 2) (h2 : e.2.2.2.1 = [a, b, c]) (h3 : e.2.2.2.2.1.length ≠ 0) : hnE e m = hnE2 e a b c m := by
  rw [hnE, if_pos h, if_pos ⟨h1, by rw [h2]; rfl, h3⟩, h2]
  rfl
theorem three_of {l : List MsgD} (h : l.length = 3) : ∃ a b c, l = [a, b, c] := by
  match l, h with
  | [a, b, c], _ => exact ⟨a, b, c, rfl⟩
theorem hvE2_ok {s : SideD} {a b c : MsgD} (h : hvC2 s a b c = 0) : hvE2 s a b c = (0, doneE s (smode (uhD 2 b).2) (masterN (hvS s (uhD 2 b).2)) [a, b, c, hvF s a b c], [hvF s a b c]) := by rw [hvE2, if_pos h]
theorem hvE2_bad {s : SideD} {a b c : MsgD} (h : ¬ hvC2 s a b c = 0) : hvE2 s a b c = badE (hvC2 s a b c) := by rw [hvE2, if_neg h]
theorem hnE2_ok {e : EndD} {a b c m : MsgD} (h : hnC2 e a b c m = 0) : hnE2 e a b c m = (0, doneE e.1 e.2.2.1 e.2.2.2.2.1 [a, b, c, m], []) := by rw [hnE2, if_pos h]
theorem hnE2_bad {e : EndD} {a b c m : MsgD} (h : ¬ hnC2 e a b c m = 0) : hnE2 e a b c m = badE (hnC2 e a b c m) := by rw [hnE2, if_neg h]
theorem hv_parts {s : SideD} {a b c : MsgD} (h : hvC2 s a b c = 0) : uhC 2 b = 0 ∧ ((uhD 2 b).2.2.2 = 0 ∨ (uhD 2 b).2.2.2 = s.2.2.1) ∧ cfC (hvK s a b (uhD 2 b).2) [a, b] c = 0 := by
  unfold hvC2 at h
  by_cases h1 : uhC 2 b = 0
  · rw [if_pos h1] at h
    by_cases h2 : (uhD 2 b).2.2.2 = 0 ∨ (uhD 2 b).2.2.2 = s.2.2.1
    · rw [if_pos h2] at h; exact ⟨h1, h2, h⟩
    · rw [if_neg h2] at h; exact absurd h (by decide)
  · rw [if_neg h1] at h; exact absurd h h1
theorem hn_parts {e : EndD} {a b c m : MsgD} (h : hnC2 e a b c m = 0) : uhC 1 a = 0 ∧ cfC (hnK e a b (uhD 1 a).2) [a, b, c] m = 0 := by
  unfold hnC2 at h
  by_cases h1 : uhC 1 a = 0
  · rw [if_pos h1] at h; exact ⟨h1, h⟩
  · rw [if_neg h1] at h; exact absurd h h1
theorem hvE_zero {e : EndD} {l : List MsgD} (h : (hvE e l).1 = 0) : ∃ a b c, efC e = 0 ∧ e.2.1 = 1 ∧ e.2.2.2.1 = [a] ∧ l = [b, c] ∧ hvC2 e.1 a b c = 0 ∧ hvE e l = (0, doneE e.1 (smode (uhD 2 b).2) (masterN (hvS e.1 (uhD 2 b).2)) [a, b, c, hvF e.1 a b c], [hvF e.1 a b c]) := by
  by_cases h0 : efC e = 0
  · by_cases h1 : e.2.1 = 1 ∧ e.2.2.2.1.length = 1
    · by_cases h2 : l.length = 2
      · obtain ⟨a, ha⟩ := List.length_eq_one_iff.1 h1.2
        match l, h2 with
        | [b, c], _ =>
          have hg := hvE_go (b := b) (c := c) h0 h1.1 ha
          by_cases h3 : hvC2 e.1 a b c = 0
          · exact ⟨a, b, c, h0, h1.1, ha, rfl, h3, by rw [hg, hvE2_ok h3]⟩
          · rw [hg, hvE2_bad h3] at h; exact absurd h h3
      · rw [hvE_form h0 h1.1 h1.2 h2] at h; exact absurd h (by decide)
    · rw [hvE_state h0 h1] at h; exact absurd h (by decide)
  · rw [hvE_bad h0] at h; exact absurd h h0
theorem hnE_zero {e : EndD} {m : MsgD} (h : (hnE e m).1 = 0) : ∃ a b c, efC e = 0 ∧ e.2.1 = 2 ∧ e.2.2.2.1 = [a, b, c] ∧ e.2.2.2.2.1.length ≠ 0 ∧ hnC2 e a b c m = 0 ∧ hnE e m = (0, doneE e.1 e.2.2.1 e.2.2.2.2.1 [a, b, c, m], []) := by
  by_cases h0 : efC e = 0
  · by_cases h1 : e.2.1 = 2 ∧ e.2.2.2.1.length = 3 ∧ e.2.2.2.2.1.length ≠ 0
    · obtain ⟨a, b, c, ha⟩ := three_of h1.2.1
      have hg := hnE_go (m := m) h0 h1.1 ha h1.2.2
      by_cases h3 : hnC2 e a b c m = 0
      · exact ⟨a, b, c, h0, h1.1, ha, h1.2.2, h3, by rw [hg, hnE2_ok h3]⟩
      · rw [hg, hnE2_bad h3] at h; exact absurd h h3
    · rw [hnE_state h0 h1] at h; exact absurd h (by decide)
  · rw [hnE_bad h0] at h; exact absurd h h0
theorem hvE_end {e : EndD} {l : List MsgD} (h : (hvE e l).1 = 0) : efC (hvE e l).2.1 = 0 := by
  obtain ⟨a, b, c, h0, -, h2, rfl, h4, h5⟩ := hvE_zero h
  obtain ⟨p1, -, p3⟩ := hv_parts h4
  have hp := ef_parts h0
  have hf : ∀ x ∈ e.2.2.2.1, faultW x.1 x.2.length = 0 := firstF_all hp.2.2.2.2.1
  rw [h5]
  refine ef_done hp.1 (by rcases smode_cases (uhD 2 b).2 with h | h <;> rw [h] <;> decide) (by simp) (firstF_ok fun x hx => ?_) (.inr (masterN_len _))
  simp only [List.mem_cons, List.not_mem_nil, or_false] at hx
  rcases hx with rfl | rfl | rfl | rfl
  · exact hf x (by rw [h2]; exact List.mem_singleton.2 rfl)
  · exact (uh_fault p1).2.1
  · exact (cf_fault p3).1
  · exact finM_fault _ _ _
theorem hnE_end {e : EndD} {m : MsgD} (h : (hnE e m).1 = 0) : efC (hnE e m).2.1 = 0 := by
  obtain ⟨a, b, c, h0, -, h2, h3, h4, h5⟩ := hnE_zero h
  obtain ⟨p1, p3⟩ := hn_parts h4
  have hp := ef_parts h0
  have hf : ∀ x ∈ e.2.2.2.1, faultW x.1 x.2.length = 0 := firstF_all hp.2.2.2.2.1
  rw [h2] at hf
  rw [h5]
  refine ef_done hp.1 hp.2.2.1 (by simp) (firstF_ok fun x hx => ?_) hp.2.2.2.2.2.1
  simp only [List.mem_cons, List.not_mem_nil, or_false] at hx
  rcases hx with rfl | rfl | rfl | rfl
  · exact hf x (by simp)
  · exact hf x (by simp)
  · exact hf x (by simp)
  · exact (cf_fault p3).1
theorem bulk_small {l : List MsgD} (h : ∀ a ∈ l, faultW a.1 a.2.length = 0) : bulkM l ≤ 161 * l.length := by
  induction l with
  | nil => simp [bulkM]
  | cons a l ih =>
    have h1 := (faultW_zero (h a (List.mem_cons_self ..))).2
    have h2 := ih fun b hb => h b (List.mem_cons_of_mem _ hb)
    rw [bulkM_cons, List.length_cons]
    omega
theorem end_small {e : EndD} (h : efC e = 0) : endT e ≤ 1000 := by
  have hp := ef_parts h
  have h1 := sf_parts hp.1
  have h2 := bulk_small (firstF_all hp.2.2.2.2.1)
  have h3 : e.1.2.2.2.length ≤ 32 := by rw [h1.2.2.2.2.2]; unfold keyW; split <;> decide
  have h4 : e.2.2.2.2.1.length ≤ 32 := by rcases hp.2.2.2.2.2.1 with h | h <;> omega
  have h5 : secretsT e.2.2.2.2.2 ≤ 128 := by
    have hs := hp.2.2.2.2.2.2
    have hw : wantW e.2.1 ≤ 32 := by unfold wantW; split <;> decide
    simp only [seB, Bool.and_eq_true, decide_eq_true_eq] at hs
    unfold secretsT
    omega
  have h6 := hp.2.2.2.1
  unfold endT sideT
  omega
theorem badE_T (c : Int) : endResultT (badE c) = 0 := rfl
theorem endR_small {r : EndResultD} (h : efC r.2.1 = 0) (h2 : bulkM r.2.2 ≤ 1000) : endResultT r ≤ 1048576 := by
  have := end_small h
  unfold endResultT
  omega
theorem hvE_cases (e : EndD) (l : List MsgD) : (hvE e l).1 = 0 ∨ ∃ c, hvE e l = badE c := by
  unfold hvE
  split
  · split
    · split
      · unfold hvE2
        split
        · exact .inl rfl
        · exact .inr ⟨_, rfl⟩
      · exact .inr ⟨_, rfl⟩
    · exact .inr ⟨_, rfl⟩
  · exact .inr ⟨_, rfl⟩
theorem hnE_cases (e : EndD) (m : MsgD) : (hnE e m).1 = 0 ∨ ∃ c, hnE e m = badE c := by
  unfold hnE
  split
  · split
    · unfold hnE2
      split
      · exact .inl rfl
      · exact .inr ⟨_, rfl⟩
    · exact .inr ⟨_, rfl⟩
  · exact .inr ⟨_, rfl⟩
theorem hvE_small (e : EndD) (l : List MsgD) : endResultT (hvE e l) ≤ 1048576 := by
  rcases hvE_cases e l with h | ⟨c, h⟩
  · refine endR_small (hvE_end h) ?_
    obtain ⟨a, b, c, -, -, -, -, -, h5⟩ := hvE_zero h
    rw [h5]
    have hb : bulkM [hvF e.1 a b c] ≤ 161 * 1 := bulk_small fun x hx => by rw [List.mem_singleton.1 hx]; exact finM_fault _ _ _
    show bulkM [hvF e.1 a b c] ≤ _
    omega
  · rw [h, badE_T]; exact Nat.zero_le _
theorem hnE_small (e : EndD) (m : MsgD) : endResultT (hnE e m) ≤ 1048576 := by
  rcases hnE_cases e m with h | ⟨c, h⟩
  · refine endR_small (hnE_end h) ?_
    obtain ⟨a, b, c, -, -, -, -, -, h5⟩ := hnE_zero h
    rw [h5]
    exact Nat.zero_le _
  · rw [h, badE_T]; exact Nat.zero_le _
end Go.Proofs.YtiabacnmmojfjabGreatDoor
