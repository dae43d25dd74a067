import Derived.Test.YtiabacnmmojfjabGreatDoorShkN
namespace Go.Proofs.YtiabacnmmojfjabGreatDoor
open Go.RowKit
theorem hello_share {k : Int} {m : MsgD} (hu : uhC k m = 0) : 1 ≤ (uhD k m).2.2.1 ∧ (uhD k m).2.2.1 ≤ 65520 := by
 obtain ⟨-, -, -, y, -, huy, huc, -⟩ := uh_fault hu
 rw [huy]
 obtain ⟨-, h1, h2, -, -⟩ := hf_parts huc
 exact ⟨h1, h2⟩
def hvT0 (e : EndD) (l : List MsgD) : ShkD := ⟨e, l, [], ([], 0, 0), []⟩
def hvT1 (e : EndD) (l : List MsgD) : ShkD := keptD { hvT0 e l with other := (uhD 2 (headM l)).2 } (headM l)
def hvT2 (e : EndD) (l : List MsgD) : ShkD := { hvT1 e l with e := eMo (hvT1 e l).e (modeN (hvT1 e l).other (hvT1 e l).e.1) }
def hvT3 (e : EndD) (l : List MsgD) : ShkD := { hvT2 e l with secret := secN (hvT2 e l).e.1 (hvT2 e l).other.2.1 (hvT2 e l).e.2.2.1 }
def hvT4 (e : EndD) (l : List MsgD) : ShkD := { hvT3 e l with e := eBa (hvT3 e l).e (masterN (hvT3 e l).secret) }
def hvT5 (e : EndD) (l : List MsgD) : ShkD := keptD (hvT4 e l) (headM l.tail)
def hvT6 (e : EndD) (l : List MsgD) : ShkD := saidD (hvT5 e l) (finM (hvT5 e l).secret cHsB (hvT5 e l).e.2.2.2.1)
def hvT7 (e : EndD) (l : List MsgD) : ShkD := { hvT6 e l with e := eSt (eSe (hvT6 e l).e (secsN (hvT6 e l).e.2.2.2.2.1 (digM ((hvT6 e l).e.2.2.2.1.take 3)))) 3 }
theorem mode_is {h : HelloD} {s : SideD} (hk : h.2.2 = 0 ∨ h.2.2 = s.2.2.1) : modeN h s = smode h := by
 unfold modeN smode pskB
 by_cases h0 : h.2.2 = 0
 ·simp [h0]
 ·rcases hk with h1 | h1
  ·exact absurd h1 h0
  ·simp only [h0, if_false]
   rw [if_pos]
   simp [h1]
   intro e
   exact h0 (h1.trans e)
theorem hv_end {e : EndD} {l : List MsgD} {a b c : MsgD} (he : efC e = 0) (hst : e.2.1 = 1) (hl : e.2.2.2.1 = [a]) (hm : l = [b, c]) (hu : uhC 2 b = 0) (hk : (uhD 2 b).2.2.2 = 0 ∨ (uhD 2 b).2.2.2 = e.1.2.2.1) (hf : cfC (finK (hvT4 e l) sHsB) (hvT4 e l).e.2.2.2.1 c = 0) :
  hvE e l = (0, (hvT7 e l).e, (hvT7 e l).send) := by
 subst hm
 obtain ⟨s, st, mo, ms, base, x⟩ := e
 simp only at hl hst hk
 subst hl hst
 have hmode : modeN (uhD 2 b).2 s = smode (uhD 2 b).2 := mode_is hk
 have hf2 : cfC (hvK s a b (uhD 2 b).2) [a, b] c = 0 := by
  have h : cfC (trafN (secN s (uhD 2 b).2.2.1 (modeN (uhD 2 b).2 s)) sHsB (digM [a, b])) [a, b] c = 0 := hf
  rw [hmode] at h
  exact h
 have hc : hvC2 s a b c = 0 := by rw [hvC2, if_pos hu, if_pos hk]; exact hf2
 rw [hvE_go (a := a) he rfl rfl, hvE2_ok hc, hvF, hvS, ← hmode]
 rfl
theorem hv_fin {e : EndD} {l : List MsgD} {a b c : MsgD} (he : efC e = 0) (hst : e.2.1 = 1) (hl : e.2.2.2.1 = [a]) (hm : l = [b, c]) (hu : uhC 2 b = 0) (hk : (uhD 2 b).2.2.2 = 0 ∨ (uhD 2 b).2.2.2 = e.1.2.2.1) {k : Int} (hf : cfC (finK (hvT4 e l) sHsB) (hvT4 e l).e.2.2.2.1 c = k) (hk0 : k ≠ 0) :
  hvE e l = badE k := by
 subst hm
 obtain ⟨s, st, mo, ms, base, x⟩ := e
 simp only at hl hst hk
 subst hl hst
 have hmode : modeN (uhD 2 b).2 s = smode (uhD 2 b).2 := mode_is hk
 have hf2 : cfC (hvK s a b (uhD 2 b).2) [a, b] c = k := by
  have h : cfC (trafN (secN s (uhD 2 b).2.2.1 (modeN (uhD 2 b).2 s)) sHsB (digM [a, b])) [a, b] c = k := hf
  rw [hmode] at h
  exact h
 have hc : hvC2 s a b c = k := by rw [hvC2, if_pos hu, if_pos hk]; exact hf2
 rw [hvE_go (a := a) he rfl rfl, hvE2_bad (by rw [hc]; exact hk0), hc]
theorem hv_uh {e : EndD} {l : List MsgD} {a b c : MsgD} (he : efC e = 0) (hst : e.2.1 = 1) (hl : e.2.2.2.1 = [a]) (hm : l = [b, c]) {k : Int} (hu : uhC 2 b = k) (hk0 : k ≠ 0) : hvE e l = badE k := by
 subst hm
 have hc : hvC2 e.1 a b c = k := by rw [hvC2, if_neg (by rw [hu]; exact hk0), hu]
 rw [hvE_go (a := a) he hst hl, hvE2_bad (by rw [hc]; exact hk0), hc]
theorem hv_key {e : EndD} {l : List MsgD} {a b c : MsgD} (he : efC e = 0) (hst : e.2.1 = 1) (hl : e.2.2.2.1 = [a]) (hm : l = [b, c]) (hu : uhC 2 b = 0) (hk : ¬ ((uhD 2 b).2.2.2 = 0 ∨ (uhD 2 b).2.2.2 = e.1.2.2.1)) : hvE e l = badE 8 := by
 subst hm
 have hc : hvC2 e.1 a b c = 8 := by rw [hvC2, if_pos hu, if_neg hk]
 rw [hvE_go (a := a) he hst hl, hvE2_bad (by rw [hc]; decide), hc]
def hnT0 (e : EndD) (m : MsgD) : ShkD := ⟨e, [m], [], ([], 0, 0), []⟩
def hnT1 (e : EndD) (m : MsgD) : ShkD := { hnT0 e m with other := (uhD 1 (headM e.2.2.2.1)).2 }
def hnT2 (e : EndD) (m : MsgD) : ShkD := { hnT1 e m with secret := secN (hnT1 e m).e.1 (hnT1 e m).other.2.1 (hnT1 e m).e.2.2.1 }
def hnT3 (e : EndD) (m : MsgD) : ShkD := keptD (hnT2 e m) m
def hnT4 (e : EndD) (m : MsgD) : ShkD := { hnT3 e m with e := eSt (eSe (hnT3 e m).e (secsN (hnT3 e m).e.2.2.2.2.1 (digM ((hnT3 e m).e.2.2.2.1.take 3)))) 3 }
theorem hn_end {e : EndD} {m a b c : MsgD} (he : efC e = 0) (hst : e.2.1 = 2) (hl : e.2.2.2.1 = [a, b, c]) (hb : e.2.2.2.2.1.length ≠ 0) (hu : uhC 1 a = 0) (hf : cfC (finK (hnT2 e m) cHsB) (hnT2 e m).e.2.2.2.1 m = 0) :
  hnE e m = (0, (hnT4 e m).e, (hnT4 e m).send) := by
 obtain ⟨s, st, mo, ms, base, x⟩ := e
 simp only at hl hst hb
 subst hl hst
 have hc : hnC2 (s, 2, mo, [a, b, c], base, x) a b c m = 0 := by rw [hnC2, if_pos hu]; exact hf
 rw [hnE_go (a := a) (b := b) (c := c) he rfl rfl hb, hnE2_ok hc]
 rfl
theorem hn_fin {e : EndD} {m a b c : MsgD} (he : efC e = 0) (hst : e.2.1 = 2) (hl : e.2.2.2.1 = [a, b, c]) (hb : e.2.2.2.2.1.length ≠ 0) (hu : uhC 1 a = 0) {k : Int} (hf : cfC (finK (hnT2 e m) cHsB) (hnT2 e m).e.2.2.2.1 m = k) (hk0 : k ≠ 0) :
  hnE e m = badE k := by
 obtain ⟨s, st, mo, ms, base, x⟩ := e
 simp only at hl hst hb
 subst hl hst
 have hc : hnC2 (s, 2, mo, [a, b, c], base, x) a b c m = k := by rw [hnC2, if_pos hu]; exact hf
 rw [hnE_go (a := a) (b := b) (c := c) he rfl rfl hb, hnE2_bad (by rw [hc]; exact hk0), hc]
theorem hn_uh {e : EndD} {m a b c : MsgD} (he : efC e = 0) (hst : e.2.1 = 2) (hl : e.2.2.2.1 = [a, b, c]) (hb : e.2.2.2.2.1.length ≠ 0) {k : Int} (hu : uhC 1 a = k) (hk0 : k ≠ 0) : hnE e m = badE k := by
 have hc : hnC2 e a b c m = k := by rw [hnC2, if_neg (by rw [hu]; exact hk0), hu]
 rw [hnE_go (a := a) (b := b) (c := c) he hst hl hb, hnE2_bad (by rw [hc]; exact hk0), hc]
theorem two_ofP {l : List MsgD} (h : l.length = 2) : ∃ a b, l = [a, b] := by
 match l, h with
 | [a, b], _ => exact ⟨a, b, rfl⟩
theorem hv_ps2 {e : EndD} {a b : MsgD} (he : efC e = 0) (hl : e.2.2.2.1 = [a]) (hu : uhC 2 b = 0) : psC [a, b] = 0 := by
 have hf := firstF_all (ef_parts he).2.2.2.2.1
 rw [hl] at hf
 refine psC_ok (fun x hx => ?_) (by simp)
 simp only [List.mem_cons, List.not_mem_nil, or_false] at hx
 rcases hx with rfl | rfl
 ·exact hf _ (by simp)
 ·exact (uh_fault hu).2.1
theorem hv_ps3 {e : EndD} {a b c : MsgD} (he : efC e = 0) (hl : e.2.2.2.1 = [a]) (hu : uhC 2 b = 0) (hc : faultW c.1 c.2.length = 0) : psC [a, b, c] = 0 := by
 have hf := firstF_all (ef_parts he).2.2.2.2.1
 rw [hl] at hf
 refine psC_ok (fun x hx => ?_) (by simp)
 simp only [List.mem_cons, List.not_mem_nil, or_false] at hx
 rcases hx with rfl | rfl | rfl
 ·exact hf _ (by simp)
 ·exact (uh_fault hu).2.1
 ·exact hc
theorem hn_ps2 {e : EndD} {a b c : MsgD} (he : efC e = 0) (hl : e.2.2.2.1 = [a, b, c]) : psC [a, b] = 0 := by
 have hf := firstF_all (ef_parts he).2.2.2.2.1
 rw [hl] at hf
 exact psC_ok (fun x hx => hf x (by simp only [List.mem_cons, List.not_mem_nil, or_false] at hx ⊢; rcases hx with h | h <;> simp [h])) (by simp)
theorem hn_ps3 {e : EndD} {a b c : MsgD} (he : efC e = 0) (hl : e.2.2.2.1 = [a, b, c]) : psC [a, b, c] = 0 := by
 have hf := firstF_all (ef_parts he).2.2.2.2.1
 rw [hl] at hf
 exact psC_ok hf (by simp)
end Go.Proofs.YtiabacnmmojfjabGreatDoor
