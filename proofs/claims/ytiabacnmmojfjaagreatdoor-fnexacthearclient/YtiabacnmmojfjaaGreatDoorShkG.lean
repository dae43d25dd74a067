/- The ways of the handshake in the program as plain functions, step by step, and that they come to what chapter 11 says. No program in it. -/
import Derived.Test.YtiabacnmmojfjaaGreatDoorShkN
namespace Go.Proofs.YtiabacnmmojfjaaGreatDoor
open Go.RowKit
def hcT0 (s : SideD) (m : MsgD) : ShkD := ⟨(s, 0, 0, [], [], zeroX), [m], [], ([], 0, 0), []⟩
def hcT1 (s : SideD) (m : MsgD) : ShkD := keptD { hcT0 s m with other := (uhD 1 m).2 } m
def hcT2 (s : SideD) (m : MsgD) : ShkD := { hcT1 s m with e := eMo (hcT1 s m).e (modeN (hcT1 s m).other (hcT1 s m).e.1) }
def hcT3 (s : SideD) (m : MsgD) : ShkD := saidD (hcT2 s m) (helM (hcT2 s m).e.1 2 (if (hcT2 s m).e.2.2.1 = 2 then (hcT2 s m).e.1.2.2.1 else 0))
def hcT4 (s : SideD) (m : MsgD) : ShkD := { hcT3 s m with secret := secN (hcT3 s m).e.1 (hcT3 s m).other.2.1 (hcT3 s m).e.2.2.1 }
def hcT5 (s : SideD) (m : MsgD) : ShkD := { hcT4 s m with e := eBa (hcT4 s m).e (masterN (hcT4 s m).secret) }
def hcT6 (s : SideD) (m : MsgD) : ShkD := { saidD (hcT5 s m) (finM (hcT5 s m).secret sHsB (hcT5 s m).e.2.2.2.1) with e := eSt (saidD (hcT5 s m) (finM (hcT5 s m).secret sHsB (hcT5 s m).e.2.2.2.1)).e 2 }
theorem psk_if (h : HelloD) (s : SideD) : (if modeN h s = 2 then s.2.2.1 else 0) = pskN2 h s := by
  unfold modeN pskN2
  cases pskB h s <;> simp
theorem hc_msgs (s : SideD) (m : MsgD) : (hcT5 s m).e.2.2.2.1 = [m, helM s 2 (pskN2 (uhD 1 m).2 s)] := by
  show [m, helM s 2 (if modeN (uhD 1 m).2 s = 2 then s.2.2.1 else 0)] = _
  rw [psk_if]
theorem hc_end {s : SideD} {m : MsgD} (hc : hcC s m = 0) : hcE s m = (0, (hcT6 s m).e, (hcT6 s m).send) := by
  have e1 : helM s 2 (if modeN (uhD 1 m).2 s = 2 then s.2.2.1 else 0) = helM s 2 (pskN2 (uhD 1 m).2 s) := by rw [psk_if]
  rw [hcE_ok hc, hcF, hcS, ← e1]
  rfl
theorem hc_ps {s : SideD} {m : MsgD} (hs : sfC s = 0) (hu : uhC 1 m = 0) : psC (hcT5 s m).e.2.2.2.1 = 0 := by
  have hp := pskN2_ok (h := (uhD 1 m).2) hs
  rw [hc_msgs]
  refine psC_ok (fun a ha => ?_) (by simp)
  simp only [List.mem_cons, List.not_mem_nil, or_false] at ha
  rcases ha with rfl | rfl
  · exact (uh_fault hu).2.1
  · exact helM_fault hs hp.1 hp.2 (.inr rfl)
theorem hello_share {k : Int} {m : MsgD} (hu : uhC k m = 0) : 1 ≤ (uhD k m).2.2.1 ∧ (uhD k m).2.2.1 ≤ 65520 := by
  obtain ⟨-, -, -, y, -, huy, huc, -⟩ := uh_fault hu
  rw [huy]
  obtain ⟨-, h1, h2, -, -⟩ := hf_parts huc
  exact ⟨h1, h2⟩
end Go.Proofs.YtiabacnmmojfjaaGreatDoor
