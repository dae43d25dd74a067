/- The contract of lwBig: codes of more than 1048576 bytes are passed by. -/
import Derived.Test.YtdbpnibcblelbaaGreatDoorRows
import Derived.Test.YtdbpnibcblelbaaGreatDoorJoint1
import Derived.ProofKit
import Derived.OpenShut
import Derived.Deep.QuietTactic
import Derived.BigQuiet
import Derived.Test.YtdbpnibcblelbaaGreatDoorJoint2
import Derived.Test.YtdbpnibcblelbaaGreatDoorJoint3
namespace Go.Proofs.YtdbpnibcblelbaaGreatDoor
open Go.ChangeShapes Go.WideShapes Go.ChangeAt Go.RowKit
set_option maxRecDepth 4000 in
set_option maxHeartbeats 400000 in
theorem lwBig_yes (a : Option Addr) (n cap : Nat) (w : World) (h : 1048576 < n) :
    Calls Tryz.prog 7 #[.slice a n cap] w fun e w' => e = .returned (.bool true) ∧ w' = w := by
  have h' : (1048576 : Int) < (n : Int) := by omega
  go_enter Tryz.func7, Tryz.ntmps7
  go_wp2
  go_ret
  exact ⟨rfl, rfl⟩
set_option maxRecDepth 4000 in
set_option maxHeartbeats 400000 in
theorem lwBig_no (a : Option Addr) (n cap : Nat) (w : World) (h : n ≤ 1048576) :
    Calls Tryz.prog 7 #[.slice a n cap] w fun e w' => e = .returned (.bool false) ∧ w' = w := by
  have h' : (n : Int) ≤ 1048576 := by omega
  go_enter Tryz.func7, Tryz.ntmps7
  go_wp2
  go_ret
  refine ⟨?_, rfl⟩
  show Ending.returned (.bool (decide _)) = _
  rw [decide_eq_false (by omega)]
end Go.Proofs.YtdbpnibcblelbaaGreatDoor
/- The contracts of the laws' own helpers on bytes: toByteS copies what it reads into a row of its own; eqByteS answers true at equal bytes. For at most 1048576 bytes. -/
namespace Go.Proofs.YtdbpnibcblelbaaGreatDoor
open Go.ChangeShapes Go.WideShapes Go.ChangeAt Go.RowKit
theorem info8 : (Tryz.prog.info? 5).map (fun i => (i.zero, i.size, i.bytes)) = some (some (.int .u8 0), 1, 1) := by kernel_rfl
end Go.Proofs.YtdbpnibcblelbaaGreatDoor
/- The contracts of the laws' own helpers on whole numbers: toInt64S copies what it reads into a row of its own; eqInt64S answers true at equal numbers; markInt64S, heldInt64S; the same on IntsResult. For at most 1048576 numbers. -/
namespace Go.Proofs.YtdbpnibcblelbaaGreatDoor
open Go.ChangeShapes Go.WideShapes Go.ChangeAt Go.RowKit
end Go.Proofs.YtdbpnibcblelbaaGreatDoor
/- The contracts of BytesWord and of what it calls, in the specification and in the program: both answer gwCode and gwVal, at every argument. -/
namespace Go.Proofs.YtdbpnibcblelbaaGreatDoor
open Go.ChangeShapes Go.WideShapes Go.ChangeAt Go.RowKit
def gwCode (bs : List UInt8) : Int := if bs.length = 4 then 0 else 1
def gwVal (bs : List UInt8) : Int := if bs.length = 4 then (getB bs : Nat) else 0
end Go.Proofs.YtdbpnibcblelbaaGreatDoor
/- The contracts of WordBytes and BytesWord and of what they call, in the specification and in the program: both answer the same, at every argument. -/
namespace Go.Proofs.YtdbpnibcblelbaaGreatDoor
open Go.ChangeShapes Go.WideShapes Go.ChangeAt Go.RowKit
theorem Own_nil (w : World) (B : Nat) : Own w B (.slice none 0 0) [] := World.ownsRow_nil _ _ _ _
end Go.Proofs.YtdbpnibcblelbaaGreatDoor
/- The contracts of the laws' helpers on BytesResult: eqBytesResult answers true at equal answers; markBytesResult lays marks into the answer's own row; heldBytesResult finds them. For at most 1048576 bytes. -/
namespace Go.Proofs.YtdbpnibcblelbaaGreatDoor
open Go.ChangeShapes Go.WideShapes Go.ChangeAt Go.RowKit
end Go.Proofs.YtdbpnibcblelbaaGreatDoor
/- The contracts of SameBytes and of what it calls, in the specification and in the program: both answer whether the two slices hold the same bytes. -/
namespace Go.Proofs.YtdbpnibcblelbaaGreatDoor
open Go.ChangeShapes Go.WideShapes Go.ChangeAt Go.RowKit
def sameB (a b : List UInt8) : Bool := a == b
set_option maxRecDepth 4000 in
set_option maxHeartbeats 1000000 in
theorem bytesEqual_c (a b : Option Addr) (ca cb : Nat) (xs bs : List UInt8) (w : World) (hra : Rd w a ca xs) (hrb : Rd w b cb bs) :
    Calls Tryz.prog 198 #[.slice a xs.length ca, .slice b bs.length cb] w fun e w' => e = .returned (.bool (sameB xs bs)) ∧ w' = w := by
  have e1 := run_str (P := Tryz.prog) hra (src := 22) (dst := 9) (e := 5) Tryz.underlying22 Tryz.underlying5 Tryz.underlying9
  have e2 := run_str (P := Tryz.prog) hrb (src := 22) (dst := 9) (e := 5) Tryz.underlying22 Tryz.underlying5 Tryz.underlying9
  go_enter Tryz.func198, Tryz.ntmps198
  go_wp2
  go_ret
  rw [strB_list, strB_list]
  exact ⟨rfl, rfl⟩
set_option maxRecDepth 4000 in
set_option maxHeartbeats 1000000 in
theorem implSame_c (a b : Option Addr) (ca cb : Nat) (xs bs : List UInt8) (w : World) (hra : Rd w a ca xs) (hrb : Rd w b cb bs) :
    Calls Tryz.prog 139 #[.slice a xs.length ca, .slice b bs.length cb] w fun e w' => e = .returned (.bool (sameB xs bs)) ∧ Below w.heap.size w w' := by
  go_enter Tryz.func139, Tryz.ntmps139
  go_wp2_with fail
  refine (bytesEqual_c a b ca cb xs bs _ hra hrb).mono ?_
  rintro e w1 ⟨rfl, rfl⟩
  go_wp2
  go_ret
  exact ⟨rfl, Below.refl _ _⟩
end Go.Proofs.YtdbpnibcblelbaaGreatDoor
/- The contracts of chapter 8's functions in the specification, at every argument: code and number, or bytes. -/
namespace Go.Proofs.YtdbpnibcblelbaaGreatDoor
open Go.ChangeShapes Go.WideShapes Go.ChangeAt Go.RowKit
def poC (b e : Int) : Int := if inB b 1 65520 && inB e 0 65521 then 0 else 3
def poV (b e : Int) : Int := if poC b e = 0 then (powN b.toNat e.toNat : Nat) else 0
def shC (s : Int) : Int := if inB s 1 65519 then 0 else 3
def shV (s : Int) : Int := if shC s = 0 then (powN 17 s.toNat : Nat) else 0
def sdC (s b : Int) : Int := if inB s 1 65519 && inB b 1 65520 then 0 else 3
def sdV (s b : Int) : Int := if sdC s b = 0 then (powN b.toNat s.toNat : Nat) else 0
def shbC (v : Int) : Int := if inB v 1 65520 then 0 else 3
def shbL (v : Int) : List UInt8 := if shbC v = 0 then putB v.toNat 2 else []
def bsC (d : List UInt8) : Int := if d.length = 2 then (if inB (getB d : Nat) 1 65520 then 0 else 3) else 5
def bsV (d : List UInt8) : Int := if bsC d = 0 then (getB d : Nat) else 0
theorem nat_of_in {v lo hi : Int} (h : inB v lo hi = true) (hl : 0 ≤ lo) : ∃ n : Nat, v = n ∧ lo ≤ n ∧ (n : Int) ≤ hi := by
  have h2 : lo ≤ v ∧ v ≤ hi := by simpa [inB] using h
  exact ⟨v.toNat, by omega, by omega, by omega⟩
end Go.Proofs.YtdbpnibcblelbaaGreatDoor
/- The contracts of the draws: they answer numbers within their bounds, and move the source's count on. -/
namespace Go.Proofs.YtdbpnibcblelbaaGreatDoor
open Go.ChangeShapes Go.WideShapes Go.ChangeAt Go.RowKit
theorem Src.other {w w' : World} {b : Nat} {p : Option Addr} {q : Nat} {cs : List UInt8} {n : Int} {row : Option Nat} (h : Src w b p q cs n) (hg : w.grownBy w' row) (hne : ∀ k, row = some k → b < k) : Src w' b p q cs n :=
  ⟨h.loc.other hg (fun e => by have := hne b e; omega), h.rd.other hg (fun hp y hy e => by have h1 := h.apart hp y hy; have h2 := hne _ e; omega), h.apart⟩
end Go.Proofs.YtdbpnibcblelbaaGreatDoor
/- The contracts of HexOf in the specification, and of what it calls. -/
namespace Go.Proofs.YtdbpnibcblelbaaGreatDoor
open Go.ChangeShapes Go.WideShapes Go.ChangeAt Go.RowKit
end Go.Proofs.YtdbpnibcblelbaaGreatDoor
