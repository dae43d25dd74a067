/- Chapter 13 as plain functions on data, with no program in it: keys (kyN), digests (dgN), macs (mcN) and what is made of them (mkN), read back (raR), believed (caC); that what is made is read back, and what is read is what it is made as. No conditions but those in each line. -/
import Derived.Test.YtdbpnibcblelbaaGreatDoorJoint1
import Derived.Test.YtdbpnibcblelbaaGreatDoorJoint21
import Derived.Test.YtdbpnibcblelbaaGreatDoorJoint11
import Derived.Test.YtdbpnibcblelbaaGreatDoorJoint20
import Derived.Test.YtdbpnibcblelbaaGreatDoorJoint8
import Derived.Test.YtdbpnibcblelbaaGreatDoorJoint3
import Derived.Test.YtdbpnibcblelbaaGreatDoorJoint12
import Derived.Test.YtdbpnibcblelbaaGreatDoorJoint6
namespace Go.Proofs.YtdbpnibcblelbaaGreatDoor
open Go.RowKit
def clientB : List UInt8 := [97, 117, 116, 104, 32, 99, 108, 105, 101, 110, 116, 32]
def serverB : List UInt8 := [97, 117, 116, 104, 32, 115, 101, 114, 118, 101, 114, 32]
def contextB : List UInt8 := [99, 111, 110, 116, 101, 120, 116]
def finishB : List UInt8 := [102, 105, 110, 105, 115, 104]
def bindingB : List UInt8 := [99, 104, 97, 110, 110, 101, 108, 32, 98, 105, 110, 100, 105, 110, 103]
def roleB (r : Int) : Bool := decide (r = 1) || decide (r = 2)
def labN (r : Int) (fin : Bool) : List UInt8 := (if r = 2 then serverB else clientB) ++ (if fin then finishB else contextB)
def kyN (x : List UInt8) (r : Int) (fin : Bool) : List UInt8 := exportN x (labN r fin) [] 32
def biN (x : List UInt8) : List UInt8 := exportN x bindingB [] 32
def akC (x : List UInt8) (r : Int) : Int := if is32 x then (if roleB r then 0 else 3) else 1
def biD (x : List UInt8) : Int × List UInt8 := if is32 x then (0, biN x) else (1, [])
def ctxB (c : List UInt8) : Bool := inB (c.length : Int) 1 20
def dgN (x : List UInt8) (r : Int) (ctx : List UInt8) (c : CertD) : List UInt8 := digestN (kyN x r false ++ [UInt8.ofNat ctx.length] ++ ctx ++ pcL c)
def mcN (x : List UInt8) (r : Int) (ctx : List UInt8) (c : CertD) (place : Int) : List UInt8 := macN (kyN x r true) (dgN x r ctx c ++ [UInt8.ofNat place.toNat])
def mkBl (x : List UInt8) (r : Int) (ctx : List UInt8) (c : CertD) (place : Int) : List (List UInt8) := [ctx, pcL c, [UInt8.ofNat place.toNat], mcN x r ctx c place]
def mkN (x : List UInt8) (r : Int) (ctx : List UInt8) (c : CertD) (place : Int) : List UInt8 := blksN (mkBl x r ctx c place)
def a4 : List (List UInt8) → Option AuthD
  | [a, b, c, m] => if ctxB a = true ∧ c.length = 1 ∧ m.length = 32 ∧ (ucD b).1 = 0 then some (a, (ucD b).2, (((c.getD 0 0).toNat : Nat) : Int), m) else none
  | _ => none
def raR (data : List UInt8) : Option AuthD := if data.length ≤ 160 then (splitR data 0 []).bind a4 else none
def hkC (x : List UInt8) (r : Int) (certs : List CertD) (signs : List SignD) (now : Int) (a : AuthD) : Int :=
  if hasC certs a.2.1.1 = true ∧ foC certs a.2.1.1 = a.2.1 then
    (if a.2.1.2.2 < now then 9 else (if ckA signs a.2.2.1 a.2.1.1 (dgN x r a.1 a.2.1) = true ∧ a.2.2.2 = mcN x r a.1 a.2.1 a.2.2.1 then 0 else 7))
  else 4
def caC (x : List UInt8) (r : Int) (certs : List CertD) (signs : List SignD) (now : Int) (data : List UInt8) : Int :=
  if akC x r = 0 then (if ctC certs = 0 then (if sgC signs = 0 then (if inB now 0 9999 then (match raR data with
    | some a => hkC x r certs signs now a
    | none => 5) else 3) else sgC signs) else ctC certs) else akC x r
end Go.Proofs.YtdbpnibcblelbaaGreatDoor
/- Chapter 13 of the specification: what is asked (l13Role, l13Asked, l13Context) and the key (l13Key), AuthKey. No condition but lengths within the model's. -/
namespace Go.Proofs.YtdbpnibcblelbaaGreatDoor
open Go.RowKit
end Go.Proofs.YtdbpnibcblelbaaGreatDoor
/- The contracts of the certificates in the specification: l12One, l12At, l12Fault, CertsFault, l12Pack, PackCert, l12Unpack, UnpackCert, LookCert, at every argument. What was there stays. -/
namespace Go.Proofs.YtdbpnibcblelbaaGreatDoor
open Go.ChangeShapes Go.WideShapes Go.ChangeAt Go.RowKit
end Go.Proofs.YtdbpnibcblelbaaGreatDoor
