/- Chapter 13 of the specification: the digest that is signed (l13Digest). For right arguments. -/
import Derived.Test.YtdbpnibcblelbaaGreatDoorJoint22
import Derived.Test.YtdbpnibcblelbaaGreatDoorJoint12
import Derived.Test.YtdbpnibcblelbaaGreatDoorJoint15
import Derived.Test.YtdbpnibcblelbaaGreatDoorJoint14
import Derived.Test.YtdbpnibcblelbaaGreatDoorJoint6
namespace Go.Proofs.YtdbpnibcblelbaaGreatDoor
open Go.RowKit
end Go.Proofs.YtdbpnibcblelbaaGreatDoor
/- Chapter 13 of the specification: faults (l13Fault), AuthKey, AuthDigest, MakeAuth: code and bytes at every argument. What was there stays. -/
namespace Go.Proofs.YtdbpnibcblelbaaGreatDoor
open Go.RowKit
end Go.Proofs.YtdbpnibcblelbaaGreatDoor
/- Chapter 13 of the specification: the binding (l13Bind, BindOf): code and bytes at every argument. What was there stays. -/
namespace Go.Proofs.YtdbpnibcblelbaaGreatDoor
open Go.RowKit
theorem binding_str : (⟨#[99, 104, 97, 110, 110, 101, 108, 32, 98, 105, 110, 100, 105, 110, 103]⟩ : ByteArray) = strB bindingB := rfl
end Go.Proofs.YtdbpnibcblelbaaGreatDoor
/- The contracts of the specification's l12Unpack, UnpackCert, LookCert, at every argument (written by tools/cert_t.py). What was there stays. -/
namespace Go.Proofs.YtdbpnibcblelbaaGreatDoor
open Go.ChangeShapes Go.WideShapes Go.ChangeAt Go.RowKit
end Go.Proofs.YtdbpnibcblelbaaGreatDoor
/- The contracts of the certificates in the program: isCertId, isOwner, isGiver, isCertUntil, isCert, certOf, CertsFault, PackCert, UnpackCert, LookCert, at every argument. What was there stays. -/
namespace Go.Proofs.YtdbpnibcblelbaaGreatDoor
open Go.ChangeShapes Go.WideShapes Go.ChangeAt Go.RowKit
end Go.Proofs.YtdbpnibcblelbaaGreatDoor
