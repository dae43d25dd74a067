/- The contract of SecretsOf in the specification, its answer as one datum (SecretsResultC). -/
import Derived.Test.YthkiabcbpkhgiaaDoorSchS
import Derived.Test.YthkiabcbpkhgiaaDoorSecretsResultC
namespace Go.Proofs.YthkiabcbpkhgiaaDoor
open Go.ChangeShapes Go.WideShapes Go.ChangeAt Go.RowKit

def scD (master digest : List UInt8) : SecretsResultD := (scC master digest, scL master digest cApB, scL master digest sApB, scL master digest expMB, scL master digest resMB)
theorem scD_small (master digest : List UInt8) : secretsResultT (scD master digest) ≤ 128 := by
  have h1 := scL_len master digest cApB
  have h2 := scL_len master digest sApB
  have h3 := scL_len master digest expMB
  have h4 := scL_len master digest resMB
  show (scL master digest cApB).length + (scL master digest sApB).length + (scL master digest expMB).length + (scL master digest resMB).length ≤ 128
  omega
/-- Four rows of one's own, all apart, behind a code: one datum. -/
theorem secretsResult_of {w : World} {B : Nat} {a : SecretsResultD} {u1 u2 u3 u4 : Value} (o1 : Own w B u1 a.2.1) (o2 : Own w B u2 a.2.2.1) (o3 : Own w B u3 a.2.2.2.1) (o4 : Own w B u4 a.2.2.2.2) (hn : (u1.ownBlock.toList ++ (u2.ownBlock.toList ++ (u3.ownBlock.toList ++ u4.ownBlock.toList))).Nodup) :
    secretsResultC.own w B a [.int .i64 a.1, u1, u2, u3, u4] (u1.ownBlock.toList ++ (u2.ownBlock.toList ++ (u3.ownBlock.toList ++ u4.ownBlock.toList))) := by
  have h2 := (List.nodup_append.1 hn).2.1
  have h3 := (List.nodup_append.1 h2).2.1
  exact ⟨[.int .i64 a.1], [u1, u2, u3, u4], [], _, rfl, rfl, hn, ⟨rfl, rfl⟩, ⟨[u1], [u2, u3, u4], _, _, rfl, rfl, hn, ⟨u1, rfl, o1, rfl⟩, ⟨[u2], [u3, u4], _, _, rfl, rfl, h2, ⟨u2, rfl, o2, rfl⟩, ⟨[u3], [u4], _, _, rfl, rfl, h3, ⟨u3, rfl, o3, rfl⟩, ⟨u4, rfl, o4, rfl⟩⟩⟩⟩⟩
theorem specSc_k (p p2 : Option Addr) (q q2 : Nat) (master digest : List UInt8) (w : World) (hr : Rd w p q master) (hr2 : Rd w p2 q2 digest) :
    Calls Tryd.prog 32 #[.slice p master.length q, .slice p2 digest.length q2] w fun e w' => ∃ us fp, e = .returned (.agg us.toArray) ∧ secretsResultC.own w' w.heap.size (scD master digest) us fp ∧ Below w.heap.size w w' := by
  refine (specSc_c p p2 q q2 master digest w hr hr2).mono ?_
  rintro e w' ⟨u1, u2, u3, u4, rfl, o1, o2, o3, o4, hn, hb⟩
  exact ⟨_, _, rfl, secretsResult_of (a := scD master digest) o1 o2 o3 o4 hn, hb⟩
end Go.Proofs.YthkiabcbpkhgiaaDoor

