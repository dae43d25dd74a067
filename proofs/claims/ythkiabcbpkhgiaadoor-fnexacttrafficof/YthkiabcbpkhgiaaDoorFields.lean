/- What the model's step 'field' gives of the answers' structs. -/
import Derived.Test.YthkiabcbpkhgiaaDoorRows
import Derived.KernelRfl
namespace Go.Proofs.YthkiabcbpkhgiaaDoor
open Go

theorem bytes_f0 (c : Int) (a : Option Addr) (n m : Nat) (w : World) : (Instr.field 27 (.agg #[.int .i64 c, .slice a n m]) 0).run Tryd.prog w = .ok (.int .i64 c) w := by kernel_rfl
theorem bytes_f1 (c : Int) (a : Option Addr) (n m : Nat) (w : World) : (Instr.field 27 (.agg #[.int .i64 c, .slice a n m]) 1).run Tryd.prog w = .ok (.slice a n m) w := by kernel_rfl
end Go.Proofs.YthkiabcbpkhgiaaDoor

