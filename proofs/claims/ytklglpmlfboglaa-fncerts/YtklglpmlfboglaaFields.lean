/- What the model's step 'field' gives of the answers' structs. -/
import Derived.Test.YtklglpmlfboglaaRows
import Derived.KernelRfl
namespace Go.Proofs.Ytklglpmlfboglaa
open Go

theorem bytes_f0 (c : Int) (a : Option Addr) (n m : Nat) (w : World) : (Instr.field 32 (.agg #[.int .i64 c, .slice a n m]) 0).run Try.prog w = .ok (.int .i64 c) w := by kernel_rfl
theorem bytes_f1 (c : Int) (a : Option Addr) (n m : Nat) (w : World) : (Instr.field 32 (.agg #[.int .i64 c, .slice a n m]) 1).run Try.prog w = .ok (.slice a n m) w := by kernel_rfl
end Go.Proofs.Ytklglpmlfboglaa
