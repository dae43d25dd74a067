/- What the model's step 'field' gives of the answers' structs. -/
import Derived.Test.YtdemfbbjdnjolabDoorRows
import Derived.KernelRfl
namespace Go.Proofs.YtdemfbbjdnjolabDoor
open Go

theorem bytes_f0 (c : Int) (a : Option Addr) (n m : Nat) (w : World) : (Instr.field 50 (.agg #[.int .i64 c, .slice a n m]) 0).run Tryd.prog w = .ok (.int .i64 c) w := by kernel_rfl
theorem bytes_f1 (c : Int) (a : Option Addr) (n m : Nat) (w : World) : (Instr.field 50 (.agg #[.int .i64 c, .slice a n m]) 1).run Tryd.prog w = .ok (.slice a n m) w := by kernel_rfl
end Go.Proofs.YtdemfbbjdnjolabDoor

