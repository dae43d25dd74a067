/- What the model's step 'field' gives of the answers' structs. -/
import Derived.Test.YtdolhafkihkocaaRows
import Derived.KernelRfl
namespace Go.Proofs.Ytdolhafkihkocaa
open Go

theorem int_f0 (c v : Int) (w : World) : (Instr.field 27 (.agg #[.int .i64 c, .int .i64 v]) 0).run Try.prog w = .ok (.int .i64 c) w := by kernel_rfl
theorem int_f1 (c v : Int) (w : World) : (Instr.field 27 (.agg #[.int .i64 c, .int .i64 v]) 1).run Try.prog w = .ok (.int .i64 v) w := by kernel_rfl
theorem bytes_f0 (c : Int) (a : Option Addr) (n m : Nat) (w : World) : (Instr.field 31 (.agg #[.int .i64 c, .slice a n m]) 0).run Try.prog w = .ok (.int .i64 c) w := by kernel_rfl
theorem bytes_f1 (c : Int) (a : Option Addr) (n m : Nat) (w : World) : (Instr.field 31 (.agg #[.int .i64 c, .slice a n m]) 1).run Try.prog w = .ok (.slice a n m) w := by kernel_rfl
end Go.Proofs.Ytdolhafkihkocaa
