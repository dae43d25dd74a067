/- What the model's step 'field' gives of the answers' structs. -/
import Derived.Test.YtgjmhlolbjmibaaDoorRows
import Derived.KernelRfl
namespace Go.Proofs.YtgjmhlolbjmibaaDoor
open Go

theorem text_f0 (c : Int) (s : ByteArray) (w : World) : (Instr.field 27 (.agg #[.int .i64 c, .string s]) 0).run Tryd.prog w = .ok (.int .i64 c) w := by kernel_rfl
theorem text_f1 (c : Int) (s : ByteArray) (w : World) : (Instr.field 27 (.agg #[.int .i64 c, .string s]) 1).run Tryd.prog w = .ok (.string s) w := by kernel_rfl
end Go.Proofs.YtgjmhlolbjmibaaDoor
