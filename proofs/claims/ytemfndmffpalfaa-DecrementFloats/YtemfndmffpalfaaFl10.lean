import Derived.Test.YtemfndmffpalfaaFl9
import Derived.Laws.Externs
namespace Go.Proofs.Ytemfndmffpalfaa
open Go.RowKit Tn

theorem f64bits (b : Nat) (w : World) : (callFunc 17 #[.float .f64 b]).run Try.prog w = .ok (.value (.int .u64 b)) w :=
  run_callFunc_extern (e := Extern.MathFloatBits.float64bits) Try.func17 (by kernel_rfl) rfl (by kernel_rfl) (by kernel_rfl) _ w
theorem f64frombits (b : Nat) (w : World) : (callFunc 19 #[.int .u64 b]).run Try.prog w = .ok (.value (.float .f64 b)) w :=
  run_callFunc_extern (e := Extern.MathFloatBits.float64frombits) Try.func19 (by kernel_rfl) rfl (by kernel_rfl) (by kernel_rfl) _ w
end Go.Proofs.Ytemfndmffpalfaa
