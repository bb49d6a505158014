import Derived.Test.YtjgljcifnklmeaaFl9
import Derived.Laws.Externs
namespace Go.Proofs.Ytjgljcifnklmeaa
open Go.RowKit Tn

theorem f64bits (b : Nat) (w : World) : (callFunc 42 #[.float .f64 b]).run Try.prog w = .ok (.value (.int .u64 b)) w :=
  run_callFunc_extern (e := Extern.MathFloatBits.float64bits) Try.func42 (by kernel_rfl) rfl (by kernel_rfl) (by kernel_rfl) _ w
theorem f64frombits (b : Nat) (w : World) : (callFunc 9 #[.int .u64 b]).run Try.prog w = .ok (.value (.float .f64 b)) w :=
  run_callFunc_extern (e := Extern.MathFloatBits.float64frombits) Try.func9 (by kernel_rfl) rfl (by kernel_rfl) (by kernel_rfl) _ w
theorem f32bits (b : Nat) (w : World) : (callFunc 46 #[.float .f32 b]).run Try.prog w = .ok (.value (.int .u32 b)) w :=
  run_callFunc_extern (e := Extern.MathFloatBits.float32bits) Try.func46 (by kernel_rfl) rfl (by kernel_rfl) (by kernel_rfl) _ w
theorem f32frombits (b : Nat) (w : World) : (callFunc 13 #[.int .u32 b]).run Try.prog w = .ok (.value (.float .f32 b)) w :=
  run_callFunc_extern (e := Extern.MathFloatBits.float32frombits) Try.func13 (by kernel_rfl) rfl (by kernel_rfl) (by kernel_rfl) _ w
end Go.Proofs.Ytjgljcifnklmeaa
