import Derived.Test.YtjgljcifnklmeaaLg2
import Derived.Test.YtjgljcifnklmeaaFs4
namespace Go.Proofs.Ytjgljcifnklmeaa.L
open Go.RowKit Tl
theorem field_kind (k m e : Int) (g : Bool) (w : World) : (Instr.field 25 (.agg #[.int .i64 k, .bool g, .int .u64 m, .int .i64 e]) 0).run Try.prog w = .ok (.int .i64 k) w := by
  simp [Instr.field, run_underlying Try.underlying25, asAgg, part, Try.sizeOf3, go_sem]
theorem field_exp (k m e : Int) (g : Bool) (w : World) : (Instr.field 25 (.agg #[.int .i64 k, .bool g, .int .u64 m, .int .i64 e]) 3).run Try.prog w = .ok (.int .i64 e) w := by
  simp [Instr.field, run_underlying Try.underlying25, asAgg, part, Try.sizeOf3, go_sem]
end Go.Proofs.Ytjgljcifnklmeaa.L
