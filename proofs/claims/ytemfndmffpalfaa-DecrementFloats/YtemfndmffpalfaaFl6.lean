import Derived.Test.YtemfndmffpalfaaFl5
import Derived.Test.YtemfndmffpalfaaFlM
namespace Go.Proofs.Ytemfndmffpalfaa
open Go.RowKit Tn

theorem w64 (x : Int) (h0 : -9223372036854775808 ≤ x) (h1 : x < 9223372036854775808) : IntKind.i64.wrap x = x := by
  simp [IntKind.wrap, IntKind.bits, IntKind.signed]; omega
theorem wu64 (x : Int) (h0 : 0 ≤ x) (h1 : x < 18446744073709551616) : IntKind.u64.wrap x = x := by
  rw [IntKind.wrap_u64]; omega
/-- Parts as a value. -/
abbrev prt4 (p : Int × Bool × Int × Int) : Value := prt p.1 p.2.1 p.2.2.1 p.2.2.2
end Go.Proofs.Ytemfndmffpalfaa
