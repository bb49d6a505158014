import Derived.Test.YtemfndmffpalfaaMt4
import Derived.Test.YtemfndmffpalfaaProg
import Derived.Test.YtemfndmffpalfaaMemL
import Derived.Laws.Strings
namespace Go.Proofs.Ytemfndmffpalfaa.Mo
open Go.RowKit Go.Lib Dc

theorem empty_iff (s : ByteArray) : s.toList.isEmpty = decide (s.size = 0) := by
  rw [ByteArray.toList_eq, Bool.eq_iff_iff, List.isEmpty_iff, decide_eq_true_iff, ← List.length_eq_zero_iff, Array.length_toList]
  rfl
end Go.Proofs.Ytemfndmffpalfaa.Mo
