import Derived.Test.YtcjlpfglnbddjaaDoorMs1
import Derived.Test.YtcjlpfglnbddjaaDoorTx5
import Derived.Test.YtcjlpfglnbddjaaDoorShelf
import Derived.Lib.SmallJoins
import Derived.Laws.Strings
import Derived.Laws.Concat
namespace Go.Proofs.YtcjlpfglnbddjaaDoor.Mo
open Go.RowKit Go.Lib

/-- What the library's variables hold. -/
structure Gv (w : World) : Prop where
  tab : Lib.TabIs Tryd.prog w "internal/strconv.uint64pow10" .u64 Lib.pow10Tab
  mx : ∃ m, w.cell? ⟨0, 0, none⟩ = some (.int .i64 m)
  er : ∃ tp p, w.var? Tryd.prog "strconv.ErrRange" = some #[.iface tp p]
theorem gTab : Tryd.prog.globalNamed "internal/strconv.uint64pow10" = some 5 := by kernel_rfl
theorem gErr : Tryd.prog.globalNamed "strconv.ErrRange" = some 4 := by kernel_rfl
theorem Gv.grow {w w' : World} (h : Gv w) (k : Below w.heap.size w w') : Gv w' := by
  refine ⟨Go.Joins.var_stays gTab h.tab k (Nat.le_refl _), ?_, ?_⟩
  · obtain ⟨m, hm⟩ := h.mx
    exact ⟨m, (k.cell (p := ⟨0, 0, none⟩) (L.lt_of_cell hm)).trans hm⟩
  · obtain ⟨tp, p, e⟩ := h.er
    exact ⟨tp, p, Go.Joins.var_stays gErr e k (Nat.le_refl _)⟩
/-- A text of these bytes. -/
def bs (l : List UInt8) : ByteArray := ⟨l.toArray⟩
theorem bs_size (l : List UInt8) : (bs l).size = l.length := by simp [bs, ByteArray.size]
theorem bs_add (a b : List UInt8) : bs a ++ bs b = bs (a ++ b) := by
  apply ByteArray.ext
  simp [bs]
/-- An amount's text. -/
def sg (p : Int) : List UInt8 := if p < 0 then [45] else []
def behindL (z : Nat) : List UInt8 := [UInt8.ofNat (48 + z / 10 % 10), UInt8.ofNat (48 + z % 10)]
def showL (p : Int) : List UInt8 := sg p ++ decDigits (p.natAbs / 100) ++ [46] ++ behindL p.natAbs
theorem dec3 (r : Nat) (h : r < 100) : decDigits (100 + r) = 49 :: [UInt8.ofNat (48 + r / 10), UInt8.ofNat (48 + r % 10)] := by
  rw [decDigits, dif_neg (by omega), decDigits, dif_neg (by omega), decDigits, dif_pos (by omega)]
  have e1 : (100 + r) / 10 / 10 = 1 := by omega
  have e2 : (100 + r) / 10 % 10 = r / 10 := by omega
  have e3 : (100 + r) % 10 = r % 10 := by omega
  rw [e1, e2, e3]
  rfl
end Go.Proofs.YtcjlpfglnbddjaaDoor.Mo
