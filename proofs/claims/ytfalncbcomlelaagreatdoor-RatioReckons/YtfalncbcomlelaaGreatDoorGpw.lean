import Derived.Test.YtfalncbcomlelaaGreatDoorEr11
import Derived.Lib.SmallJoins
namespace Go.Proofs.YtfalncbcomlelaaGreatDoor.Dy
open Mo
theorem gPow : Tryz.prog.globalNamed "internal/strconv.uint64pow10" = some 4 := by kernel_rfl
theorem gw_of {w : World} (h : Go.Lib.TabIs Tryz.prog w "internal/strconv.uint64pow10" .u64 Go.Lib.pow10Tab) : Gw w := fun _ b => Go.Joins.var_stays gPow h b (Nat.le_refl _)
end Go.Proofs.YtfalncbcomlelaaGreatDoor.Dy
