/-
  DERIVED: THE SHELF's CONTRACTS AT THIS DUMP, IN PLAIN WORDS (tools/lay-plain.mjs out of 'YtebilgnmnambnaaGreatDoorCarry.lean', which tools/lay-shelf.mjs wrote): THE SAME DECLARATIONS UNDER THE SAME NAMES: 'import', 'namespace', 'open', 'def', 'theorem' AND NOTHING ELSE: no command of the shelf's: FOR A HAND-IN. Each laying: the table of numbers ('.._ren') and one theorem, a field a fact of the dump's own or the kernel's comparison; each contract: ONE APPLICATION.
-/
import Derived.Shelf.Spec.BitsCarry
import Derived.Shelf.Lays7
import Derived.Test.YtebilgnmnambnaaGreatDoorProg
namespace Go.Proofs
open Go.Shelf
def Tryz.lays7a_ren : Go.Shelf.Ren := ⟨fun | 25 => 196 | n => n, fun | 22 => 87 | n => n, fun | n => n⟩
theorem Tryz.lays7a : Go.Proofs.Lays7.n25 Tryz.prog Tryz.lays7a_ren := {
  mixed := by kernel_rfl
  f25 := Tryz.func196.trans (congrArg some (by kernel_rfl))
  t22 := Tryz.underlying87
  a22 := Tryz.isAgg87
  z22 := Tryz.sizeOf87
  v22 := Tryz.zeroValue87
  i22 := by kernel_rfl }
def Tryz.lays7s_ren : Go.Shelf.Ren := ⟨fun | 26 => 189 | n => n, fun | 22 => 87 | n => n, fun | n => n⟩
theorem Tryz.lays7s : Go.Proofs.Lays7.n26 Tryz.prog Tryz.lays7s_ren := {
  mixed := by kernel_rfl
  f26 := Tryz.func189.trans (congrArg some (by kernel_rfl))
  t22 := Tryz.underlying87
  a22 := Tryz.isAgg87
  z22 := Tryz.sizeOf87
  v22 := Tryz.zeroValue87
  i22 := by kernel_rfl }
end Go.Proofs
