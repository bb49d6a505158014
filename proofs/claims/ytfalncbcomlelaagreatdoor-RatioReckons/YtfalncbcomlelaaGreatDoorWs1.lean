import Derived.Test.YtfalncbcomlelaaGreatDoorProg
import Derived.Laws.Strings
import Derived.Laws.Concat
import Derived.WalkKit
namespace Go.Proofs.YtfalncbcomlelaaGreatDoor.Mo
open Go.RowKit

/-- A row of bytes as a string. -/
def sB (l : List UInt8) : ByteArray := ⟨l.toArray⟩
theorem sB_size (l : List UInt8) : (sB l).size = l.length := by simp [sB, ByteArray.size]
theorem sB_add (a b : List UInt8) : sB a ++ sB b = sB (a ++ b) := by
  apply ByteArray.ext
  simp [sB]
/-- With its sign. -/
def sg (g : Bool) (l : List UInt8) : List UInt8 := (if g then [45] else []) ++ l
set_option maxRecDepth 100000 in
theorem WSign_any (g : Bool) (l : List UInt8) (w : World) (hl : l.length ≤ 8388608) :
    Calls Tryz.prog 105 #[.bool g, .string (sB l)] w fun e w' => e = .returned (.string (sB (sg g l))) ∧ w' = w := by
  have h1 : Hid ((⟨#[45]⟩ : ByteArray) ++ sB l = sB ([45] ++ l)) := sB_add [45] l
  have h2 := run_string_add_sum (P := Tryz.prog) w ⟨#[45]⟩ (sB l) (by rw [sB_size]; simp [ByteArray.size]; omega)
  rw [h1.out] at h2
  cases g
  · go_enter Tryz.func105, Tryz.ntmps105
    go_wp2
    go_ret
    exact ⟨rfl, rfl⟩
  · go_enter Tryz.func105, Tryz.ntmps105
    go_wp2
    go_ret
    exact ⟨rfl, rfl⟩
end Go.Proofs.YtfalncbcomlelaaGreatDoor.Mo
