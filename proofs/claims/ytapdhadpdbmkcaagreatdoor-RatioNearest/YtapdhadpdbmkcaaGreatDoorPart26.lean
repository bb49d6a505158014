import Derived.Test.YtapdhadpdbmkcaaGreatDoorPart25
import Derived.Test.YtapdhadpdbmkcaaGreatDoorPart23

namespace Go.Proofs.YtapdhadpdbmkcaaGreatDoor.Mo
open Go.RowKit Tn Go.Lib

theorem whole_any (n : Nat) (w : World) (hn : (n : Int) ≤ 9223372036854775807) :
  Calls Tryz.prog 11 #[.int .i64 (n : Int)] w fun e w' => e = .returned (.agg #[.string ⟨(decDigits n).toArray⟩, .string ⟨#[49]⟩]) ∧ Below w.heap.size w w' := by
 have C := fun x => L.Whole_nat n x hn
 generalize (⟨(decDigits n).toArray⟩ : ByteArray) = s at *
 have KR := Blk.new w #[.string ⟨#[]⟩, .string ⟨#[]⟩] 23
 have pr : Below w.heap.size w (w.alloc (.cells #[.string ⟨#[]⟩, .string ⟨#[]⟩] 23)) := (Below.refl _ _).alloc (Nat.le_refl _) _
 go_enter Tryz.func11, Tryz.ntmps11
 go_wp2_with (first
  | (go_at_call 29; refine (C _).mono ?_; rintro e w1 ⟨rfl, b1⟩; have p1 := bel' pr b1; have KR1 := KR.below b1 KR.lt; have kr0 := KR1.at 0; have kr1 := KR1.at 1; have kf0 := KR1.free 0; have kf1 := KR1.free 1; simp at kr0 kr1)
  | fail)
 have KE := bput (bput KR1 0 (.string s)) 1 (.string ⟨#[49]⟩)
 have bE := (p1.setCell (p := ⟨w.heap.size, 0, none⟩) (Nat.le_refl _) (.string s)).setCell (p := ⟨w.heap.size, 1, none⟩) (Nat.le_refl _) (.string ⟨#[49]⟩)
 generalize (w1.setCell ⟨w.heap.size, 0, none⟩ (.string s)).setCell ⟨w.heap.size, 1, none⟩ (.string ⟨#[49]⟩) = WE at *
 have z0 := KE.at 0
 have z1 := KE.at 1
 simp at z0 z1
 exact bodyPost_ret (v := .agg #[.string s, .string ⟨#[49]⟩]) (by simp [results, Tryz.results11, go_sem, z0, z1]) rfl ⟨rfl, bE⟩
end Go.Proofs.YtapdhadpdbmkcaaGreatDoor.Mo
