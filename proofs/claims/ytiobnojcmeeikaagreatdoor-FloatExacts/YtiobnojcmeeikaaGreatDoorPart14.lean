import Derived.WalkKit
import Derived.WalkSpells
import Derived.WalkSmall
import Derived.WalkLawsBesides
import Derived.Deep.QuietTactic
import Derived.BigQuiet
import Derived.Deep.RegionHeld3
import Derived.Test.YtiobnojcmeeikaaGreatDoorProg
import Derived.Test.YtiobnojcmeeikaaGreatDoorPart06

namespace Go.Proofs.YtiobnojcmeeikaaGreatDoor
open Go.RowKit Tn

theorem bel_drew {w W w1 : World} (pr : Below w.heap.size w W) (b1 : Below W.drew.heap.size W.drew w1) : Below w.heap.size w w1 := pr.drew.trans (b1.mono (show w.heap.size ≤ W.drew.heap.size from pr.size))
theorem bel {w W w1 : World} (pr : Below w.heap.size w W) (b1 : Below W.heap.size W w1) : Below w.heap.size w w1 := pr.trans (b1.mono pr.size)
/-- The format of floats. -/
abbrev fmtW : Value := .agg #[.int .i64 53, .int .i64 (-1074), .int .i64 971]
set_option maxRecDepth 100000 in
theorem floats_any (w : World) : Calls Tryz.prog 20 #[] w fun e w' => e = .returned fmtW ∧ Below w.heap.size w w' := by
  go_enter Tryz.func20, Tryz.ntmps20
  go_wp2
  refine bodyPost_ret (v := fmtW) (by simp [results, Tryz.results20, go_sem]) rfl ⟨rfl, ?_⟩
  exact (Below.refl _ _).alloc (Nat.le_refl _) _
set_option maxRecDepth 100000 in
theorem leastNormal_w (w : World) : Calls Tryz.prog 40 #[fmtW] w fun e w' => e = .returned (.int .u64 4503599627370496) ∧ Below w.heap.size w w' := by
  go_enter Tryz.func40, Tryz.ntmps40
  go_wp2
  go_ret
  exact ⟨rfl, (Below.refl _ _).alloc (Nat.le_refl _) _⟩
set_option maxRecDepth 100000 in
theorem topField_w (w : World) : Calls Tryz.prog 39 #[fmtW] w fun e w' => e = .returned (.int .u64 2047) ∧ Below w.heap.size w w' := by
  go_enter Tryz.func39, Tryz.ntmps39
  go_wp2
  go_ret
  exact ⟨rfl, (Below.refl _ _).alloc (Nat.le_refl _) _⟩
/-- The three cells of a format in its box. -/
def FmW (x : World) (n : Nat) : Prop := x.cell? ⟨n, 0, none⟩ = some (.int .i64 53) ∧ x.cell? ⟨n, 1, none⟩ = some (.int .i64 (-1074)) ∧ x.cell? ⟨n, 2, none⟩ = some (.int .i64 971)
theorem FmW.new (w : World) (t : TypeId) : FmW (w.alloc (.cells #[.int .i64 53, .int .i64 (-1074), .int .i64 971] t)) w.heap.size := ⟨(Blk.new w _ t).at 0, (Blk.new w _ t).at 1, (Blk.new w _ t).at 2⟩
theorem FmW.lt {x : World} {n : Nat} (h : FmW x n) : n < x.heap.size := lt_of_cell h.1
theorem FmW.below {x y : World} {n : Nat} (h : FmW x n) (k : Below x.heap.size x y) : FmW y n := ⟨(k.cell (p := ⟨n, 0, none⟩) h.lt).trans h.1, (k.cell (p := ⟨n, 1, none⟩) h.lt).trans h.2.1, (k.cell (p := ⟨n, 2, none⟩) h.lt).trans h.2.2⟩
theorem FmW.alloc {x : World} {n : Nat} (h : FmW x n) (o : Obj) : FmW (x.alloc o) n := h.below ((Below.refl _ _).alloc (Nat.le_refl _) o)
set_option maxRecDepth 100000 in
set_option maxHeartbeats 800000 in
theorem signBit_w (w : World) : Calls Tryz.prog 38 #[fmtW] w fun e w' => e = .returned (.int .u64 9223372036854775808) ∧ Below w.heap.size w w' := by
  go_enter Tryz.func38, Tryz.ntmps38
  go_wp2_with fail
  have F := FmW.new w 59
  have pr : Below w.heap.size w (w.alloc (.cells #[.int .i64 53, .int .i64 (-1074), .int .i64 971] 59)) := (Below.refl _ _).alloc (Nat.le_refl _) _
  generalize w.alloc (.cells #[.int .i64 53, .int .i64 (-1074), .int .i64 971] 59) = W at *
  have L0 := F.lt
  obtain ⟨e0, e1, e2⟩ := F
  have h1 : IntKind.i64.wrap 52 = 52 := by decide
  have h2 : IntKind.u64.wrap 2048 = 2048 := by decide
  go_region_held3 (fun x => x.cell? ⟨w.heap.size, 0, none⟩ = some (.int .i64 53) ∧ x.cell? ⟨w.heap.size, 1, none⟩ = some (.int .i64 (-1074)) ∧ x.cell? ⟨w.heap.size, 2, none⟩ = some (.int .i64 971)) (go_keep) (first
    | (go_at_call 39; refine (topField_w _).mono ?_; rintro e w1 ⟨rfl, b1⟩; have f0 := (b1.cell (p := ⟨w.heap.size, 0, none⟩) L0).trans e0; have f1 := (b1.cell (p := ⟨w.heap.size, 1, none⟩) L0).trans e1; have f2 := (b1.cell (p := ⟨w.heap.size, 2, none⟩) L0).trans e2)
    | fail)
  go_wp2
  go_ret
  exact ⟨rfl, bel_drew pr b1⟩
/-- The format of small floats. -/
abbrev fmtS : Value := .agg #[.int .i64 24, .int .i64 (-149), .int .i64 104]
set_option maxRecDepth 100000 in
theorem smallFloats_any (w : World) : Calls Tryz.prog 23 #[] w fun e w' => e = .returned fmtS ∧ Below w.heap.size w w' := by
  go_enter Tryz.func23, Tryz.ntmps23
  go_wp2
  refine bodyPost_ret (v := fmtS) (by simp [results, Tryz.results23, go_sem]) rfl ⟨rfl, ?_⟩
  exact (Below.refl _ _).alloc (Nat.le_refl _) _
set_option maxRecDepth 100000 in
theorem leastNormal_s (w : World) : Calls Tryz.prog 40 #[fmtS] w fun e w' => e = .returned (.int .u64 8388608) ∧ Below w.heap.size w w' := by
  go_enter Tryz.func40, Tryz.ntmps40
  go_wp2
  go_ret
  exact ⟨rfl, (Below.refl _ _).alloc (Nat.le_refl _) _⟩
set_option maxRecDepth 100000 in
theorem topField_s (w : World) : Calls Tryz.prog 39 #[fmtS] w fun e w' => e = .returned (.int .u64 255) ∧ Below w.heap.size w w' := by
  go_enter Tryz.func39, Tryz.ntmps39
  go_wp2
  go_ret
  exact ⟨rfl, (Below.refl _ _).alloc (Nat.le_refl _) _⟩
/-- The three cells of a format in its box. -/
def FmS (x : World) (n : Nat) : Prop := x.cell? ⟨n, 0, none⟩ = some (.int .i64 24) ∧ x.cell? ⟨n, 1, none⟩ = some (.int .i64 (-149)) ∧ x.cell? ⟨n, 2, none⟩ = some (.int .i64 104)
theorem FmS.new (w : World) (t : TypeId) : FmS (w.alloc (.cells #[.int .i64 24, .int .i64 (-149), .int .i64 104] t)) w.heap.size := ⟨(Blk.new w _ t).at 0, (Blk.new w _ t).at 1, (Blk.new w _ t).at 2⟩
theorem FmS.lt {x : World} {n : Nat} (h : FmS x n) : n < x.heap.size := lt_of_cell h.1
theorem FmS.below {x y : World} {n : Nat} (h : FmS x n) (k : Below x.heap.size x y) : FmS y n := ⟨(k.cell (p := ⟨n, 0, none⟩) h.lt).trans h.1, (k.cell (p := ⟨n, 1, none⟩) h.lt).trans h.2.1, (k.cell (p := ⟨n, 2, none⟩) h.lt).trans h.2.2⟩
theorem FmS.alloc {x : World} {n : Nat} (h : FmS x n) (o : Obj) : FmS (x.alloc o) n := h.below ((Below.refl _ _).alloc (Nat.le_refl _) o)
set_option maxRecDepth 100000 in
set_option maxHeartbeats 800000 in
theorem signBit_s (w : World) : Calls Tryz.prog 38 #[fmtS] w fun e w' => e = .returned (.int .u64 2147483648) ∧ Below w.heap.size w w' := by
  go_enter Tryz.func38, Tryz.ntmps38
  go_wp2_with fail
  have F := FmS.new w 59
  have pr : Below w.heap.size w (w.alloc (.cells #[.int .i64 24, .int .i64 (-149), .int .i64 104] 59)) := (Below.refl _ _).alloc (Nat.le_refl _) _
  generalize w.alloc (.cells #[.int .i64 24, .int .i64 (-149), .int .i64 104] 59) = W at *
  have L0 := F.lt
  obtain ⟨e0, e1, e2⟩ := F
  have h1 : IntKind.i64.wrap 23 = 23 := by decide
  have h2 : IntKind.u64.wrap 256 = 256 := by decide
  go_region_held3 (fun x => x.cell? ⟨w.heap.size, 0, none⟩ = some (.int .i64 24) ∧ x.cell? ⟨w.heap.size, 1, none⟩ = some (.int .i64 (-149)) ∧ x.cell? ⟨w.heap.size, 2, none⟩ = some (.int .i64 104)) (go_keep) (first
    | (go_at_call 39; refine (topField_s _).mono ?_; rintro e w1 ⟨rfl, b1⟩; have f0 := (b1.cell (p := ⟨w.heap.size, 0, none⟩) L0).trans e0; have f1 := (b1.cell (p := ⟨w.heap.size, 1, none⟩) L0).trans e1; have f2 := (b1.cell (p := ⟨w.heap.size, 2, none⟩) L0).trans e2)
    | fail)
  go_wp2
  go_ret
  exact ⟨rfl, bel_drew pr b1⟩
end Go.Proofs.YtiobnojcmeeikaaGreatDoor

namespace Go.Proofs.YtiobnojcmeeikaaGreatDoor
open Go.RowKit

set_option maxRecDepth 100000 in
set_option maxHeartbeats 1600000 in
theorem isFinite_yes (k : Int) (g : Bool) (m e : Int) (h3 : (k != 3) = true) (h4 : (k != 4) = true) (w : World) : Calls Tryz.prog 17 #[.agg #[.int .i64 k, .bool g, .int .u64 m, .int .i64 e]] w fun e w' => e = .returned (.bool true) ∧ Below w.heap.size w w' := by
  go_enter Tryz.func17, Tryz.ntmps17
  go_wp2
  go_ret
  exact ⟨rfl, (Below.refl _ _).alloc (Nat.le_refl _) _⟩
set_option maxRecDepth 100000 in
set_option maxHeartbeats 1600000 in
theorem isFinite_no3 (k : Int) (g : Bool) (m e : Int) (h3 : (k != 3) = false) (w : World) : Calls Tryz.prog 17 #[.agg #[.int .i64 k, .bool g, .int .u64 m, .int .i64 e]] w fun e w' => e = .returned (.bool false) ∧ Below w.heap.size w w' := by
  go_enter Tryz.func17, Tryz.ntmps17
  go_wp2
  go_ret
  exact ⟨rfl, (Below.refl _ _).alloc (Nat.le_refl _) _⟩
set_option maxRecDepth 100000 in
set_option maxHeartbeats 1600000 in
theorem isFinite_no4 (k : Int) (g : Bool) (m e : Int) (h3 : (k != 3) = true) (h4 : (k != 4) = false) (w : World) : Calls Tryz.prog 17 #[.agg #[.int .i64 k, .bool g, .int .u64 m, .int .i64 e]] w fun e w' => e = .returned (.bool false) ∧ Below w.heap.size w w' := by
  go_enter Tryz.func17, Tryz.ntmps17
  go_wp2
  go_ret
  exact ⟨rfl, (Below.refl _ _).alloc (Nat.le_refl _) _⟩
end Go.Proofs.YtiobnojcmeeikaaGreatDoor
