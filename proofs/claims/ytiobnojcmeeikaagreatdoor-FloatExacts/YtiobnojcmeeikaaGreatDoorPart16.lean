import Derived.Test.YtiobnojcmeeikaaGreatDoorPart15

namespace Go.Proofs.YtiobnojcmeeikaaGreatDoor
open Go.RowKit Tn

/-- The reference's size of floats. -/
abbrev szW : Value := .agg #[.int .i64 53, .int .i64 (-1074), .int .i64 971, .int .i64 52]
set_option maxRecDepth 100000 in
set_option maxHeartbeats 1600000 in
theorem Wide_any (w : World) : Calls Tryz.prog 8 #[] w fun e w' => e = .returned szW ∧ Below w.heap.size w w' := by
  go_enter Tryz.func8, Tryz.ntmps8
  go_wp2
  refine bodyPost_ret (v := szW) (by simp [results, Tryz.results8, go_sem]) rfl ⟨rfl, ?_⟩
  exact (Below.refl _ _).alloc (Nat.le_refl _) _
set_option maxRecDepth 100000 in
set_option maxHeartbeats 1600000 in
theorem top_w (w : World) : Calls Tryz.prog 25 #[szW] w fun e w' => e = .returned (.int .u64 2047) ∧ Below w.heap.size w w' := by
  go_enter Tryz.func25, Tryz.ntmps25
  go_wp2
  go_ret
  exact ⟨rfl, (Below.refl _ _).alloc (Nat.le_refl _) _⟩
set_option maxRecDepth 100000 in
set_option maxHeartbeats 1600000 in
theorem sign_w (w : World) : Calls Tryz.prog 54 #[szW] w fun e w' => e = .returned (.int .i64 63) ∧ Below w.heap.size w w' := by
  go_enter Tryz.func54, Tryz.ntmps54
  go_wp2
  go_ret
  exact ⟨rfl, (Below.refl _ _).alloc (Nat.le_refl _) _⟩
set_option maxRecDepth 100000 in
set_option maxHeartbeats 1600000 in
theorem Neg_w (n : Int) (g : Bool) (h : (bits .and .u64 (n / 9223372036854775808) 1 == 1) = g) (w : World) : Calls Tryz.prog 41 #[szW, .int .u64 n] w fun e w' => e = .returned (.bool g) ∧ Below w.heap.size w w' := by
  go_enter Tryz.func41, Tryz.ntmps41
  have K0 := Blk.new w #[.int .i64 53, .int .i64 (-1074), .int .i64 971, .int .i64 52] 36
  have pr : Below w.heap.size w (w.alloc (.cells #[.int .i64 53, .int .i64 (-1074), .int .i64 971, .int .i64 52] 36)) := (Below.refl _ _).alloc (Nat.le_refl _) _
  go_wp2_with (first
    | (go_at_call 54; refine (sign_w _).mono ?_; rintro e w1 ⟨rfl, b1⟩; replace K0 := K0.below b1 K0.lt; replace pr := bel pr b1; clear b1)
    | fail)
  go_ret
  exact ⟨rfl, pr⟩
/-- The reference's size of small floats. -/
abbrev szS : Value := .agg #[.int .i64 24, .int .i64 (-149), .int .i64 104, .int .i64 23]
set_option maxRecDepth 100000 in
set_option maxHeartbeats 1600000 in
theorem Small_any (w : World) : Calls Tryz.prog 10 #[] w fun e w' => e = .returned szS ∧ Below w.heap.size w w' := by
  go_enter Tryz.func10, Tryz.ntmps10
  go_wp2
  refine bodyPost_ret (v := szS) (by simp [results, Tryz.results10, go_sem]) rfl ⟨rfl, ?_⟩
  exact (Below.refl _ _).alloc (Nat.le_refl _) _
set_option maxRecDepth 100000 in
set_option maxHeartbeats 1600000 in
theorem top_s (w : World) : Calls Tryz.prog 25 #[szS] w fun e w' => e = .returned (.int .u64 255) ∧ Below w.heap.size w w' := by
  go_enter Tryz.func25, Tryz.ntmps25
  go_wp2
  go_ret
  exact ⟨rfl, (Below.refl _ _).alloc (Nat.le_refl _) _⟩
set_option maxRecDepth 100000 in
set_option maxHeartbeats 1600000 in
theorem sign_s (w : World) : Calls Tryz.prog 54 #[szS] w fun e w' => e = .returned (.int .i64 31) ∧ Below w.heap.size w w' := by
  go_enter Tryz.func54, Tryz.ntmps54
  go_wp2
  go_ret
  exact ⟨rfl, (Below.refl _ _).alloc (Nat.le_refl _) _⟩
set_option maxRecDepth 100000 in
set_option maxHeartbeats 1600000 in
theorem Neg_s (n : Int) (g : Bool) (h : (bits .and .u64 (n / 2147483648) 1 == 1) = g) (w : World) : Calls Tryz.prog 41 #[szS, .int .u64 n] w fun e w' => e = .returned (.bool g) ∧ Below w.heap.size w w' := by
  go_enter Tryz.func41, Tryz.ntmps41
  have K0 := Blk.new w #[.int .i64 24, .int .i64 (-149), .int .i64 104, .int .i64 23] 36
  have pr : Below w.heap.size w (w.alloc (.cells #[.int .i64 24, .int .i64 (-149), .int .i64 104, .int .i64 23] 36)) := (Below.refl _ _).alloc (Nat.le_refl _) _
  go_wp2_with (first
    | (go_at_call 54; refine (sign_s _).mono ?_; rintro e w1 ⟨rfl, b1⟩; replace K0 := K0.below b1 K0.lt; replace pr := bel pr b1; clear b1)
    | fail)
  go_ret
  exact ⟨rfl, pr⟩
end Go.Proofs.YtiobnojcmeeikaaGreatDoor
