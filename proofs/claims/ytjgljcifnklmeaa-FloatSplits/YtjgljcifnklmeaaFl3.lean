import Derived.Test.YtjgljcifnklmeaaFl2
namespace Go.Proofs.Ytjgljcifnklmeaa
open Go.RowKit Tn

/-- The reference's size of floats. -/
abbrev szW : Value := .agg #[.int .i64 53, .int .i64 (-1074), .int .i64 971, .int .i64 52]
set_option maxRecDepth 100000 in
set_option maxHeartbeats 1600000 in
theorem Wide_any (w : World) : Calls Try.prog 10 #[] w fun e w' => e = .returned szW ∧ Below w.heap.size w w' := by
  go_enter Try.func10, Try.ntmps10
  go_wp2
  refine bodyPost_ret (v := szW) (by simp [results, Try.results10, go_sem]) rfl ⟨rfl, ?_⟩
  exact (Below.refl _ _).alloc (Nat.le_refl _) _
set_option maxRecDepth 100000 in
set_option maxHeartbeats 1600000 in
theorem top_w (w : World) : Calls Try.prog 43 #[szW] w fun e w' => e = .returned (.int .u64 2047) ∧ Below w.heap.size w w' := by
  go_enter Try.func43, Try.ntmps43
  go_wp2
  go_ret
  exact ⟨rfl, (Below.refl _ _).alloc (Nat.le_refl _) _⟩
set_option maxRecDepth 100000 in
set_option maxHeartbeats 1600000 in
theorem sign_w (w : World) : Calls Try.prog 78 #[szW] w fun e w' => e = .returned (.int .i64 63) ∧ Below w.heap.size w w' := by
  go_enter Try.func78, Try.ntmps78
  go_wp2
  go_ret
  exact ⟨rfl, (Below.refl _ _).alloc (Nat.le_refl _) _⟩
set_option maxRecDepth 100000 in
set_option maxHeartbeats 1600000 in
theorem Neg_w (n : Int) (g : Bool) (h : (bits .and .u64 (n / 9223372036854775808) 1 == 1) = g) (w : World) : Calls Try.prog 44 #[szW, .int .u64 n] w fun e w' => e = .returned (.bool g) ∧ Below w.heap.size w w' := by
  go_enter Try.func44, Try.ntmps44
  have K0 := Blk.new w #[.int .i64 53, .int .i64 (-1074), .int .i64 971, .int .i64 52] 31
  have pr : Below w.heap.size w (w.alloc (.cells #[.int .i64 53, .int .i64 (-1074), .int .i64 971, .int .i64 52] 31)) := (Below.refl _ _).alloc (Nat.le_refl _) _
  go_wp2_with (first
    | (go_at_call 78; refine (sign_w _).mono ?_; rintro e w1 ⟨rfl, b1⟩; replace K0 := K0.below b1 K0.lt; replace pr := bel pr b1; clear b1)
    | fail)
  go_ret
  exact ⟨rfl, pr⟩
set_option maxRecDepth 100000 in
set_option maxHeartbeats 1600000 in
theorem signed_w_pos (n : Int) (w : World) : Calls Try.prog 50 #[szW, .bool false, .int .u64 n] w fun e w' => e = .returned (.int .u64 n) ∧ Below w.heap.size w w' := by
  go_enter Try.func50, Try.ntmps50
  have K0 := Blk.new w #[.int .i64 53, .int .i64 (-1074), .int .i64 971, .int .i64 52] 31
  have pr : Below w.heap.size w (w.alloc (.cells #[.int .i64 53, .int .i64 (-1074), .int .i64 971, .int .i64 52] 31)) := (Below.refl _ _).alloc (Nat.le_refl _) _
  go_wp2
  go_ret
  exact ⟨rfl, pr⟩
set_option maxRecDepth 100000 in
set_option maxHeartbeats 1600000 in
theorem signed_w_neg (n m : Int) (h : bits .or .u64 n 9223372036854775808 = m) (w : World) : Calls Try.prog 50 #[szW, .bool true, .int .u64 n] w fun e w' => e = .returned (.int .u64 m) ∧ Below w.heap.size w w' := by
  go_enter Try.func50, Try.ntmps50
  have K0 := Blk.new w #[.int .i64 53, .int .i64 (-1074), .int .i64 971, .int .i64 52] 31
  have pr : Below w.heap.size w (w.alloc (.cells #[.int .i64 53, .int .i64 (-1074), .int .i64 971, .int .i64 52] 31)) := (Below.refl _ _).alloc (Nat.le_refl _) _
  go_wp2_with (first
    | (go_at_call 78; refine (sign_w _).mono ?_; rintro e w1 ⟨rfl, b1⟩; replace K0 := K0.below b1 K0.lt; replace pr := bel pr b1; clear b1)
    | fail)
  go_ret
  exact ⟨rfl, pr⟩
set_option maxRecDepth 100000 in
set_option maxHeartbeats 1600000 in
theorem None_w (w : World) : Calls Try.prog 48 #[szW] w fun e w' => e = .returned (.int .u64 9221120237041090560) ∧ Below w.heap.size w w' := by
  go_enter Try.func48, Try.ntmps48
  go_wp2_with fail
  have K0 := Blk.new w #[.int .i64 53, .int .i64 (-1074), .int .i64 971, .int .i64 52] 31
  have pr : Below w.heap.size w (w.alloc (.cells #[.int .i64 53, .int .i64 (-1074), .int .i64 971, .int .i64 52] 31)) := (Below.refl _ _).alloc (Nat.le_refl _) _
  generalize w.alloc (.cells #[.int .i64 53, .int .i64 (-1074), .int .i64 971, .int .i64 52] 31) = W at *
  have L0 := K0.lt
  have e0 : W.cell? ⟨w.heap.size, 0, none⟩ = some (.int .i64 53) := K0.at 0
  have e1 : W.cell? ⟨w.heap.size, 1, none⟩ = some (.int .i64 (-1074)) := K0.at 1
  have e2 : W.cell? ⟨w.heap.size, 2, none⟩ = some (.int .i64 971) := K0.at 2
  have e3 : W.cell? ⟨w.heap.size, 3, none⟩ = some (.int .i64 52) := K0.at 3
  have h1 : IntKind.i64.wrap 51 = 51 := by decide
  have h2 : bits .or .u64 9218868437227405312 2251799813685248 = 9221120237041090560 := by decide
  have h3 : IntKind.u64.wrap 9218868437227405312 = 9218868437227405312 := by decide
  have h4 : IntKind.u64.wrap 2251799813685248 = 2251799813685248 := by decide
  go_region_held3 (fun x => x.cell? ⟨w.heap.size, 0, none⟩ = some (.int .i64 53) ∧ x.cell? ⟨w.heap.size, 1, none⟩ = some (.int .i64 (-1074)) ∧ x.cell? ⟨w.heap.size, 2, none⟩ = some (.int .i64 971) ∧ x.cell? ⟨w.heap.size, 3, none⟩ = some (.int .i64 52)) (go_keep) (first
    | (go_at_call 43; refine (top_w _).mono ?_; rintro e w1 ⟨rfl, b1⟩; have J0 := K0.below (below_undrew b1) K0.lt; have f0 : w1.cell? ⟨w.heap.size, 0, none⟩ = some (.int .i64 53) := J0.at 0; have f1 : w1.cell? ⟨w.heap.size, 1, none⟩ = some (.int .i64 (-1074)) := J0.at 1; have f2 : w1.cell? ⟨w.heap.size, 2, none⟩ = some (.int .i64 971) := J0.at 2; have f3 : w1.cell? ⟨w.heap.size, 3, none⟩ = some (.int .i64 52) := J0.at 3)
    | fail)
  go_wp2
  go_ret
  exact ⟨rfl, bel_drew pr b1⟩
/-- The reference's size of small floats. -/
abbrev szS : Value := .agg #[.int .i64 24, .int .i64 (-149), .int .i64 104, .int .i64 23]
set_option maxRecDepth 100000 in
set_option maxHeartbeats 1600000 in
theorem Small_any (w : World) : Calls Try.prog 14 #[] w fun e w' => e = .returned szS ∧ Below w.heap.size w w' := by
  go_enter Try.func14, Try.ntmps14
  go_wp2
  refine bodyPost_ret (v := szS) (by simp [results, Try.results14, go_sem]) rfl ⟨rfl, ?_⟩
  exact (Below.refl _ _).alloc (Nat.le_refl _) _
set_option maxRecDepth 100000 in
set_option maxHeartbeats 1600000 in
theorem top_s (w : World) : Calls Try.prog 43 #[szS] w fun e w' => e = .returned (.int .u64 255) ∧ Below w.heap.size w w' := by
  go_enter Try.func43, Try.ntmps43
  go_wp2
  go_ret
  exact ⟨rfl, (Below.refl _ _).alloc (Nat.le_refl _) _⟩
set_option maxRecDepth 100000 in
set_option maxHeartbeats 1600000 in
theorem sign_s (w : World) : Calls Try.prog 78 #[szS] w fun e w' => e = .returned (.int .i64 31) ∧ Below w.heap.size w w' := by
  go_enter Try.func78, Try.ntmps78
  go_wp2
  go_ret
  exact ⟨rfl, (Below.refl _ _).alloc (Nat.le_refl _) _⟩
set_option maxRecDepth 100000 in
set_option maxHeartbeats 1600000 in
theorem Neg_s (n : Int) (g : Bool) (h : (bits .and .u64 (n / 2147483648) 1 == 1) = g) (w : World) : Calls Try.prog 44 #[szS, .int .u64 n] w fun e w' => e = .returned (.bool g) ∧ Below w.heap.size w w' := by
  go_enter Try.func44, Try.ntmps44
  have K0 := Blk.new w #[.int .i64 24, .int .i64 (-149), .int .i64 104, .int .i64 23] 31
  have pr : Below w.heap.size w (w.alloc (.cells #[.int .i64 24, .int .i64 (-149), .int .i64 104, .int .i64 23] 31)) := (Below.refl _ _).alloc (Nat.le_refl _) _
  go_wp2_with (first
    | (go_at_call 78; refine (sign_s _).mono ?_; rintro e w1 ⟨rfl, b1⟩; replace K0 := K0.below b1 K0.lt; replace pr := bel pr b1; clear b1)
    | fail)
  go_ret
  exact ⟨rfl, pr⟩
set_option maxRecDepth 100000 in
set_option maxHeartbeats 1600000 in
theorem signed_s_pos (n : Int) (w : World) : Calls Try.prog 50 #[szS, .bool false, .int .u64 n] w fun e w' => e = .returned (.int .u64 n) ∧ Below w.heap.size w w' := by
  go_enter Try.func50, Try.ntmps50
  have K0 := Blk.new w #[.int .i64 24, .int .i64 (-149), .int .i64 104, .int .i64 23] 31
  have pr : Below w.heap.size w (w.alloc (.cells #[.int .i64 24, .int .i64 (-149), .int .i64 104, .int .i64 23] 31)) := (Below.refl _ _).alloc (Nat.le_refl _) _
  go_wp2
  go_ret
  exact ⟨rfl, pr⟩
set_option maxRecDepth 100000 in
set_option maxHeartbeats 1600000 in
theorem signed_s_neg (n m : Int) (h : bits .or .u64 n 2147483648 = m) (w : World) : Calls Try.prog 50 #[szS, .bool true, .int .u64 n] w fun e w' => e = .returned (.int .u64 m) ∧ Below w.heap.size w w' := by
  go_enter Try.func50, Try.ntmps50
  have K0 := Blk.new w #[.int .i64 24, .int .i64 (-149), .int .i64 104, .int .i64 23] 31
  have pr : Below w.heap.size w (w.alloc (.cells #[.int .i64 24, .int .i64 (-149), .int .i64 104, .int .i64 23] 31)) := (Below.refl _ _).alloc (Nat.le_refl _) _
  go_wp2_with (first
    | (go_at_call 78; refine (sign_s _).mono ?_; rintro e w1 ⟨rfl, b1⟩; replace K0 := K0.below b1 K0.lt; replace pr := bel pr b1; clear b1)
    | fail)
  go_ret
  exact ⟨rfl, pr⟩
set_option maxRecDepth 100000 in
set_option maxHeartbeats 1600000 in
theorem None_s (w : World) : Calls Try.prog 48 #[szS] w fun e w' => e = .returned (.int .u64 2143289344) ∧ Below w.heap.size w w' := by
  go_enter Try.func48, Try.ntmps48
  go_wp2_with fail
  have K0 := Blk.new w #[.int .i64 24, .int .i64 (-149), .int .i64 104, .int .i64 23] 31
  have pr : Below w.heap.size w (w.alloc (.cells #[.int .i64 24, .int .i64 (-149), .int .i64 104, .int .i64 23] 31)) := (Below.refl _ _).alloc (Nat.le_refl _) _
  generalize w.alloc (.cells #[.int .i64 24, .int .i64 (-149), .int .i64 104, .int .i64 23] 31) = W at *
  have L0 := K0.lt
  have e0 : W.cell? ⟨w.heap.size, 0, none⟩ = some (.int .i64 24) := K0.at 0
  have e1 : W.cell? ⟨w.heap.size, 1, none⟩ = some (.int .i64 (-149)) := K0.at 1
  have e2 : W.cell? ⟨w.heap.size, 2, none⟩ = some (.int .i64 104) := K0.at 2
  have e3 : W.cell? ⟨w.heap.size, 3, none⟩ = some (.int .i64 23) := K0.at 3
  have h1 : IntKind.i64.wrap 22 = 22 := by decide
  have h2 : bits .or .u64 2139095040 4194304 = 2143289344 := by decide
  have h3 : IntKind.u64.wrap 2139095040 = 2139095040 := by decide
  have h4 : IntKind.u64.wrap 4194304 = 4194304 := by decide
  go_region_held3 (fun x => x.cell? ⟨w.heap.size, 0, none⟩ = some (.int .i64 24) ∧ x.cell? ⟨w.heap.size, 1, none⟩ = some (.int .i64 (-149)) ∧ x.cell? ⟨w.heap.size, 2, none⟩ = some (.int .i64 104) ∧ x.cell? ⟨w.heap.size, 3, none⟩ = some (.int .i64 23)) (go_keep) (first
    | (go_at_call 43; refine (top_s _).mono ?_; rintro e w1 ⟨rfl, b1⟩; have J0 := K0.below (below_undrew b1) K0.lt; have f0 : w1.cell? ⟨w.heap.size, 0, none⟩ = some (.int .i64 24) := J0.at 0; have f1 : w1.cell? ⟨w.heap.size, 1, none⟩ = some (.int .i64 (-149)) := J0.at 1; have f2 : w1.cell? ⟨w.heap.size, 2, none⟩ = some (.int .i64 104) := J0.at 2; have f3 : w1.cell? ⟨w.heap.size, 3, none⟩ = some (.int .i64 23) := J0.at 3)
    | fail)
  go_wp2
  go_ret
  exact ⟨rfl, bel_drew pr b1⟩
end Go.Proofs.Ytjgljcifnklmeaa
