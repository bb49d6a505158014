import Derived.Test.YtlngkonmalallaaPart21

namespace Go.Proofs.Ytlngkonmalallaa
open Go.RowKit Tn

theorem okEnd_iff (n : Nat) (hn : n < 18446744073709551616) : okEnd n = (!nan64 n && !((n : Int) == 9223372036854775808)) := by
  unfold okEnd
  have e : (decide (rg64 n = 0) && ng64 n) = ((n : Int) == 9223372036854775808) := by
    rw [Bool.eq_iff_iff, Bool.and_eq_true, decide_eq_true_iff, beq_iff_eq]
    rcases ng_split n hn with ⟨k1, k2⟩ | ⟨k1, k2⟩
    · rw [k1]; simp; omega
    · rw [k1]
      have := rg64_lt n
      simp; omega
  rw [e]
set_option maxRecDepth 100000 in
set_option maxHeartbeats 1600000 in
theorem Good_1 (lo hi : Nat) (hl : lo < 18446744073709551616) (hh : hi < 18446744073709551616) (h1 : nan64 lo = true) (w : World) : Calls Try.prog 86 #[spn lo hi] w fun x w' => x = .returned (.bool (false)) ∧ Below w.heap.size w w' := by
  have N1 := IsNone64 lo hl
  have N2 := IsNone64 hi hh
  have hb1 := f64bits lo
  have hb2 := f64bits hi
  rw [h1] at N1
  have KA := Blk.new w #[.float .f64 lo, .float .f64 hi] 72
  have pr : Below w.heap.size w (w.alloc (.cells #[.float .f64 lo, .float .f64 hi] 72)) := (Below.refl _ _).alloc (Nat.le_refl _) _
  go_enter Try.func86, Try.ntmps86
  go_wp2_with (first
    | (go_at_call 11; go_must (refine (Wide_any _).mono ?_; rintro r w1 ⟨rfl, bb⟩; replace KA := (KA.below bb KA.lt).alloc (.cells #[.int .i64 53, .int .i64 (-1074), .int .i64 971, .int .i64 52] 31); have KZ := Blk.new w1 #[.int .i64 53, .int .i64 (-1074), .int .i64 971, .int .i64 52] 31; replace pr := (bel pr bb).alloc (bel pr bb).size (.cells #[.int .i64 53, .int .i64 (-1074), .int .i64 971, .int .i64 52] 31); clear bb; have x0 : (w1.alloc (.cells #[.int .i64 53, .int .i64 (-1074), .int .i64 971, .int .i64 52] 31)).cell? ⟨w.heap.size, 0, none⟩ = some (.float .f64 lo) := KA.at 0; have x1 : (w1.alloc (.cells #[.int .i64 53, .int .i64 (-1074), .int .i64 971, .int .i64 52] 31)).cell? ⟨w.heap.size, 1, none⟩ = some (.float .f64 hi) := KA.at 1))
    | fail)
  clear x0 x1
  generalize (w1.alloc (.cells #[.int .i64 53, .int .i64 (-1074), .int .i64 971, .int .i64 52] 31)) = W at *
  have z0 : W.cell? ⟨w1.heap.size, 0, none⟩ = some (.int .i64 53) := KZ.at 0
  have z1 : W.cell? ⟨w1.heap.size, 1, none⟩ = some (.int .i64 (-1074)) := KZ.at 1
  have z2 : W.cell? ⟨w1.heap.size, 2, none⟩ = some (.int .i64 971) := KZ.at 2
  have z3 : W.cell? ⟨w1.heap.size, 3, none⟩ = some (.int .i64 52) := KZ.at 3
  have x0 : W.cell? ⟨w.heap.size, 0, none⟩ = some (.float .f64 lo) := KA.at 0
  have x1 : W.cell? ⟨w.heap.size, 1, none⟩ = some (.float .f64 hi) := KA.at 1
  go_region_held3 (fun x => x.cell? ⟨w.heap.size, 0, none⟩ = some (.float .f64 lo) ∧ x.cell? ⟨w.heap.size, 1, none⟩ = some (.float .f64 hi)) (go_keep) (fail)
  replace KA : Blk W.drew w.heap.size #[.float .f64 lo, .float .f64 hi] 72 := KA
  replace KZ : Blk W.drew w1.heap.size #[.int .i64 53, .int .i64 (-1074), .int .i64 971, .int .i64 52] 31 := KZ
  replace pr : Below w.heap.size w W.drew := pr.drew
  clear z0 z1 z2 z3 x0 x1
  generalize W.drew = V at *
  have z0 : V.cell? ⟨w1.heap.size, 0, none⟩ = some (.int .i64 53) := KZ.at 0
  have z1 : V.cell? ⟨w1.heap.size, 1, none⟩ = some (.int .i64 (-1074)) := KZ.at 1
  have z2 : V.cell? ⟨w1.heap.size, 2, none⟩ = some (.int .i64 971) := KZ.at 2
  have z3 : V.cell? ⟨w1.heap.size, 3, none⟩ = some (.int .i64 52) := KZ.at 3
  have x0 : V.cell? ⟨w.heap.size, 0, none⟩ = some (.float .f64 lo) := KA.at 0
  have x1 : V.cell? ⟨w.heap.size, 1, none⟩ = some (.float .f64 hi) := KA.at 1
  go_wp2_with (first
    | (go_at_call 62; (with_reducible refine (N1 _).mono ?_); rintro r w2 ⟨rfl, bb⟩; replace KA := KA.below bb KA.lt; replace KZ := KZ.below bb KZ.lt; replace pr := bel pr bb; clear bb; have z0 : w2.cell? ⟨w1.heap.size, 0, none⟩ = some (.int .i64 53) := KZ.at 0; have z1 : w2.cell? ⟨w1.heap.size, 1, none⟩ = some (.int .i64 (-1074)) := KZ.at 1; have z2 : w2.cell? ⟨w1.heap.size, 2, none⟩ = some (.int .i64 971) := KZ.at 2; have z3 : w2.cell? ⟨w1.heap.size, 3, none⟩ = some (.int .i64 52) := KZ.at 3; have x0 : w2.cell? ⟨w.heap.size, 0, none⟩ = some (.float .f64 lo) := KA.at 0; have x1 : w2.cell? ⟨w.heap.size, 1, none⟩ = some (.float .f64 hi) := KA.at 1)
    | (go_at_call 62; (with_reducible refine (N2 _).mono ?_); rintro r w3 ⟨rfl, bb⟩; replace KA := KA.below bb KA.lt; replace KZ := KZ.below bb KZ.lt; replace pr := bel pr bb; clear bb; have z0 : w3.cell? ⟨w1.heap.size, 0, none⟩ = some (.int .i64 53) := KZ.at 0; have z1 : w3.cell? ⟨w1.heap.size, 1, none⟩ = some (.int .i64 (-1074)) := KZ.at 1; have z2 : w3.cell? ⟨w1.heap.size, 2, none⟩ = some (.int .i64 971) := KZ.at 2; have z3 : w3.cell? ⟨w1.heap.size, 3, none⟩ = some (.int .i64 52) := KZ.at 3; have x0 : w3.cell? ⟨w.heap.size, 0, none⟩ = some (.float .f64 lo) := KA.at 0; have x1 : w3.cell? ⟨w.heap.size, 1, none⟩ = some (.float .f64 hi) := KA.at 1)
    | (go_at_call 60; (with_reducible refine (Infinite_w_pos _).mono ?_); rintro r w4 ⟨rfl, bb⟩; replace KA := KA.below bb KA.lt; replace KZ := KZ.below bb KZ.lt; replace pr := bel pr bb; clear bb; have z0 : w4.cell? ⟨w1.heap.size, 0, none⟩ = some (.int .i64 53) := KZ.at 0; have z1 : w4.cell? ⟨w1.heap.size, 1, none⟩ = some (.int .i64 (-1074)) := KZ.at 1; have z2 : w4.cell? ⟨w1.heap.size, 2, none⟩ = some (.int .i64 971) := KZ.at 2; have z3 : w4.cell? ⟨w1.heap.size, 3, none⟩ = some (.int .i64 52) := KZ.at 3; have x0 : w4.cell? ⟨w.heap.size, 0, none⟩ = some (.float .f64 lo) := KA.at 0; have x1 : w4.cell? ⟨w.heap.size, 1, none⟩ = some (.float .f64 hi) := KA.at 1)
    | (go_at_call 60; (with_reducible refine (Infinite_w_neg _).mono ?_); rintro r w5 ⟨rfl, bb⟩; replace KA := KA.below bb KA.lt; replace KZ := KZ.below bb KZ.lt; replace pr := bel pr bb; clear bb; have z0 : w5.cell? ⟨w1.heap.size, 0, none⟩ = some (.int .i64 53) := KZ.at 0; have z1 : w5.cell? ⟨w1.heap.size, 1, none⟩ = some (.int .i64 (-1074)) := KZ.at 1; have z2 : w5.cell? ⟨w1.heap.size, 2, none⟩ = some (.int .i64 971) := KZ.at 2; have z3 : w5.cell? ⟨w1.heap.size, 3, none⟩ = some (.int .i64 52) := KZ.at 3; have x0 : w5.cell? ⟨w.heap.size, 0, none⟩ = some (.float .f64 lo) := KA.at 0; have x1 : w5.cell? ⟨w.heap.size, 1, none⟩ = some (.float .f64 hi) := KA.at 1)
    | fail)
  go_ret
  exact ⟨rfl, pr⟩
set_option maxRecDepth 100000 in
set_option maxHeartbeats 1600000 in
theorem Good_2 (lo hi : Nat) (hl : lo < 18446744073709551616) (hh : hi < 18446744073709551616) (h1 : nan64 lo = false) (h2 : nan64 hi = true) (w : World) : Calls Try.prog 86 #[spn lo hi] w fun x w' => x = .returned (.bool (false)) ∧ Below w.heap.size w w' := by
  have N1 := IsNone64 lo hl
  have N2 := IsNone64 hi hh
  have hb1 := f64bits lo
  have hb2 := f64bits hi
  rw [h1] at N1
  rw [h2] at N2
  have KA := Blk.new w #[.float .f64 lo, .float .f64 hi] 72
  have pr : Below w.heap.size w (w.alloc (.cells #[.float .f64 lo, .float .f64 hi] 72)) := (Below.refl _ _).alloc (Nat.le_refl _) _
  go_enter Try.func86, Try.ntmps86
  go_wp2_with (first
    | (go_at_call 11; go_must (refine (Wide_any _).mono ?_; rintro r w1 ⟨rfl, bb⟩; replace KA := (KA.below bb KA.lt).alloc (.cells #[.int .i64 53, .int .i64 (-1074), .int .i64 971, .int .i64 52] 31); have KZ := Blk.new w1 #[.int .i64 53, .int .i64 (-1074), .int .i64 971, .int .i64 52] 31; replace pr := (bel pr bb).alloc (bel pr bb).size (.cells #[.int .i64 53, .int .i64 (-1074), .int .i64 971, .int .i64 52] 31); clear bb; have x0 : (w1.alloc (.cells #[.int .i64 53, .int .i64 (-1074), .int .i64 971, .int .i64 52] 31)).cell? ⟨w.heap.size, 0, none⟩ = some (.float .f64 lo) := KA.at 0; have x1 : (w1.alloc (.cells #[.int .i64 53, .int .i64 (-1074), .int .i64 971, .int .i64 52] 31)).cell? ⟨w.heap.size, 1, none⟩ = some (.float .f64 hi) := KA.at 1))
    | fail)
  clear x0 x1
  generalize (w1.alloc (.cells #[.int .i64 53, .int .i64 (-1074), .int .i64 971, .int .i64 52] 31)) = W at *
  have z0 : W.cell? ⟨w1.heap.size, 0, none⟩ = some (.int .i64 53) := KZ.at 0
  have z1 : W.cell? ⟨w1.heap.size, 1, none⟩ = some (.int .i64 (-1074)) := KZ.at 1
  have z2 : W.cell? ⟨w1.heap.size, 2, none⟩ = some (.int .i64 971) := KZ.at 2
  have z3 : W.cell? ⟨w1.heap.size, 3, none⟩ = some (.int .i64 52) := KZ.at 3
  have x0 : W.cell? ⟨w.heap.size, 0, none⟩ = some (.float .f64 lo) := KA.at 0
  have x1 : W.cell? ⟨w.heap.size, 1, none⟩ = some (.float .f64 hi) := KA.at 1
  go_region_held3 (fun x => x.cell? ⟨w.heap.size, 0, none⟩ = some (.float .f64 lo) ∧ x.cell? ⟨w.heap.size, 1, none⟩ = some (.float .f64 hi)) (go_keep) (fail)
  replace KA : Blk W.drew w.heap.size #[.float .f64 lo, .float .f64 hi] 72 := KA
  replace KZ : Blk W.drew w1.heap.size #[.int .i64 53, .int .i64 (-1074), .int .i64 971, .int .i64 52] 31 := KZ
  replace pr : Below w.heap.size w W.drew := pr.drew
  clear z0 z1 z2 z3 x0 x1
  generalize W.drew = V at *
  have z0 : V.cell? ⟨w1.heap.size, 0, none⟩ = some (.int .i64 53) := KZ.at 0
  have z1 : V.cell? ⟨w1.heap.size, 1, none⟩ = some (.int .i64 (-1074)) := KZ.at 1
  have z2 : V.cell? ⟨w1.heap.size, 2, none⟩ = some (.int .i64 971) := KZ.at 2
  have z3 : V.cell? ⟨w1.heap.size, 3, none⟩ = some (.int .i64 52) := KZ.at 3
  have x0 : V.cell? ⟨w.heap.size, 0, none⟩ = some (.float .f64 lo) := KA.at 0
  have x1 : V.cell? ⟨w.heap.size, 1, none⟩ = some (.float .f64 hi) := KA.at 1
  go_wp2_with (first
    | (go_at_call 62; (with_reducible refine (N1 _).mono ?_); rintro r w2 ⟨rfl, bb⟩; replace KA := KA.below bb KA.lt; replace KZ := KZ.below bb KZ.lt; replace pr := bel pr bb; clear bb; have z0 : w2.cell? ⟨w1.heap.size, 0, none⟩ = some (.int .i64 53) := KZ.at 0; have z1 : w2.cell? ⟨w1.heap.size, 1, none⟩ = some (.int .i64 (-1074)) := KZ.at 1; have z2 : w2.cell? ⟨w1.heap.size, 2, none⟩ = some (.int .i64 971) := KZ.at 2; have z3 : w2.cell? ⟨w1.heap.size, 3, none⟩ = some (.int .i64 52) := KZ.at 3; have x0 : w2.cell? ⟨w.heap.size, 0, none⟩ = some (.float .f64 lo) := KA.at 0; have x1 : w2.cell? ⟨w.heap.size, 1, none⟩ = some (.float .f64 hi) := KA.at 1)
    | (go_at_call 62; (with_reducible refine (N2 _).mono ?_); rintro r w3 ⟨rfl, bb⟩; replace KA := KA.below bb KA.lt; replace KZ := KZ.below bb KZ.lt; replace pr := bel pr bb; clear bb; have z0 : w3.cell? ⟨w1.heap.size, 0, none⟩ = some (.int .i64 53) := KZ.at 0; have z1 : w3.cell? ⟨w1.heap.size, 1, none⟩ = some (.int .i64 (-1074)) := KZ.at 1; have z2 : w3.cell? ⟨w1.heap.size, 2, none⟩ = some (.int .i64 971) := KZ.at 2; have z3 : w3.cell? ⟨w1.heap.size, 3, none⟩ = some (.int .i64 52) := KZ.at 3; have x0 : w3.cell? ⟨w.heap.size, 0, none⟩ = some (.float .f64 lo) := KA.at 0; have x1 : w3.cell? ⟨w.heap.size, 1, none⟩ = some (.float .f64 hi) := KA.at 1)
    | (go_at_call 60; (with_reducible refine (Infinite_w_pos _).mono ?_); rintro r w4 ⟨rfl, bb⟩; replace KA := KA.below bb KA.lt; replace KZ := KZ.below bb KZ.lt; replace pr := bel pr bb; clear bb; have z0 : w4.cell? ⟨w1.heap.size, 0, none⟩ = some (.int .i64 53) := KZ.at 0; have z1 : w4.cell? ⟨w1.heap.size, 1, none⟩ = some (.int .i64 (-1074)) := KZ.at 1; have z2 : w4.cell? ⟨w1.heap.size, 2, none⟩ = some (.int .i64 971) := KZ.at 2; have z3 : w4.cell? ⟨w1.heap.size, 3, none⟩ = some (.int .i64 52) := KZ.at 3; have x0 : w4.cell? ⟨w.heap.size, 0, none⟩ = some (.float .f64 lo) := KA.at 0; have x1 : w4.cell? ⟨w.heap.size, 1, none⟩ = some (.float .f64 hi) := KA.at 1)
    | (go_at_call 60; (with_reducible refine (Infinite_w_neg _).mono ?_); rintro r w5 ⟨rfl, bb⟩; replace KA := KA.below bb KA.lt; replace KZ := KZ.below bb KZ.lt; replace pr := bel pr bb; clear bb; have z0 : w5.cell? ⟨w1.heap.size, 0, none⟩ = some (.int .i64 53) := KZ.at 0; have z1 : w5.cell? ⟨w1.heap.size, 1, none⟩ = some (.int .i64 (-1074)) := KZ.at 1; have z2 : w5.cell? ⟨w1.heap.size, 2, none⟩ = some (.int .i64 971) := KZ.at 2; have z3 : w5.cell? ⟨w1.heap.size, 3, none⟩ = some (.int .i64 52) := KZ.at 3; have x0 : w5.cell? ⟨w.heap.size, 0, none⟩ = some (.float .f64 lo) := KA.at 0; have x1 : w5.cell? ⟨w.heap.size, 1, none⟩ = some (.float .f64 hi) := KA.at 1)
    | fail)
  go_ret
  exact ⟨rfl, pr⟩
set_option maxRecDepth 100000 in
set_option maxHeartbeats 1600000 in
theorem Good_3 (lo hi : Nat) (hl : lo < 18446744073709551616) (hh : hi < 18446744073709551616) (h1 : nan64 lo = false) (h2 : nan64 hi = false) (h3 : ((lo : Int) == 9223372036854775808) = true) (w : World) : Calls Try.prog 86 #[spn lo hi] w fun x w' => x = .returned (.bool (false)) ∧ Below w.heap.size w w' := by
  have N1 := IsNone64 lo hl
  have N2 := IsNone64 hi hh
  have hb1 := f64bits lo
  have hb2 := f64bits hi
  rw [h1] at N1
  rw [h2] at N2
  have KA := Blk.new w #[.float .f64 lo, .float .f64 hi] 72
  have pr : Below w.heap.size w (w.alloc (.cells #[.float .f64 lo, .float .f64 hi] 72)) := (Below.refl _ _).alloc (Nat.le_refl _) _
  go_enter Try.func86, Try.ntmps86
  go_wp2_with (first
    | (go_at_call 11; go_must (refine (Wide_any _).mono ?_; rintro r w1 ⟨rfl, bb⟩; replace KA := (KA.below bb KA.lt).alloc (.cells #[.int .i64 53, .int .i64 (-1074), .int .i64 971, .int .i64 52] 31); have KZ := Blk.new w1 #[.int .i64 53, .int .i64 (-1074), .int .i64 971, .int .i64 52] 31; replace pr := (bel pr bb).alloc (bel pr bb).size (.cells #[.int .i64 53, .int .i64 (-1074), .int .i64 971, .int .i64 52] 31); clear bb; have x0 : (w1.alloc (.cells #[.int .i64 53, .int .i64 (-1074), .int .i64 971, .int .i64 52] 31)).cell? ⟨w.heap.size, 0, none⟩ = some (.float .f64 lo) := KA.at 0; have x1 : (w1.alloc (.cells #[.int .i64 53, .int .i64 (-1074), .int .i64 971, .int .i64 52] 31)).cell? ⟨w.heap.size, 1, none⟩ = some (.float .f64 hi) := KA.at 1))
    | fail)
  clear x0 x1
  generalize (w1.alloc (.cells #[.int .i64 53, .int .i64 (-1074), .int .i64 971, .int .i64 52] 31)) = W at *
  have z0 : W.cell? ⟨w1.heap.size, 0, none⟩ = some (.int .i64 53) := KZ.at 0
  have z1 : W.cell? ⟨w1.heap.size, 1, none⟩ = some (.int .i64 (-1074)) := KZ.at 1
  have z2 : W.cell? ⟨w1.heap.size, 2, none⟩ = some (.int .i64 971) := KZ.at 2
  have z3 : W.cell? ⟨w1.heap.size, 3, none⟩ = some (.int .i64 52) := KZ.at 3
  have x0 : W.cell? ⟨w.heap.size, 0, none⟩ = some (.float .f64 lo) := KA.at 0
  have x1 : W.cell? ⟨w.heap.size, 1, none⟩ = some (.float .f64 hi) := KA.at 1
  go_region_held3 (fun x => x.cell? ⟨w.heap.size, 0, none⟩ = some (.float .f64 lo) ∧ x.cell? ⟨w.heap.size, 1, none⟩ = some (.float .f64 hi)) (go_keep) (fail)
  replace KA : Blk W.drew w.heap.size #[.float .f64 lo, .float .f64 hi] 72 := KA
  replace KZ : Blk W.drew w1.heap.size #[.int .i64 53, .int .i64 (-1074), .int .i64 971, .int .i64 52] 31 := KZ
  replace pr : Below w.heap.size w W.drew := pr.drew
  clear z0 z1 z2 z3 x0 x1
  generalize W.drew = V at *
  have z0 : V.cell? ⟨w1.heap.size, 0, none⟩ = some (.int .i64 53) := KZ.at 0
  have z1 : V.cell? ⟨w1.heap.size, 1, none⟩ = some (.int .i64 (-1074)) := KZ.at 1
  have z2 : V.cell? ⟨w1.heap.size, 2, none⟩ = some (.int .i64 971) := KZ.at 2
  have z3 : V.cell? ⟨w1.heap.size, 3, none⟩ = some (.int .i64 52) := KZ.at 3
  have x0 : V.cell? ⟨w.heap.size, 0, none⟩ = some (.float .f64 lo) := KA.at 0
  have x1 : V.cell? ⟨w.heap.size, 1, none⟩ = some (.float .f64 hi) := KA.at 1
  go_wp2_with (first
    | (go_at_call 62; (with_reducible refine (N1 _).mono ?_); rintro r w2 ⟨rfl, bb⟩; replace KA := KA.below bb KA.lt; replace KZ := KZ.below bb KZ.lt; replace pr := bel pr bb; clear bb; have z0 : w2.cell? ⟨w1.heap.size, 0, none⟩ = some (.int .i64 53) := KZ.at 0; have z1 : w2.cell? ⟨w1.heap.size, 1, none⟩ = some (.int .i64 (-1074)) := KZ.at 1; have z2 : w2.cell? ⟨w1.heap.size, 2, none⟩ = some (.int .i64 971) := KZ.at 2; have z3 : w2.cell? ⟨w1.heap.size, 3, none⟩ = some (.int .i64 52) := KZ.at 3; have x0 : w2.cell? ⟨w.heap.size, 0, none⟩ = some (.float .f64 lo) := KA.at 0; have x1 : w2.cell? ⟨w.heap.size, 1, none⟩ = some (.float .f64 hi) := KA.at 1)
    | (go_at_call 62; (with_reducible refine (N2 _).mono ?_); rintro r w3 ⟨rfl, bb⟩; replace KA := KA.below bb KA.lt; replace KZ := KZ.below bb KZ.lt; replace pr := bel pr bb; clear bb; have z0 : w3.cell? ⟨w1.heap.size, 0, none⟩ = some (.int .i64 53) := KZ.at 0; have z1 : w3.cell? ⟨w1.heap.size, 1, none⟩ = some (.int .i64 (-1074)) := KZ.at 1; have z2 : w3.cell? ⟨w1.heap.size, 2, none⟩ = some (.int .i64 971) := KZ.at 2; have z3 : w3.cell? ⟨w1.heap.size, 3, none⟩ = some (.int .i64 52) := KZ.at 3; have x0 : w3.cell? ⟨w.heap.size, 0, none⟩ = some (.float .f64 lo) := KA.at 0; have x1 : w3.cell? ⟨w.heap.size, 1, none⟩ = some (.float .f64 hi) := KA.at 1)
    | (go_at_call 60; (with_reducible refine (Infinite_w_pos _).mono ?_); rintro r w4 ⟨rfl, bb⟩; replace KA := KA.below bb KA.lt; replace KZ := KZ.below bb KZ.lt; replace pr := bel pr bb; clear bb; have z0 : w4.cell? ⟨w1.heap.size, 0, none⟩ = some (.int .i64 53) := KZ.at 0; have z1 : w4.cell? ⟨w1.heap.size, 1, none⟩ = some (.int .i64 (-1074)) := KZ.at 1; have z2 : w4.cell? ⟨w1.heap.size, 2, none⟩ = some (.int .i64 971) := KZ.at 2; have z3 : w4.cell? ⟨w1.heap.size, 3, none⟩ = some (.int .i64 52) := KZ.at 3; have x0 : w4.cell? ⟨w.heap.size, 0, none⟩ = some (.float .f64 lo) := KA.at 0; have x1 : w4.cell? ⟨w.heap.size, 1, none⟩ = some (.float .f64 hi) := KA.at 1)
    | (go_at_call 60; (with_reducible refine (Infinite_w_neg _).mono ?_); rintro r w5 ⟨rfl, bb⟩; replace KA := KA.below bb KA.lt; replace KZ := KZ.below bb KZ.lt; replace pr := bel pr bb; clear bb; have z0 : w5.cell? ⟨w1.heap.size, 0, none⟩ = some (.int .i64 53) := KZ.at 0; have z1 : w5.cell? ⟨w1.heap.size, 1, none⟩ = some (.int .i64 (-1074)) := KZ.at 1; have z2 : w5.cell? ⟨w1.heap.size, 2, none⟩ = some (.int .i64 971) := KZ.at 2; have z3 : w5.cell? ⟨w1.heap.size, 3, none⟩ = some (.int .i64 52) := KZ.at 3; have x0 : w5.cell? ⟨w.heap.size, 0, none⟩ = some (.float .f64 lo) := KA.at 0; have x1 : w5.cell? ⟨w.heap.size, 1, none⟩ = some (.float .f64 hi) := KA.at 1)
    | fail)
  go_ret
  exact ⟨rfl, pr⟩
set_option maxRecDepth 100000 in
set_option maxHeartbeats 1600000 in
theorem Good_4 (lo hi : Nat) (hl : lo < 18446744073709551616) (hh : hi < 18446744073709551616) (h1 : nan64 lo = false) (h2 : nan64 hi = false) (h3 : ((lo : Int) == 9223372036854775808) = false) (h4 : ((hi : Int) == 9223372036854775808) = true) (w : World) : Calls Try.prog 86 #[spn lo hi] w fun x w' => x = .returned (.bool (false)) ∧ Below w.heap.size w w' := by
  have N1 := IsNone64 lo hl
  have N2 := IsNone64 hi hh
  have hb1 := f64bits lo
  have hb2 := f64bits hi
  rw [h1] at N1
  rw [h2] at N2
  have KA := Blk.new w #[.float .f64 lo, .float .f64 hi] 72
  have pr : Below w.heap.size w (w.alloc (.cells #[.float .f64 lo, .float .f64 hi] 72)) := (Below.refl _ _).alloc (Nat.le_refl _) _
  go_enter Try.func86, Try.ntmps86
  go_wp2_with (first
    | (go_at_call 11; go_must (refine (Wide_any _).mono ?_; rintro r w1 ⟨rfl, bb⟩; replace KA := (KA.below bb KA.lt).alloc (.cells #[.int .i64 53, .int .i64 (-1074), .int .i64 971, .int .i64 52] 31); have KZ := Blk.new w1 #[.int .i64 53, .int .i64 (-1074), .int .i64 971, .int .i64 52] 31; replace pr := (bel pr bb).alloc (bel pr bb).size (.cells #[.int .i64 53, .int .i64 (-1074), .int .i64 971, .int .i64 52] 31); clear bb; have x0 : (w1.alloc (.cells #[.int .i64 53, .int .i64 (-1074), .int .i64 971, .int .i64 52] 31)).cell? ⟨w.heap.size, 0, none⟩ = some (.float .f64 lo) := KA.at 0; have x1 : (w1.alloc (.cells #[.int .i64 53, .int .i64 (-1074), .int .i64 971, .int .i64 52] 31)).cell? ⟨w.heap.size, 1, none⟩ = some (.float .f64 hi) := KA.at 1))
    | fail)
  clear x0 x1
  generalize (w1.alloc (.cells #[.int .i64 53, .int .i64 (-1074), .int .i64 971, .int .i64 52] 31)) = W at *
  have z0 : W.cell? ⟨w1.heap.size, 0, none⟩ = some (.int .i64 53) := KZ.at 0
  have z1 : W.cell? ⟨w1.heap.size, 1, none⟩ = some (.int .i64 (-1074)) := KZ.at 1
  have z2 : W.cell? ⟨w1.heap.size, 2, none⟩ = some (.int .i64 971) := KZ.at 2
  have z3 : W.cell? ⟨w1.heap.size, 3, none⟩ = some (.int .i64 52) := KZ.at 3
  have x0 : W.cell? ⟨w.heap.size, 0, none⟩ = some (.float .f64 lo) := KA.at 0
  have x1 : W.cell? ⟨w.heap.size, 1, none⟩ = some (.float .f64 hi) := KA.at 1
  go_region_held3 (fun x => x.cell? ⟨w.heap.size, 0, none⟩ = some (.float .f64 lo) ∧ x.cell? ⟨w.heap.size, 1, none⟩ = some (.float .f64 hi)) (go_keep) (fail)
  replace KA : Blk W.drew w.heap.size #[.float .f64 lo, .float .f64 hi] 72 := KA
  replace KZ : Blk W.drew w1.heap.size #[.int .i64 53, .int .i64 (-1074), .int .i64 971, .int .i64 52] 31 := KZ
  replace pr : Below w.heap.size w W.drew := pr.drew
  clear z0 z1 z2 z3 x0 x1
  generalize W.drew = V at *
  have z0 : V.cell? ⟨w1.heap.size, 0, none⟩ = some (.int .i64 53) := KZ.at 0
  have z1 : V.cell? ⟨w1.heap.size, 1, none⟩ = some (.int .i64 (-1074)) := KZ.at 1
  have z2 : V.cell? ⟨w1.heap.size, 2, none⟩ = some (.int .i64 971) := KZ.at 2
  have z3 : V.cell? ⟨w1.heap.size, 3, none⟩ = some (.int .i64 52) := KZ.at 3
  have x0 : V.cell? ⟨w.heap.size, 0, none⟩ = some (.float .f64 lo) := KA.at 0
  have x1 : V.cell? ⟨w.heap.size, 1, none⟩ = some (.float .f64 hi) := KA.at 1
  go_wp2_with (first
    | (go_at_call 62; (with_reducible refine (N1 _).mono ?_); rintro r w2 ⟨rfl, bb⟩; replace KA := KA.below bb KA.lt; replace KZ := KZ.below bb KZ.lt; replace pr := bel pr bb; clear bb; have z0 : w2.cell? ⟨w1.heap.size, 0, none⟩ = some (.int .i64 53) := KZ.at 0; have z1 : w2.cell? ⟨w1.heap.size, 1, none⟩ = some (.int .i64 (-1074)) := KZ.at 1; have z2 : w2.cell? ⟨w1.heap.size, 2, none⟩ = some (.int .i64 971) := KZ.at 2; have z3 : w2.cell? ⟨w1.heap.size, 3, none⟩ = some (.int .i64 52) := KZ.at 3; have x0 : w2.cell? ⟨w.heap.size, 0, none⟩ = some (.float .f64 lo) := KA.at 0; have x1 : w2.cell? ⟨w.heap.size, 1, none⟩ = some (.float .f64 hi) := KA.at 1)
    | (go_at_call 62; (with_reducible refine (N2 _).mono ?_); rintro r w3 ⟨rfl, bb⟩; replace KA := KA.below bb KA.lt; replace KZ := KZ.below bb KZ.lt; replace pr := bel pr bb; clear bb; have z0 : w3.cell? ⟨w1.heap.size, 0, none⟩ = some (.int .i64 53) := KZ.at 0; have z1 : w3.cell? ⟨w1.heap.size, 1, none⟩ = some (.int .i64 (-1074)) := KZ.at 1; have z2 : w3.cell? ⟨w1.heap.size, 2, none⟩ = some (.int .i64 971) := KZ.at 2; have z3 : w3.cell? ⟨w1.heap.size, 3, none⟩ = some (.int .i64 52) := KZ.at 3; have x0 : w3.cell? ⟨w.heap.size, 0, none⟩ = some (.float .f64 lo) := KA.at 0; have x1 : w3.cell? ⟨w.heap.size, 1, none⟩ = some (.float .f64 hi) := KA.at 1)
    | (go_at_call 60; (with_reducible refine (Infinite_w_pos _).mono ?_); rintro r w4 ⟨rfl, bb⟩; replace KA := KA.below bb KA.lt; replace KZ := KZ.below bb KZ.lt; replace pr := bel pr bb; clear bb; have z0 : w4.cell? ⟨w1.heap.size, 0, none⟩ = some (.int .i64 53) := KZ.at 0; have z1 : w4.cell? ⟨w1.heap.size, 1, none⟩ = some (.int .i64 (-1074)) := KZ.at 1; have z2 : w4.cell? ⟨w1.heap.size, 2, none⟩ = some (.int .i64 971) := KZ.at 2; have z3 : w4.cell? ⟨w1.heap.size, 3, none⟩ = some (.int .i64 52) := KZ.at 3; have x0 : w4.cell? ⟨w.heap.size, 0, none⟩ = some (.float .f64 lo) := KA.at 0; have x1 : w4.cell? ⟨w.heap.size, 1, none⟩ = some (.float .f64 hi) := KA.at 1)
    | (go_at_call 60; (with_reducible refine (Infinite_w_neg _).mono ?_); rintro r w5 ⟨rfl, bb⟩; replace KA := KA.below bb KA.lt; replace KZ := KZ.below bb KZ.lt; replace pr := bel pr bb; clear bb; have z0 : w5.cell? ⟨w1.heap.size, 0, none⟩ = some (.int .i64 53) := KZ.at 0; have z1 : w5.cell? ⟨w1.heap.size, 1, none⟩ = some (.int .i64 (-1074)) := KZ.at 1; have z2 : w5.cell? ⟨w1.heap.size, 2, none⟩ = some (.int .i64 971) := KZ.at 2; have z3 : w5.cell? ⟨w1.heap.size, 3, none⟩ = some (.int .i64 52) := KZ.at 3; have x0 : w5.cell? ⟨w.heap.size, 0, none⟩ = some (.float .f64 lo) := KA.at 0; have x1 : w5.cell? ⟨w.heap.size, 1, none⟩ = some (.float .f64 hi) := KA.at 1)
    | fail)
  go_ret
  exact ⟨rfl, pr⟩
set_option maxRecDepth 100000 in
set_option maxHeartbeats 1600000 in
theorem Good_5 (lo hi : Nat) (hl : lo < 18446744073709551616) (hh : hi < 18446744073709551616) (h1 : nan64 lo = false) (h2 : nan64 hi = false) (h3 : ((lo : Int) == 9223372036854775808) = false) (h4 : ((hi : Int) == 9223372036854775808) = false) (h5 : ((lo : Int) == 9218868437227405312) = true) (w : World) : Calls Try.prog 86 #[spn lo hi] w fun x w' => x = .returned (.bool (false)) ∧ Below w.heap.size w w' := by
  have N1 := IsNone64 lo hl
  have N2 := IsNone64 hi hh
  have hb1 := f64bits lo
  have hb2 := f64bits hi
  rw [h1] at N1
  rw [h2] at N2
  have KA := Blk.new w #[.float .f64 lo, .float .f64 hi] 72
  have pr : Below w.heap.size w (w.alloc (.cells #[.float .f64 lo, .float .f64 hi] 72)) := (Below.refl _ _).alloc (Nat.le_refl _) _
  go_enter Try.func86, Try.ntmps86
  go_wp2_with (first
    | (go_at_call 11; go_must (refine (Wide_any _).mono ?_; rintro r w1 ⟨rfl, bb⟩; replace KA := (KA.below bb KA.lt).alloc (.cells #[.int .i64 53, .int .i64 (-1074), .int .i64 971, .int .i64 52] 31); have KZ := Blk.new w1 #[.int .i64 53, .int .i64 (-1074), .int .i64 971, .int .i64 52] 31; replace pr := (bel pr bb).alloc (bel pr bb).size (.cells #[.int .i64 53, .int .i64 (-1074), .int .i64 971, .int .i64 52] 31); clear bb; have x0 : (w1.alloc (.cells #[.int .i64 53, .int .i64 (-1074), .int .i64 971, .int .i64 52] 31)).cell? ⟨w.heap.size, 0, none⟩ = some (.float .f64 lo) := KA.at 0; have x1 : (w1.alloc (.cells #[.int .i64 53, .int .i64 (-1074), .int .i64 971, .int .i64 52] 31)).cell? ⟨w.heap.size, 1, none⟩ = some (.float .f64 hi) := KA.at 1))
    | fail)
  clear x0 x1
  generalize (w1.alloc (.cells #[.int .i64 53, .int .i64 (-1074), .int .i64 971, .int .i64 52] 31)) = W at *
  have z0 : W.cell? ⟨w1.heap.size, 0, none⟩ = some (.int .i64 53) := KZ.at 0
  have z1 : W.cell? ⟨w1.heap.size, 1, none⟩ = some (.int .i64 (-1074)) := KZ.at 1
  have z2 : W.cell? ⟨w1.heap.size, 2, none⟩ = some (.int .i64 971) := KZ.at 2
  have z3 : W.cell? ⟨w1.heap.size, 3, none⟩ = some (.int .i64 52) := KZ.at 3
  have x0 : W.cell? ⟨w.heap.size, 0, none⟩ = some (.float .f64 lo) := KA.at 0
  have x1 : W.cell? ⟨w.heap.size, 1, none⟩ = some (.float .f64 hi) := KA.at 1
  go_region_held3 (fun x => x.cell? ⟨w.heap.size, 0, none⟩ = some (.float .f64 lo) ∧ x.cell? ⟨w.heap.size, 1, none⟩ = some (.float .f64 hi)) (go_keep) (fail)
  replace KA : Blk W.drew w.heap.size #[.float .f64 lo, .float .f64 hi] 72 := KA
  replace KZ : Blk W.drew w1.heap.size #[.int .i64 53, .int .i64 (-1074), .int .i64 971, .int .i64 52] 31 := KZ
  replace pr : Below w.heap.size w W.drew := pr.drew
  clear z0 z1 z2 z3 x0 x1
  generalize W.drew = V at *
  have z0 : V.cell? ⟨w1.heap.size, 0, none⟩ = some (.int .i64 53) := KZ.at 0
  have z1 : V.cell? ⟨w1.heap.size, 1, none⟩ = some (.int .i64 (-1074)) := KZ.at 1
  have z2 : V.cell? ⟨w1.heap.size, 2, none⟩ = some (.int .i64 971) := KZ.at 2
  have z3 : V.cell? ⟨w1.heap.size, 3, none⟩ = some (.int .i64 52) := KZ.at 3
  have x0 : V.cell? ⟨w.heap.size, 0, none⟩ = some (.float .f64 lo) := KA.at 0
  have x1 : V.cell? ⟨w.heap.size, 1, none⟩ = some (.float .f64 hi) := KA.at 1
  go_wp2_with (first
    | (go_at_call 62; (with_reducible refine (N1 _).mono ?_); rintro r w2 ⟨rfl, bb⟩; replace KA := KA.below bb KA.lt; replace KZ := KZ.below bb KZ.lt; replace pr := bel pr bb; clear bb; have z0 : w2.cell? ⟨w1.heap.size, 0, none⟩ = some (.int .i64 53) := KZ.at 0; have z1 : w2.cell? ⟨w1.heap.size, 1, none⟩ = some (.int .i64 (-1074)) := KZ.at 1; have z2 : w2.cell? ⟨w1.heap.size, 2, none⟩ = some (.int .i64 971) := KZ.at 2; have z3 : w2.cell? ⟨w1.heap.size, 3, none⟩ = some (.int .i64 52) := KZ.at 3; have x0 : w2.cell? ⟨w.heap.size, 0, none⟩ = some (.float .f64 lo) := KA.at 0; have x1 : w2.cell? ⟨w.heap.size, 1, none⟩ = some (.float .f64 hi) := KA.at 1)
    | (go_at_call 62; (with_reducible refine (N2 _).mono ?_); rintro r w3 ⟨rfl, bb⟩; replace KA := KA.below bb KA.lt; replace KZ := KZ.below bb KZ.lt; replace pr := bel pr bb; clear bb; have z0 : w3.cell? ⟨w1.heap.size, 0, none⟩ = some (.int .i64 53) := KZ.at 0; have z1 : w3.cell? ⟨w1.heap.size, 1, none⟩ = some (.int .i64 (-1074)) := KZ.at 1; have z2 : w3.cell? ⟨w1.heap.size, 2, none⟩ = some (.int .i64 971) := KZ.at 2; have z3 : w3.cell? ⟨w1.heap.size, 3, none⟩ = some (.int .i64 52) := KZ.at 3; have x0 : w3.cell? ⟨w.heap.size, 0, none⟩ = some (.float .f64 lo) := KA.at 0; have x1 : w3.cell? ⟨w.heap.size, 1, none⟩ = some (.float .f64 hi) := KA.at 1)
    | (go_at_call 60; (with_reducible refine (Infinite_w_pos _).mono ?_); rintro r w4 ⟨rfl, bb⟩; replace KA := KA.below bb KA.lt; replace KZ := KZ.below bb KZ.lt; replace pr := bel pr bb; clear bb; have z0 : w4.cell? ⟨w1.heap.size, 0, none⟩ = some (.int .i64 53) := KZ.at 0; have z1 : w4.cell? ⟨w1.heap.size, 1, none⟩ = some (.int .i64 (-1074)) := KZ.at 1; have z2 : w4.cell? ⟨w1.heap.size, 2, none⟩ = some (.int .i64 971) := KZ.at 2; have z3 : w4.cell? ⟨w1.heap.size, 3, none⟩ = some (.int .i64 52) := KZ.at 3; have x0 : w4.cell? ⟨w.heap.size, 0, none⟩ = some (.float .f64 lo) := KA.at 0; have x1 : w4.cell? ⟨w.heap.size, 1, none⟩ = some (.float .f64 hi) := KA.at 1)
    | (go_at_call 60; (with_reducible refine (Infinite_w_neg _).mono ?_); rintro r w5 ⟨rfl, bb⟩; replace KA := KA.below bb KA.lt; replace KZ := KZ.below bb KZ.lt; replace pr := bel pr bb; clear bb; have z0 : w5.cell? ⟨w1.heap.size, 0, none⟩ = some (.int .i64 53) := KZ.at 0; have z1 : w5.cell? ⟨w1.heap.size, 1, none⟩ = some (.int .i64 (-1074)) := KZ.at 1; have z2 : w5.cell? ⟨w1.heap.size, 2, none⟩ = some (.int .i64 971) := KZ.at 2; have z3 : w5.cell? ⟨w1.heap.size, 3, none⟩ = some (.int .i64 52) := KZ.at 3; have x0 : w5.cell? ⟨w.heap.size, 0, none⟩ = some (.float .f64 lo) := KA.at 0; have x1 : w5.cell? ⟨w.heap.size, 1, none⟩ = some (.float .f64 hi) := KA.at 1)
    | fail)
  go_ret
  exact ⟨rfl, pr⟩
set_option maxRecDepth 100000 in
set_option maxHeartbeats 1600000 in
theorem Good_6 (lo hi : Nat) (hl : lo < 18446744073709551616) (hh : hi < 18446744073709551616) (h1 : nan64 lo = false) (h2 : nan64 hi = false) (h3 : ((lo : Int) == 9223372036854775808) = false) (h4 : ((hi : Int) == 9223372036854775808) = false) (h5 : ((lo : Int) == 9218868437227405312) = false) (h6 : ((hi : Int) == 18442240474082181120) = true) (w : World) : Calls Try.prog 86 #[spn lo hi] w fun x w' => x = .returned (.bool (false)) ∧ Below w.heap.size w w' := by
  have N1 := IsNone64 lo hl
  have N2 := IsNone64 hi hh
  have hb1 := f64bits lo
  have hb2 := f64bits hi
  rw [h1] at N1
  rw [h2] at N2
  have KA := Blk.new w #[.float .f64 lo, .float .f64 hi] 72
  have pr : Below w.heap.size w (w.alloc (.cells #[.float .f64 lo, .float .f64 hi] 72)) := (Below.refl _ _).alloc (Nat.le_refl _) _
  go_enter Try.func86, Try.ntmps86
  go_wp2_with (first
    | (go_at_call 11; go_must (refine (Wide_any _).mono ?_; rintro r w1 ⟨rfl, bb⟩; replace KA := (KA.below bb KA.lt).alloc (.cells #[.int .i64 53, .int .i64 (-1074), .int .i64 971, .int .i64 52] 31); have KZ := Blk.new w1 #[.int .i64 53, .int .i64 (-1074), .int .i64 971, .int .i64 52] 31; replace pr := (bel pr bb).alloc (bel pr bb).size (.cells #[.int .i64 53, .int .i64 (-1074), .int .i64 971, .int .i64 52] 31); clear bb; have x0 : (w1.alloc (.cells #[.int .i64 53, .int .i64 (-1074), .int .i64 971, .int .i64 52] 31)).cell? ⟨w.heap.size, 0, none⟩ = some (.float .f64 lo) := KA.at 0; have x1 : (w1.alloc (.cells #[.int .i64 53, .int .i64 (-1074), .int .i64 971, .int .i64 52] 31)).cell? ⟨w.heap.size, 1, none⟩ = some (.float .f64 hi) := KA.at 1))
    | fail)
  clear x0 x1
  generalize (w1.alloc (.cells #[.int .i64 53, .int .i64 (-1074), .int .i64 971, .int .i64 52] 31)) = W at *
  have z0 : W.cell? ⟨w1.heap.size, 0, none⟩ = some (.int .i64 53) := KZ.at 0
  have z1 : W.cell? ⟨w1.heap.size, 1, none⟩ = some (.int .i64 (-1074)) := KZ.at 1
  have z2 : W.cell? ⟨w1.heap.size, 2, none⟩ = some (.int .i64 971) := KZ.at 2
  have z3 : W.cell? ⟨w1.heap.size, 3, none⟩ = some (.int .i64 52) := KZ.at 3
  have x0 : W.cell? ⟨w.heap.size, 0, none⟩ = some (.float .f64 lo) := KA.at 0
  have x1 : W.cell? ⟨w.heap.size, 1, none⟩ = some (.float .f64 hi) := KA.at 1
  go_region_held3 (fun x => x.cell? ⟨w.heap.size, 0, none⟩ = some (.float .f64 lo) ∧ x.cell? ⟨w.heap.size, 1, none⟩ = some (.float .f64 hi)) (go_keep) (fail)
  replace KA : Blk W.drew w.heap.size #[.float .f64 lo, .float .f64 hi] 72 := KA
  replace KZ : Blk W.drew w1.heap.size #[.int .i64 53, .int .i64 (-1074), .int .i64 971, .int .i64 52] 31 := KZ
  replace pr : Below w.heap.size w W.drew := pr.drew
  clear z0 z1 z2 z3 x0 x1
  generalize W.drew = V at *
  have z0 : V.cell? ⟨w1.heap.size, 0, none⟩ = some (.int .i64 53) := KZ.at 0
  have z1 : V.cell? ⟨w1.heap.size, 1, none⟩ = some (.int .i64 (-1074)) := KZ.at 1
  have z2 : V.cell? ⟨w1.heap.size, 2, none⟩ = some (.int .i64 971) := KZ.at 2
  have z3 : V.cell? ⟨w1.heap.size, 3, none⟩ = some (.int .i64 52) := KZ.at 3
  have x0 : V.cell? ⟨w.heap.size, 0, none⟩ = some (.float .f64 lo) := KA.at 0
  have x1 : V.cell? ⟨w.heap.size, 1, none⟩ = some (.float .f64 hi) := KA.at 1
  go_wp2_with (first
    | (go_at_call 62; (with_reducible refine (N1 _).mono ?_); rintro r w2 ⟨rfl, bb⟩; replace KA := KA.below bb KA.lt; replace KZ := KZ.below bb KZ.lt; replace pr := bel pr bb; clear bb; have z0 : w2.cell? ⟨w1.heap.size, 0, none⟩ = some (.int .i64 53) := KZ.at 0; have z1 : w2.cell? ⟨w1.heap.size, 1, none⟩ = some (.int .i64 (-1074)) := KZ.at 1; have z2 : w2.cell? ⟨w1.heap.size, 2, none⟩ = some (.int .i64 971) := KZ.at 2; have z3 : w2.cell? ⟨w1.heap.size, 3, none⟩ = some (.int .i64 52) := KZ.at 3; have x0 : w2.cell? ⟨w.heap.size, 0, none⟩ = some (.float .f64 lo) := KA.at 0; have x1 : w2.cell? ⟨w.heap.size, 1, none⟩ = some (.float .f64 hi) := KA.at 1)
    | (go_at_call 62; (with_reducible refine (N2 _).mono ?_); rintro r w3 ⟨rfl, bb⟩; replace KA := KA.below bb KA.lt; replace KZ := KZ.below bb KZ.lt; replace pr := bel pr bb; clear bb; have z0 : w3.cell? ⟨w1.heap.size, 0, none⟩ = some (.int .i64 53) := KZ.at 0; have z1 : w3.cell? ⟨w1.heap.size, 1, none⟩ = some (.int .i64 (-1074)) := KZ.at 1; have z2 : w3.cell? ⟨w1.heap.size, 2, none⟩ = some (.int .i64 971) := KZ.at 2; have z3 : w3.cell? ⟨w1.heap.size, 3, none⟩ = some (.int .i64 52) := KZ.at 3; have x0 : w3.cell? ⟨w.heap.size, 0, none⟩ = some (.float .f64 lo) := KA.at 0; have x1 : w3.cell? ⟨w.heap.size, 1, none⟩ = some (.float .f64 hi) := KA.at 1)
    | (go_at_call 60; (with_reducible refine (Infinite_w_pos _).mono ?_); rintro r w4 ⟨rfl, bb⟩; replace KA := KA.below bb KA.lt; replace KZ := KZ.below bb KZ.lt; replace pr := bel pr bb; clear bb; have z0 : w4.cell? ⟨w1.heap.size, 0, none⟩ = some (.int .i64 53) := KZ.at 0; have z1 : w4.cell? ⟨w1.heap.size, 1, none⟩ = some (.int .i64 (-1074)) := KZ.at 1; have z2 : w4.cell? ⟨w1.heap.size, 2, none⟩ = some (.int .i64 971) := KZ.at 2; have z3 : w4.cell? ⟨w1.heap.size, 3, none⟩ = some (.int .i64 52) := KZ.at 3; have x0 : w4.cell? ⟨w.heap.size, 0, none⟩ = some (.float .f64 lo) := KA.at 0; have x1 : w4.cell? ⟨w.heap.size, 1, none⟩ = some (.float .f64 hi) := KA.at 1)
    | (go_at_call 60; (with_reducible refine (Infinite_w_neg _).mono ?_); rintro r w5 ⟨rfl, bb⟩; replace KA := KA.below bb KA.lt; replace KZ := KZ.below bb KZ.lt; replace pr := bel pr bb; clear bb; have z0 : w5.cell? ⟨w1.heap.size, 0, none⟩ = some (.int .i64 53) := KZ.at 0; have z1 : w5.cell? ⟨w1.heap.size, 1, none⟩ = some (.int .i64 (-1074)) := KZ.at 1; have z2 : w5.cell? ⟨w1.heap.size, 2, none⟩ = some (.int .i64 971) := KZ.at 2; have z3 : w5.cell? ⟨w1.heap.size, 3, none⟩ = some (.int .i64 52) := KZ.at 3; have x0 : w5.cell? ⟨w.heap.size, 0, none⟩ = some (.float .f64 lo) := KA.at 0; have x1 : w5.cell? ⟨w.heap.size, 1, none⟩ = some (.float .f64 hi) := KA.at 1)
    | fail)
  go_ret
  exact ⟨rfl, pr⟩
set_option maxRecDepth 100000 in
set_option maxHeartbeats 1600000 in
theorem Good_7 (lo hi : Nat) (hl : lo < 18446744073709551616) (hh : hi < 18446744073709551616) (h1 : nan64 lo = false) (h2 : nan64 hi = false) (h3 : ((lo : Int) == 9223372036854775808) = false) (h4 : ((hi : Int) == 9223372036854775808) = false) (h5 : ((lo : Int) == 9218868437227405312) = false) (h6 : ((hi : Int) == 18442240474082181120) = false) (w : World) : Calls Try.prog 86 #[spn lo hi] w fun x w' => x = .returned (.bool (!decide (key64 hi < key64 lo))) ∧ Below w.heap.size w w' := by
  have N1 := IsNone64 lo hl
  have N2 := IsNone64 hi hh
  have hb1 := f64bits lo
  have hb2 := f64bits hi
  rw [h1] at N1
  rw [h2] at N2
  have X1 := end_any lo hl h1
  have X2 := end_any hi hh h2
  have KA := Blk.new w #[.float .f64 lo, .float .f64 hi] 72
  have pr : Below w.heap.size w (w.alloc (.cells #[.float .f64 lo, .float .f64 hi] 72)) := (Below.refl _ _).alloc (Nat.le_refl _) _
  go_enter Try.func86, Try.ntmps86
  go_wp2_with (first
    | (go_at_call 11; go_must (refine (Wide_any _).mono ?_; rintro r w1 ⟨rfl, bb⟩; replace KA := (KA.below bb KA.lt).alloc (.cells #[.int .i64 53, .int .i64 (-1074), .int .i64 971, .int .i64 52] 31); have KZ := Blk.new w1 #[.int .i64 53, .int .i64 (-1074), .int .i64 971, .int .i64 52] 31; replace pr := (bel pr bb).alloc (bel pr bb).size (.cells #[.int .i64 53, .int .i64 (-1074), .int .i64 971, .int .i64 52] 31); clear bb; have x0 : (w1.alloc (.cells #[.int .i64 53, .int .i64 (-1074), .int .i64 971, .int .i64 52] 31)).cell? ⟨w.heap.size, 0, none⟩ = some (.float .f64 lo) := KA.at 0; have x1 : (w1.alloc (.cells #[.int .i64 53, .int .i64 (-1074), .int .i64 971, .int .i64 52] 31)).cell? ⟨w.heap.size, 1, none⟩ = some (.float .f64 hi) := KA.at 1))
    | fail)
  clear x0 x1
  generalize (w1.alloc (.cells #[.int .i64 53, .int .i64 (-1074), .int .i64 971, .int .i64 52] 31)) = W at *
  have z0 : W.cell? ⟨w1.heap.size, 0, none⟩ = some (.int .i64 53) := KZ.at 0
  have z1 : W.cell? ⟨w1.heap.size, 1, none⟩ = some (.int .i64 (-1074)) := KZ.at 1
  have z2 : W.cell? ⟨w1.heap.size, 2, none⟩ = some (.int .i64 971) := KZ.at 2
  have z3 : W.cell? ⟨w1.heap.size, 3, none⟩ = some (.int .i64 52) := KZ.at 3
  have x0 : W.cell? ⟨w.heap.size, 0, none⟩ = some (.float .f64 lo) := KA.at 0
  have x1 : W.cell? ⟨w.heap.size, 1, none⟩ = some (.float .f64 hi) := KA.at 1
  go_region_held3 (fun x => x.cell? ⟨w.heap.size, 0, none⟩ = some (.float .f64 lo) ∧ x.cell? ⟨w.heap.size, 1, none⟩ = some (.float .f64 hi)) (go_keep) (fail)
  replace KA : Blk W.drew w.heap.size #[.float .f64 lo, .float .f64 hi] 72 := KA
  replace KZ : Blk W.drew w1.heap.size #[.int .i64 53, .int .i64 (-1074), .int .i64 971, .int .i64 52] 31 := KZ
  replace pr : Below w.heap.size w W.drew := pr.drew
  clear z0 z1 z2 z3 x0 x1
  generalize W.drew = V at *
  have z0 : V.cell? ⟨w1.heap.size, 0, none⟩ = some (.int .i64 53) := KZ.at 0
  have z1 : V.cell? ⟨w1.heap.size, 1, none⟩ = some (.int .i64 (-1074)) := KZ.at 1
  have z2 : V.cell? ⟨w1.heap.size, 2, none⟩ = some (.int .i64 971) := KZ.at 2
  have z3 : V.cell? ⟨w1.heap.size, 3, none⟩ = some (.int .i64 52) := KZ.at 3
  have x0 : V.cell? ⟨w.heap.size, 0, none⟩ = some (.float .f64 lo) := KA.at 0
  have x1 : V.cell? ⟨w.heap.size, 1, none⟩ = some (.float .f64 hi) := KA.at 1
  go_wp2_with (first
    | (go_at_call 62; (with_reducible refine (N1 _).mono ?_); rintro r w2 ⟨rfl, bb⟩; replace KA := KA.below bb KA.lt; replace KZ := KZ.below bb KZ.lt; replace pr := bel pr bb; clear bb; have z0 : w2.cell? ⟨w1.heap.size, 0, none⟩ = some (.int .i64 53) := KZ.at 0; have z1 : w2.cell? ⟨w1.heap.size, 1, none⟩ = some (.int .i64 (-1074)) := KZ.at 1; have z2 : w2.cell? ⟨w1.heap.size, 2, none⟩ = some (.int .i64 971) := KZ.at 2; have z3 : w2.cell? ⟨w1.heap.size, 3, none⟩ = some (.int .i64 52) := KZ.at 3; have x0 : w2.cell? ⟨w.heap.size, 0, none⟩ = some (.float .f64 lo) := KA.at 0; have x1 : w2.cell? ⟨w.heap.size, 1, none⟩ = some (.float .f64 hi) := KA.at 1)
    | (go_at_call 62; (with_reducible refine (N2 _).mono ?_); rintro r w3 ⟨rfl, bb⟩; replace KA := KA.below bb KA.lt; replace KZ := KZ.below bb KZ.lt; replace pr := bel pr bb; clear bb; have z0 : w3.cell? ⟨w1.heap.size, 0, none⟩ = some (.int .i64 53) := KZ.at 0; have z1 : w3.cell? ⟨w1.heap.size, 1, none⟩ = some (.int .i64 (-1074)) := KZ.at 1; have z2 : w3.cell? ⟨w1.heap.size, 2, none⟩ = some (.int .i64 971) := KZ.at 2; have z3 : w3.cell? ⟨w1.heap.size, 3, none⟩ = some (.int .i64 52) := KZ.at 3; have x0 : w3.cell? ⟨w.heap.size, 0, none⟩ = some (.float .f64 lo) := KA.at 0; have x1 : w3.cell? ⟨w.heap.size, 1, none⟩ = some (.float .f64 hi) := KA.at 1)
    | (go_at_call 60; (with_reducible refine (Infinite_w_pos _).mono ?_); rintro r w4 ⟨rfl, bb⟩; replace KA := KA.below bb KA.lt; replace KZ := KZ.below bb KZ.lt; replace pr := bel pr bb; clear bb; have z0 : w4.cell? ⟨w1.heap.size, 0, none⟩ = some (.int .i64 53) := KZ.at 0; have z1 : w4.cell? ⟨w1.heap.size, 1, none⟩ = some (.int .i64 (-1074)) := KZ.at 1; have z2 : w4.cell? ⟨w1.heap.size, 2, none⟩ = some (.int .i64 971) := KZ.at 2; have z3 : w4.cell? ⟨w1.heap.size, 3, none⟩ = some (.int .i64 52) := KZ.at 3; have x0 : w4.cell? ⟨w.heap.size, 0, none⟩ = some (.float .f64 lo) := KA.at 0; have x1 : w4.cell? ⟨w.heap.size, 1, none⟩ = some (.float .f64 hi) := KA.at 1)
    | (go_at_call 60; (with_reducible refine (Infinite_w_neg _).mono ?_); rintro r w5 ⟨rfl, bb⟩; replace KA := KA.below bb KA.lt; replace KZ := KZ.below bb KZ.lt; replace pr := bel pr bb; clear bb; have z0 : w5.cell? ⟨w1.heap.size, 0, none⟩ = some (.int .i64 53) := KZ.at 0; have z1 : w5.cell? ⟨w1.heap.size, 1, none⟩ = some (.int .i64 (-1074)) := KZ.at 1; have z2 : w5.cell? ⟨w1.heap.size, 2, none⟩ = some (.int .i64 971) := KZ.at 2; have z3 : w5.cell? ⟨w1.heap.size, 3, none⟩ = some (.int .i64 52) := KZ.at 3; have x0 : w5.cell? ⟨w.heap.size, 0, none⟩ = some (.float .f64 lo) := KA.at 0; have x1 : w5.cell? ⟨w.heap.size, 1, none⟩ = some (.float .f64 hi) := KA.at 1)
    | fail)
  go_region_held3 (fun x => x.cell? ⟨w.heap.size, 0, none⟩ = some (.float .f64 lo) ∧ x.cell? ⟨w.heap.size, 1, none⟩ = some (.float .f64 hi)) (go_keep) (first
    | (go_at_call 123; (with_reducible refine (X1 _).mono ?_); rintro r w6 ⟨v1, rfl, s1, bb⟩; replace KA := KA.below bb KA.lt; replace KZ := KZ.below bb KZ.lt; replace pr := bel pr bb; clear bb; have z0 : w6.cell? ⟨w1.heap.size, 0, none⟩ = some (.int .i64 53) := KZ.at 0; have z1 : w6.cell? ⟨w1.heap.size, 1, none⟩ = some (.int .i64 (-1074)) := KZ.at 1; have z2 : w6.cell? ⟨w1.heap.size, 2, none⟩ = some (.int .i64 971) := KZ.at 2; have z3 : w6.cell? ⟨w1.heap.size, 3, none⟩ = some (.int .i64 52) := KZ.at 3; have x0 : w6.cell? ⟨w.heap.size, 0, none⟩ = some (.float .f64 lo) := KA.at 0; have x1 : w6.cell? ⟨w.heap.size, 1, none⟩ = some (.float .f64 hi) := KA.at 1)
    | (go_at_call 123; (with_reducible refine (X1 _).mono ?_); rintro r w6 ⟨v1, rfl, s1, bb⟩; replace KA := KA.below (below_undrew bb) KA.lt; replace KZ := KZ.below (below_undrew bb) KZ.lt; replace pr := bel pr (below_undrew bb); clear bb; have z0 : w6.cell? ⟨w1.heap.size, 0, none⟩ = some (.int .i64 53) := KZ.at 0; have z1 : w6.cell? ⟨w1.heap.size, 1, none⟩ = some (.int .i64 (-1074)) := KZ.at 1; have z2 : w6.cell? ⟨w1.heap.size, 2, none⟩ = some (.int .i64 971) := KZ.at 2; have z3 : w6.cell? ⟨w1.heap.size, 3, none⟩ = some (.int .i64 52) := KZ.at 3; have x0 : w6.cell? ⟨w.heap.size, 0, none⟩ = some (.float .f64 lo) := KA.at 0; have x1 : w6.cell? ⟨w.heap.size, 1, none⟩ = some (.float .f64 hi) := KA.at 1)
    | (go_at_call 123; (with_reducible refine (X2 _).mono ?_); rintro r w7 ⟨v2, rfl, s2, bb⟩; replace s1 := s1.grow bb; replace KA := KA.below bb KA.lt; replace KZ := KZ.below bb KZ.lt; replace pr := bel pr bb; clear bb; have z0 : w7.cell? ⟨w1.heap.size, 0, none⟩ = some (.int .i64 53) := KZ.at 0; have z1 : w7.cell? ⟨w1.heap.size, 1, none⟩ = some (.int .i64 (-1074)) := KZ.at 1; have z2 : w7.cell? ⟨w1.heap.size, 2, none⟩ = some (.int .i64 971) := KZ.at 2; have z3 : w7.cell? ⟨w1.heap.size, 3, none⟩ = some (.int .i64 52) := KZ.at 3; have x0 : w7.cell? ⟨w.heap.size, 0, none⟩ = some (.float .f64 lo) := KA.at 0; have x1 : w7.cell? ⟨w.heap.size, 1, none⟩ = some (.float .f64 hi) := KA.at 1)
    | (go_at_call 123; (with_reducible refine (X2 _).mono ?_); rintro r w7 ⟨v2, rfl, s2, bb⟩; replace s1 := s1.grow (below_undrew bb); replace KA := KA.below (below_undrew bb) KA.lt; replace KZ := KZ.below (below_undrew bb) KZ.lt; replace pr := bel pr (below_undrew bb); clear bb; have z0 : w7.cell? ⟨w1.heap.size, 0, none⟩ = some (.int .i64 53) := KZ.at 0; have z1 : w7.cell? ⟨w1.heap.size, 1, none⟩ = some (.int .i64 (-1074)) := KZ.at 1; have z2 : w7.cell? ⟨w1.heap.size, 2, none⟩ = some (.int .i64 971) := KZ.at 2; have z3 : w7.cell? ⟨w1.heap.size, 3, none⟩ = some (.int .i64 52) := KZ.at 3; have x0 : w7.cell? ⟨w.heap.size, 0, none⟩ = some (.float .f64 lo) := KA.at 0; have x1 : w7.cell? ⟨w.heap.size, 1, none⟩ = some (.float .f64 hi) := KA.at 1)
    | (go_at_call 92; (with_reducible refine (ECmp_any lo hi v1 v2 hl hh h1 h2 _ s1 s2).mono ?_); rintro r w8 ⟨rfl, bb⟩; replace KA := KA.below bb KA.lt; replace KZ := KZ.below bb KZ.lt; replace pr := bel pr bb; clear bb; have z0 : w8.cell? ⟨w1.heap.size, 0, none⟩ = some (.int .i64 53) := KZ.at 0; have z1 : w8.cell? ⟨w1.heap.size, 1, none⟩ = some (.int .i64 (-1074)) := KZ.at 1; have z2 : w8.cell? ⟨w1.heap.size, 2, none⟩ = some (.int .i64 971) := KZ.at 2; have z3 : w8.cell? ⟨w1.heap.size, 3, none⟩ = some (.int .i64 52) := KZ.at 3; have x0 : w8.cell? ⟨w.heap.size, 0, none⟩ = some (.float .f64 lo) := KA.at 0; have x1 : w8.cell? ⟨w.heap.size, 1, none⟩ = some (.float .f64 hi) := KA.at 1)
    | (go_at_call 92; (with_reducible refine (ECmp_any lo hi v1 v2 hl hh h1 h2 _ (ise_drew s1) (ise_drew s2)).mono ?_); rintro r w8 ⟨rfl, bb⟩; replace KA := KA.below (below_undrew bb) KA.lt; replace KZ := KZ.below (below_undrew bb) KZ.lt; replace pr := bel pr (below_undrew bb); clear bb; have z0 : w8.cell? ⟨w1.heap.size, 0, none⟩ = some (.int .i64 53) := KZ.at 0; have z1 : w8.cell? ⟨w1.heap.size, 1, none⟩ = some (.int .i64 (-1074)) := KZ.at 1; have z2 : w8.cell? ⟨w1.heap.size, 2, none⟩ = some (.int .i64 971) := KZ.at 2; have z3 : w8.cell? ⟨w1.heap.size, 3, none⟩ = some (.int .i64 52) := KZ.at 3; have x0 : w8.cell? ⟨w.heap.size, 0, none⟩ = some (.float .f64 lo) := KA.at 0; have x1 : w8.cell? ⟨w.heap.size, 1, none⟩ = some (.float .f64 hi) := KA.at 1)
    | fail)
  all_goals
    go_wp2_with fail
    have e : decide (L.cmp3 (key64 lo) (key64 hi) ≤ 0) = !decide (key64 hi < key64 lo) := by
      unfold L.cmp3
      by_cases c : key64 hi < key64 lo
      · rw [if_neg (by omega), if_pos c, decide_eq_true c]; rfl
      · rw [decide_eq_false c, if_neg c]; split <;> rfl
    rw [e]
    go_ret
    exact ⟨rfl, pr⟩
/-- The reference's Good. -/
theorem Good_any (lo hi : Nat) (hl : lo < 18446744073709551616) (hh : hi < 18446744073709551616) (w : World) : Calls Try.prog 86 #[spn lo hi] w fun x w' => x = .returned (.bool (okSp lo hi)) ∧ Below w.heap.size w w' := by
  have e5 : decide (lo = 9218868437227405312) = ((lo : Int) == 9218868437227405312) := by rw [Bool.eq_iff_iff, decide_eq_true_iff, beq_iff_eq]; omega
  have e6 : decide (hi = 18442240474082181120) = ((hi : Int) == 18442240474082181120) := by rw [Bool.eq_iff_iff, decide_eq_true_iff, beq_iff_eq]; omega
  unfold okSp
  rw [okEnd_iff lo hl, okEnd_iff hi hh, e5, e6]
  cases h1 : nan64 lo
  · cases h2 : nan64 hi
    · cases h3 : ((lo : Int) == 9223372036854775808)
      · cases h4 : ((hi : Int) == 9223372036854775808)
        · cases h5 : ((lo : Int) == 9218868437227405312)
          · cases h6 : ((hi : Int) == 18442240474082181120)
            · have := Good_7 lo hi hl hh h1 h2 h3 h4 h5 h6 w
              simpa using this
            · have := Good_6 lo hi hl hh h1 h2 h3 h4 h5 h6 w
              simpa using this
          · have := Good_5 lo hi hl hh h1 h2 h3 h4 h5 w
            simpa using this
        · have := Good_4 lo hi hl hh h1 h2 h3 h4 w
          simpa using this
      · have := Good_3 lo hi hl hh h1 h2 h3 w
        simpa using this
    · have := Good_2 lo hi hl hh h1 h2 w
      simpa using this
  · have := Good_1 lo hi hl hh h1 w
    simpa using this
end Go.Proofs.Ytlngkonmalallaa

namespace Go.Proofs.Ytlngkonmalallaa
open Go.RowKit Tn

set_option maxRecDepth 100000 in
set_option maxHeartbeats 1600000 in
/-- The law's wrong. -/
theorem wrong_any (a1 a2 b1 b2 : Nat) (F : Four a1 a2 b1 b2) (w : World) : Calls Try.prog 41 #[spn a1 a2, spn b1 b2] w fun x w' => x = .returned (.int .i64 (if (okSp a1 a2 && okSp b1 b2) = true then 0 else 5)) ∧ Below w.heap.size w w' := by
  have G1 := Good_any a1 a2 F.h1 F.h2
  have G2 := Good_any b1 b2 F.h3 F.h4
  have KB := Blk.new (w.alloc (.cells #[.float .f64 a1, .float .f64 a2] 72)) #[.float .f64 b1, .float .f64 b2] 72
  simp only [World.size_alloc] at KB
  have pr : Below w.heap.size w ((w.alloc (.cells #[.float .f64 a1, .float .f64 a2] 72)).alloc (.cells #[.float .f64 b1, .float .f64 b2] 72)) := ((Below.refl _ _).alloc (Nat.le_refl _) _).alloc (by simp) _
  generalize okSp a1 a2 = s at *
  generalize okSp b1 b2 = t at *
  cases s <;> cases t
  all_goals
    go_enter Try.func41, Try.ntmps41
    go_wp2_with (first
      | (go_at_call 86; (with_reducible refine (G1 _).mono ?_); rintro r w1 ⟨rfl, bb⟩; replace KB := KB.below bb KB.lt; replace pr := bel pr bb; clear bb; have x0 : w1.cell? ⟨w.heap.size + 1, 0, none⟩ = some (.float .f64 b1) := KB.at 0; have x1 : w1.cell? ⟨w.heap.size + 1, 1, none⟩ = some (.float .f64 b2) := KB.at 1)
      | (go_at_call 86; (with_reducible refine (G2 _).mono ?_); rintro r w2 ⟨rfl, bb⟩; replace pr := bel pr bb; clear bb)
      | fail)
    go_ret
    exact ⟨rfl, pr⟩
set_option maxRecDepth 100000 in
set_option maxHeartbeats 1600000 in
theorem SameSpan_self (a b : Nat) (w : World) : Calls Try.prog 88 #[spn a b, spn a b] w fun x w' => x = .returned (.bool true) ∧ Below w.heap.size w w' := by
  have h1 := f64bits a
  have h2 := f64bits b
  have t1 : ((a : Int) == (a : Int)) = true := by simp
  have t2 : ((b : Int) == (b : Int)) = true := by simp
  have KA := (Blk.new w #[.float .f64 a, .float .f64 b] 72).alloc (.cells #[.float .f64 a, .float .f64 b] 72)
  have KB := Blk.new (w.alloc (.cells #[.float .f64 a, .float .f64 b] 72)) #[.float .f64 a, .float .f64 b] 72
  simp only [World.size_alloc] at KA KB
  have pr : Below w.heap.size w ((w.alloc (.cells #[.float .f64 a, .float .f64 b] 72)).alloc (.cells #[.float .f64 a, .float .f64 b] 72)) := ((Below.refl _ _).alloc (Nat.le_refl _) _).alloc (by simp) _
  go_enter Try.func88, Try.ntmps88
  go_wp2_with fail
  generalize (w.alloc (.cells #[.float .f64 a, .float .f64 b] 72)).alloc (.cells #[.float .f64 a, .float .f64 b] 72) = W at *
  have x0 : W.cell? ⟨w.heap.size, 0, none⟩ = some (.float .f64 a) := KA.at 0
  have x1 : W.cell? ⟨w.heap.size, 1, none⟩ = some (.float .f64 b) := KA.at 1
  have y0 : W.cell? ⟨w.heap.size + 1, 0, none⟩ = some (.float .f64 a) := KB.at 0
  have y1 : W.cell? ⟨w.heap.size + 1, 1, none⟩ = some (.float .f64 b) := KB.at 1
  go_region_held3 (fun x => x.cell? ⟨w.heap.size, 0, none⟩ = some (.float .f64 a) ∧ x.cell? ⟨w.heap.size, 1, none⟩ = some (.float .f64 b) ∧ x.cell? ⟨w.heap.size + 1, 0, none⟩ = some (.float .f64 a) ∧ x.cell? ⟨w.heap.size + 1, 1, none⟩ = some (.float .f64 b)) (go_keep) (fail)
  go_wp2_with fail
  go_ret
  exact ⟨rfl, pr.drew⟩
set_option maxRecDepth 100000 in
set_option maxHeartbeats 1600000 in
/-- The law's is, where nothing went wrong. -/
theorem is_same (a b : Nat) (w : World) : Calls Try.prog 46 #[spn a b, .int .i64 0, spn a b, .int .i64 0] w fun x w' => x = .returned (.bool true) ∧ Below w.heap.size w w' := by
  have S := SameSpan_self a b
  have pr : Below w.heap.size w ((w.alloc (.cells #[.float .f64 a, .float .f64 b] 72)).alloc (.cells #[.float .f64 a, .float .f64 b] 72)) := ((Below.refl _ _).alloc (Nat.le_refl _) _).alloc (by simp) _
  go_enter Try.func46, Try.ntmps46
  go_wp2_with (first
    | (go_at_call 88; go_must (refine (S _).mono ?_; rintro r w1 ⟨rfl, bb⟩; replace pr := bel pr bb; clear bb))
    | fail)
  go_ret
  exact ⟨rfl, pr⟩
set_option maxRecDepth 100000 in
set_option maxHeartbeats 1600000 in
/-- The law's is, of an error. -/
theorem is_err (u v : Nat) (f : Int) (hf : (f != 0) = true) (w : World) : Calls Try.prog 46 #[spn 0 0, .int .i64 f, spn u v, .int .i64 f] w fun x w' => x = .returned (.bool true) ∧ Below w.heap.size w w' := by
  have S := SameSpan_self 0 0
  have sf := fun w a n m => run_store_f Try.prog w a .f64 n m
  have tf : (f == f) = true := by simp
  have pr : Below w.heap.size w ((w.alloc (.cells #[.float .f64 0, .float .f64 0] 72)).alloc (.cells #[.float .f64 0, .float .f64 0] 72)) := ((Below.refl _ _).alloc (Nat.le_refl _) _).alloc (by simp) _
  go_enter Try.func46, Try.ntmps46
  go_wp2_with (first
    | (go_at_call 88; go_must (refine (S _).mono ?_; rintro r w1 ⟨rfl, bb⟩; replace pr := bel pr bb; clear bb))
    | fail)
  go_ret
  exact ⟨rfl, pr⟩
end Go.Proofs.Ytlngkonmalallaa

namespace Go.Proofs.Ytlngkonmalallaa
open Go.RowKit Tn

set_option maxRecDepth 100000 in
set_option maxHeartbeats 3200000 in
theorem sets_wrong (a1 a2 b1 b2 : Nat) (F : Four a1 a2 b1 b2) (h : (okSp a1 a2 && okSp b1 b2) = false) (w : World) : Calls Try.prog 7 #[spn a1 a2, spn b1 b2] w fun x w' => x = .returned (.bool true) ∧ Below w.heap.size w w' := by
  have W := wrong_any a1 a2 b1 b2 F
  simp only [h, Bool.false_eq_true, if_false] at W
  have H := Hull_wrong a1 a2 b1 b2 F h
  have M := Meet_wrong a1 a2 b1 b2 F h
  have I := Within_wrong a1 a2 b1 b2 F h
  have C := SCmp_wrong a1 a2 b1 b2 F h
  have S := is_err 0 0 5 (by decide)
  have sf := fun w a n m => run_store_f Try.prog w a .f64 n m
  have KA := (Blk.new w #[.float .f64 a1, .float .f64 a2] 72).alloc (.cells #[.float .f64 b1, .float .f64 b2] 72)
  have KB := Blk.new (w.alloc (.cells #[.float .f64 a1, .float .f64 a2] 72)) #[.float .f64 b1, .float .f64 b2] 72
  simp only [World.size_alloc] at KB
  have pr : Below w.heap.size w ((w.alloc (.cells #[.float .f64 a1, .float .f64 a2] 72)).alloc (.cells #[.float .f64 b1, .float .f64 b2] 72)) := ((Below.refl _ _).alloc (Nat.le_refl _) _).alloc (by simp) _
  go_enter Try.func7, Try.ntmps7
  go_wp2_with (first
    | (go_at_call 41; (with_reducible refine (W _).mono ?_); go_must (rintro r w1 ⟨rfl, bb⟩; replace KA := KA.below bb KA.lt; replace KB := KB.below bb KB.lt; replace pr := bel pr bb; clear bb; have x0 : w1.cell? ⟨w.heap.size, 0, none⟩ = some (.float .f64 a1) := KA.at 0; have x1 : w1.cell? ⟨w.heap.size, 1, none⟩ = some (.float .f64 a2) := KA.at 1; have y0 : w1.cell? ⟨w.heap.size + 1, 0, none⟩ = some (.float .f64 b1) := KB.at 0; have y1 : w1.cell? ⟨w.heap.size + 1, 1, none⟩ = some (.float .f64 b2) := KB.at 1))
    | (go_at_call 42; (with_reducible refine (H _).mono ?_); go_must (rintro r w2 ⟨rfl, bb⟩; replace KA := KA.below bb KA.lt; replace KB := KB.below bb KB.lt; replace pr := bel pr bb; clear bb; have KH := Blk.new w2 #[.float .f64 (0), .float .f64 (0)] 72; replace KA := KA.alloc (.cells #[.float .f64 (0), .float .f64 (0)] 72); replace KB := KB.alloc (.cells #[.float .f64 (0), .float .f64 (0)] 72); replace pr := pr.alloc pr.size (.cells #[.float .f64 (0), .float .f64 (0)] 72); have x0 : (w2.alloc (.cells #[.float .f64 (0), .float .f64 (0)] 72)).cell? ⟨w.heap.size, 0, none⟩ = some (.float .f64 a1) := KA.at 0; have x1 : (w2.alloc (.cells #[.float .f64 (0), .float .f64 (0)] 72)).cell? ⟨w.heap.size, 1, none⟩ = some (.float .f64 a2) := KA.at 1; have y0 : (w2.alloc (.cells #[.float .f64 (0), .float .f64 (0)] 72)).cell? ⟨w.heap.size + 1, 0, none⟩ = some (.float .f64 b1) := KB.at 0; have y1 : (w2.alloc (.cells #[.float .f64 (0), .float .f64 (0)] 72)).cell? ⟨w.heap.size + 1, 1, none⟩ = some (.float .f64 b2) := KB.at 1))
    | (go_at_call 43; (with_reducible refine (M _).mono ?_); go_must (rintro r w3 ⟨rfl, bb⟩; replace KA := KA.below bb KA.lt; replace KB := KB.below bb KB.lt; replace KH := KH.below bb KH.lt; replace pr := bel pr bb; clear bb; have KM := Blk.new w3 #[.float .f64 (0), .float .f64 (0)] 72; replace KA := KA.alloc (.cells #[.float .f64 (0), .float .f64 (0)] 72); replace KB := KB.alloc (.cells #[.float .f64 (0), .float .f64 (0)] 72); replace KH := KH.alloc (.cells #[.float .f64 (0), .float .f64 (0)] 72); replace pr := pr.alloc pr.size (.cells #[.float .f64 (0), .float .f64 (0)] 72); have x0 : (w3.alloc (.cells #[.float .f64 (0), .float .f64 (0)] 72)).cell? ⟨w.heap.size, 0, none⟩ = some (.float .f64 a1) := KA.at 0; have x1 : (w3.alloc (.cells #[.float .f64 (0), .float .f64 (0)] 72)).cell? ⟨w.heap.size, 1, none⟩ = some (.float .f64 a2) := KA.at 1; have y0 : (w3.alloc (.cells #[.float .f64 (0), .float .f64 (0)] 72)).cell? ⟨w.heap.size + 1, 0, none⟩ = some (.float .f64 b1) := KB.at 0; have y1 : (w3.alloc (.cells #[.float .f64 (0), .float .f64 (0)] 72)).cell? ⟨w.heap.size + 1, 1, none⟩ = some (.float .f64 b2) := KB.at 1; have h0 : (w3.alloc (.cells #[.float .f64 (0), .float .f64 (0)] 72)).cell? ⟨w2.heap.size, 0, none⟩ = some (.float .f64 (0)) := KH.at 0; have h1 : (w3.alloc (.cells #[.float .f64 (0), .float .f64 (0)] 72)).cell? ⟨w2.heap.size, 1, none⟩ = some (.float .f64 (0)) := KH.at 1))
    | (go_at_call 44; (with_reducible refine (I _).mono ?_); go_must (rintro r w4 ⟨rfl, bb⟩; replace KA := KA.below bb KA.lt; replace KB := KB.below bb KB.lt; replace KH := KH.below bb KH.lt; replace KM := KM.below bb KM.lt; replace pr := bel pr bb; clear bb; have x0 : w4.cell? ⟨w.heap.size, 0, none⟩ = some (.float .f64 a1) := KA.at 0; have x1 : w4.cell? ⟨w.heap.size, 1, none⟩ = some (.float .f64 a2) := KA.at 1; have y0 : w4.cell? ⟨w.heap.size + 1, 0, none⟩ = some (.float .f64 b1) := KB.at 0; have y1 : w4.cell? ⟨w.heap.size + 1, 1, none⟩ = some (.float .f64 b2) := KB.at 1; have h0 : w4.cell? ⟨w2.heap.size, 0, none⟩ = some (.float .f64 (0)) := KH.at 0; have h1 : w4.cell? ⟨w2.heap.size, 1, none⟩ = some (.float .f64 (0)) := KH.at 1; have m0 : w4.cell? ⟨w3.heap.size, 0, none⟩ = some (.float .f64 (0)) := KM.at 0; have m1 : w4.cell? ⟨w3.heap.size, 1, none⟩ = some (.float .f64 (0)) := KM.at 1))
    | (go_at_call 45; (with_reducible refine (C _).mono ?_); go_must (rintro r w5 ⟨rfl, bb⟩; replace KA := KA.below bb KA.lt; replace KB := KB.below bb KB.lt; replace KH := KH.below bb KH.lt; replace KM := KM.below bb KM.lt; replace pr := bel pr bb; clear bb; have x0 : w5.cell? ⟨w.heap.size, 0, none⟩ = some (.float .f64 a1) := KA.at 0; have x1 : w5.cell? ⟨w.heap.size, 1, none⟩ = some (.float .f64 a2) := KA.at 1; have y0 : w5.cell? ⟨w.heap.size + 1, 0, none⟩ = some (.float .f64 b1) := KB.at 0; have y1 : w5.cell? ⟨w.heap.size + 1, 1, none⟩ = some (.float .f64 b2) := KB.at 1; have h0 : w5.cell? ⟨w2.heap.size, 0, none⟩ = some (.float .f64 (0)) := KH.at 0; have h1 : w5.cell? ⟨w2.heap.size, 1, none⟩ = some (.float .f64 (0)) := KH.at 1; have m0 : w5.cell? ⟨w3.heap.size, 0, none⟩ = some (.float .f64 (0)) := KM.at 0; have m1 : w5.cell? ⟨w3.heap.size, 1, none⟩ = some (.float .f64 (0)) := KM.at 1))
    | (go_at_call 46; (with_reducible refine (S _).mono ?_); go_must (rintro r w6 ⟨rfl, bb⟩; replace KA := KA.below bb KA.lt; replace KB := KB.below bb KB.lt; replace KH := KH.below bb KH.lt; replace KM := KM.below bb KM.lt; replace pr := bel pr bb; clear bb; have x0 : w6.cell? ⟨w.heap.size, 0, none⟩ = some (.float .f64 a1) := KA.at 0; have x1 : w6.cell? ⟨w.heap.size, 1, none⟩ = some (.float .f64 a2) := KA.at 1; have y0 : w6.cell? ⟨w.heap.size + 1, 0, none⟩ = some (.float .f64 b1) := KB.at 0; have y1 : w6.cell? ⟨w.heap.size + 1, 1, none⟩ = some (.float .f64 b2) := KB.at 1; have h0 : w6.cell? ⟨w2.heap.size, 0, none⟩ = some (.float .f64 (0)) := KH.at 0; have h1 : w6.cell? ⟨w2.heap.size, 1, none⟩ = some (.float .f64 (0)) := KH.at 1; have m0 : w6.cell? ⟨w3.heap.size, 0, none⟩ = some (.float .f64 (0)) := KM.at 0; have m1 : w6.cell? ⟨w3.heap.size, 1, none⟩ = some (.float .f64 (0)) := KM.at 1))
    | fail)
  go_ret
  exact ⟨rfl, pr⟩
end Go.Proofs.Ytlngkonmalallaa
