import Derived.Test.YtjgljcifnklmeaaPart16
import Derived.Test.YtjgljcifnklmeaaPart10

namespace Go.Proofs.Ytjgljcifnklmeaa
open Go.RowKit Tn

set_option maxRecDepth 100000 in
set_option maxHeartbeats 1600000 in
theorem Finite_w (n d : Int) (t : Bool) (hd : bits .and .u64 (n / 4503599627370496) 2047 = d) (ht : (d != 2047) = t) (w : World) : Calls Try.prog 66 #[szW, .int .u64 n] w fun e w' => e = .returned (.bool t) ∧ Below w.heap.size w w' := by
  go_enter Try.func66, Try.ntmps66
  go_wp2_with fail
  have K0 := Blk.new w #[.int .i64 53, .int .i64 (-1074), .int .i64 971, .int .i64 52] 31
  have pr : Below w.heap.size w (w.alloc (.cells #[.int .i64 53, .int .i64 (-1074), .int .i64 971, .int .i64 52] 31)) := (Below.refl _ _).alloc (Nat.le_refl _) _
  generalize w.alloc (.cells #[.int .i64 53, .int .i64 (-1074), .int .i64 971, .int .i64 52] 31) = W at *
  have e0 : W.cell? ⟨w.heap.size, 0, none⟩ = some (.int .i64 53) := K0.at 0
  have e1 : W.cell? ⟨w.heap.size, 1, none⟩ = some (.int .i64 (-1074)) := K0.at 1
  have e2 : W.cell? ⟨w.heap.size, 2, none⟩ = some (.int .i64 971) := K0.at 2
  have e3 : W.cell? ⟨w.heap.size, 3, none⟩ = some (.int .i64 52) := K0.at 3
  go_region_held3 (fun x => x.cell? ⟨w.heap.size, 0, none⟩ = some (.int .i64 53) ∧ x.cell? ⟨w.heap.size, 1, none⟩ = some (.int .i64 (-1074)) ∧ x.cell? ⟨w.heap.size, 2, none⟩ = some (.int .i64 971) ∧ x.cell? ⟨w.heap.size, 3, none⟩ = some (.int .i64 52)) (go_keep) (first
    | (go_at_call 43; refine (top_w _).mono ?_; rintro e w1 ⟨rfl, b1⟩; replace K0 := K0.below b1 K0.lt; replace pr := bel pr b1; clear b1; have e0 : w1.cell? ⟨w.heap.size, 0, none⟩ = some (.int .i64 53) := K0.at 0; have e1 : w1.cell? ⟨w.heap.size, 1, none⟩ = some (.int .i64 (-1074)) := K0.at 1; have e2 : w1.cell? ⟨w.heap.size, 2, none⟩ = some (.int .i64 971) := K0.at 2; have e3 : w1.cell? ⟨w.heap.size, 3, none⟩ = some (.int .i64 52) := K0.at 3)
    | (go_at_call 43; refine (top_w _).mono ?_; rintro e w1 ⟨rfl, b1⟩; replace K0 := K0.below (below_undrew b1) K0.lt; replace pr := bel pr (below_undrew b1); clear b1; have e0 : w1.cell? ⟨w.heap.size, 0, none⟩ = some (.int .i64 53) := K0.at 0; have e1 : w1.cell? ⟨w.heap.size, 1, none⟩ = some (.int .i64 (-1074)) := K0.at 1; have e2 : w1.cell? ⟨w.heap.size, 2, none⟩ = some (.int .i64 971) := K0.at 2; have e3 : w1.cell? ⟨w.heap.size, 3, none⟩ = some (.int .i64 52) := K0.at 3)
    | fail)
  go_wp2
  go_ret
  exact ⟨rfl, pr⟩
set_option maxRecDepth 100000 in
set_option maxHeartbeats 1600000 in
theorem IsNone_w (n : Nat) (hn : n < 18446744073709551616) (w : World) : Calls Try.prog 51 #[szW, .int .u64 n] w fun e w' => e = .returned (.bool (decide (fdW n = 2047) && decide (frW n ≠ 0))) ∧ Below w.heap.size w w' := by
  have hf := hfW n hn
  have F := Finite_w n (fdW n) (decide (fdW n ≠ 2047)) (hdW n hn) (by rw [Bool.eq_iff_iff, decide_eq_true_iff, bne_iff_ne]; omega)
  have g1 : ((frW n : Int) != 0) = decide (frW n ≠ 0) := by rw [Bool.eq_iff_iff, decide_eq_true_iff, bne_iff_ne]; omega
  by_cases h : fdW n = 2047
  · rw [decide_eq_true h, Bool.true_and]
    rw [decide_eq_false (show ¬ (fdW n ≠ 2047) from fun x => x h)] at F
    clear h
    generalize decide (frW n ≠ 0) = t at g1 ⊢
    generalize frW n = z at *
    go_enter Try.func51, Try.ntmps51
    have K0 := Blk.new w #[.int .i64 53, .int .i64 (-1074), .int .i64 971, .int .i64 52] 31
    have pr : Below w.heap.size w (w.alloc (.cells #[.int .i64 53, .int .i64 (-1074), .int .i64 971, .int .i64 52] 31)) := (Below.refl _ _).alloc (Nat.le_refl _) _
    have h1 : IntKind.u64.wrap 4503599627370495 = 4503599627370495 := by decide
    go_wp2_with (first
      | (go_at_call 66; refine (F _).mono ?_; rintro e w1 ⟨rfl, b1⟩; replace K0 := K0.below b1 K0.lt; replace pr := bel pr b1; clear b1; have e0 : w1.cell? ⟨w.heap.size, 0, none⟩ = some (.int .i64 53) := K0.at 0; have e1 : w1.cell? ⟨w.heap.size, 1, none⟩ = some (.int .i64 (-1074)) := K0.at 1; have e2 : w1.cell? ⟨w.heap.size, 2, none⟩ = some (.int .i64 971) := K0.at 2; have e3 : w1.cell? ⟨w.heap.size, 3, none⟩ = some (.int .i64 52) := K0.at 3)
      | fail)
    go_ret
    exact ⟨rfl, pr⟩
  · rw [decide_eq_false h, Bool.false_and]
    rw [decide_eq_true (show fdW n ≠ 2047 from h)] at F
    clear h
    clear g1
    generalize frW n = z at *
    go_enter Try.func51, Try.ntmps51
    have K0 := Blk.new w #[.int .i64 53, .int .i64 (-1074), .int .i64 971, .int .i64 52] 31
    have pr : Below w.heap.size w (w.alloc (.cells #[.int .i64 53, .int .i64 (-1074), .int .i64 971, .int .i64 52] 31)) := (Below.refl _ _).alloc (Nat.le_refl _) _
    have h1 : IntKind.u64.wrap 4503599627370495 = 4503599627370495 := by decide
    go_wp2_with (first
      | (go_at_call 66; refine (F _).mono ?_; rintro e w1 ⟨rfl, b1⟩; replace K0 := K0.below b1 K0.lt; replace pr := bel pr b1; clear b1; have e0 : w1.cell? ⟨w.heap.size, 0, none⟩ = some (.int .i64 53) := K0.at 0; have e1 : w1.cell? ⟨w.heap.size, 1, none⟩ = some (.int .i64 (-1074)) := K0.at 1; have e2 : w1.cell? ⟨w.heap.size, 2, none⟩ = some (.int .i64 971) := K0.at 2; have e3 : w1.cell? ⟨w.heap.size, 3, none⟩ = some (.int .i64 52) := K0.at 3)
      | fail)
    go_ret
    exact ⟨rfl, pr⟩
set_option maxRecDepth 100000 in
set_option maxHeartbeats 1600000 in
theorem Finite_s (n d : Int) (t : Bool) (hd : bits .and .u64 (n / 8388608) 255 = d) (ht : (d != 255) = t) (w : World) : Calls Try.prog 66 #[szS, .int .u64 n] w fun e w' => e = .returned (.bool t) ∧ Below w.heap.size w w' := by
  go_enter Try.func66, Try.ntmps66
  go_wp2_with fail
  have K0 := Blk.new w #[.int .i64 24, .int .i64 (-149), .int .i64 104, .int .i64 23] 31
  have pr : Below w.heap.size w (w.alloc (.cells #[.int .i64 24, .int .i64 (-149), .int .i64 104, .int .i64 23] 31)) := (Below.refl _ _).alloc (Nat.le_refl _) _
  generalize w.alloc (.cells #[.int .i64 24, .int .i64 (-149), .int .i64 104, .int .i64 23] 31) = W at *
  have e0 : W.cell? ⟨w.heap.size, 0, none⟩ = some (.int .i64 24) := K0.at 0
  have e1 : W.cell? ⟨w.heap.size, 1, none⟩ = some (.int .i64 (-149)) := K0.at 1
  have e2 : W.cell? ⟨w.heap.size, 2, none⟩ = some (.int .i64 104) := K0.at 2
  have e3 : W.cell? ⟨w.heap.size, 3, none⟩ = some (.int .i64 23) := K0.at 3
  go_region_held3 (fun x => x.cell? ⟨w.heap.size, 0, none⟩ = some (.int .i64 24) ∧ x.cell? ⟨w.heap.size, 1, none⟩ = some (.int .i64 (-149)) ∧ x.cell? ⟨w.heap.size, 2, none⟩ = some (.int .i64 104) ∧ x.cell? ⟨w.heap.size, 3, none⟩ = some (.int .i64 23)) (go_keep) (first
    | (go_at_call 43; refine (top_s _).mono ?_; rintro e w1 ⟨rfl, b1⟩; replace K0 := K0.below b1 K0.lt; replace pr := bel pr b1; clear b1; have e0 : w1.cell? ⟨w.heap.size, 0, none⟩ = some (.int .i64 24) := K0.at 0; have e1 : w1.cell? ⟨w.heap.size, 1, none⟩ = some (.int .i64 (-149)) := K0.at 1; have e2 : w1.cell? ⟨w.heap.size, 2, none⟩ = some (.int .i64 104) := K0.at 2; have e3 : w1.cell? ⟨w.heap.size, 3, none⟩ = some (.int .i64 23) := K0.at 3)
    | (go_at_call 43; refine (top_s _).mono ?_; rintro e w1 ⟨rfl, b1⟩; replace K0 := K0.below (below_undrew b1) K0.lt; replace pr := bel pr (below_undrew b1); clear b1; have e0 : w1.cell? ⟨w.heap.size, 0, none⟩ = some (.int .i64 24) := K0.at 0; have e1 : w1.cell? ⟨w.heap.size, 1, none⟩ = some (.int .i64 (-149)) := K0.at 1; have e2 : w1.cell? ⟨w.heap.size, 2, none⟩ = some (.int .i64 104) := K0.at 2; have e3 : w1.cell? ⟨w.heap.size, 3, none⟩ = some (.int .i64 23) := K0.at 3)
    | fail)
  go_wp2
  go_ret
  exact ⟨rfl, pr⟩
set_option maxRecDepth 100000 in
set_option maxHeartbeats 1600000 in
theorem IsNone_s (n : Nat) (hn : n < 18446744073709551616) (w : World) : Calls Try.prog 51 #[szS, .int .u64 n] w fun e w' => e = .returned (.bool (decide (fdS n = 255) && decide (frS n ≠ 0))) ∧ Below w.heap.size w w' := by
  have hf := hfS n hn
  have F := Finite_s n (fdS n) (decide (fdS n ≠ 255)) (hdS n hn) (by rw [Bool.eq_iff_iff, decide_eq_true_iff, bne_iff_ne]; omega)
  have g1 : ((frS n : Int) != 0) = decide (frS n ≠ 0) := by rw [Bool.eq_iff_iff, decide_eq_true_iff, bne_iff_ne]; omega
  by_cases h : fdS n = 255
  · rw [decide_eq_true h, Bool.true_and]
    rw [decide_eq_false (show ¬ (fdS n ≠ 255) from fun x => x h)] at F
    clear h
    generalize decide (frS n ≠ 0) = t at g1 ⊢
    generalize frS n = z at *
    go_enter Try.func51, Try.ntmps51
    have K0 := Blk.new w #[.int .i64 24, .int .i64 (-149), .int .i64 104, .int .i64 23] 31
    have pr : Below w.heap.size w (w.alloc (.cells #[.int .i64 24, .int .i64 (-149), .int .i64 104, .int .i64 23] 31)) := (Below.refl _ _).alloc (Nat.le_refl _) _
    have h1 : IntKind.u64.wrap 8388607 = 8388607 := by decide
    go_wp2_with (first
      | (go_at_call 66; refine (F _).mono ?_; rintro e w1 ⟨rfl, b1⟩; replace K0 := K0.below b1 K0.lt; replace pr := bel pr b1; clear b1; have e0 : w1.cell? ⟨w.heap.size, 0, none⟩ = some (.int .i64 24) := K0.at 0; have e1 : w1.cell? ⟨w.heap.size, 1, none⟩ = some (.int .i64 (-149)) := K0.at 1; have e2 : w1.cell? ⟨w.heap.size, 2, none⟩ = some (.int .i64 104) := K0.at 2; have e3 : w1.cell? ⟨w.heap.size, 3, none⟩ = some (.int .i64 23) := K0.at 3)
      | fail)
    go_ret
    exact ⟨rfl, pr⟩
  · rw [decide_eq_false h, Bool.false_and]
    rw [decide_eq_true (show fdS n ≠ 255 from h)] at F
    clear h
    clear g1
    generalize frS n = z at *
    go_enter Try.func51, Try.ntmps51
    have K0 := Blk.new w #[.int .i64 24, .int .i64 (-149), .int .i64 104, .int .i64 23] 31
    have pr : Below w.heap.size w (w.alloc (.cells #[.int .i64 24, .int .i64 (-149), .int .i64 104, .int .i64 23] 31)) := (Below.refl _ _).alloc (Nat.le_refl _) _
    have h1 : IntKind.u64.wrap 8388607 = 8388607 := by decide
    go_wp2_with (first
      | (go_at_call 66; refine (F _).mono ?_; rintro e w1 ⟨rfl, b1⟩; replace K0 := K0.below b1 K0.lt; replace pr := bel pr b1; clear b1; have e0 : w1.cell? ⟨w.heap.size, 0, none⟩ = some (.int .i64 24) := K0.at 0; have e1 : w1.cell? ⟨w.heap.size, 1, none⟩ = some (.int .i64 (-149)) := K0.at 1; have e2 : w1.cell? ⟨w.heap.size, 2, none⟩ = some (.int .i64 104) := K0.at 2; have e3 : w1.cell? ⟨w.heap.size, 3, none⟩ = some (.int .i64 23) := K0.at 3)
      | fail)
    go_ret
    exact ⟨rfl, pr⟩
theorem none_nan (n : Nat) : (decide (fdW n = 2047) && decide (frW n ≠ 0)) = nan64 n := by
  unfold nan64 fdW frW rg64
  rw [Bool.eq_iff_iff, Bool.and_eq_true, decide_eq_true_iff, decide_eq_true_iff, decide_eq_true_iff]
  omega
theorem IsNone64 (n : Nat) (hn : n < 18446744073709551616) (w : World) : Calls Try.prog 51 #[szW, .int .u64 n] w fun e w' => e = .returned (.bool (nan64 n)) ∧ Below w.heap.size w w' := by
  have H := IsNone_w n hn w
  rw [none_nan] at H
  exact H
/-- The place as the reference tells it. -/
def place64 (n : Nat) : Int := if ng64 n = true then -(rg64 n : Int) else rg64 n
set_option maxRecDepth 100000 in
set_option maxHeartbeats 1600000 in
theorem place_any (n : Nat) (hn : n < 18446744073709551616) (w : World) : Calls Try.prog 62 #[.int .u64 n] w fun e w' => e = .returned (.int .i64 (place64 n)) ∧ w' = w := by
  have h := andNot_sign n hn
  have r := rg64_lt n
  have hx : IntKind.i64.wrap (rg64 n : Int) = (rg64 n : Int) := w64 _ (by omega) (by omega)
  have hy : IntKind.i64.wrap (-(rg64 n : Int)) = -(rg64 n : Int) := w64 _ (by omega) (by omega)
  unfold place64
  have s : ng64 n = (n / 9223372036854775808 % 2 == 1) := rfl
  by_cases c : 9223372036854775808 ≤ n
  · have s1 : ng64 n = true := by rw [s, beq_iff_eq]; omega
    rw [if_pos s1]
    have c1 : decide ((9223372036854775808 : Int) ≤ (n : Int)) = true := by rw [decide_eq_true_eq]; omega
    clear s s1
    generalize rg64 n = z at *
    go_enter Try.func62, Try.ntmps62
    go_wp2
    go_ret
    exact ⟨rfl, rfl⟩
  · have s1 : ¬ (ng64 n = true) := by rw [s, beq_iff_eq]; omega
    rw [if_neg s1]
    have c1 : decide ((9223372036854775808 : Int) ≤ (n : Int)) = false := by rw [decide_eq_false_iff_not]; omega
    clear s s1
    generalize rg64 n = z at *
    go_enter Try.func62, Try.ntmps62
    go_wp2
    go_ret
    exact ⟨rfl, rfl⟩
set_option maxRecDepth 100000 in
set_option maxHeartbeats 1600000 in
theorem RUp_any (n : Nat) (hn : n < 18446744073709551616) (w : World) : Calls Try.prog 25 #[.int .u64 n] w fun e w' => e = .returned (.int .u64 (up64 n)) ∧ Below w.heap.size w w' := by
  have N := IsNone64 n hn
  have G := Neg_w n (ng64 n) (hg2W n hn)
  have I := Infinite_w_pos
  have s : ng64 n = (n / 9223372036854775808 % 2 == 1) := rfl
  have rn : rg64 n = n % 9223372036854775808 := rfl
  unfold up64
  by_cases h1 : nan64 n = true
  · rw [h1] at N
    rw [if_pos h1]
    clear h1 s rn
    go_enter Try.func25, Try.ntmps25
    go_wp2_with (first
      | (go_at_call 10; refine (Wide_any _).mono ?_; rintro x w1 ⟨rfl, b1⟩; have pr := b1; clear b1; have m0 := Blk.new w1 #[.int .i64 53, .int .i64 (-1074), .int .i64 971, .int .i64 52] 31; have q0 : (w1.alloc (.cells #[.int .i64 53, .int .i64 (-1074), .int .i64 971, .int .i64 52] 31)).cell? ⟨w1.heap.size, 0, none⟩ = some (.int .i64 53) := m0.at 0; have q1 : (w1.alloc (.cells #[.int .i64 53, .int .i64 (-1074), .int .i64 971, .int .i64 52] 31)).cell? ⟨w1.heap.size, 1, none⟩ = some (.int .i64 (-1074)) := m0.at 1; have q2 : (w1.alloc (.cells #[.int .i64 53, .int .i64 (-1074), .int .i64 971, .int .i64 52] 31)).cell? ⟨w1.heap.size, 2, none⟩ = some (.int .i64 971) := m0.at 2; have q3 : (w1.alloc (.cells #[.int .i64 53, .int .i64 (-1074), .int .i64 971, .int .i64 52] 31)).cell? ⟨w1.heap.size, 3, none⟩ = some (.int .i64 52) := m0.at 3; clear m0)
      | (go_at_call 51; (with_reducible refine (N _).mono ?_); rintro x w4 ⟨rfl, b4⟩; replace K2 := K2.below b4 K2.lt; replace pr := bel pr b4; clear b4; have q0 : w4.cell? ⟨w1.heap.size, 0, none⟩ = some (.int .i64 53) := K2.at 0; have q1 : w4.cell? ⟨w1.heap.size, 1, none⟩ = some (.int .i64 (-1074)) := K2.at 1; have q2 : w4.cell? ⟨w1.heap.size, 2, none⟩ = some (.int .i64 971) := K2.at 2; have q3 : w4.cell? ⟨w1.heap.size, 3, none⟩ = some (.int .i64 52) := K2.at 3)
      | (go_at_call 51; (with_reducible refine (N _).mono ?_); rintro x w4 ⟨rfl, b4⟩; obtain ⟨b5, K2⟩ := var4 b4; clear b4; replace pr := bel pr b5; clear b5; have q0 : w4.cell? ⟨w1.heap.size, 0, none⟩ = some (.int .i64 53) := K2.at 0; have q1 : w4.cell? ⟨w1.heap.size, 1, none⟩ = some (.int .i64 (-1074)) := K2.at 1; have q2 : w4.cell? ⟨w1.heap.size, 2, none⟩ = some (.int .i64 971) := K2.at 2; have q3 : w4.cell? ⟨w1.heap.size, 3, none⟩ = some (.int .i64 52) := K2.at 3)
      | fail)
    go_ret
    exact ⟨rfl, pr⟩
  rw [if_neg h1]
  have h2 : nan64 n = false := by simpa using h1
  rw [h2] at N
  by_cases i1 : n = 9218868437227405312
  · rw [if_pos i1]
    have i2 : ((n : Int) == 9218868437227405312) = true := by rw [beq_iff_eq]; omega
    clear i1 h1 h2 s rn
    go_enter Try.func25, Try.ntmps25
    go_wp2_with (first
      | (go_at_call 10; refine (Wide_any _).mono ?_; rintro x w1 ⟨rfl, b1⟩; have pr := b1; clear b1; have m0 := Blk.new w1 #[.int .i64 53, .int .i64 (-1074), .int .i64 971, .int .i64 52] 31; have q0 : (w1.alloc (.cells #[.int .i64 53, .int .i64 (-1074), .int .i64 971, .int .i64 52] 31)).cell? ⟨w1.heap.size, 0, none⟩ = some (.int .i64 53) := m0.at 0; have q1 : (w1.alloc (.cells #[.int .i64 53, .int .i64 (-1074), .int .i64 971, .int .i64 52] 31)).cell? ⟨w1.heap.size, 1, none⟩ = some (.int .i64 (-1074)) := m0.at 1; have q2 : (w1.alloc (.cells #[.int .i64 53, .int .i64 (-1074), .int .i64 971, .int .i64 52] 31)).cell? ⟨w1.heap.size, 2, none⟩ = some (.int .i64 971) := m0.at 2; have q3 : (w1.alloc (.cells #[.int .i64 53, .int .i64 (-1074), .int .i64 971, .int .i64 52] 31)).cell? ⟨w1.heap.size, 3, none⟩ = some (.int .i64 52) := m0.at 3; clear m0)
      | (go_at_call 51; (with_reducible refine (N _).mono ?_); rintro x w4 ⟨rfl, b4⟩; replace K2 := K2.below b4 K2.lt; replace pr := bel pr b4; clear b4; have q0 : w4.cell? ⟨w1.heap.size, 0, none⟩ = some (.int .i64 53) := K2.at 0; have q1 : w4.cell? ⟨w1.heap.size, 1, none⟩ = some (.int .i64 (-1074)) := K2.at 1; have q2 : w4.cell? ⟨w1.heap.size, 2, none⟩ = some (.int .i64 971) := K2.at 2; have q3 : w4.cell? ⟨w1.heap.size, 3, none⟩ = some (.int .i64 52) := K2.at 3)
      | (go_at_call 51; (with_reducible refine (N _).mono ?_); rintro x w4 ⟨rfl, b4⟩; obtain ⟨b5, K2⟩ := var4 b4; clear b4; replace pr := bel pr b5; clear b5; have q0 : w4.cell? ⟨w1.heap.size, 0, none⟩ = some (.int .i64 53) := K2.at 0; have q1 : w4.cell? ⟨w1.heap.size, 1, none⟩ = some (.int .i64 (-1074)) := K2.at 1; have q2 : w4.cell? ⟨w1.heap.size, 2, none⟩ = some (.int .i64 971) := K2.at 2; have q3 : w4.cell? ⟨w1.heap.size, 3, none⟩ = some (.int .i64 52) := K2.at 3)
      | (go_at_call 49; (with_reducible refine (I _).mono ?_); rintro x w4 ⟨rfl, b4⟩; replace K2 := K2.below b4 K2.lt; replace pr := bel pr b4; clear b4; have q0 : w4.cell? ⟨w1.heap.size, 0, none⟩ = some (.int .i64 53) := K2.at 0; have q1 : w4.cell? ⟨w1.heap.size, 1, none⟩ = some (.int .i64 (-1074)) := K2.at 1; have q2 : w4.cell? ⟨w1.heap.size, 2, none⟩ = some (.int .i64 971) := K2.at 2; have q3 : w4.cell? ⟨w1.heap.size, 3, none⟩ = some (.int .i64 52) := K2.at 3)
      | (go_at_call 49; (with_reducible refine (I _).mono ?_); rintro x w4 ⟨rfl, b4⟩; obtain ⟨b5, K2⟩ := var4 b4; clear b4; replace pr := bel pr b5; clear b5; have q0 : w4.cell? ⟨w1.heap.size, 0, none⟩ = some (.int .i64 53) := K2.at 0; have q1 : w4.cell? ⟨w1.heap.size, 1, none⟩ = some (.int .i64 (-1074)) := K2.at 1; have q2 : w4.cell? ⟨w1.heap.size, 2, none⟩ = some (.int .i64 971) := K2.at 2; have q3 : w4.cell? ⟨w1.heap.size, 3, none⟩ = some (.int .i64 52) := K2.at 3)
      | fail)
    go_ret
    exact ⟨rfl, pr⟩
  rw [if_neg i1]
  have i2 : ((n : Int) == 9218868437227405312) = false := by rw [beq_eq_false_iff_ne]; omega
  by_cases z1 : rg64 n = 0
  · rw [if_pos z1]
    by_cases c : n = 0
    · subst c
      clear i1 i2 h1 h2 s rn z1
      have N0 : ∀ w : World, Calls Try.prog 51 #[szW, .int .u64 0] w fun e w' => e = .returned (.bool false) ∧ Below w.heap.size w w' := N
      go_enter Try.func25, Try.ntmps25
      go_wp2_with (first
        | (go_at_call 10; refine (Wide_any _).mono ?_; rintro x w1 ⟨rfl, b1⟩; have pr := b1; clear b1; have m0 := Blk.new w1 #[.int .i64 53, .int .i64 (-1074), .int .i64 971, .int .i64 52] 31; have q0 : (w1.alloc (.cells #[.int .i64 53, .int .i64 (-1074), .int .i64 971, .int .i64 52] 31)).cell? ⟨w1.heap.size, 0, none⟩ = some (.int .i64 53) := m0.at 0; have q1 : (w1.alloc (.cells #[.int .i64 53, .int .i64 (-1074), .int .i64 971, .int .i64 52] 31)).cell? ⟨w1.heap.size, 1, none⟩ = some (.int .i64 (-1074)) := m0.at 1; have q2 : (w1.alloc (.cells #[.int .i64 53, .int .i64 (-1074), .int .i64 971, .int .i64 52] 31)).cell? ⟨w1.heap.size, 2, none⟩ = some (.int .i64 971) := m0.at 2; have q3 : (w1.alloc (.cells #[.int .i64 53, .int .i64 (-1074), .int .i64 971, .int .i64 52] 31)).cell? ⟨w1.heap.size, 3, none⟩ = some (.int .i64 52) := m0.at 3; clear m0)
        | (go_at_call 51; (with_reducible refine (N0 _).mono ?_); rintro x w4 ⟨rfl, b4⟩; replace K2 := K2.below b4 K2.lt; replace pr := bel pr b4; clear b4; have q0 : w4.cell? ⟨w1.heap.size, 0, none⟩ = some (.int .i64 53) := K2.at 0; have q1 : w4.cell? ⟨w1.heap.size, 1, none⟩ = some (.int .i64 (-1074)) := K2.at 1; have q2 : w4.cell? ⟨w1.heap.size, 2, none⟩ = some (.int .i64 971) := K2.at 2; have q3 : w4.cell? ⟨w1.heap.size, 3, none⟩ = some (.int .i64 52) := K2.at 3)
        | (go_at_call 51; (with_reducible refine (N0 _).mono ?_); rintro x w4 ⟨rfl, b4⟩; obtain ⟨b5, K2⟩ := var4 b4; clear b4; replace pr := bel pr b5; clear b5; have q0 : w4.cell? ⟨w1.heap.size, 0, none⟩ = some (.int .i64 53) := K2.at 0; have q1 : w4.cell? ⟨w1.heap.size, 1, none⟩ = some (.int .i64 (-1074)) := K2.at 1; have q2 : w4.cell? ⟨w1.heap.size, 2, none⟩ = some (.int .i64 971) := K2.at 2; have q3 : w4.cell? ⟨w1.heap.size, 3, none⟩ = some (.int .i64 52) := K2.at 3)
        | (go_at_call 49; (with_reducible refine (I _).mono ?_); rintro x w4 ⟨rfl, b4⟩; replace K2 := K2.below b4 K2.lt; replace pr := bel pr b4; clear b4; have q0 : w4.cell? ⟨w1.heap.size, 0, none⟩ = some (.int .i64 53) := K2.at 0; have q1 : w4.cell? ⟨w1.heap.size, 1, none⟩ = some (.int .i64 (-1074)) := K2.at 1; have q2 : w4.cell? ⟨w1.heap.size, 2, none⟩ = some (.int .i64 971) := K2.at 2; have q3 : w4.cell? ⟨w1.heap.size, 3, none⟩ = some (.int .i64 52) := K2.at 3)
        | (go_at_call 49; (with_reducible refine (I _).mono ?_); rintro x w4 ⟨rfl, b4⟩; obtain ⟨b5, K2⟩ := var4 b4; clear b4; replace pr := bel pr b5; clear b5; have q0 : w4.cell? ⟨w1.heap.size, 0, none⟩ = some (.int .i64 53) := K2.at 0; have q1 : w4.cell? ⟨w1.heap.size, 1, none⟩ = some (.int .i64 (-1074)) := K2.at 1; have q2 : w4.cell? ⟨w1.heap.size, 2, none⟩ = some (.int .i64 971) := K2.at 2; have q3 : w4.cell? ⟨w1.heap.size, 3, none⟩ = some (.int .i64 52) := K2.at 3)
        | fail)
      go_ret
      exact ⟨rfl, pr⟩
    · have c1 : ((n : Int) == 9223372036854775808) = true := by rw [beq_iff_eq]; omega
      clear c i1 h1 h2 s rn z1
      go_enter Try.func25, Try.ntmps25
      go_wp2_with (first
        | (go_at_call 10; refine (Wide_any _).mono ?_; rintro x w1 ⟨rfl, b1⟩; have pr := b1; clear b1; have m0 := Blk.new w1 #[.int .i64 53, .int .i64 (-1074), .int .i64 971, .int .i64 52] 31; have q0 : (w1.alloc (.cells #[.int .i64 53, .int .i64 (-1074), .int .i64 971, .int .i64 52] 31)).cell? ⟨w1.heap.size, 0, none⟩ = some (.int .i64 53) := m0.at 0; have q1 : (w1.alloc (.cells #[.int .i64 53, .int .i64 (-1074), .int .i64 971, .int .i64 52] 31)).cell? ⟨w1.heap.size, 1, none⟩ = some (.int .i64 (-1074)) := m0.at 1; have q2 : (w1.alloc (.cells #[.int .i64 53, .int .i64 (-1074), .int .i64 971, .int .i64 52] 31)).cell? ⟨w1.heap.size, 2, none⟩ = some (.int .i64 971) := m0.at 2; have q3 : (w1.alloc (.cells #[.int .i64 53, .int .i64 (-1074), .int .i64 971, .int .i64 52] 31)).cell? ⟨w1.heap.size, 3, none⟩ = some (.int .i64 52) := m0.at 3; clear m0)
        | (go_at_call 51; (with_reducible refine (N _).mono ?_); rintro x w4 ⟨rfl, b4⟩; replace K2 := K2.below b4 K2.lt; replace pr := bel pr b4; clear b4; have q0 : w4.cell? ⟨w1.heap.size, 0, none⟩ = some (.int .i64 53) := K2.at 0; have q1 : w4.cell? ⟨w1.heap.size, 1, none⟩ = some (.int .i64 (-1074)) := K2.at 1; have q2 : w4.cell? ⟨w1.heap.size, 2, none⟩ = some (.int .i64 971) := K2.at 2; have q3 : w4.cell? ⟨w1.heap.size, 3, none⟩ = some (.int .i64 52) := K2.at 3)
        | (go_at_call 51; (with_reducible refine (N _).mono ?_); rintro x w4 ⟨rfl, b4⟩; obtain ⟨b5, K2⟩ := var4 b4; clear b4; replace pr := bel pr b5; clear b5; have q0 : w4.cell? ⟨w1.heap.size, 0, none⟩ = some (.int .i64 53) := K2.at 0; have q1 : w4.cell? ⟨w1.heap.size, 1, none⟩ = some (.int .i64 (-1074)) := K2.at 1; have q2 : w4.cell? ⟨w1.heap.size, 2, none⟩ = some (.int .i64 971) := K2.at 2; have q3 : w4.cell? ⟨w1.heap.size, 3, none⟩ = some (.int .i64 52) := K2.at 3)
        | (go_at_call 49; (with_reducible refine (I _).mono ?_); rintro x w4 ⟨rfl, b4⟩; replace K2 := K2.below b4 K2.lt; replace pr := bel pr b4; clear b4; have q0 : w4.cell? ⟨w1.heap.size, 0, none⟩ = some (.int .i64 53) := K2.at 0; have q1 : w4.cell? ⟨w1.heap.size, 1, none⟩ = some (.int .i64 (-1074)) := K2.at 1; have q2 : w4.cell? ⟨w1.heap.size, 2, none⟩ = some (.int .i64 971) := K2.at 2; have q3 : w4.cell? ⟨w1.heap.size, 3, none⟩ = some (.int .i64 52) := K2.at 3)
        | (go_at_call 49; (with_reducible refine (I _).mono ?_); rintro x w4 ⟨rfl, b4⟩; obtain ⟨b5, K2⟩ := var4 b4; clear b4; replace pr := bel pr b5; clear b5; have q0 : w4.cell? ⟨w1.heap.size, 0, none⟩ = some (.int .i64 53) := K2.at 0; have q1 : w4.cell? ⟨w1.heap.size, 1, none⟩ = some (.int .i64 (-1074)) := K2.at 1; have q2 : w4.cell? ⟨w1.heap.size, 2, none⟩ = some (.int .i64 971) := K2.at 2; have q3 : w4.cell? ⟨w1.heap.size, 3, none⟩ = some (.int .i64 52) := K2.at 3)
        | fail)
      go_ret
      exact ⟨rfl, pr⟩
  rw [if_neg z1]
  have c1 : ((n : Int) == 9223372036854775808) = false := by rw [beq_eq_false_iff_ne]; omega
  have c2 : ((n : Int) == 0) = false := by rw [beq_eq_false_iff_ne]; omega
  cases g : ng64 n
  · rw [g] at G s
    rw [if_neg (by simp)]
    have s2 : n / 9223372036854775808 % 2 ≠ 1 := by have := s.symm; simpa using this
    obtain ⟨m, hm⟩ : ∃ m, m = n + 1 := ⟨_, rfl⟩
    rw [← hm]
    have hw : IntKind.u64.wrap ((n : Int) + 1) = (m : Int) := by rw [wu64 _ (by omega) (by omega)]; omega
    clear hm s s2 rn i1 z1 h1 h2 g
    go_enter Try.func25, Try.ntmps25
    go_wp2_with (first
      | (go_at_call 10; refine (Wide_any _).mono ?_; rintro x w1 ⟨rfl, b1⟩; have pr := b1; clear b1; have m0 := Blk.new w1 #[.int .i64 53, .int .i64 (-1074), .int .i64 971, .int .i64 52] 31; have q0 : (w1.alloc (.cells #[.int .i64 53, .int .i64 (-1074), .int .i64 971, .int .i64 52] 31)).cell? ⟨w1.heap.size, 0, none⟩ = some (.int .i64 53) := m0.at 0; have q1 : (w1.alloc (.cells #[.int .i64 53, .int .i64 (-1074), .int .i64 971, .int .i64 52] 31)).cell? ⟨w1.heap.size, 1, none⟩ = some (.int .i64 (-1074)) := m0.at 1; have q2 : (w1.alloc (.cells #[.int .i64 53, .int .i64 (-1074), .int .i64 971, .int .i64 52] 31)).cell? ⟨w1.heap.size, 2, none⟩ = some (.int .i64 971) := m0.at 2; have q3 : (w1.alloc (.cells #[.int .i64 53, .int .i64 (-1074), .int .i64 971, .int .i64 52] 31)).cell? ⟨w1.heap.size, 3, none⟩ = some (.int .i64 52) := m0.at 3; clear m0)
      | (go_at_call 51; (with_reducible refine (N _).mono ?_); rintro x w4 ⟨rfl, b4⟩; replace K2 := K2.below b4 K2.lt; replace pr := bel pr b4; clear b4; have q0 : w4.cell? ⟨w1.heap.size, 0, none⟩ = some (.int .i64 53) := K2.at 0; have q1 : w4.cell? ⟨w1.heap.size, 1, none⟩ = some (.int .i64 (-1074)) := K2.at 1; have q2 : w4.cell? ⟨w1.heap.size, 2, none⟩ = some (.int .i64 971) := K2.at 2; have q3 : w4.cell? ⟨w1.heap.size, 3, none⟩ = some (.int .i64 52) := K2.at 3)
      | (go_at_call 51; (with_reducible refine (N _).mono ?_); rintro x w4 ⟨rfl, b4⟩; obtain ⟨b5, K2⟩ := var4 b4; clear b4; replace pr := bel pr b5; clear b5; have q0 : w4.cell? ⟨w1.heap.size, 0, none⟩ = some (.int .i64 53) := K2.at 0; have q1 : w4.cell? ⟨w1.heap.size, 1, none⟩ = some (.int .i64 (-1074)) := K2.at 1; have q2 : w4.cell? ⟨w1.heap.size, 2, none⟩ = some (.int .i64 971) := K2.at 2; have q3 : w4.cell? ⟨w1.heap.size, 3, none⟩ = some (.int .i64 52) := K2.at 3)
      | (go_at_call 49; (with_reducible refine (I _).mono ?_); rintro x w4 ⟨rfl, b4⟩; replace K2 := K2.below b4 K2.lt; replace pr := bel pr b4; clear b4; have q0 : w4.cell? ⟨w1.heap.size, 0, none⟩ = some (.int .i64 53) := K2.at 0; have q1 : w4.cell? ⟨w1.heap.size, 1, none⟩ = some (.int .i64 (-1074)) := K2.at 1; have q2 : w4.cell? ⟨w1.heap.size, 2, none⟩ = some (.int .i64 971) := K2.at 2; have q3 : w4.cell? ⟨w1.heap.size, 3, none⟩ = some (.int .i64 52) := K2.at 3)
      | (go_at_call 49; (with_reducible refine (I _).mono ?_); rintro x w4 ⟨rfl, b4⟩; obtain ⟨b5, K2⟩ := var4 b4; clear b4; replace pr := bel pr b5; clear b5; have q0 : w4.cell? ⟨w1.heap.size, 0, none⟩ = some (.int .i64 53) := K2.at 0; have q1 : w4.cell? ⟨w1.heap.size, 1, none⟩ = some (.int .i64 (-1074)) := K2.at 1; have q2 : w4.cell? ⟨w1.heap.size, 2, none⟩ = some (.int .i64 971) := K2.at 2; have q3 : w4.cell? ⟨w1.heap.size, 3, none⟩ = some (.int .i64 52) := K2.at 3)
      | (go_at_call 44; (with_reducible refine (G _).mono ?_); rintro x w4 ⟨rfl, b4⟩; replace K2 := K2.below b4 K2.lt; replace pr := bel pr b4; clear b4; have q0 : w4.cell? ⟨w1.heap.size, 0, none⟩ = some (.int .i64 53) := K2.at 0; have q1 : w4.cell? ⟨w1.heap.size, 1, none⟩ = some (.int .i64 (-1074)) := K2.at 1; have q2 : w4.cell? ⟨w1.heap.size, 2, none⟩ = some (.int .i64 971) := K2.at 2; have q3 : w4.cell? ⟨w1.heap.size, 3, none⟩ = some (.int .i64 52) := K2.at 3)
      | (go_at_call 44; (with_reducible refine (G _).mono ?_); rintro x w4 ⟨rfl, b4⟩; obtain ⟨b5, K2⟩ := var4 b4; clear b4; replace pr := bel pr b5; clear b5; have q0 : w4.cell? ⟨w1.heap.size, 0, none⟩ = some (.int .i64 53) := K2.at 0; have q1 : w4.cell? ⟨w1.heap.size, 1, none⟩ = some (.int .i64 (-1074)) := K2.at 1; have q2 : w4.cell? ⟨w1.heap.size, 2, none⟩ = some (.int .i64 971) := K2.at 2; have q3 : w4.cell? ⟨w1.heap.size, 3, none⟩ = some (.int .i64 52) := K2.at 3)
      | fail)
    go_ret
    exact ⟨rfl, pr⟩
  · rw [g] at G s
    rw [if_pos rfl]
    obtain ⟨m, hm⟩ : ∃ m, m = n - 1 := ⟨_, rfl⟩
    rw [← hm]
    have hw : IntKind.u64.wrap ((n : Int) - 1) = (m : Int) := by rw [wu64 _ (by omega) (by omega)]; omega
    clear hm s rn i1 z1 h1 h2 g
    go_enter Try.func25, Try.ntmps25
    go_wp2_with (first
      | (go_at_call 10; refine (Wide_any _).mono ?_; rintro x w1 ⟨rfl, b1⟩; have pr := b1; clear b1; have m0 := Blk.new w1 #[.int .i64 53, .int .i64 (-1074), .int .i64 971, .int .i64 52] 31; have q0 : (w1.alloc (.cells #[.int .i64 53, .int .i64 (-1074), .int .i64 971, .int .i64 52] 31)).cell? ⟨w1.heap.size, 0, none⟩ = some (.int .i64 53) := m0.at 0; have q1 : (w1.alloc (.cells #[.int .i64 53, .int .i64 (-1074), .int .i64 971, .int .i64 52] 31)).cell? ⟨w1.heap.size, 1, none⟩ = some (.int .i64 (-1074)) := m0.at 1; have q2 : (w1.alloc (.cells #[.int .i64 53, .int .i64 (-1074), .int .i64 971, .int .i64 52] 31)).cell? ⟨w1.heap.size, 2, none⟩ = some (.int .i64 971) := m0.at 2; have q3 : (w1.alloc (.cells #[.int .i64 53, .int .i64 (-1074), .int .i64 971, .int .i64 52] 31)).cell? ⟨w1.heap.size, 3, none⟩ = some (.int .i64 52) := m0.at 3; clear m0)
      | (go_at_call 51; (with_reducible refine (N _).mono ?_); rintro x w4 ⟨rfl, b4⟩; replace K2 := K2.below b4 K2.lt; replace pr := bel pr b4; clear b4; have q0 : w4.cell? ⟨w1.heap.size, 0, none⟩ = some (.int .i64 53) := K2.at 0; have q1 : w4.cell? ⟨w1.heap.size, 1, none⟩ = some (.int .i64 (-1074)) := K2.at 1; have q2 : w4.cell? ⟨w1.heap.size, 2, none⟩ = some (.int .i64 971) := K2.at 2; have q3 : w4.cell? ⟨w1.heap.size, 3, none⟩ = some (.int .i64 52) := K2.at 3)
      | (go_at_call 51; (with_reducible refine (N _).mono ?_); rintro x w4 ⟨rfl, b4⟩; obtain ⟨b5, K2⟩ := var4 b4; clear b4; replace pr := bel pr b5; clear b5; have q0 : w4.cell? ⟨w1.heap.size, 0, none⟩ = some (.int .i64 53) := K2.at 0; have q1 : w4.cell? ⟨w1.heap.size, 1, none⟩ = some (.int .i64 (-1074)) := K2.at 1; have q2 : w4.cell? ⟨w1.heap.size, 2, none⟩ = some (.int .i64 971) := K2.at 2; have q3 : w4.cell? ⟨w1.heap.size, 3, none⟩ = some (.int .i64 52) := K2.at 3)
      | (go_at_call 49; (with_reducible refine (I _).mono ?_); rintro x w4 ⟨rfl, b4⟩; replace K2 := K2.below b4 K2.lt; replace pr := bel pr b4; clear b4; have q0 : w4.cell? ⟨w1.heap.size, 0, none⟩ = some (.int .i64 53) := K2.at 0; have q1 : w4.cell? ⟨w1.heap.size, 1, none⟩ = some (.int .i64 (-1074)) := K2.at 1; have q2 : w4.cell? ⟨w1.heap.size, 2, none⟩ = some (.int .i64 971) := K2.at 2; have q3 : w4.cell? ⟨w1.heap.size, 3, none⟩ = some (.int .i64 52) := K2.at 3)
      | (go_at_call 49; (with_reducible refine (I _).mono ?_); rintro x w4 ⟨rfl, b4⟩; obtain ⟨b5, K2⟩ := var4 b4; clear b4; replace pr := bel pr b5; clear b5; have q0 : w4.cell? ⟨w1.heap.size, 0, none⟩ = some (.int .i64 53) := K2.at 0; have q1 : w4.cell? ⟨w1.heap.size, 1, none⟩ = some (.int .i64 (-1074)) := K2.at 1; have q2 : w4.cell? ⟨w1.heap.size, 2, none⟩ = some (.int .i64 971) := K2.at 2; have q3 : w4.cell? ⟨w1.heap.size, 3, none⟩ = some (.int .i64 52) := K2.at 3)
      | (go_at_call 44; (with_reducible refine (G _).mono ?_); rintro x w4 ⟨rfl, b4⟩; replace K2 := K2.below b4 K2.lt; replace pr := bel pr b4; clear b4; have q0 : w4.cell? ⟨w1.heap.size, 0, none⟩ = some (.int .i64 53) := K2.at 0; have q1 : w4.cell? ⟨w1.heap.size, 1, none⟩ = some (.int .i64 (-1074)) := K2.at 1; have q2 : w4.cell? ⟨w1.heap.size, 2, none⟩ = some (.int .i64 971) := K2.at 2; have q3 : w4.cell? ⟨w1.heap.size, 3, none⟩ = some (.int .i64 52) := K2.at 3)
      | (go_at_call 44; (with_reducible refine (G _).mono ?_); rintro x w4 ⟨rfl, b4⟩; obtain ⟨b5, K2⟩ := var4 b4; clear b4; replace pr := bel pr b5; clear b5; have q0 : w4.cell? ⟨w1.heap.size, 0, none⟩ = some (.int .i64 53) := K2.at 0; have q1 : w4.cell? ⟨w1.heap.size, 1, none⟩ = some (.int .i64 (-1074)) := K2.at 1; have q2 : w4.cell? ⟨w1.heap.size, 2, none⟩ = some (.int .i64 971) := K2.at 2; have q3 : w4.cell? ⟨w1.heap.size, 3, none⟩ = some (.int .i64 52) := K2.at 3)
      | fail)
    go_ret
    exact ⟨rfl, pr⟩
end Go.Proofs.Ytjgljcifnklmeaa

namespace Go.Proofs.Ytjgljcifnklmeaa.L
open Go.RowKit Tl
theorem field_kind (k m e : Int) (g : Bool) (w : World) : (Instr.field 25 (.agg #[.int .i64 k, .bool g, .int .u64 m, .int .i64 e]) 0).run Try.prog w = .ok (.int .i64 k) w := by
  simp [Instr.field, run_underlying Try.underlying25, asAgg, part, Try.sizeOf3, go_sem]
theorem field_exp (k m e : Int) (g : Bool) (w : World) : (Instr.field 25 (.agg #[.int .i64 k, .bool g, .int .u64 m, .int .i64 e]) 3).run Try.prog w = .ok (.int .i64 e) w := by
  simp [Instr.field, run_underlying Try.underlying25, asAgg, part, Try.sizeOf3, go_sem]
end Go.Proofs.Ytjgljcifnklmeaa.L

namespace Go.Proofs.Ytjgljcifnklmeaa.L
open Go.RowKit Tl

/-- The bits of 2 to the T - 1074. -/
def gapB (T : Nat) : Int := if T ≤ 51 then 2 ^ T else ((T : Int) - 51) * 4503599627370496
theorem fl_core {D m r : Int} {T k : Nat} (hD : 0 < D) (h : D * 2 ^ T = m * (D * 2 ^ k) + r) (r0 : 0 ≤ r) (r1 : r < D * 2 ^ k) (m0 : 0 ≤ m) : (k ≤ T → m = 2 ^ (T - k) ∧ r = 0) ∧ (T < k → m = 0) := by
  have pk : 0 < D * 2 ^ k := Int.mul_pos hD (two_pow_pos k)
  constructor
  · intro hk
    have e : D * 2 ^ T = 2 ^ (T - k) * (D * 2 ^ k) := by
      rw [show T = (T - k) + k from by omega, Int.pow_add, show T - k + k - k = T - k from by omega]; grind
    have f : (2 ^ (T - k) - m) * (D * 2 ^ k) = r := by rw [Int.sub_mul]; omega
    generalize (2 : Int) ^ (T - k) = a at *
    generalize D * 2 ^ k = b at *
    have g : a - m = 0 := by
      by_cases c : a - m = 0
      · exact c
      · rcases Int.lt_or_gt_of_ne c with c | c
        · have := Int.mul_le_mul_of_nonneg_right (show a - m ≤ -1 by omega) (Int.le_of_lt pk); omega
        · have := Int.mul_le_mul_of_nonneg_right (show 1 ≤ a - m by omega) (Int.le_of_lt pk); omega
    rw [g] at f
    exact ⟨by omega, by simp at f; omega⟩
  · intro hk
    have a : D * 2 ^ T < D * 2 ^ k := by
      refine Int.mul_lt_mul_of_pos_left ?_ hD
      have h1 := two_pow_le (show T + 1 ≤ k by omega)
      rw [Int.pow_succ] at h1
      have := two_pow_pos T
      omega
    by_cases c : m = 0
    · exact c
    · have := Int.mul_le_mul_of_nonneg_right (show 1 ≤ m by omega) (Int.le_of_lt pk); omega
theorem fl_star {N D e m r : Int} {T k Z : Nat} (h : Fl N D e m r) (hc : N * 2 ^ Z = D * 2 ^ T) (hk : (k : Int) = e + Z) : ∃ j : Nat, D * 2 ^ T = m * (D * 2 ^ k) + r * 2 ^ j ∧ r * 2 ^ j < D * 2 ^ k := by
  have e1 := h.eq
  have e2 := h.r1
  by_cases he : 0 ≤ e
  · refine ⟨Z, ?_, ?_⟩
    · rw [show (-e).toNat = 0 from by omega, Int.pow_zero, Int.mul_one] at e1
      rw [← hc, e1, show k = e.toNat + Z from by omega, Int.pow_add]; grind
    · have := Int.mul_lt_mul_of_pos_right e2 (two_pow_pos Z)
      rw [show k = e.toNat + Z from by omega, Int.pow_add, ← Int.mul_assoc]; exact this
  · rw [show e.toNat = 0 from by omega, Int.pow_zero, Int.mul_one] at e1 e2
    refine ⟨k, ?_, Int.mul_lt_mul_of_pos_right e2 (two_pow_pos k)⟩
    have f : N * 2 ^ Z = N * 2 ^ (-e).toNat * 2 ^ k := by rw [Int.mul_assoc, ← Int.pow_add]; congr 2; omega
    rw [← hc, f, e1]; grind
theorem pow_lt {a b : Nat} (h : (2 : Int) ^ a < 2 ^ b) : a < b := by
  by_cases c : a < b
  · exact c
  · have := two_pow_le (show b ≤ a by omega); omega
theorem gap_exact {N D e m r : Int} {T Z : Nat} (hZ : Z = 1074) (hT : T ≤ 2045) (hD : 0 < D) (hc : N * 2 ^ Z = D * 2 ^ T) (h : Fl N D e m r) (m0 : 0 ≤ m) (e0 : -1074 ≤ e) (m1 : m < 9007199254740992) (st : e = -1074 ∨ 4503599627370496 ≤ m) : (r = 0 ∧ e ≤ 971) ∧ lay52 m e = gapB T := by
  obtain ⟨k, hk⟩ : ∃ k : Nat, (k : Int) = e + Z := ⟨(e + Z).toNat, by omega⟩
  obtain ⟨j, s1, s2⟩ := fl_star h hc hk
  have r0 := h.r0
  have rj : 0 ≤ r * 2 ^ j := Int.mul_nonneg r0 (Int.le_of_lt (two_pow_pos j))
  obtain ⟨c1, c2⟩ := fl_core hD s1 rj s2 m0
  have hkT : k ≤ T := by
    by_cases c : k ≤ T
    · exact c
    · have := c2 (by omega)
      rcases st with st | st <;> omega
  obtain ⟨hm, hr⟩ := c1 hkT
  have r00 : r = 0 := by
    by_cases c : r = 0
    · exact c
    · have := Int.mul_pos (show 0 < r by omega) (two_pow_pos j); omega
  have t53 : (2 : Int) ^ 53 = 9007199254740992 := by decide
  have t52 : (2 : Int) ^ 52 = 4503599627370496 := by decide
  have t51 : (2 : Int) ^ 51 = 2251799813685248 := by decide
  have h53 : T - k < 53 := pow_lt (by rw [← hm, t53]; exact m1)
  have h52 : k = 0 ∨ T - k = 52 := by
    rcases st with st | st
    · left; omega
    · right
      by_cases c : T - k = 52
      · exact c
      · have := two_pow_le (show T - k ≤ 51 by omega)
        omega
  refine ⟨⟨r00, by omega⟩, ?_⟩
  unfold lay52 gapB
  rcases h52 with h52 | h52
  · have ek : T - k = T := by omega
    rw [ek] at hm
    by_cases c : T ≤ 51
    · have := two_pow_le c
      rw [if_neg (by omega), if_pos c]; exact hm
    · have eT : T = 52 := by omega
      rw [eT, t52] at hm
      rw [if_pos (by omega), if_neg c, hm, eT]
      omega
  · rw [h52, t52] at hm
    rw [if_pos (by omega), if_neg (by omega), hm]
    omega
end Go.Proofs.Ytjgljcifnklmeaa.L
