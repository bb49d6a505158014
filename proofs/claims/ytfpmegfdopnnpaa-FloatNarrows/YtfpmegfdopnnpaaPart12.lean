import Derived.Test.YtfpmegfdopnnpaaPart11
import Derived.Test.YtfpmegfdopnnpaaPart06

namespace Go.Proofs.Ytfpmegfdopnnpaa
open Go.RowKit Tn

set_option maxRecDepth 100000 in
set_option maxHeartbeats 1600000 in
theorem Finite_w (n d : Int) (t : Bool) (hd : bits .and .u64 (n / 4503599627370496) 2047 = d) (ht : (d != 2047) = t) (w : World) : Calls Try.prog 66 #[szW, .int .u64 n] w fun e w' => e = .returned (.bool t) ∧ Below w.heap.size w w' := by
  go_enter Try.func66, Try.ntmps66
  go_wp2_with fail
  have K0 := Blk.new w #[.int .i64 53, .int .i64 (-1074), .int .i64 971, .int .i64 52] 31
  have pr : Below w.heap.size w (w.alloc (.cells #[.int .i64 53, .int .i64 (-1074), .int .i64 971, .int .i64 52] 31)) := (Below.refl _ _).alloc (Nat.le_refl _) _
  generalize w.alloc (.cells #[.int .i64 53, .int .i64 (-1074), .int .i64 971, .int .i64 52] 31) = W at *
  have e0 : W.cell? ⟨w.heap.size, 0, none⟩ = some (.int .i64 53) := K0.at 0
  have e1 : W.cell? ⟨w.heap.size, 1, none⟩ = some (.int .i64 (-1074)) := K0.at 1
  have e2 : W.cell? ⟨w.heap.size, 2, none⟩ = some (.int .i64 971) := K0.at 2
  have e3 : W.cell? ⟨w.heap.size, 3, none⟩ = some (.int .i64 52) := K0.at 3
  go_region_held3 (fun x => x.cell? ⟨w.heap.size, 0, none⟩ = some (.int .i64 53) ∧ x.cell? ⟨w.heap.size, 1, none⟩ = some (.int .i64 (-1074)) ∧ x.cell? ⟨w.heap.size, 2, none⟩ = some (.int .i64 971) ∧ x.cell? ⟨w.heap.size, 3, none⟩ = some (.int .i64 52)) (go_keep) (first
    | (go_at_call 43; refine (top_w _).mono ?_; rintro e w1 ⟨rfl, b1⟩; replace K0 := K0.below b1 K0.lt; replace pr := bel pr b1; clear b1; have e0 : w1.cell? ⟨w.heap.size, 0, none⟩ = some (.int .i64 53) := K0.at 0; have e1 : w1.cell? ⟨w.heap.size, 1, none⟩ = some (.int .i64 (-1074)) := K0.at 1; have e2 : w1.cell? ⟨w.heap.size, 2, none⟩ = some (.int .i64 971) := K0.at 2; have e3 : w1.cell? ⟨w.heap.size, 3, none⟩ = some (.int .i64 52) := K0.at 3)
    | (go_at_call 43; refine (top_w _).mono ?_; rintro e w1 ⟨rfl, b1⟩; replace K0 := K0.below (below_undrew b1) K0.lt; replace pr := bel pr (below_undrew b1); clear b1; have e0 : w1.cell? ⟨w.heap.size, 0, none⟩ = some (.int .i64 53) := K0.at 0; have e1 : w1.cell? ⟨w.heap.size, 1, none⟩ = some (.int .i64 (-1074)) := K0.at 1; have e2 : w1.cell? ⟨w.heap.size, 2, none⟩ = some (.int .i64 971) := K0.at 2; have e3 : w1.cell? ⟨w.heap.size, 3, none⟩ = some (.int .i64 52) := K0.at 3)
    | fail)
  go_wp2
  go_ret
  exact ⟨rfl, pr⟩
set_option maxRecDepth 100000 in
set_option maxHeartbeats 1600000 in
theorem IsNone_w (n : Nat) (hn : n < 18446744073709551616) (w : World) : Calls Try.prog 51 #[szW, .int .u64 n] w fun e w' => e = .returned (.bool (decide (fdW n = 2047) && decide (frW n ≠ 0))) ∧ Below w.heap.size w w' := by
  have hf := hfW n hn
  have F := Finite_w n (fdW n) (decide (fdW n ≠ 2047)) (hdW n hn) (by rw [Bool.eq_iff_iff, decide_eq_true_iff, bne_iff_ne]; omega)
  have g1 : ((frW n : Int) != 0) = decide (frW n ≠ 0) := by rw [Bool.eq_iff_iff, decide_eq_true_iff, bne_iff_ne]; omega
  by_cases h : fdW n = 2047
  · rw [decide_eq_true h, Bool.true_and]
    rw [decide_eq_false (show ¬ (fdW n ≠ 2047) from fun x => x h)] at F
    clear h
    generalize decide (frW n ≠ 0) = t at g1 ⊢
    generalize frW n = z at *
    go_enter Try.func51, Try.ntmps51
    have K0 := Blk.new w #[.int .i64 53, .int .i64 (-1074), .int .i64 971, .int .i64 52] 31
    have pr : Below w.heap.size w (w.alloc (.cells #[.int .i64 53, .int .i64 (-1074), .int .i64 971, .int .i64 52] 31)) := (Below.refl _ _).alloc (Nat.le_refl _) _
    have h1 : IntKind.u64.wrap 4503599627370495 = 4503599627370495 := by decide
    go_wp2_with (first
      | (go_at_call 66; refine (F _).mono ?_; rintro e w1 ⟨rfl, b1⟩; replace K0 := K0.below b1 K0.lt; replace pr := bel pr b1; clear b1; have e0 : w1.cell? ⟨w.heap.size, 0, none⟩ = some (.int .i64 53) := K0.at 0; have e1 : w1.cell? ⟨w.heap.size, 1, none⟩ = some (.int .i64 (-1074)) := K0.at 1; have e2 : w1.cell? ⟨w.heap.size, 2, none⟩ = some (.int .i64 971) := K0.at 2; have e3 : w1.cell? ⟨w.heap.size, 3, none⟩ = some (.int .i64 52) := K0.at 3)
      | fail)
    go_ret
    exact ⟨rfl, pr⟩
  · rw [decide_eq_false h, Bool.false_and]
    rw [decide_eq_true (show fdW n ≠ 2047 from h)] at F
    clear h
    clear g1
    generalize frW n = z at *
    go_enter Try.func51, Try.ntmps51
    have K0 := Blk.new w #[.int .i64 53, .int .i64 (-1074), .int .i64 971, .int .i64 52] 31
    have pr : Below w.heap.size w (w.alloc (.cells #[.int .i64 53, .int .i64 (-1074), .int .i64 971, .int .i64 52] 31)) := (Below.refl _ _).alloc (Nat.le_refl _) _
    have h1 : IntKind.u64.wrap 4503599627370495 = 4503599627370495 := by decide
    go_wp2_with (first
      | (go_at_call 66; refine (F _).mono ?_; rintro e w1 ⟨rfl, b1⟩; replace K0 := K0.below b1 K0.lt; replace pr := bel pr b1; clear b1; have e0 : w1.cell? ⟨w.heap.size, 0, none⟩ = some (.int .i64 53) := K0.at 0; have e1 : w1.cell? ⟨w.heap.size, 1, none⟩ = some (.int .i64 (-1074)) := K0.at 1; have e2 : w1.cell? ⟨w.heap.size, 2, none⟩ = some (.int .i64 971) := K0.at 2; have e3 : w1.cell? ⟨w.heap.size, 3, none⟩ = some (.int .i64 52) := K0.at 3)
      | fail)
    go_ret
    exact ⟨rfl, pr⟩
set_option maxRecDepth 100000 in
set_option maxHeartbeats 1600000 in
theorem Finite_s (n d : Int) (t : Bool) (hd : bits .and .u64 (n / 8388608) 255 = d) (ht : (d != 255) = t) (w : World) : Calls Try.prog 66 #[szS, .int .u64 n] w fun e w' => e = .returned (.bool t) ∧ Below w.heap.size w w' := by
  go_enter Try.func66, Try.ntmps66
  go_wp2_with fail
  have K0 := Blk.new w #[.int .i64 24, .int .i64 (-149), .int .i64 104, .int .i64 23] 31
  have pr : Below w.heap.size w (w.alloc (.cells #[.int .i64 24, .int .i64 (-149), .int .i64 104, .int .i64 23] 31)) := (Below.refl _ _).alloc (Nat.le_refl _) _
  generalize w.alloc (.cells #[.int .i64 24, .int .i64 (-149), .int .i64 104, .int .i64 23] 31) = W at *
  have e0 : W.cell? ⟨w.heap.size, 0, none⟩ = some (.int .i64 24) := K0.at 0
  have e1 : W.cell? ⟨w.heap.size, 1, none⟩ = some (.int .i64 (-149)) := K0.at 1
  have e2 : W.cell? ⟨w.heap.size, 2, none⟩ = some (.int .i64 104) := K0.at 2
  have e3 : W.cell? ⟨w.heap.size, 3, none⟩ = some (.int .i64 23) := K0.at 3
  go_region_held3 (fun x => x.cell? ⟨w.heap.size, 0, none⟩ = some (.int .i64 24) ∧ x.cell? ⟨w.heap.size, 1, none⟩ = some (.int .i64 (-149)) ∧ x.cell? ⟨w.heap.size, 2, none⟩ = some (.int .i64 104) ∧ x.cell? ⟨w.heap.size, 3, none⟩ = some (.int .i64 23)) (go_keep) (first
    | (go_at_call 43; refine (top_s _).mono ?_; rintro e w1 ⟨rfl, b1⟩; replace K0 := K0.below b1 K0.lt; replace pr := bel pr b1; clear b1; have e0 : w1.cell? ⟨w.heap.size, 0, none⟩ = some (.int .i64 24) := K0.at 0; have e1 : w1.cell? ⟨w.heap.size, 1, none⟩ = some (.int .i64 (-149)) := K0.at 1; have e2 : w1.cell? ⟨w.heap.size, 2, none⟩ = some (.int .i64 104) := K0.at 2; have e3 : w1.cell? ⟨w.heap.size, 3, none⟩ = some (.int .i64 23) := K0.at 3)
    | (go_at_call 43; refine (top_s _).mono ?_; rintro e w1 ⟨rfl, b1⟩; replace K0 := K0.below (below_undrew b1) K0.lt; replace pr := bel pr (below_undrew b1); clear b1; have e0 : w1.cell? ⟨w.heap.size, 0, none⟩ = some (.int .i64 24) := K0.at 0; have e1 : w1.cell? ⟨w.heap.size, 1, none⟩ = some (.int .i64 (-149)) := K0.at 1; have e2 : w1.cell? ⟨w.heap.size, 2, none⟩ = some (.int .i64 104) := K0.at 2; have e3 : w1.cell? ⟨w.heap.size, 3, none⟩ = some (.int .i64 23) := K0.at 3)
    | fail)
  go_wp2
  go_ret
  exact ⟨rfl, pr⟩
set_option maxRecDepth 100000 in
set_option maxHeartbeats 1600000 in
theorem IsNone_s (n : Nat) (hn : n < 18446744073709551616) (w : World) : Calls Try.prog 51 #[szS, .int .u64 n] w fun e w' => e = .returned (.bool (decide (fdS n = 255) && decide (frS n ≠ 0))) ∧ Below w.heap.size w w' := by
  have hf := hfS n hn
  have F := Finite_s n (fdS n) (decide (fdS n ≠ 255)) (hdS n hn) (by rw [Bool.eq_iff_iff, decide_eq_true_iff, bne_iff_ne]; omega)
  have g1 : ((frS n : Int) != 0) = decide (frS n ≠ 0) := by rw [Bool.eq_iff_iff, decide_eq_true_iff, bne_iff_ne]; omega
  by_cases h : fdS n = 255
  · rw [decide_eq_true h, Bool.true_and]
    rw [decide_eq_false (show ¬ (fdS n ≠ 255) from fun x => x h)] at F
    clear h
    generalize decide (frS n ≠ 0) = t at g1 ⊢
    generalize frS n = z at *
    go_enter Try.func51, Try.ntmps51
    have K0 := Blk.new w #[.int .i64 24, .int .i64 (-149), .int .i64 104, .int .i64 23] 31
    have pr : Below w.heap.size w (w.alloc (.cells #[.int .i64 24, .int .i64 (-149), .int .i64 104, .int .i64 23] 31)) := (Below.refl _ _).alloc (Nat.le_refl _) _
    have h1 : IntKind.u64.wrap 8388607 = 8388607 := by decide
    go_wp2_with (first
      | (go_at_call 66; refine (F _).mono ?_; rintro e w1 ⟨rfl, b1⟩; replace K0 := K0.below b1 K0.lt; replace pr := bel pr b1; clear b1; have e0 : w1.cell? ⟨w.heap.size, 0, none⟩ = some (.int .i64 24) := K0.at 0; have e1 : w1.cell? ⟨w.heap.size, 1, none⟩ = some (.int .i64 (-149)) := K0.at 1; have e2 : w1.cell? ⟨w.heap.size, 2, none⟩ = some (.int .i64 104) := K0.at 2; have e3 : w1.cell? ⟨w.heap.size, 3, none⟩ = some (.int .i64 23) := K0.at 3)
      | fail)
    go_ret
    exact ⟨rfl, pr⟩
  · rw [decide_eq_false h, Bool.false_and]
    rw [decide_eq_true (show fdS n ≠ 255 from h)] at F
    clear h
    clear g1
    generalize frS n = z at *
    go_enter Try.func51, Try.ntmps51
    have K0 := Blk.new w #[.int .i64 24, .int .i64 (-149), .int .i64 104, .int .i64 23] 31
    have pr : Below w.heap.size w (w.alloc (.cells #[.int .i64 24, .int .i64 (-149), .int .i64 104, .int .i64 23] 31)) := (Below.refl _ _).alloc (Nat.le_refl _) _
    have h1 : IntKind.u64.wrap 8388607 = 8388607 := by decide
    go_wp2_with (first
      | (go_at_call 66; refine (F _).mono ?_; rintro e w1 ⟨rfl, b1⟩; replace K0 := K0.below b1 K0.lt; replace pr := bel pr b1; clear b1; have e0 : w1.cell? ⟨w.heap.size, 0, none⟩ = some (.int .i64 24) := K0.at 0; have e1 : w1.cell? ⟨w.heap.size, 1, none⟩ = some (.int .i64 (-149)) := K0.at 1; have e2 : w1.cell? ⟨w.heap.size, 2, none⟩ = some (.int .i64 104) := K0.at 2; have e3 : w1.cell? ⟨w.heap.size, 3, none⟩ = some (.int .i64 23) := K0.at 3)
      | fail)
    go_ret
    exact ⟨rfl, pr⟩
theorem none_nan (n : Nat) : (decide (fdW n = 2047) && decide (frW n ≠ 0)) = nan64 n := by
  unfold nan64 fdW frW rg64
  rw [Bool.eq_iff_iff, Bool.and_eq_true, decide_eq_true_iff, decide_eq_true_iff, decide_eq_true_iff]
  omega
theorem IsNone64 (n : Nat) (hn : n < 18446744073709551616) (w : World) : Calls Try.prog 51 #[szW, .int .u64 n] w fun e w' => e = .returned (.bool (nan64 n)) ∧ Below w.heap.size w w' := by
  have H := IsNone_w n hn w
  rw [none_nan] at H
  exact H
/-- The place as the reference tells it. -/
def place64 (n : Nat) : Int := if ng64 n = true then -(rg64 n : Int) else rg64 n
set_option maxRecDepth 100000 in
set_option maxHeartbeats 1600000 in
theorem place_any (n : Nat) (hn : n < 18446744073709551616) (w : World) : Calls Try.prog 62 #[.int .u64 n] w fun e w' => e = .returned (.int .i64 (place64 n)) ∧ w' = w := by
  have h := andNot_sign n hn
  have r := rg64_lt n
  have hx : IntKind.i64.wrap (rg64 n : Int) = (rg64 n : Int) := w64 _ (by omega) (by omega)
  have hy : IntKind.i64.wrap (-(rg64 n : Int)) = -(rg64 n : Int) := w64 _ (by omega) (by omega)
  unfold place64
  have s : ng64 n = (n / 9223372036854775808 % 2 == 1) := rfl
  by_cases c : 9223372036854775808 ≤ n
  · have s1 : ng64 n = true := by rw [s, beq_iff_eq]; omega
    rw [if_pos s1]
    have c1 : decide ((9223372036854775808 : Int) ≤ (n : Int)) = true := by rw [decide_eq_true_eq]; omega
    clear s s1
    generalize rg64 n = z at *
    go_enter Try.func62, Try.ntmps62
    go_wp2
    go_ret
    exact ⟨rfl, rfl⟩
  · have s1 : ¬ (ng64 n = true) := by rw [s, beq_iff_eq]; omega
    rw [if_neg s1]
    have c1 : decide ((9223372036854775808 : Int) ≤ (n : Int)) = false := by rw [decide_eq_false_iff_not]; omega
    clear s s1
    generalize rg64 n = z at *
    go_enter Try.func62, Try.ntmps62
    go_wp2
    go_ret
    exact ⟨rfl, rfl⟩
set_option maxRecDepth 100000 in
set_option maxHeartbeats 1600000 in
theorem RUp_any (n : Nat) (hn : n < 18446744073709551616) (w : World) : Calls Try.prog 25 #[.int .u64 n] w fun e w' => e = .returned (.int .u64 (up64 n)) ∧ Below w.heap.size w w' := by
  have N := IsNone64 n hn
  have G := Neg_w n (ng64 n) (hg2W n hn)
  have I := Infinite_w_pos
  have s : ng64 n = (n / 9223372036854775808 % 2 == 1) := rfl
  have rn : rg64 n = n % 9223372036854775808 := rfl
  unfold up64
  by_cases h1 : nan64 n = true
  · rw [h1] at N
    rw [if_pos h1]
    clear h1 s rn
    go_enter Try.func25, Try.ntmps25
    go_wp2_with (first
      | (go_at_call 10; refine (Wide_any _).mono ?_; rintro x w1 ⟨rfl, b1⟩; have pr := b1; clear b1; have m0 := Blk.new w1 #[.int .i64 53, .int .i64 (-1074), .int .i64 971, .int .i64 52] 31; have q0 : (w1.alloc (.cells #[.int .i64 53, .int .i64 (-1074), .int .i64 971, .int .i64 52] 31)).cell? ⟨w1.heap.size, 0, none⟩ = some (.int .i64 53) := m0.at 0; have q1 : (w1.alloc (.cells #[.int .i64 53, .int .i64 (-1074), .int .i64 971, .int .i64 52] 31)).cell? ⟨w1.heap.size, 1, none⟩ = some (.int .i64 (-1074)) := m0.at 1; have q2 : (w1.alloc (.cells #[.int .i64 53, .int .i64 (-1074), .int .i64 971, .int .i64 52] 31)).cell? ⟨w1.heap.size, 2, none⟩ = some (.int .i64 971) := m0.at 2; have q3 : (w1.alloc (.cells #[.int .i64 53, .int .i64 (-1074), .int .i64 971, .int .i64 52] 31)).cell? ⟨w1.heap.size, 3, none⟩ = some (.int .i64 52) := m0.at 3; clear m0)
      | (go_at_call 51; (with_reducible refine (N _).mono ?_); rintro x w4 ⟨rfl, b4⟩; replace K2 := K2.below b4 K2.lt; replace pr := bel pr b4; clear b4; have q0 : w4.cell? ⟨w1.heap.size, 0, none⟩ = some (.int .i64 53) := K2.at 0; have q1 : w4.cell? ⟨w1.heap.size, 1, none⟩ = some (.int .i64 (-1074)) := K2.at 1; have q2 : w4.cell? ⟨w1.heap.size, 2, none⟩ = some (.int .i64 971) := K2.at 2; have q3 : w4.cell? ⟨w1.heap.size, 3, none⟩ = some (.int .i64 52) := K2.at 3)
      | (go_at_call 51; (with_reducible refine (N _).mono ?_); rintro x w4 ⟨rfl, b4⟩; obtain ⟨b5, K2⟩ := var4 b4; clear b4; replace pr := bel pr b5; clear b5; have q0 : w4.cell? ⟨w1.heap.size, 0, none⟩ = some (.int .i64 53) := K2.at 0; have q1 : w4.cell? ⟨w1.heap.size, 1, none⟩ = some (.int .i64 (-1074)) := K2.at 1; have q2 : w4.cell? ⟨w1.heap.size, 2, none⟩ = some (.int .i64 971) := K2.at 2; have q3 : w4.cell? ⟨w1.heap.size, 3, none⟩ = some (.int .i64 52) := K2.at 3)
      | fail)
    go_ret
    exact ⟨rfl, pr⟩
  rw [if_neg h1]
  have h2 : nan64 n = false := by simpa using h1
  rw [h2] at N
  by_cases i1 : n = 9218868437227405312
  · rw [if_pos i1]
    have i2 : ((n : Int) == 9218868437227405312) = true := by rw [beq_iff_eq]; omega
    clear i1 h1 h2 s rn
    go_enter Try.func25, Try.ntmps25
    go_wp2_with (first
      | (go_at_call 10; refine (Wide_any _).mono ?_; rintro x w1 ⟨rfl, b1⟩; have pr := b1; clear b1; have m0 := Blk.new w1 #[.int .i64 53, .int .i64 (-1074), .int .i64 971, .int .i64 52] 31; have q0 : (w1.alloc (.cells #[.int .i64 53, .int .i64 (-1074), .int .i64 971, .int .i64 52] 31)).cell? ⟨w1.heap.size, 0, none⟩ = some (.int .i64 53) := m0.at 0; have q1 : (w1.alloc (.cells #[.int .i64 53, .int .i64 (-1074), .int .i64 971, .int .i64 52] 31)).cell? ⟨w1.heap.size, 1, none⟩ = some (.int .i64 (-1074)) := m0.at 1; have q2 : (w1.alloc (.cells #[.int .i64 53, .int .i64 (-1074), .int .i64 971, .int .i64 52] 31)).cell? ⟨w1.heap.size, 2, none⟩ = some (.int .i64 971) := m0.at 2; have q3 : (w1.alloc (.cells #[.int .i64 53, .int .i64 (-1074), .int .i64 971, .int .i64 52] 31)).cell? ⟨w1.heap.size, 3, none⟩ = some (.int .i64 52) := m0.at 3; clear m0)
      | (go_at_call 51; (with_reducible refine (N _).mono ?_); rintro x w4 ⟨rfl, b4⟩; replace K2 := K2.below b4 K2.lt; replace pr := bel pr b4; clear b4; have q0 : w4.cell? ⟨w1.heap.size, 0, none⟩ = some (.int .i64 53) := K2.at 0; have q1 : w4.cell? ⟨w1.heap.size, 1, none⟩ = some (.int .i64 (-1074)) := K2.at 1; have q2 : w4.cell? ⟨w1.heap.size, 2, none⟩ = some (.int .i64 971) := K2.at 2; have q3 : w4.cell? ⟨w1.heap.size, 3, none⟩ = some (.int .i64 52) := K2.at 3)
      | (go_at_call 51; (with_reducible refine (N _).mono ?_); rintro x w4 ⟨rfl, b4⟩; obtain ⟨b5, K2⟩ := var4 b4; clear b4; replace pr := bel pr b5; clear b5; have q0 : w4.cell? ⟨w1.heap.size, 0, none⟩ = some (.int .i64 53) := K2.at 0; have q1 : w4.cell? ⟨w1.heap.size, 1, none⟩ = some (.int .i64 (-1074)) := K2.at 1; have q2 : w4.cell? ⟨w1.heap.size, 2, none⟩ = some (.int .i64 971) := K2.at 2; have q3 : w4.cell? ⟨w1.heap.size, 3, none⟩ = some (.int .i64 52) := K2.at 3)
      | (go_at_call 49; (with_reducible refine (I _).mono ?_); rintro x w4 ⟨rfl, b4⟩; replace K2 := K2.below b4 K2.lt; replace pr := bel pr b4; clear b4; have q0 : w4.cell? ⟨w1.heap.size, 0, none⟩ = some (.int .i64 53) := K2.at 0; have q1 : w4.cell? ⟨w1.heap.size, 1, none⟩ = some (.int .i64 (-1074)) := K2.at 1; have q2 : w4.cell? ⟨w1.heap.size, 2, none⟩ = some (.int .i64 971) := K2.at 2; have q3 : w4.cell? ⟨w1.heap.size, 3, none⟩ = some (.int .i64 52) := K2.at 3)
      | (go_at_call 49; (with_reducible refine (I _).mono ?_); rintro x w4 ⟨rfl, b4⟩; obtain ⟨b5, K2⟩ := var4 b4; clear b4; replace pr := bel pr b5; clear b5; have q0 : w4.cell? ⟨w1.heap.size, 0, none⟩ = some (.int .i64 53) := K2.at 0; have q1 : w4.cell? ⟨w1.heap.size, 1, none⟩ = some (.int .i64 (-1074)) := K2.at 1; have q2 : w4.cell? ⟨w1.heap.size, 2, none⟩ = some (.int .i64 971) := K2.at 2; have q3 : w4.cell? ⟨w1.heap.size, 3, none⟩ = some (.int .i64 52) := K2.at 3)
      | fail)
    go_ret
    exact ⟨rfl, pr⟩
  rw [if_neg i1]
  have i2 : ((n : Int) == 9218868437227405312) = false := by rw [beq_eq_false_iff_ne]; omega
  by_cases z1 : rg64 n = 0
  · rw [if_pos z1]
    by_cases c : n = 0
    · subst c
      clear i1 i2 h1 h2 s rn z1
      have N0 : ∀ w : World, Calls Try.prog 51 #[szW, .int .u64 0] w fun e w' => e = .returned (.bool false) ∧ Below w.heap.size w w' := N
      go_enter Try.func25, Try.ntmps25
      go_wp2_with (first
        | (go_at_call 10; refine (Wide_any _).mono ?_; rintro x w1 ⟨rfl, b1⟩; have pr := b1; clear b1; have m0 := Blk.new w1 #[.int .i64 53, .int .i64 (-1074), .int .i64 971, .int .i64 52] 31; have q0 : (w1.alloc (.cells #[.int .i64 53, .int .i64 (-1074), .int .i64 971, .int .i64 52] 31)).cell? ⟨w1.heap.size, 0, none⟩ = some (.int .i64 53) := m0.at 0; have q1 : (w1.alloc (.cells #[.int .i64 53, .int .i64 (-1074), .int .i64 971, .int .i64 52] 31)).cell? ⟨w1.heap.size, 1, none⟩ = some (.int .i64 (-1074)) := m0.at 1; have q2 : (w1.alloc (.cells #[.int .i64 53, .int .i64 (-1074), .int .i64 971, .int .i64 52] 31)).cell? ⟨w1.heap.size, 2, none⟩ = some (.int .i64 971) := m0.at 2; have q3 : (w1.alloc (.cells #[.int .i64 53, .int .i64 (-1074), .int .i64 971, .int .i64 52] 31)).cell? ⟨w1.heap.size, 3, none⟩ = some (.int .i64 52) := m0.at 3; clear m0)
        | (go_at_call 51; (with_reducible refine (N0 _).mono ?_); rintro x w4 ⟨rfl, b4⟩; replace K2 := K2.below b4 K2.lt; replace pr := bel pr b4; clear b4; have q0 : w4.cell? ⟨w1.heap.size, 0, none⟩ = some (.int .i64 53) := K2.at 0; have q1 : w4.cell? ⟨w1.heap.size, 1, none⟩ = some (.int .i64 (-1074)) := K2.at 1; have q2 : w4.cell? ⟨w1.heap.size, 2, none⟩ = some (.int .i64 971) := K2.at 2; have q3 : w4.cell? ⟨w1.heap.size, 3, none⟩ = some (.int .i64 52) := K2.at 3)
        | (go_at_call 51; (with_reducible refine (N0 _).mono ?_); rintro x w4 ⟨rfl, b4⟩; obtain ⟨b5, K2⟩ := var4 b4; clear b4; replace pr := bel pr b5; clear b5; have q0 : w4.cell? ⟨w1.heap.size, 0, none⟩ = some (.int .i64 53) := K2.at 0; have q1 : w4.cell? ⟨w1.heap.size, 1, none⟩ = some (.int .i64 (-1074)) := K2.at 1; have q2 : w4.cell? ⟨w1.heap.size, 2, none⟩ = some (.int .i64 971) := K2.at 2; have q3 : w4.cell? ⟨w1.heap.size, 3, none⟩ = some (.int .i64 52) := K2.at 3)
        | (go_at_call 49; (with_reducible refine (I _).mono ?_); rintro x w4 ⟨rfl, b4⟩; replace K2 := K2.below b4 K2.lt; replace pr := bel pr b4; clear b4; have q0 : w4.cell? ⟨w1.heap.size, 0, none⟩ = some (.int .i64 53) := K2.at 0; have q1 : w4.cell? ⟨w1.heap.size, 1, none⟩ = some (.int .i64 (-1074)) := K2.at 1; have q2 : w4.cell? ⟨w1.heap.size, 2, none⟩ = some (.int .i64 971) := K2.at 2; have q3 : w4.cell? ⟨w1.heap.size, 3, none⟩ = some (.int .i64 52) := K2.at 3)
        | (go_at_call 49; (with_reducible refine (I _).mono ?_); rintro x w4 ⟨rfl, b4⟩; obtain ⟨b5, K2⟩ := var4 b4; clear b4; replace pr := bel pr b5; clear b5; have q0 : w4.cell? ⟨w1.heap.size, 0, none⟩ = some (.int .i64 53) := K2.at 0; have q1 : w4.cell? ⟨w1.heap.size, 1, none⟩ = some (.int .i64 (-1074)) := K2.at 1; have q2 : w4.cell? ⟨w1.heap.size, 2, none⟩ = some (.int .i64 971) := K2.at 2; have q3 : w4.cell? ⟨w1.heap.size, 3, none⟩ = some (.int .i64 52) := K2.at 3)
        | fail)
      go_ret
      exact ⟨rfl, pr⟩
    · have c1 : ((n : Int) == 9223372036854775808) = true := by rw [beq_iff_eq]; omega
      clear c i1 h1 h2 s rn z1
      go_enter Try.func25, Try.ntmps25
      go_wp2_with (first
        | (go_at_call 10; refine (Wide_any _).mono ?_; rintro x w1 ⟨rfl, b1⟩; have pr := b1; clear b1; have m0 := Blk.new w1 #[.int .i64 53, .int .i64 (-1074), .int .i64 971, .int .i64 52] 31; have q0 : (w1.alloc (.cells #[.int .i64 53, .int .i64 (-1074), .int .i64 971, .int .i64 52] 31)).cell? ⟨w1.heap.size, 0, none⟩ = some (.int .i64 53) := m0.at 0; have q1 : (w1.alloc (.cells #[.int .i64 53, .int .i64 (-1074), .int .i64 971, .int .i64 52] 31)).cell? ⟨w1.heap.size, 1, none⟩ = some (.int .i64 (-1074)) := m0.at 1; have q2 : (w1.alloc (.cells #[.int .i64 53, .int .i64 (-1074), .int .i64 971, .int .i64 52] 31)).cell? ⟨w1.heap.size, 2, none⟩ = some (.int .i64 971) := m0.at 2; have q3 : (w1.alloc (.cells #[.int .i64 53, .int .i64 (-1074), .int .i64 971, .int .i64 52] 31)).cell? ⟨w1.heap.size, 3, none⟩ = some (.int .i64 52) := m0.at 3; clear m0)
        | (go_at_call 51; (with_reducible refine (N _).mono ?_); rintro x w4 ⟨rfl, b4⟩; replace K2 := K2.below b4 K2.lt; replace pr := bel pr b4; clear b4; have q0 : w4.cell? ⟨w1.heap.size, 0, none⟩ = some (.int .i64 53) := K2.at 0; have q1 : w4.cell? ⟨w1.heap.size, 1, none⟩ = some (.int .i64 (-1074)) := K2.at 1; have q2 : w4.cell? ⟨w1.heap.size, 2, none⟩ = some (.int .i64 971) := K2.at 2; have q3 : w4.cell? ⟨w1.heap.size, 3, none⟩ = some (.int .i64 52) := K2.at 3)
        | (go_at_call 51; (with_reducible refine (N _).mono ?_); rintro x w4 ⟨rfl, b4⟩; obtain ⟨b5, K2⟩ := var4 b4; clear b4; replace pr := bel pr b5; clear b5; have q0 : w4.cell? ⟨w1.heap.size, 0, none⟩ = some (.int .i64 53) := K2.at 0; have q1 : w4.cell? ⟨w1.heap.size, 1, none⟩ = some (.int .i64 (-1074)) := K2.at 1; have q2 : w4.cell? ⟨w1.heap.size, 2, none⟩ = some (.int .i64 971) := K2.at 2; have q3 : w4.cell? ⟨w1.heap.size, 3, none⟩ = some (.int .i64 52) := K2.at 3)
        | (go_at_call 49; (with_reducible refine (I _).mono ?_); rintro x w4 ⟨rfl, b4⟩; replace K2 := K2.below b4 K2.lt; replace pr := bel pr b4; clear b4; have q0 : w4.cell? ⟨w1.heap.size, 0, none⟩ = some (.int .i64 53) := K2.at 0; have q1 : w4.cell? ⟨w1.heap.size, 1, none⟩ = some (.int .i64 (-1074)) := K2.at 1; have q2 : w4.cell? ⟨w1.heap.size, 2, none⟩ = some (.int .i64 971) := K2.at 2; have q3 : w4.cell? ⟨w1.heap.size, 3, none⟩ = some (.int .i64 52) := K2.at 3)
        | (go_at_call 49; (with_reducible refine (I _).mono ?_); rintro x w4 ⟨rfl, b4⟩; obtain ⟨b5, K2⟩ := var4 b4; clear b4; replace pr := bel pr b5; clear b5; have q0 : w4.cell? ⟨w1.heap.size, 0, none⟩ = some (.int .i64 53) := K2.at 0; have q1 : w4.cell? ⟨w1.heap.size, 1, none⟩ = some (.int .i64 (-1074)) := K2.at 1; have q2 : w4.cell? ⟨w1.heap.size, 2, none⟩ = some (.int .i64 971) := K2.at 2; have q3 : w4.cell? ⟨w1.heap.size, 3, none⟩ = some (.int .i64 52) := K2.at 3)
        | fail)
      go_ret
      exact ⟨rfl, pr⟩
  rw [if_neg z1]
  have c1 : ((n : Int) == 9223372036854775808) = false := by rw [beq_eq_false_iff_ne]; omega
  have c2 : ((n : Int) == 0) = false := by rw [beq_eq_false_iff_ne]; omega
  cases g : ng64 n
  · rw [g] at G s
    rw [if_neg (by simp)]
    have s2 : n / 9223372036854775808 % 2 ≠ 1 := by have := s.symm; simpa using this
    obtain ⟨m, hm⟩ : ∃ m, m = n + 1 := ⟨_, rfl⟩
    rw [← hm]
    have hw : IntKind.u64.wrap ((n : Int) + 1) = (m : Int) := by rw [wu64 _ (by omega) (by omega)]; omega
    clear hm s s2 rn i1 z1 h1 h2 g
    go_enter Try.func25, Try.ntmps25
    go_wp2_with (first
      | (go_at_call 10; refine (Wide_any _).mono ?_; rintro x w1 ⟨rfl, b1⟩; have pr := b1; clear b1; have m0 := Blk.new w1 #[.int .i64 53, .int .i64 (-1074), .int .i64 971, .int .i64 52] 31; have q0 : (w1.alloc (.cells #[.int .i64 53, .int .i64 (-1074), .int .i64 971, .int .i64 52] 31)).cell? ⟨w1.heap.size, 0, none⟩ = some (.int .i64 53) := m0.at 0; have q1 : (w1.alloc (.cells #[.int .i64 53, .int .i64 (-1074), .int .i64 971, .int .i64 52] 31)).cell? ⟨w1.heap.size, 1, none⟩ = some (.int .i64 (-1074)) := m0.at 1; have q2 : (w1.alloc (.cells #[.int .i64 53, .int .i64 (-1074), .int .i64 971, .int .i64 52] 31)).cell? ⟨w1.heap.size, 2, none⟩ = some (.int .i64 971) := m0.at 2; have q3 : (w1.alloc (.cells #[.int .i64 53, .int .i64 (-1074), .int .i64 971, .int .i64 52] 31)).cell? ⟨w1.heap.size, 3, none⟩ = some (.int .i64 52) := m0.at 3; clear m0)
      | (go_at_call 51; (with_reducible refine (N _).mono ?_); rintro x w4 ⟨rfl, b4⟩; replace K2 := K2.below b4 K2.lt; replace pr := bel pr b4; clear b4; have q0 : w4.cell? ⟨w1.heap.size, 0, none⟩ = some (.int .i64 53) := K2.at 0; have q1 : w4.cell? ⟨w1.heap.size, 1, none⟩ = some (.int .i64 (-1074)) := K2.at 1; have q2 : w4.cell? ⟨w1.heap.size, 2, none⟩ = some (.int .i64 971) := K2.at 2; have q3 : w4.cell? ⟨w1.heap.size, 3, none⟩ = some (.int .i64 52) := K2.at 3)
      | (go_at_call 51; (with_reducible refine (N _).mono ?_); rintro x w4 ⟨rfl, b4⟩; obtain ⟨b5, K2⟩ := var4 b4; clear b4; replace pr := bel pr b5; clear b5; have q0 : w4.cell? ⟨w1.heap.size, 0, none⟩ = some (.int .i64 53) := K2.at 0; have q1 : w4.cell? ⟨w1.heap.size, 1, none⟩ = some (.int .i64 (-1074)) := K2.at 1; have q2 : w4.cell? ⟨w1.heap.size, 2, none⟩ = some (.int .i64 971) := K2.at 2; have q3 : w4.cell? ⟨w1.heap.size, 3, none⟩ = some (.int .i64 52) := K2.at 3)
      | (go_at_call 49; (with_reducible refine (I _).mono ?_); rintro x w4 ⟨rfl, b4⟩; replace K2 := K2.below b4 K2.lt; replace pr := bel pr b4; clear b4; have q0 : w4.cell? ⟨w1.heap.size, 0, none⟩ = some (.int .i64 53) := K2.at 0; have q1 : w4.cell? ⟨w1.heap.size, 1, none⟩ = some (.int .i64 (-1074)) := K2.at 1; have q2 : w4.cell? ⟨w1.heap.size, 2, none⟩ = some (.int .i64 971) := K2.at 2; have q3 : w4.cell? ⟨w1.heap.size, 3, none⟩ = some (.int .i64 52) := K2.at 3)
      | (go_at_call 49; (with_reducible refine (I _).mono ?_); rintro x w4 ⟨rfl, b4⟩; obtain ⟨b5, K2⟩ := var4 b4; clear b4; replace pr := bel pr b5; clear b5; have q0 : w4.cell? ⟨w1.heap.size, 0, none⟩ = some (.int .i64 53) := K2.at 0; have q1 : w4.cell? ⟨w1.heap.size, 1, none⟩ = some (.int .i64 (-1074)) := K2.at 1; have q2 : w4.cell? ⟨w1.heap.size, 2, none⟩ = some (.int .i64 971) := K2.at 2; have q3 : w4.cell? ⟨w1.heap.size, 3, none⟩ = some (.int .i64 52) := K2.at 3)
      | (go_at_call 44; (with_reducible refine (G _).mono ?_); rintro x w4 ⟨rfl, b4⟩; replace K2 := K2.below b4 K2.lt; replace pr := bel pr b4; clear b4; have q0 : w4.cell? ⟨w1.heap.size, 0, none⟩ = some (.int .i64 53) := K2.at 0; have q1 : w4.cell? ⟨w1.heap.size, 1, none⟩ = some (.int .i64 (-1074)) := K2.at 1; have q2 : w4.cell? ⟨w1.heap.size, 2, none⟩ = some (.int .i64 971) := K2.at 2; have q3 : w4.cell? ⟨w1.heap.size, 3, none⟩ = some (.int .i64 52) := K2.at 3)
      | (go_at_call 44; (with_reducible refine (G _).mono ?_); rintro x w4 ⟨rfl, b4⟩; obtain ⟨b5, K2⟩ := var4 b4; clear b4; replace pr := bel pr b5; clear b5; have q0 : w4.cell? ⟨w1.heap.size, 0, none⟩ = some (.int .i64 53) := K2.at 0; have q1 : w4.cell? ⟨w1.heap.size, 1, none⟩ = some (.int .i64 (-1074)) := K2.at 1; have q2 : w4.cell? ⟨w1.heap.size, 2, none⟩ = some (.int .i64 971) := K2.at 2; have q3 : w4.cell? ⟨w1.heap.size, 3, none⟩ = some (.int .i64 52) := K2.at 3)
      | fail)
    go_ret
    exact ⟨rfl, pr⟩
  · rw [g] at G s
    rw [if_pos rfl]
    obtain ⟨m, hm⟩ : ∃ m, m = n - 1 := ⟨_, rfl⟩
    rw [← hm]
    have hw : IntKind.u64.wrap ((n : Int) - 1) = (m : Int) := by rw [wu64 _ (by omega) (by omega)]; omega
    clear hm s rn i1 z1 h1 h2 g
    go_enter Try.func25, Try.ntmps25
    go_wp2_with (first
      | (go_at_call 10; refine (Wide_any _).mono ?_; rintro x w1 ⟨rfl, b1⟩; have pr := b1; clear b1; have m0 := Blk.new w1 #[.int .i64 53, .int .i64 (-1074), .int .i64 971, .int .i64 52] 31; have q0 : (w1.alloc (.cells #[.int .i64 53, .int .i64 (-1074), .int .i64 971, .int .i64 52] 31)).cell? ⟨w1.heap.size, 0, none⟩ = some (.int .i64 53) := m0.at 0; have q1 : (w1.alloc (.cells #[.int .i64 53, .int .i64 (-1074), .int .i64 971, .int .i64 52] 31)).cell? ⟨w1.heap.size, 1, none⟩ = some (.int .i64 (-1074)) := m0.at 1; have q2 : (w1.alloc (.cells #[.int .i64 53, .int .i64 (-1074), .int .i64 971, .int .i64 52] 31)).cell? ⟨w1.heap.size, 2, none⟩ = some (.int .i64 971) := m0.at 2; have q3 : (w1.alloc (.cells #[.int .i64 53, .int .i64 (-1074), .int .i64 971, .int .i64 52] 31)).cell? ⟨w1.heap.size, 3, none⟩ = some (.int .i64 52) := m0.at 3; clear m0)
      | (go_at_call 51; (with_reducible refine (N _).mono ?_); rintro x w4 ⟨rfl, b4⟩; replace K2 := K2.below b4 K2.lt; replace pr := bel pr b4; clear b4; have q0 : w4.cell? ⟨w1.heap.size, 0, none⟩ = some (.int .i64 53) := K2.at 0; have q1 : w4.cell? ⟨w1.heap.size, 1, none⟩ = some (.int .i64 (-1074)) := K2.at 1; have q2 : w4.cell? ⟨w1.heap.size, 2, none⟩ = some (.int .i64 971) := K2.at 2; have q3 : w4.cell? ⟨w1.heap.size, 3, none⟩ = some (.int .i64 52) := K2.at 3)
      | (go_at_call 51; (with_reducible refine (N _).mono ?_); rintro x w4 ⟨rfl, b4⟩; obtain ⟨b5, K2⟩ := var4 b4; clear b4; replace pr := bel pr b5; clear b5; have q0 : w4.cell? ⟨w1.heap.size, 0, none⟩ = some (.int .i64 53) := K2.at 0; have q1 : w4.cell? ⟨w1.heap.size, 1, none⟩ = some (.int .i64 (-1074)) := K2.at 1; have q2 : w4.cell? ⟨w1.heap.size, 2, none⟩ = some (.int .i64 971) := K2.at 2; have q3 : w4.cell? ⟨w1.heap.size, 3, none⟩ = some (.int .i64 52) := K2.at 3)
      | (go_at_call 49; (with_reducible refine (I _).mono ?_); rintro x w4 ⟨rfl, b4⟩; replace K2 := K2.below b4 K2.lt; replace pr := bel pr b4; clear b4; have q0 : w4.cell? ⟨w1.heap.size, 0, none⟩ = some (.int .i64 53) := K2.at 0; have q1 : w4.cell? ⟨w1.heap.size, 1, none⟩ = some (.int .i64 (-1074)) := K2.at 1; have q2 : w4.cell? ⟨w1.heap.size, 2, none⟩ = some (.int .i64 971) := K2.at 2; have q3 : w4.cell? ⟨w1.heap.size, 3, none⟩ = some (.int .i64 52) := K2.at 3)
      | (go_at_call 49; (with_reducible refine (I _).mono ?_); rintro x w4 ⟨rfl, b4⟩; obtain ⟨b5, K2⟩ := var4 b4; clear b4; replace pr := bel pr b5; clear b5; have q0 : w4.cell? ⟨w1.heap.size, 0, none⟩ = some (.int .i64 53) := K2.at 0; have q1 : w4.cell? ⟨w1.heap.size, 1, none⟩ = some (.int .i64 (-1074)) := K2.at 1; have q2 : w4.cell? ⟨w1.heap.size, 2, none⟩ = some (.int .i64 971) := K2.at 2; have q3 : w4.cell? ⟨w1.heap.size, 3, none⟩ = some (.int .i64 52) := K2.at 3)
      | (go_at_call 44; (with_reducible refine (G _).mono ?_); rintro x w4 ⟨rfl, b4⟩; replace K2 := K2.below b4 K2.lt; replace pr := bel pr b4; clear b4; have q0 : w4.cell? ⟨w1.heap.size, 0, none⟩ = some (.int .i64 53) := K2.at 0; have q1 : w4.cell? ⟨w1.heap.size, 1, none⟩ = some (.int .i64 (-1074)) := K2.at 1; have q2 : w4.cell? ⟨w1.heap.size, 2, none⟩ = some (.int .i64 971) := K2.at 2; have q3 : w4.cell? ⟨w1.heap.size, 3, none⟩ = some (.int .i64 52) := K2.at 3)
      | (go_at_call 44; (with_reducible refine (G _).mono ?_); rintro x w4 ⟨rfl, b4⟩; obtain ⟨b5, K2⟩ := var4 b4; clear b4; replace pr := bel pr b5; clear b5; have q0 : w4.cell? ⟨w1.heap.size, 0, none⟩ = some (.int .i64 53) := K2.at 0; have q1 : w4.cell? ⟨w1.heap.size, 1, none⟩ = some (.int .i64 (-1074)) := K2.at 1; have q2 : w4.cell? ⟨w1.heap.size, 2, none⟩ = some (.int .i64 971) := K2.at 2; have q3 : w4.cell? ⟨w1.heap.size, 3, none⟩ = some (.int .i64 52) := K2.at 3)
      | fail)
    go_ret
    exact ⟨rfl, pr⟩
end Go.Proofs.Ytfpmegfdopnnpaa

namespace Go.Proofs.Ytfpmegfdopnnpaa.L
open Go.RowKit Tl
theorem field_kind (k m e : Int) (g : Bool) (w : World) : (Instr.field 25 (.agg #[.int .i64 k, .bool g, .int .u64 m, .int .i64 e]) 0).run Try.prog w = .ok (.int .i64 k) w := by
  simp [Instr.field, run_underlying Try.underlying25, asAgg, part, Try.sizeOf3, go_sem]
theorem field_exp (k m e : Int) (g : Bool) (w : World) : (Instr.field 25 (.agg #[.int .i64 k, .bool g, .int .u64 m, .int .i64 e]) 3).run Try.prog w = .ok (.int .i64 e) w := by
  simp [Instr.field, run_underlying Try.underlying25, asAgg, part, Try.sizeOf3, go_sem]
end Go.Proofs.Ytfpmegfdopnnpaa.L

namespace Go.Proofs.Ytfpmegfdopnnpaa.L
open Go.RowKit Tl

/-- The bits of 2 to the T - 1074. -/
def gapB (T : Nat) : Int := if T ≤ 51 then 2 ^ T else ((T : Int) - 51) * 4503599627370496
theorem fl_core {D m r : Int} {T k : Nat} (hD : 0 < D) (h : D * 2 ^ T = m * (D * 2 ^ k) + r) (r0 : 0 ≤ r) (r1 : r < D * 2 ^ k) (m0 : 0 ≤ m) : (k ≤ T → m = 2 ^ (T - k) ∧ r = 0) ∧ (T < k → m = 0) := by
  have pk : 0 < D * 2 ^ k := Int.mul_pos hD (two_pow_pos k)
  constructor
  · intro hk
    have e : D * 2 ^ T = 2 ^ (T - k) * (D * 2 ^ k) := by
      rw [show T = (T - k) + k from by omega, Int.pow_add, show T - k + k - k = T - k from by omega]; grind
    have f : (2 ^ (T - k) - m) * (D * 2 ^ k) = r := by rw [Int.sub_mul]; omega
    generalize (2 : Int) ^ (T - k) = a at *
    generalize D * 2 ^ k = b at *
    have g : a - m = 0 := by
      by_cases c : a - m = 0
      · exact c
      · rcases Int.lt_or_gt_of_ne c with c | c
        · have := Int.mul_le_mul_of_nonneg_right (show a - m ≤ -1 by omega) (Int.le_of_lt pk); omega
        · have := Int.mul_le_mul_of_nonneg_right (show 1 ≤ a - m by omega) (Int.le_of_lt pk); omega
    rw [g] at f
    exact ⟨by omega, by simp at f; omega⟩
  · intro hk
    have a : D * 2 ^ T < D * 2 ^ k := by
      refine Int.mul_lt_mul_of_pos_left ?_ hD
      have h1 := two_pow_le (show T + 1 ≤ k by omega)
      rw [Int.pow_succ] at h1
      have := two_pow_pos T
      omega
    by_cases c : m = 0
    · exact c
    · have := Int.mul_le_mul_of_nonneg_right (show 1 ≤ m by omega) (Int.le_of_lt pk); omega
theorem fl_star {N D e m r : Int} {T k Z : Nat} (h : Fl N D e m r) (hc : N * 2 ^ Z = D * 2 ^ T) (hk : (k : Int) = e + Z) : ∃ j : Nat, D * 2 ^ T = m * (D * 2 ^ k) + r * 2 ^ j ∧ r * 2 ^ j < D * 2 ^ k := by
  have e1 := h.eq
  have e2 := h.r1
  by_cases he : 0 ≤ e
  · refine ⟨Z, ?_, ?_⟩
    · rw [show (-e).toNat = 0 from by omega, Int.pow_zero, Int.mul_one] at e1
      rw [← hc, e1, show k = e.toNat + Z from by omega, Int.pow_add]; grind
    · have := Int.mul_lt_mul_of_pos_right e2 (two_pow_pos Z)
      rw [show k = e.toNat + Z from by omega, Int.pow_add, ← Int.mul_assoc]; exact this
  · rw [show e.toNat = 0 from by omega, Int.pow_zero, Int.mul_one] at e1 e2
    refine ⟨k, ?_, Int.mul_lt_mul_of_pos_right e2 (two_pow_pos k)⟩
    have f : N * 2 ^ Z = N * 2 ^ (-e).toNat * 2 ^ k := by rw [Int.mul_assoc, ← Int.pow_add]; congr 2; omega
    rw [← hc, f, e1]; grind
theorem pow_lt {a b : Nat} (h : (2 : Int) ^ a < 2 ^ b) : a < b := by
  by_cases c : a < b
  · exact c
  · have := two_pow_le (show b ≤ a by omega); omega
theorem gap_exact {N D e m r : Int} {T Z : Nat} (hZ : Z = 1074) (hT : T ≤ 2045) (hD : 0 < D) (hc : N * 2 ^ Z = D * 2 ^ T) (h : Fl N D e m r) (m0 : 0 ≤ m) (e0 : -1074 ≤ e) (m1 : m < 9007199254740992) (st : e = -1074 ∨ 4503599627370496 ≤ m) : (r = 0 ∧ e ≤ 971) ∧ lay52 m e = gapB T := by
  obtain ⟨k, hk⟩ : ∃ k : Nat, (k : Int) = e + Z := ⟨(e + Z).toNat, by omega⟩
  obtain ⟨j, s1, s2⟩ := fl_star h hc hk
  have r0 := h.r0
  have rj : 0 ≤ r * 2 ^ j := Int.mul_nonneg r0 (Int.le_of_lt (two_pow_pos j))
  obtain ⟨c1, c2⟩ := fl_core hD s1 rj s2 m0
  have hkT : k ≤ T := by
    by_cases c : k ≤ T
    · exact c
    · have := c2 (by omega)
      rcases st with st | st <;> omega
  obtain ⟨hm, hr⟩ := c1 hkT
  have r00 : r = 0 := by
    by_cases c : r = 0
    · exact c
    · have := Int.mul_pos (show 0 < r by omega) (two_pow_pos j); omega
  have t53 : (2 : Int) ^ 53 = 9007199254740992 := by decide
  have t52 : (2 : Int) ^ 52 = 4503599627370496 := by decide
  have t51 : (2 : Int) ^ 51 = 2251799813685248 := by decide
  have h53 : T - k < 53 := pow_lt (by rw [← hm, t53]; exact m1)
  have h52 : k = 0 ∨ T - k = 52 := by
    rcases st with st | st
    · left; omega
    · right
      by_cases c : T - k = 52
      · exact c
      · have := two_pow_le (show T - k ≤ 51 by omega)
        omega
  refine ⟨⟨r00, by omega⟩, ?_⟩
  unfold lay52 gapB
  rcases h52 with h52 | h52
  · have ek : T - k = T := by omega
    rw [ek] at hm
    by_cases c : T ≤ 51
    · have := two_pow_le c
      rw [if_neg (by omega), if_pos c]; exact hm
    · have eT : T = 52 := by omega
      rw [eT, t52] at hm
      rw [if_pos (by omega), if_neg c, hm, eT]
      omega
  · rw [h52, t52] at hm
    rw [if_pos (by omega), if_neg (by omega), hm]
    omega
end Go.Proofs.Ytfpmegfdopnnpaa.L

namespace Go.Proofs.Ytfpmegfdopnnpaa.L
open Go.RowKit Tl

theorem keep_cell {W w5 : World} {b i : Nat} {v : Value} (bu : Below W.heap.size W w5) (h : W.cell? ⟨b, i, none⟩ = some v) : w5.cell? ⟨b, i, none⟩ = some v := (bu.cell (p := ⟨b, i, none⟩) (lt_of_cell h)).trans h
theorem cell_alloc {w : World} {b i : Nat} {ob : Obj} {v : Value} (h : w.cell? ⟨b, i, none⟩ = some v) : (w.alloc ob).cell? ⟨b, i, none⟩ = some v := keep_cell ((Below.refl _ _).alloc (Nat.le_refl _) _) h
theorem cell_at {w : World} {n : Nat} {v : Value} {t : TypeId} (h : n = w.heap.size) : (w.alloc (.cells #[v] t)).cell? ⟨n, 0, none⟩ = some v := by subst h; simp
theorem blk_at {w : World} {n : Nat} {c : Array Value} {t : TypeId} (h : n = w.heap.size) : Blk (w.alloc (.cells c t)) n c t := by subst h; exact Blk.new _ _ _
theorem rd_alloc {w : World} {ob : Obj} {v : Value} {xs : List Int} (h : Rd w v xs) : Rd (w.alloc ob) v xs := h.grow ((Below.refl _ _).alloc (Nat.le_refl _) _)
theorem bel_alloc {w W : World} {ob : Obj} (h : Below w.heap.size w W) : Below w.heap.size w (W.alloc ob) := h.alloc h.size _
theorem blk_keep {W w5 : World} {n : Nat} {c : Array Value} {t : TypeId} (bu : Below W.heap.size W w5) (h : Blk W n c t) : Blk w5 n c t := h.below bu h.lt
theorem cell_drew {w : World} {b i : Nat} {v : Value} (h : w.cell? ⟨b, i, none⟩ = some v) : w.drew.cell? ⟨b, i, none⟩ = some v := h
theorem blk_drew {w : World} {n : Nat} {c : Array Value} {t : TypeId} (h : Blk w n c t) : Blk w.drew n c t := h
theorem bel_drw {w W : World} (h : Below w.heap.size w W) : Below w.heap.size w W.drew := h.drew
theorem rd_drew {w : World} {v : Value} {xs : List Int} (h : Rd w v xs) : Rd w.drew v xs := h.drew
theorem blk_put3 {w : World} {b : Nat} {u0 u1 u2 x y z : Value} {t : TypeId} (h : Blk w b #[u0, u1, u2] t) : Blk (((w.setCell ⟨b, 0, none⟩ x).setCell ⟨b, 1, none⟩ y).setCell ⟨b, 2, none⟩ z) b #[x, y, z] t := by
  have h' : w.heap[b]? = some (.cells #[u0, u1, u2] t (0, 0)) := h
  show (((w.setCell ⟨b, 0, none⟩ x).setCell ⟨b, 1, none⟩ y).setCell ⟨b, 2, none⟩ z).heap[b]? = _
  simp [World.setCell, Array.getElem?_modify, h']
theorem wr3 {w : World} {b : Nat} {x y z : Value} : Wr b 0 3 w (((w.setCell ⟨b, 0, none⟩ x).setCell ⟨b, 1, none⟩ y).setCell ⟨b, 2, none⟩ z) := (((Wr.refl _ _ _ _).setCell 0 (by omega) x).setCell 1 (by omega) y).setCell 2 (by omega) z
theorem blk_other3 {w : World} {b n : Nat} {x y z : Value} {c : Array Value} {t : TypeId} (h : n ≠ b) (k : Blk w n c t) : Blk (((w.setCell ⟨b, 0, none⟩ x).setCell ⟨b, 1, none⟩ y).setCell ⟨b, 2, none⟩ z) n c t := (wr3.block n k.lt h).trans k
theorem below3 {W w : World} {b : Nat} {x y z : Value} (h : Below W.heap.size W w) (hb : W.heap.size ≤ b) : Below W.heap.size W (((w.setCell ⟨b, 0, none⟩ x).setCell ⟨b, 1, none⟩ y).setCell ⟨b, 2, none⟩ z) := h.trans (wr3.below hb h.size)
theorem gap_facts {za zb ns ds : List Int} {T : Nat} {G : Int} (ha : Wd za) (hb : Wd zb) (hn : Wd ns) (hd : Wd ds) (nn : Nm ns) (nd : Nm ds) (va : val za = val [1] * 2 ^ T) (vb : val zb = val [1] * 2 ^ 1074) (vN : val ns * G = val za) (vD : val ds * G = val zb) (la : za.length ≤ 100) (lb : zb.length ≤ 100) (G0 : 0 ≤ G) :
    val ns * 2 ^ 1074 = val ds * 2 ^ T ∧ ns.length ≤ 100 ∧ ds.length ≤ 100 ∧ 0 < val ns ∧ 0 < val ds := by
  have p1 := two_pow_pos T
  have p2 := two_pow_pos 1074
  have n0 := val_nonneg hn
  have d0 := val_nonneg hd
  rw [val_one, Int.one_mul] at va vb
  generalize (2 : Int) ^ 1074 = q at *
  generalize (2 : Int) ^ T = p at *
  have g1 : 0 < G := by
    by_cases c : 0 < G
    · exact c
    · have : G = 0 := by omega
      rw [this] at vN; simp at vN; omega
  have n1 : 0 < val ns := by
    by_cases c : 0 < val ns
    · exact c
    · have : val ns = 0 := by omega
      rw [this] at vN; simp at vN; omega
  have d1 : 0 < val ds := by
    by_cases c : 0 < val ds
    · exact c
    · have : val ds = 0 := by omega
      rw [this] at vD; simp at vD; omega
  have e1 := Int.mul_le_mul_of_nonneg_left (show 1 ≤ G by omega) n0
  have e2 := Int.mul_le_mul_of_nonneg_left (show 1 ≤ G by omega) d0
  have l1 := len_mono ha hn nn (by omega)
  have l2 := len_mono hb hd nd (by omega)
  refine ⟨?_, by omega, by omega, n1, d1⟩
  rw [← va, ← vb, ← vN, ← vD]; grind
theorem one_len : ([1] : List Int).length ≤ 549755813888 := by decide
theorem h1_wd : Wd [1] := Wd.cons (by decide) (by decide) Wd.nil
theorem set3_other {w : World} {b b' i : Nat} {x y z v : Value} (_h : b' ≠ b) (q : w.cell? ⟨b', i, none⟩ = some v) : (((w.setCell ⟨b, 0, none⟩ x).setCell ⟨b, 1, none⟩ y).setCell ⟨b, 2, none⟩ z).cell? ⟨b', i, none⟩ = some v := by
  rw [World.cell?_setCell_other _ _ _ _ (by simp), World.cell?_setCell_other _ _ _ _ (by simp), World.cell?_setCell_other _ _ _ _ (by simp)]; exact q
set_option maxHeartbeats 1600000 in
set_option maxRecDepth 100000 in
/-- Of one that is not finite. -/
theorem RGap_no (n : Int) (F : ∀ w, Calls Try.prog 66 #[szW, .int .u64 n] w fun e w' => e = .returned (.bool false) ∧ Below w.heap.size w w') (w : World) :
    Calls Try.prog 35 #[.int .u64 n] w fun r w' => r = .returned (.tuple #[.int .u64 0, .bool false]) ∧ Below w.heap.size w w' := by
  go_enter Try.func35, Try.ntmps35
  go_wp2_with (first
    | (go_at_call 10; refine (Wide_any _).mono ?_; rintro x w1 ⟨rfl, b1⟩; have pr := b1; clear b1; have m0 := Blk.new w1 #[.int .i64 53, .int .i64 (-1074), .int .i64 971, .int .i64 52] 31; have q0 : (w1.alloc (.cells #[.int .i64 53, .int .i64 (-1074), .int .i64 971, .int .i64 52] 31)).cell? ⟨w1.heap.size, 0, none⟩ = some (.int .i64 53) := m0.at 0; have q1 : (w1.alloc (.cells #[.int .i64 53, .int .i64 (-1074), .int .i64 971, .int .i64 52] 31)).cell? ⟨w1.heap.size, 1, none⟩ = some (.int .i64 (-1074)) := m0.at 1; have q2 : (w1.alloc (.cells #[.int .i64 53, .int .i64 (-1074), .int .i64 971, .int .i64 52] 31)).cell? ⟨w1.heap.size, 2, none⟩ = some (.int .i64 971) := m0.at 2; have q3 : (w1.alloc (.cells #[.int .i64 53, .int .i64 (-1074), .int .i64 971, .int .i64 52] 31)).cell? ⟨w1.heap.size, 3, none⟩ = some (.int .i64 52) := m0.at 3; clear m0)
    | (go_at_call 66; (with_reducible refine (F _).mono ?_); rintro x w4 ⟨rfl, b4⟩; obtain ⟨b5, K2⟩ := var4 b4; clear b4; replace pr := bel pr b5; clear b5)
    | fail)
  exact bodyPost_ret (v := .tuple #[.int .u64 0, .bool false]) (by simp [results, Try.results35, go_sem]) rfl ⟨rfl, pr⟩
set_option maxHeartbeats 6400000 in
set_option maxRecDepth 100000 in
/-- The reference's Gap: of a normal one. -/
theorem RGap_norm (n : Int) (g : Bool) (m ex : Int) (T : Nat) (F : ∀ w, Calls Try.prog 66 #[szW, .int .u64 n] w fun e w' => e = .returned (.bool true) ∧ Below w.heap.size w w')
    (S : ∀ w, Calls Try.prog 11 #[szW, .int .u64 n] w fun e w' => e = .returned (.agg #[.int .i64 2, .bool g, .int .u64 m, .int .i64 ex]) ∧ Below w.heap.size w w') (hT : ex + 1074 = T) (T1 : T ≤ 2045) (w : World) :
    Calls Try.prog 35 #[.int .u64 n] w fun r w' => r = .returned (.tuple #[.int .u64 (gapB T), .bool true]) ∧ Below w.heap.size w w' := by
  have hw1 : IntKind.i64.wrap (ex + 1074) = (T : Int) := by rw [hT]; exact wrap_self _ (by omega) (by omega)
  clear hT
  have T2 : T ≤ 1099511627776 := by omega
  have S2 : ∀ (w : World) (v : Value), Rd w v [1] → Calls Try.prog 68 #[v, .int .i64 1074] w fun e w' => ∃ r zs, e = .returned r ∧ Rd w' r zs ∧ Nm zs ∧ val zs = val [1] * 2 ^ 1074 ∧ Below w.heap.size w w' := fun w v h => Shl_any v [1] 1074 w h one_len (by decide)
  have lh : 100 ≤ 274877906944 := by decide
  have hw3 : IntKind.i64.wrap 1074 = 1074 := by decide
  have fk := field_kind 2 m ex g
  have fe := field_exp 2 m ex g
  go_enter Try.func35, Try.ntmps35
  go_upto_region 7 with (first
    | (go_at_call 10; refine (Wide_any _).mono ?_; rintro x w1 ⟨rfl, b1⟩; have pr := b1; clear b1; have m0 := Blk.new w1 #[.int .i64 53, .int .i64 (-1074), .int .i64 971, .int .i64 52] 31; have q0 : (w1.alloc (.cells #[.int .i64 53, .int .i64 (-1074), .int .i64 971, .int .i64 52] 31)).cell? ⟨w1.heap.size, 0, none⟩ = some (.int .i64 53) := m0.at 0; have q1 : (w1.alloc (.cells #[.int .i64 53, .int .i64 (-1074), .int .i64 971, .int .i64 52] 31)).cell? ⟨w1.heap.size, 1, none⟩ = some (.int .i64 (-1074)) := m0.at 1; have q2 : (w1.alloc (.cells #[.int .i64 53, .int .i64 (-1074), .int .i64 971, .int .i64 52] 31)).cell? ⟨w1.heap.size, 2, none⟩ = some (.int .i64 971) := m0.at 2; have q3 : (w1.alloc (.cells #[.int .i64 53, .int .i64 (-1074), .int .i64 971, .int .i64 52] 31)).cell? ⟨w1.heap.size, 3, none⟩ = some (.int .i64 52) := m0.at 3; clear m0)
    | (go_at_call 66; (with_reducible refine (F _).mono ?_); rintro x w4 ⟨rfl, b4⟩; obtain ⟨b5, K2⟩ := var4 b4; clear b4; replace pr := bel pr b5; clear b5; have q0 : w4.cell? ⟨w1.heap.size, 0, none⟩ = some (.int .i64 53) := K2.at 0; have q1 : w4.cell? ⟨w1.heap.size, 1, none⟩ = some (.int .i64 (-1074)) := K2.at 1; have q2 : w4.cell? ⟨w1.heap.size, 2, none⟩ = some (.int .i64 971) := K2.at 2; have q3 : w4.cell? ⟨w1.heap.size, 3, none⟩ = some (.int .i64 52) := K2.at 3)
    | (go_at_call 11; (with_reducible refine (S _).mono ?_); rintro x w4 ⟨rfl, b4⟩; replace K2 := K2.below b4 K2.lt; replace pr := bel pr b4; clear b4; have q0 : w4.cell? ⟨w1.heap.size, 0, none⟩ = some (.int .i64 53) := K2.at 0; have q1 : w4.cell? ⟨w1.heap.size, 1, none⟩ = some (.int .i64 (-1074)) := K2.at 1; have q2 : w4.cell? ⟨w1.heap.size, 2, none⟩ = some (.int .i64 971) := K2.at 2; have q3 : w4.cell? ⟨w1.heap.size, 3, none⟩ = some (.int .i64 52) := K2.at 3)
    | fail)
  clear q0 q1 q2 q3
  have q0 : w4.cell? ⟨w1.heap.size, 0, none⟩ = some (.int .i64 53) := K2.at 0
  have q1 : w4.cell? ⟨w1.heap.size, 1, none⟩ = some (.int .i64 (-1074)) := K2.at 1
  have L2 := K2.lt
  clear F S fk fe
  go_cut [6] (fun p wc => ∃ (b : Nat) (v1 v2 : Value) (ns ds : List Int), p = .pointer (some ⟨b, 0, none⟩) ∧ Blk wc b #[.bool false, v1, v2] 91 ∧ Rd wc v1 ns ∧ Nm ns ∧ Rd wc v2 ds ∧ Nm ds ∧ val ns * 2 ^ 1074 = val ds * 2 ^ T ∧ ns.length ≤ 100 ∧ ds.length ≤ 100 ∧ 0 < val ns ∧ 0 < val ds ∧ Blk wc w1.heap.size #[.int .i64 53, .int .i64 (-1074), .int .i64 971, .int .i64 52] 31 ∧ Below w.heap.size w wc)
  case first =>
    go_region_held3 (fun x => x.cell? ⟨w1.heap.size, 1, none⟩ = some (.int .i64 (-1074))) (first | ((try dsimp only); (repeat (first | with_reducible exact q3' | with_reducible exact q2' | with_reducible exact q1' | with_reducible exact q1 | with_reducible refine cell_drew ?_ | with_reducible refine cell_alloc ?_)); done) | exact set3_other nq7 q3' | go_keep) (first
      | (go_at_call 68; ((with_reducible refine (Shl_any _ [1] T _ ?hrd one_len T2).mono ?_)); (case hrd => exact rd_one (by repeat (first | ((with_reducible refine cell_at ?_); (first | rfl | (simp; done))) | with_reducible refine cell_drew ?_ | with_reducible refine cell_alloc ?_)) (by decide) (by decide)); (rintro x w5 ⟨u, za, rfl, hu, nu, vu, bu⟩; have q1' : w5.cell? ⟨w1.heap.size, 1, none⟩ = some (.int .i64 (-1074)) := keep_cell bu (by repeat (first | with_reducible exact q1 | with_reducible refine cell_drew ?_ | with_reducible refine cell_alloc ?_)); have K5 : Blk w5 w1.heap.size #[.int .i64 53, .int .i64 (-1074), .int .i64 971, .int .i64 52] 31 := blk_keep bu (by repeat (first | with_reducible exact K2 | with_reducible refine blk_drew ?_ | with_reducible refine Blk.alloc ?_ _)); have pr5 : Below w.heap.size w w5 := bel (by repeat (first | with_reducible exact pr | with_reducible refine bel_drw ?_ | with_reducible refine bel_alloc ?_)) bu))
      | (go_at_call 68; ((with_reducible refine (S2 _ _ ?hrd).mono ?_)); (case hrd => exact rd_one (by repeat (first | ((with_reducible refine cell_at ?_); (first | rfl | (simp; done))) | with_reducible refine cell_drew ?_ | with_reducible refine cell_alloc ?_ | with_reducible refine keep_cell bu ?_)) (by decide) (by decide)); (rintro x w6 ⟨u6, zb, rfl, hu6, nu6, vu6, bu6⟩; have q2' : w6.cell? ⟨w1.heap.size, 1, none⟩ = some (.int .i64 (-1074)) := keep_cell bu6 (by repeat (first | with_reducible exact q1' | with_reducible refine cell_drew ?_ | with_reducible refine cell_alloc ?_)); have K6 : Blk w6 w1.heap.size #[.int .i64 53, .int .i64 (-1074), .int .i64 971, .int .i64 52] 31 := blk_keep bu6 (by repeat (first | with_reducible exact K5 | with_reducible refine blk_drew ?_ | with_reducible refine Blk.alloc ?_ _)); have pr6 : Below w.heap.size w w6 := bel (by repeat (first | with_reducible exact pr5 | with_reducible refine bel_drw ?_ | with_reducible refine bel_alloc ?_)) bu6; have hu2 : Rd w6 u za := Rd.grow (by repeat (first | with_reducible exact hu | with_reducible refine rd_drew ?_ | with_reducible refine rd_alloc ?_)) bu6))
      | (go_at_call 67; have la : za.length ≤ 100 := (by have h9 := shl_len2 h1_wd hu.1 nu vu; simp at h9; omega); have lb : zb.length ≤ 100 := (by have h9 := shl_len2 h1_wd hu6.1 nu6 vu6; simp at h9; omega); have pa : 0 < za.length := shl_pos (by decide) nm_one h1_wd vu; ((with_reducible refine (Make_any false _ _ za zb 100 _ ?hr1 ?hr2 nu nu6 la lb lh pa).mono ?_)); (case hr1 => exact (by repeat (first | with_reducible exact hu2 | with_reducible refine rd_drew ?_ | with_reducible refine rd_alloc ?_))); (case hr2 => exact (by repeat (first | with_reducible exact hu6 | with_reducible refine rd_drew ?_ | with_reducible refine rd_alloc ?_))); (rintro x w7 ⟨u7, u8, ns, ds, rfl, hN, nN, hD, nD, vN, vD, b7⟩; have q3' : w7.cell? ⟨w1.heap.size, 1, none⟩ = some (.int .i64 (-1074)) := keep_cell b7 (by repeat (first | with_reducible exact q2' | with_reducible refine cell_drew ?_ | with_reducible refine cell_alloc ?_)); have K7 : Blk w7 w1.heap.size #[.int .i64 53, .int .i64 (-1074), .int .i64 971, .int .i64 52] 31 := blk_keep b7 (by repeat (first | with_reducible exact K6 | with_reducible refine blk_drew ?_ | with_reducible refine Blk.alloc ?_ _)); have pr7 : Below w.heap.size w w7 := bel (by repeat (first | with_reducible exact pr6 | with_reducible refine bel_drw ?_ | with_reducible refine bel_alloc ?_)) b7; obtain ⟨a7, c7, rfl⟩ : ∃ a c, u7 = .slice a ns.length c := (by obtain ⟨_, a, c, e, _⟩ := hN; exact ⟨a, c, e⟩); obtain ⟨a8, c8, rfl⟩ : ∃ a c, u8 = .slice a ds.length c := (by obtain ⟨_, a, c, e, _⟩ := hD; exact ⟨a, c, e⟩); (first | ((refine (fun (KQ : Blk w7 w6.heap.size #[.bool false, .slice none 0 0, .slice none 0 0] 91) => ?_) ?kq); (case kq => ((with_reducible refine blk_keep b7 ?_); (repeat (first | ((with_reducible refine blk_at ?_); (first | rfl | (simp; done))) | with_reducible refine blk_drew ?_ | with_reducible refine Blk.alloc ?_ _)); done)); (have kq0 : w7.cell? ⟨w6.heap.size, 0, none⟩ = some (.bool false) := KQ.at 0; have kq1 : w7.cell? ⟨w6.heap.size, 1, none⟩ = some (.slice none 0 0) := KQ.at 1; have kq2 : w7.cell? ⟨w6.heap.size, 2, none⟩ = some (.slice none 0 0) := KQ.at 2; have kf0 := KQ.free 0; have kf1 := KQ.free 1; have kf2 := KQ.free 2; have nq7 : w1.heap.size ≠ w6.heap.size := fun h => (by rw [h] at K7; have e7 := K7.symm.trans KQ; simp at e7))) | ((refine (fun (KQ : Blk w7 w5.heap.size #[.bool false, .slice none 0 0, .slice none 0 0] 91) => ?_) ?kq); (case kq => ((with_reducible refine blk_keep b7 ?_); (repeat (first | ((with_reducible refine blk_at ?_); (first | rfl | (simp; done))) | with_reducible refine blk_drew ?_ | with_reducible refine Blk.alloc ?_ _ | with_reducible refine blk_keep bu6 ?_)); done)); (have kq0 : w7.cell? ⟨w5.heap.size, 0, none⟩ = some (.bool false) := KQ.at 0; have kq1 : w7.cell? ⟨w5.heap.size, 1, none⟩ = some (.slice none 0 0) := KQ.at 1; have kq2 : w7.cell? ⟨w5.heap.size, 2, none⟩ = some (.slice none 0 0) := KQ.at 2; have kf0 := KQ.free 0; have kf1 := KQ.free 1; have kf2 := KQ.free 2; have nq7 : w1.heap.size ≠ w5.heap.size := fun h => (by rw [h] at K7; have e7 := K7.symm.trans KQ; simp at e7))) | ((refine (fun (KQ : Blk w7 (w5.heap.size + 1) #[.bool false, .slice none 0 0, .slice none 0 0] 91) => ?_) ?kq); (case kq => ((with_reducible refine blk_keep b7 ?_); (repeat (first | ((with_reducible refine blk_at ?_); (first | rfl | (simp; done))) | with_reducible refine blk_drew ?_ | with_reducible refine Blk.alloc ?_ _ | with_reducible refine blk_keep bu6 ?_)); done)); (have kq0 : w7.cell? ⟨(w5.heap.size + 1), 0, none⟩ = some (.bool false) := KQ.at 0; have kq1 : w7.cell? ⟨(w5.heap.size + 1), 1, none⟩ = some (.slice none 0 0) := KQ.at 1; have kq2 : w7.cell? ⟨(w5.heap.size + 1), 2, none⟩ = some (.slice none 0 0) := KQ.at 2; have kf0 := KQ.free 0; have kf1 := KQ.free 1; have kf2 := KQ.free 2; have nq7 : w1.heap.size ≠ (w5.heap.size + 1) := fun h => (by rw [h] at K7; have e7 := K7.symm.trans KQ; simp at e7))) | ((refine (fun (KQ : Blk w7 w4.heap.size #[.bool false, .slice none 0 0, .slice none 0 0] 91) => ?_) ?kq); (case kq => ((with_reducible refine blk_keep b7 ?_); (repeat (first | ((with_reducible refine blk_at ?_); (first | rfl | (simp; done))) | with_reducible refine blk_drew ?_ | with_reducible refine Blk.alloc ?_ _ | with_reducible refine blk_keep bu6 ?_ | with_reducible refine blk_keep bu ?_)); done)); (have kq0 : w7.cell? ⟨w4.heap.size, 0, none⟩ = some (.bool false) := KQ.at 0; have kq1 : w7.cell? ⟨w4.heap.size, 1, none⟩ = some (.slice none 0 0) := KQ.at 1; have kq2 : w7.cell? ⟨w4.heap.size, 2, none⟩ = some (.slice none 0 0) := KQ.at 2; have kf0 := KQ.free 0; have kf1 := KQ.free 1; have kf2 := KQ.free 2; have nq7 : w1.heap.size ≠ w4.heap.size := fun h => (by rw [h] at K7; have e7 := K7.symm.trans KQ; simp at e7))) | ((refine (fun (KQ : Blk w7 (w4.heap.size + 1) #[.bool false, .slice none 0 0, .slice none 0 0] 91) => ?_) ?kq); (case kq => ((with_reducible refine blk_keep b7 ?_); (repeat (first | ((with_reducible refine blk_at ?_); (first | rfl | (simp; done))) | with_reducible refine blk_drew ?_ | with_reducible refine Blk.alloc ?_ _ | with_reducible refine blk_keep bu6 ?_ | with_reducible refine blk_keep bu ?_)); done)); (have kq0 : w7.cell? ⟨(w4.heap.size + 1), 0, none⟩ = some (.bool false) := KQ.at 0; have kq1 : w7.cell? ⟨(w4.heap.size + 1), 1, none⟩ = some (.slice none 0 0) := KQ.at 1; have kq2 : w7.cell? ⟨(w4.heap.size + 1), 2, none⟩ = some (.slice none 0 0) := KQ.at 2; have kf0 := KQ.free 0; have kf1 := KQ.free 1; have kf2 := KQ.free 2; have nq7 : w1.heap.size ≠ (w4.heap.size + 1) := fun h => (by rw [h] at K7; have e7 := K7.symm.trans KQ; simp at e7))) | ((refine (fun (KQ : Blk w7 (w4.heap.size + 2) #[.bool false, .slice none 0 0, .slice none 0 0] 91) => ?_) ?kq); (case kq => ((with_reducible refine blk_keep b7 ?_); (repeat (first | ((with_reducible refine blk_at ?_); (first | rfl | (simp; done))) | with_reducible refine blk_drew ?_ | with_reducible refine Blk.alloc ?_ _ | with_reducible refine blk_keep bu6 ?_ | with_reducible refine blk_keep bu ?_)); done)); (have kq0 : w7.cell? ⟨(w4.heap.size + 2), 0, none⟩ = some (.bool false) := KQ.at 0; have kq1 : w7.cell? ⟨(w4.heap.size + 2), 1, none⟩ = some (.slice none 0 0) := KQ.at 1; have kq2 : w7.cell? ⟨(w4.heap.size + 2), 2, none⟩ = some (.slice none 0 0) := KQ.at 2; have kf0 := KQ.free 0; have kf1 := KQ.free 1; have kf2 := KQ.free 2; have nq7 : w1.heap.size ≠ (w4.heap.size + 2) := fun h => (by rw [h] at K7; have e7 := K7.symm.trans KQ; simp at e7))) | ((refine (fun (KQ : Blk w7 (w4.heap.size + 1 + 1) #[.bool false, .slice none 0 0, .slice none 0 0] 91) => ?_) ?kq); (case kq => ((with_reducible refine blk_keep b7 ?_); (repeat (first | ((with_reducible refine blk_at ?_); (first | rfl | (simp; done))) | with_reducible refine blk_drew ?_ | with_reducible refine Blk.alloc ?_ _ | with_reducible refine blk_keep bu6 ?_ | with_reducible refine blk_keep bu ?_)); done)); (have kq0 : w7.cell? ⟨(w4.heap.size + 1 + 1), 0, none⟩ = some (.bool false) := KQ.at 0; have kq1 : w7.cell? ⟨(w4.heap.size + 1 + 1), 1, none⟩ = some (.slice none 0 0) := KQ.at 1; have kq2 : w7.cell? ⟨(w4.heap.size + 1 + 1), 2, none⟩ = some (.slice none 0 0) := KQ.at 2; have kf0 := KQ.free 0; have kf1 := KQ.free 1; have kf2 := KQ.free 2; have nq7 : w1.heap.size ≠ (w4.heap.size + 1 + 1) := fun h => (by rw [h] at K7; have e7 := K7.symm.trans KQ; simp at e7))) | skip)))
      | fail)
    all_goals
      have GF := gap_facts hu.1 hu6.1 hN.1 hD.1 nN nD vu vu6 vN vD la lb (Int.natCast_nonneg _)
      clear vu vu6 vN vD
      go_wp2_with fail
      go_meet
      case rel =>
        refine ⟨_, .slice a7 ns.length c7, .slice a8 ds.length c8, ns, ds, rfl, ?_, ?_, nN, ?_, nD, GF.1, GF.2.1, GF.2.2.1, GF.2.2.2.1, GF.2.2.2.2, ?_, ?_⟩
        · first | with_reducible exact blk_put3 KQ | ((with_reducible refine blk_at ?_); simp)
        · first | with_reducible exact Rd.putQ hN KQ | with_reducible exact rd_alloc hN
        · first | with_reducible exact Rd.putQ hD KQ | with_reducible exact rd_alloc hD
        · first | with_reducible exact blk_other3 nq7 K7 | with_reducible exact Blk.alloc K7 _
        · first | with_reducible exact bel_alloc pr7 | ((with_reducible refine below3 pr7 ?_); (have s1 := pr.size; have s2 := pr5.size; have s3 := pr6.size; omega))
  case rest =>
    obtain ⟨b, v1, v2, ns, ds, rfl, KQ, h1, n1, h2, n2, cr, l1, l2, p1, p2, K1, prc⟩ := hcut
    have GX : Hid (∀ e m r : Int, Fl (val ns) (val ds) e m r → 0 ≤ m → -1074 ≤ e → m < 9007199254740992 → (e = -1074 ∨ 4503599627370496 ≤ m) → (r = 0 ∧ e ≤ 971) ∧ lay52 m e = gapB T) := fun e m r h m0 e0 m1 st => gap_exact (Z := 1074) rfl T1 p2 cr h m0 e0 m1 st
    clear cr K2 q0 q1 L2 pr
    have y0 : wc.cell? ⟨b, 0, none⟩ = some (.bool false) := KQ.at 0
    have y1 : wc.cell? ⟨b, 1, none⟩ = some v1 := KQ.at 1
    have y2 : wc.cell? ⟨b, 2, none⟩ = some v2 := KQ.at 2
    have z0 : wc.cell? ⟨w1.heap.size, 0, none⟩ = some (.int .i64 53) := K1.at 0
    have z1 : wc.cell? ⟨w1.heap.size, 1, none⟩ = some (.int .i64 (-1074)) := K1.at 1
    have z2 : wc.cell? ⟨w1.heap.size, 2, none⟩ = some (.int .i64 971) := K1.at 2
    have z3 : wc.cell? ⟨w1.heap.size, 3, none⟩ = some (.int .i64 52) := K1.at 3
    obtain ⟨a7, c7, rfl⟩ : ∃ a c, v1 = .slice a ns.length c := by obtain ⟨_, a, c, e, _⟩ := h1; exact ⟨a, c, e⟩
    obtain ⟨a8, c8, rfl⟩ : ∃ a c, v2 = .slice a ds.length c := by obtain ⟨_, a, c, e, _⟩ := h2; exact ⟨a, c, e⟩
    go_wp2_with (first
      | (go_at_call 56; (refine (Rounded_w _ _ ns ds 6 _ h1 h2 n1 n2 (by omega) (by omega) p1 p2 (fun e m r h a b c d => (GX.out e m r h a b c d).1)).mono ?_); (rintro x w9 ⟨ee, mm, fl, m0, m1, e0, st, rfl, b9⟩; have EQ : Hid (lay52 mm ee = gapB T) := (GX.out ee mm 0 fl m0 e0 m1 st).2))
      | fail)
    exact bodyPost_ret (v := .tuple #[.int .u64 (lay52 mm ee), .bool true]) (by simp [results, Try.results35, go_sem]) rfl ⟨by rw [EQ.out], bel prc b9⟩
end Go.Proofs.Ytfpmegfdopnnpaa.L
