import Derived.Test.YtfpmegfdopnnpaaPart13
import Derived.Test.YtfpmegfdopnnpaaPart06
import Derived.Test.YtfpmegfdopnnpaaPart12
import Derived.Test.YtfpmegfdopnnpaaPart04

namespace Go.Proofs.Ytfpmegfdopnnpaa
open Go.RowKit Tn

set_option maxRecDepth 100000 in
set_option maxHeartbeats 1600000 in
theorem Finite_w (n d : Int) (t : Bool) (hd : bits .and .u64 (n / 4503599627370496) 2047 = d) (ht : (d != 2047) = t) (w : World) : Calls Try.prog 66 #[szW, .int .u64 n] w fun e w' => e = .returned (.bool t) ∧ Below w.heap.size w w' := by
  go_enter Try.func66, Try.ntmps66
  go_wp2_with fail
  have K0 := Blk.new w #[.int .i64 53, .int .i64 (-1074), .int .i64 971, .int .i64 52] 31
  have pr : Below w.heap.size w (w.alloc (.cells #[.int .i64 53, .int .i64 (-1074), .int .i64 971, .int .i64 52] 31)) := (Below.refl _ _).alloc (Nat.le_refl _) _
  generalize w.alloc (.cells #[.int .i64 53, .int .i64 (-1074), .int .i64 971, .int .i64 52] 31) = W at *
  have e0 : W.cell? ⟨w.heap.size, 0, none⟩ = some (.int .i64 53) := K0.at 0
  have e1 : W.cell? ⟨w.heap.size, 1, none⟩ = some (.int .i64 (-1074)) := K0.at 1
  have e2 : W.cell? ⟨w.heap.size, 2, none⟩ = some (.int .i64 971) := K0.at 2
  have e3 : W.cell? ⟨w.heap.size, 3, none⟩ = some (.int .i64 52) := K0.at 3
  go_region_held3 (fun x => x.cell? ⟨w.heap.size, 0, none⟩ = some (.int .i64 53) ∧ x.cell? ⟨w.heap.size, 1, none⟩ = some (.int .i64 (-1074)) ∧ x.cell? ⟨w.heap.size, 2, none⟩ = some (.int .i64 971) ∧ x.cell? ⟨w.heap.size, 3, none⟩ = some (.int .i64 52)) (go_keep) (first
    | (go_at_call 43; refine (top_w _).mono ?_; rintro e w1 ⟨rfl, b1⟩; replace K0 := K0.below b1 K0.lt; replace pr := bel pr b1; clear b1; have e0 : w1.cell? ⟨w.heap.size, 0, none⟩ = some (.int .i64 53) := K0.at 0; have e1 : w1.cell? ⟨w.heap.size, 1, none⟩ = some (.int .i64 (-1074)) := K0.at 1; have e2 : w1.cell? ⟨w.heap.size, 2, none⟩ = some (.int .i64 971) := K0.at 2; have e3 : w1.cell? ⟨w.heap.size, 3, none⟩ = some (.int .i64 52) := K0.at 3)
    | (go_at_call 43; refine (top_w _).mono ?_; rintro e w1 ⟨rfl, b1⟩; replace K0 := K0.below (below_undrew b1) K0.lt; replace pr := bel pr (below_undrew b1); clear b1; have e0 : w1.cell? ⟨w.heap.size, 0, none⟩ = some (.int .i64 53) := K0.at 0; have e1 : w1.cell? ⟨w.heap.size, 1, none⟩ = some (.int .i64 (-1074)) := K0.at 1; have e2 : w1.cell? ⟨w.heap.size, 2, none⟩ = some (.int .i64 971) := K0.at 2; have e3 : w1.cell? ⟨w.heap.size, 3, none⟩ = some (.int .i64 52) := K0.at 3)
    | fail)
  go_wp2
  go_ret
  exact ⟨rfl, pr⟩
set_option maxRecDepth 100000 in
set_option maxHeartbeats 1600000 in
theorem IsNone_w (n : Nat) (hn : n < 18446744073709551616) (w : World) : Calls Try.prog 51 #[szW, .int .u64 n] w fun e w' => e = .returned (.bool (decide (fdW n = 2047) && decide (frW n ≠ 0))) ∧ Below w.heap.size w w' := by
  have hf := hfW n hn
  have F := Finite_w n (fdW n) (decide (fdW n ≠ 2047)) (hdW n hn) (by rw [Bool.eq_iff_iff, decide_eq_true_iff, bne_iff_ne]; omega)
  have g1 : ((frW n : Int) != 0) = decide (frW n ≠ 0) := by rw [Bool.eq_iff_iff, decide_eq_true_iff, bne_iff_ne]; omega
  by_cases h : fdW n = 2047
  · rw [decide_eq_true h, Bool.true_and]
    rw [decide_eq_false (show ¬ (fdW n ≠ 2047) from fun x => x h)] at F
    clear h
    generalize decide (frW n ≠ 0) = t at g1 ⊢
    generalize frW n = z at *
    go_enter Try.func51, Try.ntmps51
    have K0 := Blk.new w #[.int .i64 53, .int .i64 (-1074), .int .i64 971, .int .i64 52] 31
    have pr : Below w.heap.size w (w.alloc (.cells #[.int .i64 53, .int .i64 (-1074), .int .i64 971, .int .i64 52] 31)) := (Below.refl _ _).alloc (Nat.le_refl _) _
    have h1 : IntKind.u64.wrap 4503599627370495 = 4503599627370495 := by decide
    go_wp2_with (first
      | (go_at_call 66; refine (F _).mono ?_; rintro e w1 ⟨rfl, b1⟩; replace K0 := K0.below b1 K0.lt; replace pr := bel pr b1; clear b1; have e0 : w1.cell? ⟨w.heap.size, 0, none⟩ = some (.int .i64 53) := K0.at 0; have e1 : w1.cell? ⟨w.heap.size, 1, none⟩ = some (.int .i64 (-1074)) := K0.at 1; have e2 : w1.cell? ⟨w.heap.size, 2, none⟩ = some (.int .i64 971) := K0.at 2; have e3 : w1.cell? ⟨w.heap.size, 3, none⟩ = some (.int .i64 52) := K0.at 3)
      | fail)
    go_ret
    exact ⟨rfl, pr⟩
  · rw [decide_eq_false h, Bool.false_and]
    rw [decide_eq_true (show fdW n ≠ 2047 from h)] at F
    clear h
    clear g1
    generalize frW n = z at *
    go_enter Try.func51, Try.ntmps51
    have K0 := Blk.new w #[.int .i64 53, .int .i64 (-1074), .int .i64 971, .int .i64 52] 31
    have pr : Below w.heap.size w (w.alloc (.cells #[.int .i64 53, .int .i64 (-1074), .int .i64 971, .int .i64 52] 31)) := (Below.refl _ _).alloc (Nat.le_refl _) _
    have h1 : IntKind.u64.wrap 4503599627370495 = 4503599627370495 := by decide
    go_wp2_with (first
      | (go_at_call 66; refine (F _).mono ?_; rintro e w1 ⟨rfl, b1⟩; replace K0 := K0.below b1 K0.lt; replace pr := bel pr b1; clear b1; have e0 : w1.cell? ⟨w.heap.size, 0, none⟩ = some (.int .i64 53) := K0.at 0; have e1 : w1.cell? ⟨w.heap.size, 1, none⟩ = some (.int .i64 (-1074)) := K0.at 1; have e2 : w1.cell? ⟨w.heap.size, 2, none⟩ = some (.int .i64 971) := K0.at 2; have e3 : w1.cell? ⟨w.heap.size, 3, none⟩ = some (.int .i64 52) := K0.at 3)
      | fail)
    go_ret
    exact ⟨rfl, pr⟩
set_option maxRecDepth 100000 in
set_option maxHeartbeats 1600000 in
theorem Finite_s (n d : Int) (t : Bool) (hd : bits .and .u64 (n / 8388608) 255 = d) (ht : (d != 255) = t) (w : World) : Calls Try.prog 66 #[szS, .int .u64 n] w fun e w' => e = .returned (.bool t) ∧ Below w.heap.size w w' := by
  go_enter Try.func66, Try.ntmps66
  go_wp2_with fail
  have K0 := Blk.new w #[.int .i64 24, .int .i64 (-149), .int .i64 104, .int .i64 23] 31
  have pr : Below w.heap.size w (w.alloc (.cells #[.int .i64 24, .int .i64 (-149), .int .i64 104, .int .i64 23] 31)) := (Below.refl _ _).alloc (Nat.le_refl _) _
  generalize w.alloc (.cells #[.int .i64 24, .int .i64 (-149), .int .i64 104, .int .i64 23] 31) = W at *
  have e0 : W.cell? ⟨w.heap.size, 0, none⟩ = some (.int .i64 24) := K0.at 0
  have e1 : W.cell? ⟨w.heap.size, 1, none⟩ = some (.int .i64 (-149)) := K0.at 1
  have e2 : W.cell? ⟨w.heap.size, 2, none⟩ = some (.int .i64 104) := K0.at 2
  have e3 : W.cell? ⟨w.heap.size, 3, none⟩ = some (.int .i64 23) := K0.at 3
  go_region_held3 (fun x => x.cell? ⟨w.heap.size, 0, none⟩ = some (.int .i64 24) ∧ x.cell? ⟨w.heap.size, 1, none⟩ = some (.int .i64 (-149)) ∧ x.cell? ⟨w.heap.size, 2, none⟩ = some (.int .i64 104) ∧ x.cell? ⟨w.heap.size, 3, none⟩ = some (.int .i64 23)) (go_keep) (first
    | (go_at_call 43; refine (top_s _).mono ?_; rintro e w1 ⟨rfl, b1⟩; replace K0 := K0.below b1 K0.lt; replace pr := bel pr b1; clear b1; have e0 : w1.cell? ⟨w.heap.size, 0, none⟩ = some (.int .i64 24) := K0.at 0; have e1 : w1.cell? ⟨w.heap.size, 1, none⟩ = some (.int .i64 (-149)) := K0.at 1; have e2 : w1.cell? ⟨w.heap.size, 2, none⟩ = some (.int .i64 104) := K0.at 2; have e3 : w1.cell? ⟨w.heap.size, 3, none⟩ = some (.int .i64 23) := K0.at 3)
    | (go_at_call 43; refine (top_s _).mono ?_; rintro e w1 ⟨rfl, b1⟩; replace K0 := K0.below (below_undrew b1) K0.lt; replace pr := bel pr (below_undrew b1); clear b1; have e0 : w1.cell? ⟨w.heap.size, 0, none⟩ = some (.int .i64 24) := K0.at 0; have e1 : w1.cell? ⟨w.heap.size, 1, none⟩ = some (.int .i64 (-149)) := K0.at 1; have e2 : w1.cell? ⟨w.heap.size, 2, none⟩ = some (.int .i64 104) := K0.at 2; have e3 : w1.cell? ⟨w.heap.size, 3, none⟩ = some (.int .i64 23) := K0.at 3)
    | fail)
  go_wp2
  go_ret
  exact ⟨rfl, pr⟩
set_option maxRecDepth 100000 in
set_option maxHeartbeats 1600000 in
theorem IsNone_s (n : Nat) (hn : n < 18446744073709551616) (w : World) : Calls Try.prog 51 #[szS, .int .u64 n] w fun e w' => e = .returned (.bool (decide (fdS n = 255) && decide (frS n ≠ 0))) ∧ Below w.heap.size w w' := by
  have hf := hfS n hn
  have F := Finite_s n (fdS n) (decide (fdS n ≠ 255)) (hdS n hn) (by rw [Bool.eq_iff_iff, decide_eq_true_iff, bne_iff_ne]; omega)
  have g1 : ((frS n : Int) != 0) = decide (frS n ≠ 0) := by rw [Bool.eq_iff_iff, decide_eq_true_iff, bne_iff_ne]; omega
  by_cases h : fdS n = 255
  · rw [decide_eq_true h, Bool.true_and]
    rw [decide_eq_false (show ¬ (fdS n ≠ 255) from fun x => x h)] at F
    clear h
    generalize decide (frS n ≠ 0) = t at g1 ⊢
    generalize frS n = z at *
    go_enter Try.func51, Try.ntmps51
    have K0 := Blk.new w #[.int .i64 24, .int .i64 (-149), .int .i64 104, .int .i64 23] 31
    have pr : Below w.heap.size w (w.alloc (.cells #[.int .i64 24, .int .i64 (-149), .int .i64 104, .int .i64 23] 31)) := (Below.refl _ _).alloc (Nat.le_refl _) _
    have h1 : IntKind.u64.wrap 8388607 = 8388607 := by decide
    go_wp2_with (first
      | (go_at_call 66; refine (F _).mono ?_; rintro e w1 ⟨rfl, b1⟩; replace K0 := K0.below b1 K0.lt; replace pr := bel pr b1; clear b1; have e0 : w1.cell? ⟨w.heap.size, 0, none⟩ = some (.int .i64 24) := K0.at 0; have e1 : w1.cell? ⟨w.heap.size, 1, none⟩ = some (.int .i64 (-149)) := K0.at 1; have e2 : w1.cell? ⟨w.heap.size, 2, none⟩ = some (.int .i64 104) := K0.at 2; have e3 : w1.cell? ⟨w.heap.size, 3, none⟩ = some (.int .i64 23) := K0.at 3)
      | fail)
    go_ret
    exact ⟨rfl, pr⟩
  · rw [decide_eq_false h, Bool.false_and]
    rw [decide_eq_true (show fdS n ≠ 255 from h)] at F
    clear h
    clear g1
    generalize frS n = z at *
    go_enter Try.func51, Try.ntmps51
    have K0 := Blk.new w #[.int .i64 24, .int .i64 (-149), .int .i64 104, .int .i64 23] 31
    have pr : Below w.heap.size w (w.alloc (.cells #[.int .i64 24, .int .i64 (-149), .int .i64 104, .int .i64 23] 31)) := (Below.refl _ _).alloc (Nat.le_refl _) _
    have h1 : IntKind.u64.wrap 8388607 = 8388607 := by decide
    go_wp2_with (first
      | (go_at_call 66; refine (F _).mono ?_; rintro e w1 ⟨rfl, b1⟩; replace K0 := K0.below b1 K0.lt; replace pr := bel pr b1; clear b1; have e0 : w1.cell? ⟨w.heap.size, 0, none⟩ = some (.int .i64 24) := K0.at 0; have e1 : w1.cell? ⟨w.heap.size, 1, none⟩ = some (.int .i64 (-149)) := K0.at 1; have e2 : w1.cell? ⟨w.heap.size, 2, none⟩ = some (.int .i64 104) := K0.at 2; have e3 : w1.cell? ⟨w.heap.size, 3, none⟩ = some (.int .i64 23) := K0.at 3)
      | fail)
    go_ret
    exact ⟨rfl, pr⟩
theorem none_nan (n : Nat) : (decide (fdW n = 2047) && decide (frW n ≠ 0)) = nan64 n := by
  unfold nan64 fdW frW rg64
  rw [Bool.eq_iff_iff, Bool.and_eq_true, decide_eq_true_iff, decide_eq_true_iff, decide_eq_true_iff]
  omega
theorem IsNone64 (n : Nat) (hn : n < 18446744073709551616) (w : World) : Calls Try.prog 51 #[szW, .int .u64 n] w fun e w' => e = .returned (.bool (nan64 n)) ∧ Below w.heap.size w w' := by
  have H := IsNone_w n hn w
  rw [none_nan] at H
  exact H
/-- The place as the reference tells it. -/
def place64 (n : Nat) : Int := if ng64 n = true then -(rg64 n : Int) else rg64 n
set_option maxRecDepth 100000 in
set_option maxHeartbeats 1600000 in
theorem place_any (n : Nat) (hn : n < 18446744073709551616) (w : World) : Calls Try.prog 62 #[.int .u64 n] w fun e w' => e = .returned (.int .i64 (place64 n)) ∧ w' = w := by
  have h := andNot_sign n hn
  have r := rg64_lt n
  have hx : IntKind.i64.wrap (rg64 n : Int) = (rg64 n : Int) := w64 _ (by omega) (by omega)
  have hy : IntKind.i64.wrap (-(rg64 n : Int)) = -(rg64 n : Int) := w64 _ (by omega) (by omega)
  unfold place64
  have s : ng64 n = (n / 9223372036854775808 % 2 == 1) := rfl
  by_cases c : 9223372036854775808 ≤ n
  · have s1 : ng64 n = true := by rw [s, beq_iff_eq]; omega
    rw [if_pos s1]
    have c1 : decide ((9223372036854775808 : Int) ≤ (n : Int)) = true := by rw [decide_eq_true_eq]; omega
    clear s s1
    generalize rg64 n = z at *
    go_enter Try.func62, Try.ntmps62
    go_wp2
    go_ret
    exact ⟨rfl, rfl⟩
  · have s1 : ¬ (ng64 n = true) := by rw [s, beq_iff_eq]; omega
    rw [if_neg s1]
    have c1 : decide ((9223372036854775808 : Int) ≤ (n : Int)) = false := by rw [decide_eq_false_iff_not]; omega
    clear s s1
    generalize rg64 n = z at *
    go_enter Try.func62, Try.ntmps62
    go_wp2
    go_ret
    exact ⟨rfl, rfl⟩
set_option maxRecDepth 100000 in
set_option maxHeartbeats 1600000 in
theorem RUp_any (n : Nat) (hn : n < 18446744073709551616) (w : World) : Calls Try.prog 25 #[.int .u64 n] w fun e w' => e = .returned (.int .u64 (up64 n)) ∧ Below w.heap.size w w' := by
  have N := IsNone64 n hn
  have G := Neg_w n (ng64 n) (hg2W n hn)
  have I := Infinite_w_pos
  have s : ng64 n = (n / 9223372036854775808 % 2 == 1) := rfl
  have rn : rg64 n = n % 9223372036854775808 := rfl
  unfold up64
  by_cases h1 : nan64 n = true
  · rw [h1] at N
    rw [if_pos h1]
    clear h1 s rn
    go_enter Try.func25, Try.ntmps25
    go_wp2_with (first
      | (go_at_call 10; refine (Wide_any _).mono ?_; rintro x w1 ⟨rfl, b1⟩; have pr := b1; clear b1; have m0 := Blk.new w1 #[.int .i64 53, .int .i64 (-1074), .int .i64 971, .int .i64 52] 31; have q0 : (w1.alloc (.cells #[.int .i64 53, .int .i64 (-1074), .int .i64 971, .int .i64 52] 31)).cell? ⟨w1.heap.size, 0, none⟩ = some (.int .i64 53) := m0.at 0; have q1 : (w1.alloc (.cells #[.int .i64 53, .int .i64 (-1074), .int .i64 971, .int .i64 52] 31)).cell? ⟨w1.heap.size, 1, none⟩ = some (.int .i64 (-1074)) := m0.at 1; have q2 : (w1.alloc (.cells #[.int .i64 53, .int .i64 (-1074), .int .i64 971, .int .i64 52] 31)).cell? ⟨w1.heap.size, 2, none⟩ = some (.int .i64 971) := m0.at 2; have q3 : (w1.alloc (.cells #[.int .i64 53, .int .i64 (-1074), .int .i64 971, .int .i64 52] 31)).cell? ⟨w1.heap.size, 3, none⟩ = some (.int .i64 52) := m0.at 3; clear m0)
      | (go_at_call 51; (with_reducible refine (N _).mono ?_); rintro x w4 ⟨rfl, b4⟩; replace K2 := K2.below b4 K2.lt; replace pr := bel pr b4; clear b4; have q0 : w4.cell? ⟨w1.heap.size, 0, none⟩ = some (.int .i64 53) := K2.at 0; have q1 : w4.cell? ⟨w1.heap.size, 1, none⟩ = some (.int .i64 (-1074)) := K2.at 1; have q2 : w4.cell? ⟨w1.heap.size, 2, none⟩ = some (.int .i64 971) := K2.at 2; have q3 : w4.cell? ⟨w1.heap.size, 3, none⟩ = some (.int .i64 52) := K2.at 3)
      | (go_at_call 51; (with_reducible refine (N _).mono ?_); rintro x w4 ⟨rfl, b4⟩; obtain ⟨b5, K2⟩ := var4 b4; clear b4; replace pr := bel pr b5; clear b5; have q0 : w4.cell? ⟨w1.heap.size, 0, none⟩ = some (.int .i64 53) := K2.at 0; have q1 : w4.cell? ⟨w1.heap.size, 1, none⟩ = some (.int .i64 (-1074)) := K2.at 1; have q2 : w4.cell? ⟨w1.heap.size, 2, none⟩ = some (.int .i64 971) := K2.at 2; have q3 : w4.cell? ⟨w1.heap.size, 3, none⟩ = some (.int .i64 52) := K2.at 3)
      | fail)
    go_ret
    exact ⟨rfl, pr⟩
  rw [if_neg h1]
  have h2 : nan64 n = false := by simpa using h1
  rw [h2] at N
  by_cases i1 : n = 9218868437227405312
  · rw [if_pos i1]
    have i2 : ((n : Int) == 9218868437227405312) = true := by rw [beq_iff_eq]; omega
    clear i1 h1 h2 s rn
    go_enter Try.func25, Try.ntmps25
    go_wp2_with (first
      | (go_at_call 10; refine (Wide_any _).mono ?_; rintro x w1 ⟨rfl, b1⟩; have pr := b1; clear b1; have m0 := Blk.new w1 #[.int .i64 53, .int .i64 (-1074), .int .i64 971, .int .i64 52] 31; have q0 : (w1.alloc (.cells #[.int .i64 53, .int .i64 (-1074), .int .i64 971, .int .i64 52] 31)).cell? ⟨w1.heap.size, 0, none⟩ = some (.int .i64 53) := m0.at 0; have q1 : (w1.alloc (.cells #[.int .i64 53, .int .i64 (-1074), .int .i64 971, .int .i64 52] 31)).cell? ⟨w1.heap.size, 1, none⟩ = some (.int .i64 (-1074)) := m0.at 1; have q2 : (w1.alloc (.cells #[.int .i64 53, .int .i64 (-1074), .int .i64 971, .int .i64 52] 31)).cell? ⟨w1.heap.size, 2, none⟩ = some (.int .i64 971) := m0.at 2; have q3 : (w1.alloc (.cells #[.int .i64 53, .int .i64 (-1074), .int .i64 971, .int .i64 52] 31)).cell? ⟨w1.heap.size, 3, none⟩ = some (.int .i64 52) := m0.at 3; clear m0)
      | (go_at_call 51; (with_reducible refine (N _).mono ?_); rintro x w4 ⟨rfl, b4⟩; replace K2 := K2.below b4 K2.lt; replace pr := bel pr b4; clear b4; have q0 : w4.cell? ⟨w1.heap.size, 0, none⟩ = some (.int .i64 53) := K2.at 0; have q1 : w4.cell? ⟨w1.heap.size, 1, none⟩ = some (.int .i64 (-1074)) := K2.at 1; have q2 : w4.cell? ⟨w1.heap.size, 2, none⟩ = some (.int .i64 971) := K2.at 2; have q3 : w4.cell? ⟨w1.heap.size, 3, none⟩ = some (.int .i64 52) := K2.at 3)
      | (go_at_call 51; (with_reducible refine (N _).mono ?_); rintro x w4 ⟨rfl, b4⟩; obtain ⟨b5, K2⟩ := var4 b4; clear b4; replace pr := bel pr b5; clear b5; have q0 : w4.cell? ⟨w1.heap.size, 0, none⟩ = some (.int .i64 53) := K2.at 0; have q1 : w4.cell? ⟨w1.heap.size, 1, none⟩ = some (.int .i64 (-1074)) := K2.at 1; have q2 : w4.cell? ⟨w1.heap.size, 2, none⟩ = some (.int .i64 971) := K2.at 2; have q3 : w4.cell? ⟨w1.heap.size, 3, none⟩ = some (.int .i64 52) := K2.at 3)
      | (go_at_call 49; (with_reducible refine (I _).mono ?_); rintro x w4 ⟨rfl, b4⟩; replace K2 := K2.below b4 K2.lt; replace pr := bel pr b4; clear b4; have q0 : w4.cell? ⟨w1.heap.size, 0, none⟩ = some (.int .i64 53) := K2.at 0; have q1 : w4.cell? ⟨w1.heap.size, 1, none⟩ = some (.int .i64 (-1074)) := K2.at 1; have q2 : w4.cell? ⟨w1.heap.size, 2, none⟩ = some (.int .i64 971) := K2.at 2; have q3 : w4.cell? ⟨w1.heap.size, 3, none⟩ = some (.int .i64 52) := K2.at 3)
      | (go_at_call 49; (with_reducible refine (I _).mono ?_); rintro x w4 ⟨rfl, b4⟩; obtain ⟨b5, K2⟩ := var4 b4; clear b4; replace pr := bel pr b5; clear b5; have q0 : w4.cell? ⟨w1.heap.size, 0, none⟩ = some (.int .i64 53) := K2.at 0; have q1 : w4.cell? ⟨w1.heap.size, 1, none⟩ = some (.int .i64 (-1074)) := K2.at 1; have q2 : w4.cell? ⟨w1.heap.size, 2, none⟩ = some (.int .i64 971) := K2.at 2; have q3 : w4.cell? ⟨w1.heap.size, 3, none⟩ = some (.int .i64 52) := K2.at 3)
      | fail)
    go_ret
    exact ⟨rfl, pr⟩
  rw [if_neg i1]
  have i2 : ((n : Int) == 9218868437227405312) = false := by rw [beq_eq_false_iff_ne]; omega
  by_cases z1 : rg64 n = 0
  · rw [if_pos z1]
    by_cases c : n = 0
    · subst c
      clear i1 i2 h1 h2 s rn z1
      have N0 : ∀ w : World, Calls Try.prog 51 #[szW, .int .u64 0] w fun e w' => e = .returned (.bool false) ∧ Below w.heap.size w w' := N
      go_enter Try.func25, Try.ntmps25
      go_wp2_with (first
        | (go_at_call 10; refine (Wide_any _).mono ?_; rintro x w1 ⟨rfl, b1⟩; have pr := b1; clear b1; have m0 := Blk.new w1 #[.int .i64 53, .int .i64 (-1074), .int .i64 971, .int .i64 52] 31; have q0 : (w1.alloc (.cells #[.int .i64 53, .int .i64 (-1074), .int .i64 971, .int .i64 52] 31)).cell? ⟨w1.heap.size, 0, none⟩ = some (.int .i64 53) := m0.at 0; have q1 : (w1.alloc (.cells #[.int .i64 53, .int .i64 (-1074), .int .i64 971, .int .i64 52] 31)).cell? ⟨w1.heap.size, 1, none⟩ = some (.int .i64 (-1074)) := m0.at 1; have q2 : (w1.alloc (.cells #[.int .i64 53, .int .i64 (-1074), .int .i64 971, .int .i64 52] 31)).cell? ⟨w1.heap.size, 2, none⟩ = some (.int .i64 971) := m0.at 2; have q3 : (w1.alloc (.cells #[.int .i64 53, .int .i64 (-1074), .int .i64 971, .int .i64 52] 31)).cell? ⟨w1.heap.size, 3, none⟩ = some (.int .i64 52) := m0.at 3; clear m0)
        | (go_at_call 51; (with_reducible refine (N0 _).mono ?_); rintro x w4 ⟨rfl, b4⟩; replace K2 := K2.below b4 K2.lt; replace pr := bel pr b4; clear b4; have q0 : w4.cell? ⟨w1.heap.size, 0, none⟩ = some (.int .i64 53) := K2.at 0; have q1 : w4.cell? ⟨w1.heap.size, 1, none⟩ = some (.int .i64 (-1074)) := K2.at 1; have q2 : w4.cell? ⟨w1.heap.size, 2, none⟩ = some (.int .i64 971) := K2.at 2; have q3 : w4.cell? ⟨w1.heap.size, 3, none⟩ = some (.int .i64 52) := K2.at 3)
        | (go_at_call 51; (with_reducible refine (N0 _).mono ?_); rintro x w4 ⟨rfl, b4⟩; obtain ⟨b5, K2⟩ := var4 b4; clear b4; replace pr := bel pr b5; clear b5; have q0 : w4.cell? ⟨w1.heap.size, 0, none⟩ = some (.int .i64 53) := K2.at 0; have q1 : w4.cell? ⟨w1.heap.size, 1, none⟩ = some (.int .i64 (-1074)) := K2.at 1; have q2 : w4.cell? ⟨w1.heap.size, 2, none⟩ = some (.int .i64 971) := K2.at 2; have q3 : w4.cell? ⟨w1.heap.size, 3, none⟩ = some (.int .i64 52) := K2.at 3)
        | (go_at_call 49; (with_reducible refine (I _).mono ?_); rintro x w4 ⟨rfl, b4⟩; replace K2 := K2.below b4 K2.lt; replace pr := bel pr b4; clear b4; have q0 : w4.cell? ⟨w1.heap.size, 0, none⟩ = some (.int .i64 53) := K2.at 0; have q1 : w4.cell? ⟨w1.heap.size, 1, none⟩ = some (.int .i64 (-1074)) := K2.at 1; have q2 : w4.cell? ⟨w1.heap.size, 2, none⟩ = some (.int .i64 971) := K2.at 2; have q3 : w4.cell? ⟨w1.heap.size, 3, none⟩ = some (.int .i64 52) := K2.at 3)
        | (go_at_call 49; (with_reducible refine (I _).mono ?_); rintro x w4 ⟨rfl, b4⟩; obtain ⟨b5, K2⟩ := var4 b4; clear b4; replace pr := bel pr b5; clear b5; have q0 : w4.cell? ⟨w1.heap.size, 0, none⟩ = some (.int .i64 53) := K2.at 0; have q1 : w4.cell? ⟨w1.heap.size, 1, none⟩ = some (.int .i64 (-1074)) := K2.at 1; have q2 : w4.cell? ⟨w1.heap.size, 2, none⟩ = some (.int .i64 971) := K2.at 2; have q3 : w4.cell? ⟨w1.heap.size, 3, none⟩ = some (.int .i64 52) := K2.at 3)
        | fail)
      go_ret
      exact ⟨rfl, pr⟩
    · have c1 : ((n : Int) == 9223372036854775808) = true := by rw [beq_iff_eq]; omega
      clear c i1 h1 h2 s rn z1
      go_enter Try.func25, Try.ntmps25
      go_wp2_with (first
        | (go_at_call 10; refine (Wide_any _).mono ?_; rintro x w1 ⟨rfl, b1⟩; have pr := b1; clear b1; have m0 := Blk.new w1 #[.int .i64 53, .int .i64 (-1074), .int .i64 971, .int .i64 52] 31; have q0 : (w1.alloc (.cells #[.int .i64 53, .int .i64 (-1074), .int .i64 971, .int .i64 52] 31)).cell? ⟨w1.heap.size, 0, none⟩ = some (.int .i64 53) := m0.at 0; have q1 : (w1.alloc (.cells #[.int .i64 53, .int .i64 (-1074), .int .i64 971, .int .i64 52] 31)).cell? ⟨w1.heap.size, 1, none⟩ = some (.int .i64 (-1074)) := m0.at 1; have q2 : (w1.alloc (.cells #[.int .i64 53, .int .i64 (-1074), .int .i64 971, .int .i64 52] 31)).cell? ⟨w1.heap.size, 2, none⟩ = some (.int .i64 971) := m0.at 2; have q3 : (w1.alloc (.cells #[.int .i64 53, .int .i64 (-1074), .int .i64 971, .int .i64 52] 31)).cell? ⟨w1.heap.size, 3, none⟩ = some (.int .i64 52) := m0.at 3; clear m0)
        | (go_at_call 51; (with_reducible refine (N _).mono ?_); rintro x w4 ⟨rfl, b4⟩; replace K2 := K2.below b4 K2.lt; replace pr := bel pr b4; clear b4; have q0 : w4.cell? ⟨w1.heap.size, 0, none⟩ = some (.int .i64 53) := K2.at 0; have q1 : w4.cell? ⟨w1.heap.size, 1, none⟩ = some (.int .i64 (-1074)) := K2.at 1; have q2 : w4.cell? ⟨w1.heap.size, 2, none⟩ = some (.int .i64 971) := K2.at 2; have q3 : w4.cell? ⟨w1.heap.size, 3, none⟩ = some (.int .i64 52) := K2.at 3)
        | (go_at_call 51; (with_reducible refine (N _).mono ?_); rintro x w4 ⟨rfl, b4⟩; obtain ⟨b5, K2⟩ := var4 b4; clear b4; replace pr := bel pr b5; clear b5; have q0 : w4.cell? ⟨w1.heap.size, 0, none⟩ = some (.int .i64 53) := K2.at 0; have q1 : w4.cell? ⟨w1.heap.size, 1, none⟩ = some (.int .i64 (-1074)) := K2.at 1; have q2 : w4.cell? ⟨w1.heap.size, 2, none⟩ = some (.int .i64 971) := K2.at 2; have q3 : w4.cell? ⟨w1.heap.size, 3, none⟩ = some (.int .i64 52) := K2.at 3)
        | (go_at_call 49; (with_reducible refine (I _).mono ?_); rintro x w4 ⟨rfl, b4⟩; replace K2 := K2.below b4 K2.lt; replace pr := bel pr b4; clear b4; have q0 : w4.cell? ⟨w1.heap.size, 0, none⟩ = some (.int .i64 53) := K2.at 0; have q1 : w4.cell? ⟨w1.heap.size, 1, none⟩ = some (.int .i64 (-1074)) := K2.at 1; have q2 : w4.cell? ⟨w1.heap.size, 2, none⟩ = some (.int .i64 971) := K2.at 2; have q3 : w4.cell? ⟨w1.heap.size, 3, none⟩ = some (.int .i64 52) := K2.at 3)
        | (go_at_call 49; (with_reducible refine (I _).mono ?_); rintro x w4 ⟨rfl, b4⟩; obtain ⟨b5, K2⟩ := var4 b4; clear b4; replace pr := bel pr b5; clear b5; have q0 : w4.cell? ⟨w1.heap.size, 0, none⟩ = some (.int .i64 53) := K2.at 0; have q1 : w4.cell? ⟨w1.heap.size, 1, none⟩ = some (.int .i64 (-1074)) := K2.at 1; have q2 : w4.cell? ⟨w1.heap.size, 2, none⟩ = some (.int .i64 971) := K2.at 2; have q3 : w4.cell? ⟨w1.heap.size, 3, none⟩ = some (.int .i64 52) := K2.at 3)
        | fail)
      go_ret
      exact ⟨rfl, pr⟩
  rw [if_neg z1]
  have c1 : ((n : Int) == 9223372036854775808) = false := by rw [beq_eq_false_iff_ne]; omega
  have c2 : ((n : Int) == 0) = false := by rw [beq_eq_false_iff_ne]; omega
  cases g : ng64 n
  · rw [g] at G s
    rw [if_neg (by simp)]
    have s2 : n / 9223372036854775808 % 2 ≠ 1 := by have := s.symm; simpa using this
    obtain ⟨m, hm⟩ : ∃ m, m = n + 1 := ⟨_, rfl⟩
    rw [← hm]
    have hw : IntKind.u64.wrap ((n : Int) + 1) = (m : Int) := by rw [wu64 _ (by omega) (by omega)]; omega
    clear hm s s2 rn i1 z1 h1 h2 g
    go_enter Try.func25, Try.ntmps25
    go_wp2_with (first
      | (go_at_call 10; refine (Wide_any _).mono ?_; rintro x w1 ⟨rfl, b1⟩; have pr := b1; clear b1; have m0 := Blk.new w1 #[.int .i64 53, .int .i64 (-1074), .int .i64 971, .int .i64 52] 31; have q0 : (w1.alloc (.cells #[.int .i64 53, .int .i64 (-1074), .int .i64 971, .int .i64 52] 31)).cell? ⟨w1.heap.size, 0, none⟩ = some (.int .i64 53) := m0.at 0; have q1 : (w1.alloc (.cells #[.int .i64 53, .int .i64 (-1074), .int .i64 971, .int .i64 52] 31)).cell? ⟨w1.heap.size, 1, none⟩ = some (.int .i64 (-1074)) := m0.at 1; have q2 : (w1.alloc (.cells #[.int .i64 53, .int .i64 (-1074), .int .i64 971, .int .i64 52] 31)).cell? ⟨w1.heap.size, 2, none⟩ = some (.int .i64 971) := m0.at 2; have q3 : (w1.alloc (.cells #[.int .i64 53, .int .i64 (-1074), .int .i64 971, .int .i64 52] 31)).cell? ⟨w1.heap.size, 3, none⟩ = some (.int .i64 52) := m0.at 3; clear m0)
      | (go_at_call 51; (with_reducible refine (N _).mono ?_); rintro x w4 ⟨rfl, b4⟩; replace K2 := K2.below b4 K2.lt; replace pr := bel pr b4; clear b4; have q0 : w4.cell? ⟨w1.heap.size, 0, none⟩ = some (.int .i64 53) := K2.at 0; have q1 : w4.cell? ⟨w1.heap.size, 1, none⟩ = some (.int .i64 (-1074)) := K2.at 1; have q2 : w4.cell? ⟨w1.heap.size, 2, none⟩ = some (.int .i64 971) := K2.at 2; have q3 : w4.cell? ⟨w1.heap.size, 3, none⟩ = some (.int .i64 52) := K2.at 3)
      | (go_at_call 51; (with_reducible refine (N _).mono ?_); rintro x w4 ⟨rfl, b4⟩; obtain ⟨b5, K2⟩ := var4 b4; clear b4; replace pr := bel pr b5; clear b5; have q0 : w4.cell? ⟨w1.heap.size, 0, none⟩ = some (.int .i64 53) := K2.at 0; have q1 : w4.cell? ⟨w1.heap.size, 1, none⟩ = some (.int .i64 (-1074)) := K2.at 1; have q2 : w4.cell? ⟨w1.heap.size, 2, none⟩ = some (.int .i64 971) := K2.at 2; have q3 : w4.cell? ⟨w1.heap.size, 3, none⟩ = some (.int .i64 52) := K2.at 3)
      | (go_at_call 49; (with_reducible refine (I _).mono ?_); rintro x w4 ⟨rfl, b4⟩; replace K2 := K2.below b4 K2.lt; replace pr := bel pr b4; clear b4; have q0 : w4.cell? ⟨w1.heap.size, 0, none⟩ = some (.int .i64 53) := K2.at 0; have q1 : w4.cell? ⟨w1.heap.size, 1, none⟩ = some (.int .i64 (-1074)) := K2.at 1; have q2 : w4.cell? ⟨w1.heap.size, 2, none⟩ = some (.int .i64 971) := K2.at 2; have q3 : w4.cell? ⟨w1.heap.size, 3, none⟩ = some (.int .i64 52) := K2.at 3)
      | (go_at_call 49; (with_reducible refine (I _).mono ?_); rintro x w4 ⟨rfl, b4⟩; obtain ⟨b5, K2⟩ := var4 b4; clear b4; replace pr := bel pr b5; clear b5; have q0 : w4.cell? ⟨w1.heap.size, 0, none⟩ = some (.int .i64 53) := K2.at 0; have q1 : w4.cell? ⟨w1.heap.size, 1, none⟩ = some (.int .i64 (-1074)) := K2.at 1; have q2 : w4.cell? ⟨w1.heap.size, 2, none⟩ = some (.int .i64 971) := K2.at 2; have q3 : w4.cell? ⟨w1.heap.size, 3, none⟩ = some (.int .i64 52) := K2.at 3)
      | (go_at_call 44; (with_reducible refine (G _).mono ?_); rintro x w4 ⟨rfl, b4⟩; replace K2 := K2.below b4 K2.lt; replace pr := bel pr b4; clear b4; have q0 : w4.cell? ⟨w1.heap.size, 0, none⟩ = some (.int .i64 53) := K2.at 0; have q1 : w4.cell? ⟨w1.heap.size, 1, none⟩ = some (.int .i64 (-1074)) := K2.at 1; have q2 : w4.cell? ⟨w1.heap.size, 2, none⟩ = some (.int .i64 971) := K2.at 2; have q3 : w4.cell? ⟨w1.heap.size, 3, none⟩ = some (.int .i64 52) := K2.at 3)
      | (go_at_call 44; (with_reducible refine (G _).mono ?_); rintro x w4 ⟨rfl, b4⟩; obtain ⟨b5, K2⟩ := var4 b4; clear b4; replace pr := bel pr b5; clear b5; have q0 : w4.cell? ⟨w1.heap.size, 0, none⟩ = some (.int .i64 53) := K2.at 0; have q1 : w4.cell? ⟨w1.heap.size, 1, none⟩ = some (.int .i64 (-1074)) := K2.at 1; have q2 : w4.cell? ⟨w1.heap.size, 2, none⟩ = some (.int .i64 971) := K2.at 2; have q3 : w4.cell? ⟨w1.heap.size, 3, none⟩ = some (.int .i64 52) := K2.at 3)
      | fail)
    go_ret
    exact ⟨rfl, pr⟩
  · rw [g] at G s
    rw [if_pos rfl]
    obtain ⟨m, hm⟩ : ∃ m, m = n - 1 := ⟨_, rfl⟩
    rw [← hm]
    have hw : IntKind.u64.wrap ((n : Int) - 1) = (m : Int) := by rw [wu64 _ (by omega) (by omega)]; omega
    clear hm s rn i1 z1 h1 h2 g
    go_enter Try.func25, Try.ntmps25
    go_wp2_with (first
      | (go_at_call 10; refine (Wide_any _).mono ?_; rintro x w1 ⟨rfl, b1⟩; have pr := b1; clear b1; have m0 := Blk.new w1 #[.int .i64 53, .int .i64 (-1074), .int .i64 971, .int .i64 52] 31; have q0 : (w1.alloc (.cells #[.int .i64 53, .int .i64 (-1074), .int .i64 971, .int .i64 52] 31)).cell? ⟨w1.heap.size, 0, none⟩ = some (.int .i64 53) := m0.at 0; have q1 : (w1.alloc (.cells #[.int .i64 53, .int .i64 (-1074), .int .i64 971, .int .i64 52] 31)).cell? ⟨w1.heap.size, 1, none⟩ = some (.int .i64 (-1074)) := m0.at 1; have q2 : (w1.alloc (.cells #[.int .i64 53, .int .i64 (-1074), .int .i64 971, .int .i64 52] 31)).cell? ⟨w1.heap.size, 2, none⟩ = some (.int .i64 971) := m0.at 2; have q3 : (w1.alloc (.cells #[.int .i64 53, .int .i64 (-1074), .int .i64 971, .int .i64 52] 31)).cell? ⟨w1.heap.size, 3, none⟩ = some (.int .i64 52) := m0.at 3; clear m0)
      | (go_at_call 51; (with_reducible refine (N _).mono ?_); rintro x w4 ⟨rfl, b4⟩; replace K2 := K2.below b4 K2.lt; replace pr := bel pr b4; clear b4; have q0 : w4.cell? ⟨w1.heap.size, 0, none⟩ = some (.int .i64 53) := K2.at 0; have q1 : w4.cell? ⟨w1.heap.size, 1, none⟩ = some (.int .i64 (-1074)) := K2.at 1; have q2 : w4.cell? ⟨w1.heap.size, 2, none⟩ = some (.int .i64 971) := K2.at 2; have q3 : w4.cell? ⟨w1.heap.size, 3, none⟩ = some (.int .i64 52) := K2.at 3)
      | (go_at_call 51; (with_reducible refine (N _).mono ?_); rintro x w4 ⟨rfl, b4⟩; obtain ⟨b5, K2⟩ := var4 b4; clear b4; replace pr := bel pr b5; clear b5; have q0 : w4.cell? ⟨w1.heap.size, 0, none⟩ = some (.int .i64 53) := K2.at 0; have q1 : w4.cell? ⟨w1.heap.size, 1, none⟩ = some (.int .i64 (-1074)) := K2.at 1; have q2 : w4.cell? ⟨w1.heap.size, 2, none⟩ = some (.int .i64 971) := K2.at 2; have q3 : w4.cell? ⟨w1.heap.size, 3, none⟩ = some (.int .i64 52) := K2.at 3)
      | (go_at_call 49; (with_reducible refine (I _).mono ?_); rintro x w4 ⟨rfl, b4⟩; replace K2 := K2.below b4 K2.lt; replace pr := bel pr b4; clear b4; have q0 : w4.cell? ⟨w1.heap.size, 0, none⟩ = some (.int .i64 53) := K2.at 0; have q1 : w4.cell? ⟨w1.heap.size, 1, none⟩ = some (.int .i64 (-1074)) := K2.at 1; have q2 : w4.cell? ⟨w1.heap.size, 2, none⟩ = some (.int .i64 971) := K2.at 2; have q3 : w4.cell? ⟨w1.heap.size, 3, none⟩ = some (.int .i64 52) := K2.at 3)
      | (go_at_call 49; (with_reducible refine (I _).mono ?_); rintro x w4 ⟨rfl, b4⟩; obtain ⟨b5, K2⟩ := var4 b4; clear b4; replace pr := bel pr b5; clear b5; have q0 : w4.cell? ⟨w1.heap.size, 0, none⟩ = some (.int .i64 53) := K2.at 0; have q1 : w4.cell? ⟨w1.heap.size, 1, none⟩ = some (.int .i64 (-1074)) := K2.at 1; have q2 : w4.cell? ⟨w1.heap.size, 2, none⟩ = some (.int .i64 971) := K2.at 2; have q3 : w4.cell? ⟨w1.heap.size, 3, none⟩ = some (.int .i64 52) := K2.at 3)
      | (go_at_call 44; (with_reducible refine (G _).mono ?_); rintro x w4 ⟨rfl, b4⟩; replace K2 := K2.below b4 K2.lt; replace pr := bel pr b4; clear b4; have q0 : w4.cell? ⟨w1.heap.size, 0, none⟩ = some (.int .i64 53) := K2.at 0; have q1 : w4.cell? ⟨w1.heap.size, 1, none⟩ = some (.int .i64 (-1074)) := K2.at 1; have q2 : w4.cell? ⟨w1.heap.size, 2, none⟩ = some (.int .i64 971) := K2.at 2; have q3 : w4.cell? ⟨w1.heap.size, 3, none⟩ = some (.int .i64 52) := K2.at 3)
      | (go_at_call 44; (with_reducible refine (G _).mono ?_); rintro x w4 ⟨rfl, b4⟩; obtain ⟨b5, K2⟩ := var4 b4; clear b4; replace pr := bel pr b5; clear b5; have q0 : w4.cell? ⟨w1.heap.size, 0, none⟩ = some (.int .i64 53) := K2.at 0; have q1 : w4.cell? ⟨w1.heap.size, 1, none⟩ = some (.int .i64 (-1074)) := K2.at 1; have q2 : w4.cell? ⟨w1.heap.size, 2, none⟩ = some (.int .i64 971) := K2.at 2; have q3 : w4.cell? ⟨w1.heap.size, 3, none⟩ = some (.int .i64 52) := K2.at 3)
      | fail)
    go_ret
    exact ⟨rfl, pr⟩
end Go.Proofs.Ytfpmegfdopnnpaa

namespace Go.Proofs.Ytfpmegfdopnnpaa.L
open Go.RowKit Tl
theorem field_kind (k m e : Int) (g : Bool) (w : World) : (Instr.field 25 (.agg #[.int .i64 k, .bool g, .int .u64 m, .int .i64 e]) 0).run Try.prog w = .ok (.int .i64 k) w := by
  simp [Instr.field, run_underlying Try.underlying25, asAgg, part, Try.sizeOf3, go_sem]
theorem field_exp (k m e : Int) (g : Bool) (w : World) : (Instr.field 25 (.agg #[.int .i64 k, .bool g, .int .u64 m, .int .i64 e]) 3).run Try.prog w = .ok (.int .i64 e) w := by
  simp [Instr.field, run_underlying Try.underlying25, asAgg, part, Try.sizeOf3, go_sem]
end Go.Proofs.Ytfpmegfdopnnpaa.L

namespace Go.Proofs.Ytfpmegfdopnnpaa.L
open Go.RowKit Tl

theorem keep_cell {W w5 : World} {b i : Nat} {v : Value} (bu : Below W.heap.size W w5) (h : W.cell? ⟨b, i, none⟩ = some v) : w5.cell? ⟨b, i, none⟩ = some v := (bu.cell (p := ⟨b, i, none⟩) (lt_of_cell h)).trans h
theorem cell_alloc {w : World} {b i : Nat} {ob : Obj} {v : Value} (h : w.cell? ⟨b, i, none⟩ = some v) : (w.alloc ob).cell? ⟨b, i, none⟩ = some v := keep_cell ((Below.refl _ _).alloc (Nat.le_refl _) _) h
theorem cell_at {w : World} {n : Nat} {v : Value} {t : TypeId} (h : n = w.heap.size) : (w.alloc (.cells #[v] t)).cell? ⟨n, 0, none⟩ = some v := by subst h; simp
theorem blk_at {w : World} {n : Nat} {c : Array Value} {t : TypeId} (h : n = w.heap.size) : Blk (w.alloc (.cells c t)) n c t := by subst h; exact Blk.new _ _ _
theorem rd_alloc {w : World} {ob : Obj} {v : Value} {xs : List Int} (h : Rd w v xs) : Rd (w.alloc ob) v xs := h.grow ((Below.refl _ _).alloc (Nat.le_refl _) _)
theorem bel_alloc {w W : World} {ob : Obj} (h : Below w.heap.size w W) : Below w.heap.size w (W.alloc ob) := h.alloc h.size _
theorem blk_keep {W w5 : World} {n : Nat} {c : Array Value} {t : TypeId} (bu : Below W.heap.size W w5) (h : Blk W n c t) : Blk w5 n c t := h.below bu h.lt
theorem cell_drew {w : World} {b i : Nat} {v : Value} (h : w.cell? ⟨b, i, none⟩ = some v) : w.drew.cell? ⟨b, i, none⟩ = some v := h
theorem blk_drew {w : World} {n : Nat} {c : Array Value} {t : TypeId} (h : Blk w n c t) : Blk w.drew n c t := h
theorem bel_drw {w W : World} (h : Below w.heap.size w W) : Below w.heap.size w W.drew := h.drew
theorem rd_drew {w : World} {v : Value} {xs : List Int} (h : Rd w v xs) : Rd w.drew v xs := h.drew
theorem blk_put3 {w : World} {b : Nat} {u0 u1 u2 x y z : Value} {t : TypeId} (h : Blk w b #[u0, u1, u2] t) : Blk (((w.setCell ⟨b, 0, none⟩ x).setCell ⟨b, 1, none⟩ y).setCell ⟨b, 2, none⟩ z) b #[x, y, z] t := by
  have h' : w.heap[b]? = some (.cells #[u0, u1, u2] t (0, 0)) := h
  show (((w.setCell ⟨b, 0, none⟩ x).setCell ⟨b, 1, none⟩ y).setCell ⟨b, 2, none⟩ z).heap[b]? = _
  simp [World.setCell, Array.getElem?_modify, h']
theorem wr3 {w : World} {b : Nat} {x y z : Value} : Wr b 0 3 w (((w.setCell ⟨b, 0, none⟩ x).setCell ⟨b, 1, none⟩ y).setCell ⟨b, 2, none⟩ z) := (((Wr.refl _ _ _ _).setCell 0 (by omega) x).setCell 1 (by omega) y).setCell 2 (by omega) z
theorem blk_other3 {w : World} {b n : Nat} {x y z : Value} {c : Array Value} {t : TypeId} (h : n ≠ b) (k : Blk w n c t) : Blk (((w.setCell ⟨b, 0, none⟩ x).setCell ⟨b, 1, none⟩ y).setCell ⟨b, 2, none⟩ z) n c t := (wr3.block n k.lt h).trans k
theorem below3 {W w : World} {b : Nat} {x y z : Value} (h : Below W.heap.size W w) (hb : W.heap.size ≤ b) : Below W.heap.size W (((w.setCell ⟨b, 0, none⟩ x).setCell ⟨b, 1, none⟩ y).setCell ⟨b, 2, none⟩ z) := h.trans (wr3.below hb h.size)
theorem gap_facts {za zb ns ds : List Int} {T : Nat} {G : Int} (ha : Wd za) (hb : Wd zb) (hn : Wd ns) (hd : Wd ds) (nn : Nm ns) (nd : Nm ds) (va : val za = val [1] * 2 ^ T) (vb : val zb = val [1] * 2 ^ 1074) (vN : val ns * G = val za) (vD : val ds * G = val zb) (la : za.length ≤ 100) (lb : zb.length ≤ 100) (G0 : 0 ≤ G) :
    val ns * 2 ^ 1074 = val ds * 2 ^ T ∧ ns.length ≤ 100 ∧ ds.length ≤ 100 ∧ 0 < val ns ∧ 0 < val ds := by
  have p1 := two_pow_pos T
  have p2 := two_pow_pos 1074
  have n0 := val_nonneg hn
  have d0 := val_nonneg hd
  rw [val_one, Int.one_mul] at va vb
  generalize (2 : Int) ^ 1074 = q at *
  generalize (2 : Int) ^ T = p at *
  have g1 : 0 < G := by
    by_cases c : 0 < G
    · exact c
    · have : G = 0 := by omega
      rw [this] at vN; simp at vN; omega
  have n1 : 0 < val ns := by
    by_cases c : 0 < val ns
    · exact c
    · have : val ns = 0 := by omega
      rw [this] at vN; simp at vN; omega
  have d1 : 0 < val ds := by
    by_cases c : 0 < val ds
    · exact c
    · have : val ds = 0 := by omega
      rw [this] at vD; simp at vD; omega
  have e1 := Int.mul_le_mul_of_nonneg_left (show 1 ≤ G by omega) n0
  have e2 := Int.mul_le_mul_of_nonneg_left (show 1 ≤ G by omega) d0
  have l1 := len_mono ha hn nn (by omega)
  have l2 := len_mono hb hd nd (by omega)
  refine ⟨?_, by omega, by omega, n1, d1⟩
  rw [← va, ← vb, ← vN, ← vD]; grind
theorem one_len : ([1] : List Int).length ≤ 549755813888 := by decide
theorem h1_wd : Wd [1] := Wd.cons (by decide) (by decide) Wd.nil
theorem set3_other {w : World} {b b' i : Nat} {x y z v : Value} (_h : b' ≠ b) (q : w.cell? ⟨b', i, none⟩ = some v) : (((w.setCell ⟨b, 0, none⟩ x).setCell ⟨b, 1, none⟩ y).setCell ⟨b, 2, none⟩ z).cell? ⟨b', i, none⟩ = some v := by
  rw [World.cell?_setCell_other _ _ _ _ (by simp), World.cell?_setCell_other _ _ _ _ (by simp), World.cell?_setCell_other _ _ _ _ (by simp)]; exact q
set_option maxHeartbeats 1600000 in
set_option maxRecDepth 100000 in
/-- Of one that is not finite. -/
theorem RGap_no (n : Int) (F : ∀ w, Calls Try.prog 66 #[szW, .int .u64 n] w fun e w' => e = .returned (.bool false) ∧ Below w.heap.size w w') (w : World) :
    Calls Try.prog 35 #[.int .u64 n] w fun r w' => r = .returned (.tuple #[.int .u64 0, .bool false]) ∧ Below w.heap.size w w' := by
  go_enter Try.func35, Try.ntmps35
  go_wp2_with (first
    | (go_at_call 10; refine (Wide_any _).mono ?_; rintro x w1 ⟨rfl, b1⟩; have pr := b1; clear b1; have m0 := Blk.new w1 #[.int .i64 53, .int .i64 (-1074), .int .i64 971, .int .i64 52] 31; have q0 : (w1.alloc (.cells #[.int .i64 53, .int .i64 (-1074), .int .i64 971, .int .i64 52] 31)).cell? ⟨w1.heap.size, 0, none⟩ = some (.int .i64 53) := m0.at 0; have q1 : (w1.alloc (.cells #[.int .i64 53, .int .i64 (-1074), .int .i64 971, .int .i64 52] 31)).cell? ⟨w1.heap.size, 1, none⟩ = some (.int .i64 (-1074)) := m0.at 1; have q2 : (w1.alloc (.cells #[.int .i64 53, .int .i64 (-1074), .int .i64 971, .int .i64 52] 31)).cell? ⟨w1.heap.size, 2, none⟩ = some (.int .i64 971) := m0.at 2; have q3 : (w1.alloc (.cells #[.int .i64 53, .int .i64 (-1074), .int .i64 971, .int .i64 52] 31)).cell? ⟨w1.heap.size, 3, none⟩ = some (.int .i64 52) := m0.at 3; clear m0)
    | (go_at_call 66; (with_reducible refine (F _).mono ?_); rintro x w4 ⟨rfl, b4⟩; obtain ⟨b5, K2⟩ := var4 b4; clear b4; replace pr := bel pr b5; clear b5)
    | fail)
  exact bodyPost_ret (v := .tuple #[.int .u64 0, .bool false]) (by simp [results, Try.results35, go_sem]) rfl ⟨rfl, pr⟩
set_option maxHeartbeats 6400000 in
set_option maxRecDepth 100000 in
/-- The reference's Gap: of a normal one. -/
theorem RGap_norm (n : Int) (g : Bool) (m ex : Int) (T : Nat) (F : ∀ w, Calls Try.prog 66 #[szW, .int .u64 n] w fun e w' => e = .returned (.bool true) ∧ Below w.heap.size w w')
    (S : ∀ w, Calls Try.prog 11 #[szW, .int .u64 n] w fun e w' => e = .returned (.agg #[.int .i64 2, .bool g, .int .u64 m, .int .i64 ex]) ∧ Below w.heap.size w w') (hT : ex + 1074 = T) (T1 : T ≤ 2045) (w : World) :
    Calls Try.prog 35 #[.int .u64 n] w fun r w' => r = .returned (.tuple #[.int .u64 (gapB T), .bool true]) ∧ Below w.heap.size w w' := by
  have hw1 : IntKind.i64.wrap (ex + 1074) = (T : Int) := by rw [hT]; exact wrap_self _ (by omega) (by omega)
  clear hT
  have T2 : T ≤ 1099511627776 := by omega
  have S2 : ∀ (w : World) (v : Value), Rd w v [1] → Calls Try.prog 68 #[v, .int .i64 1074] w fun e w' => ∃ r zs, e = .returned r ∧ Rd w' r zs ∧ Nm zs ∧ val zs = val [1] * 2 ^ 1074 ∧ Below w.heap.size w w' := fun w v h => Shl_any v [1] 1074 w h one_len (by decide)
  have lh : 100 ≤ 274877906944 := by decide
  have hw3 : IntKind.i64.wrap 1074 = 1074 := by decide
  have fk := field_kind 2 m ex g
  have fe := field_exp 2 m ex g
  go_enter Try.func35, Try.ntmps35
  go_upto_region 7 with (first
    | (go_at_call 10; refine (Wide_any _).mono ?_; rintro x w1 ⟨rfl, b1⟩; have pr := b1; clear b1; have m0 := Blk.new w1 #[.int .i64 53, .int .i64 (-1074), .int .i64 971, .int .i64 52] 31; have q0 : (w1.alloc (.cells #[.int .i64 53, .int .i64 (-1074), .int .i64 971, .int .i64 52] 31)).cell? ⟨w1.heap.size, 0, none⟩ = some (.int .i64 53) := m0.at 0; have q1 : (w1.alloc (.cells #[.int .i64 53, .int .i64 (-1074), .int .i64 971, .int .i64 52] 31)).cell? ⟨w1.heap.size, 1, none⟩ = some (.int .i64 (-1074)) := m0.at 1; have q2 : (w1.alloc (.cells #[.int .i64 53, .int .i64 (-1074), .int .i64 971, .int .i64 52] 31)).cell? ⟨w1.heap.size, 2, none⟩ = some (.int .i64 971) := m0.at 2; have q3 : (w1.alloc (.cells #[.int .i64 53, .int .i64 (-1074), .int .i64 971, .int .i64 52] 31)).cell? ⟨w1.heap.size, 3, none⟩ = some (.int .i64 52) := m0.at 3; clear m0)
    | (go_at_call 66; (with_reducible refine (F _).mono ?_); rintro x w4 ⟨rfl, b4⟩; obtain ⟨b5, K2⟩ := var4 b4; clear b4; replace pr := bel pr b5; clear b5; have q0 : w4.cell? ⟨w1.heap.size, 0, none⟩ = some (.int .i64 53) := K2.at 0; have q1 : w4.cell? ⟨w1.heap.size, 1, none⟩ = some (.int .i64 (-1074)) := K2.at 1; have q2 : w4.cell? ⟨w1.heap.size, 2, none⟩ = some (.int .i64 971) := K2.at 2; have q3 : w4.cell? ⟨w1.heap.size, 3, none⟩ = some (.int .i64 52) := K2.at 3)
    | (go_at_call 11; (with_reducible refine (S _).mono ?_); rintro x w4 ⟨rfl, b4⟩; replace K2 := K2.below b4 K2.lt; replace pr := bel pr b4; clear b4; have q0 : w4.cell? ⟨w1.heap.size, 0, none⟩ = some (.int .i64 53) := K2.at 0; have q1 : w4.cell? ⟨w1.heap.size, 1, none⟩ = some (.int .i64 (-1074)) := K2.at 1; have q2 : w4.cell? ⟨w1.heap.size, 2, none⟩ = some (.int .i64 971) := K2.at 2; have q3 : w4.cell? ⟨w1.heap.size, 3, none⟩ = some (.int .i64 52) := K2.at 3)
    | fail)
  clear q0 q1 q2 q3
  have q0 : w4.cell? ⟨w1.heap.size, 0, none⟩ = some (.int .i64 53) := K2.at 0
  have q1 : w4.cell? ⟨w1.heap.size, 1, none⟩ = some (.int .i64 (-1074)) := K2.at 1
  have L2 := K2.lt
  clear F S fk fe
  go_cut [6] (fun p wc => ∃ (b : Nat) (v1 v2 : Value) (ns ds : List Int), p = .pointer (some ⟨b, 0, none⟩) ∧ Blk wc b #[.bool false, v1, v2] 91 ∧ Rd wc v1 ns ∧ Nm ns ∧ Rd wc v2 ds ∧ Nm ds ∧ val ns * 2 ^ 1074 = val ds * 2 ^ T ∧ ns.length ≤ 100 ∧ ds.length ≤ 100 ∧ 0 < val ns ∧ 0 < val ds ∧ Blk wc w1.heap.size #[.int .i64 53, .int .i64 (-1074), .int .i64 971, .int .i64 52] 31 ∧ Below w.heap.size w wc)
  case first =>
    go_region_held3 (fun x => x.cell? ⟨w1.heap.size, 1, none⟩ = some (.int .i64 (-1074))) (first | ((try dsimp only); (repeat (first | with_reducible exact q3' | with_reducible exact q2' | with_reducible exact q1' | with_reducible exact q1 | with_reducible refine cell_drew ?_ | with_reducible refine cell_alloc ?_)); done) | exact set3_other nq7 q3' | go_keep) (first
      | (go_at_call 68; ((with_reducible refine (Shl_any _ [1] T _ ?hrd one_len T2).mono ?_)); (case hrd => exact rd_one (by repeat (first | ((with_reducible refine cell_at ?_); (first | rfl | (simp; done))) | with_reducible refine cell_drew ?_ | with_reducible refine cell_alloc ?_)) (by decide) (by decide)); (rintro x w5 ⟨u, za, rfl, hu, nu, vu, bu⟩; have q1' : w5.cell? ⟨w1.heap.size, 1, none⟩ = some (.int .i64 (-1074)) := keep_cell bu (by repeat (first | with_reducible exact q1 | with_reducible refine cell_drew ?_ | with_reducible refine cell_alloc ?_)); have K5 : Blk w5 w1.heap.size #[.int .i64 53, .int .i64 (-1074), .int .i64 971, .int .i64 52] 31 := blk_keep bu (by repeat (first | with_reducible exact K2 | with_reducible refine blk_drew ?_ | with_reducible refine Blk.alloc ?_ _)); have pr5 : Below w.heap.size w w5 := bel (by repeat (first | with_reducible exact pr | with_reducible refine bel_drw ?_ | with_reducible refine bel_alloc ?_)) bu))
      | (go_at_call 68; ((with_reducible refine (S2 _ _ ?hrd).mono ?_)); (case hrd => exact rd_one (by repeat (first | ((with_reducible refine cell_at ?_); (first | rfl | (simp; done))) | with_reducible refine cell_drew ?_ | with_reducible refine cell_alloc ?_ | with_reducible refine keep_cell bu ?_)) (by decide) (by decide)); (rintro x w6 ⟨u6, zb, rfl, hu6, nu6, vu6, bu6⟩; have q2' : w6.cell? ⟨w1.heap.size, 1, none⟩ = some (.int .i64 (-1074)) := keep_cell bu6 (by repeat (first | with_reducible exact q1' | with_reducible refine cell_drew ?_ | with_reducible refine cell_alloc ?_)); have K6 : Blk w6 w1.heap.size #[.int .i64 53, .int .i64 (-1074), .int .i64 971, .int .i64 52] 31 := blk_keep bu6 (by repeat (first | with_reducible exact K5 | with_reducible refine blk_drew ?_ | with_reducible refine Blk.alloc ?_ _)); have pr6 : Below w.heap.size w w6 := bel (by repeat (first | with_reducible exact pr5 | with_reducible refine bel_drw ?_ | with_reducible refine bel_alloc ?_)) bu6; have hu2 : Rd w6 u za := Rd.grow (by repeat (first | with_reducible exact hu | with_reducible refine rd_drew ?_ | with_reducible refine rd_alloc ?_)) bu6))
      | (go_at_call 67; have la : za.length ≤ 100 := (by have h9 := shl_len2 h1_wd hu.1 nu vu; simp at h9; omega); have lb : zb.length ≤ 100 := (by have h9 := shl_len2 h1_wd hu6.1 nu6 vu6; simp at h9; omega); have pa : 0 < za.length := shl_pos (by decide) nm_one h1_wd vu; ((with_reducible refine (Make_any false _ _ za zb 100 _ ?hr1 ?hr2 nu nu6 la lb lh pa).mono ?_)); (case hr1 => exact (by repeat (first | with_reducible exact hu2 | with_reducible refine rd_drew ?_ | with_reducible refine rd_alloc ?_))); (case hr2 => exact (by repeat (first | with_reducible exact hu6 | with_reducible refine rd_drew ?_ | with_reducible refine rd_alloc ?_))); (rintro x w7 ⟨u7, u8, ns, ds, rfl, hN, nN, hD, nD, vN, vD, b7⟩; have q3' : w7.cell? ⟨w1.heap.size, 1, none⟩ = some (.int .i64 (-1074)) := keep_cell b7 (by repeat (first | with_reducible exact q2' | with_reducible refine cell_drew ?_ | with_reducible refine cell_alloc ?_)); have K7 : Blk w7 w1.heap.size #[.int .i64 53, .int .i64 (-1074), .int .i64 971, .int .i64 52] 31 := blk_keep b7 (by repeat (first | with_reducible exact K6 | with_reducible refine blk_drew ?_ | with_reducible refine Blk.alloc ?_ _)); have pr7 : Below w.heap.size w w7 := bel (by repeat (first | with_reducible exact pr6 | with_reducible refine bel_drw ?_ | with_reducible refine bel_alloc ?_)) b7; obtain ⟨a7, c7, rfl⟩ : ∃ a c, u7 = .slice a ns.length c := (by obtain ⟨_, a, c, e, _⟩ := hN; exact ⟨a, c, e⟩); obtain ⟨a8, c8, rfl⟩ : ∃ a c, u8 = .slice a ds.length c := (by obtain ⟨_, a, c, e, _⟩ := hD; exact ⟨a, c, e⟩); (first | ((refine (fun (KQ : Blk w7 w6.heap.size #[.bool false, .slice none 0 0, .slice none 0 0] 91) => ?_) ?kq); (case kq => ((with_reducible refine blk_keep b7 ?_); (repeat (first | ((with_reducible refine blk_at ?_); (first | rfl | (simp; done))) | with_reducible refine blk_drew ?_ | with_reducible refine Blk.alloc ?_ _)); done)); (have kq0 : w7.cell? ⟨w6.heap.size, 0, none⟩ = some (.bool false) := KQ.at 0; have kq1 : w7.cell? ⟨w6.heap.size, 1, none⟩ = some (.slice none 0 0) := KQ.at 1; have kq2 : w7.cell? ⟨w6.heap.size, 2, none⟩ = some (.slice none 0 0) := KQ.at 2; have kf0 := KQ.free 0; have kf1 := KQ.free 1; have kf2 := KQ.free 2; have nq7 : w1.heap.size ≠ w6.heap.size := fun h => (by rw [h] at K7; have e7 := K7.symm.trans KQ; simp at e7))) | ((refine (fun (KQ : Blk w7 w5.heap.size #[.bool false, .slice none 0 0, .slice none 0 0] 91) => ?_) ?kq); (case kq => ((with_reducible refine blk_keep b7 ?_); (repeat (first | ((with_reducible refine blk_at ?_); (first | rfl | (simp; done))) | with_reducible refine blk_drew ?_ | with_reducible refine Blk.alloc ?_ _ | with_reducible refine blk_keep bu6 ?_)); done)); (have kq0 : w7.cell? ⟨w5.heap.size, 0, none⟩ = some (.bool false) := KQ.at 0; have kq1 : w7.cell? ⟨w5.heap.size, 1, none⟩ = some (.slice none 0 0) := KQ.at 1; have kq2 : w7.cell? ⟨w5.heap.size, 2, none⟩ = some (.slice none 0 0) := KQ.at 2; have kf0 := KQ.free 0; have kf1 := KQ.free 1; have kf2 := KQ.free 2; have nq7 : w1.heap.size ≠ w5.heap.size := fun h => (by rw [h] at K7; have e7 := K7.symm.trans KQ; simp at e7))) | ((refine (fun (KQ : Blk w7 (w5.heap.size + 1) #[.bool false, .slice none 0 0, .slice none 0 0] 91) => ?_) ?kq); (case kq => ((with_reducible refine blk_keep b7 ?_); (repeat (first | ((with_reducible refine blk_at ?_); (first | rfl | (simp; done))) | with_reducible refine blk_drew ?_ | with_reducible refine Blk.alloc ?_ _ | with_reducible refine blk_keep bu6 ?_)); done)); (have kq0 : w7.cell? ⟨(w5.heap.size + 1), 0, none⟩ = some (.bool false) := KQ.at 0; have kq1 : w7.cell? ⟨(w5.heap.size + 1), 1, none⟩ = some (.slice none 0 0) := KQ.at 1; have kq2 : w7.cell? ⟨(w5.heap.size + 1), 2, none⟩ = some (.slice none 0 0) := KQ.at 2; have kf0 := KQ.free 0; have kf1 := KQ.free 1; have kf2 := KQ.free 2; have nq7 : w1.heap.size ≠ (w5.heap.size + 1) := fun h => (by rw [h] at K7; have e7 := K7.symm.trans KQ; simp at e7))) | ((refine (fun (KQ : Blk w7 w4.heap.size #[.bool false, .slice none 0 0, .slice none 0 0] 91) => ?_) ?kq); (case kq => ((with_reducible refine blk_keep b7 ?_); (repeat (first | ((with_reducible refine blk_at ?_); (first | rfl | (simp; done))) | with_reducible refine blk_drew ?_ | with_reducible refine Blk.alloc ?_ _ | with_reducible refine blk_keep bu6 ?_ | with_reducible refine blk_keep bu ?_)); done)); (have kq0 : w7.cell? ⟨w4.heap.size, 0, none⟩ = some (.bool false) := KQ.at 0; have kq1 : w7.cell? ⟨w4.heap.size, 1, none⟩ = some (.slice none 0 0) := KQ.at 1; have kq2 : w7.cell? ⟨w4.heap.size, 2, none⟩ = some (.slice none 0 0) := KQ.at 2; have kf0 := KQ.free 0; have kf1 := KQ.free 1; have kf2 := KQ.free 2; have nq7 : w1.heap.size ≠ w4.heap.size := fun h => (by rw [h] at K7; have e7 := K7.symm.trans KQ; simp at e7))) | ((refine (fun (KQ : Blk w7 (w4.heap.size + 1) #[.bool false, .slice none 0 0, .slice none 0 0] 91) => ?_) ?kq); (case kq => ((with_reducible refine blk_keep b7 ?_); (repeat (first | ((with_reducible refine blk_at ?_); (first | rfl | (simp; done))) | with_reducible refine blk_drew ?_ | with_reducible refine Blk.alloc ?_ _ | with_reducible refine blk_keep bu6 ?_ | with_reducible refine blk_keep bu ?_)); done)); (have kq0 : w7.cell? ⟨(w4.heap.size + 1), 0, none⟩ = some (.bool false) := KQ.at 0; have kq1 : w7.cell? ⟨(w4.heap.size + 1), 1, none⟩ = some (.slice none 0 0) := KQ.at 1; have kq2 : w7.cell? ⟨(w4.heap.size + 1), 2, none⟩ = some (.slice none 0 0) := KQ.at 2; have kf0 := KQ.free 0; have kf1 := KQ.free 1; have kf2 := KQ.free 2; have nq7 : w1.heap.size ≠ (w4.heap.size + 1) := fun h => (by rw [h] at K7; have e7 := K7.symm.trans KQ; simp at e7))) | ((refine (fun (KQ : Blk w7 (w4.heap.size + 2) #[.bool false, .slice none 0 0, .slice none 0 0] 91) => ?_) ?kq); (case kq => ((with_reducible refine blk_keep b7 ?_); (repeat (first | ((with_reducible refine blk_at ?_); (first | rfl | (simp; done))) | with_reducible refine blk_drew ?_ | with_reducible refine Blk.alloc ?_ _ | with_reducible refine blk_keep bu6 ?_ | with_reducible refine blk_keep bu ?_)); done)); (have kq0 : w7.cell? ⟨(w4.heap.size + 2), 0, none⟩ = some (.bool false) := KQ.at 0; have kq1 : w7.cell? ⟨(w4.heap.size + 2), 1, none⟩ = some (.slice none 0 0) := KQ.at 1; have kq2 : w7.cell? ⟨(w4.heap.size + 2), 2, none⟩ = some (.slice none 0 0) := KQ.at 2; have kf0 := KQ.free 0; have kf1 := KQ.free 1; have kf2 := KQ.free 2; have nq7 : w1.heap.size ≠ (w4.heap.size + 2) := fun h => (by rw [h] at K7; have e7 := K7.symm.trans KQ; simp at e7))) | ((refine (fun (KQ : Blk w7 (w4.heap.size + 1 + 1) #[.bool false, .slice none 0 0, .slice none 0 0] 91) => ?_) ?kq); (case kq => ((with_reducible refine blk_keep b7 ?_); (repeat (first | ((with_reducible refine blk_at ?_); (first | rfl | (simp; done))) | with_reducible refine blk_drew ?_ | with_reducible refine Blk.alloc ?_ _ | with_reducible refine blk_keep bu6 ?_ | with_reducible refine blk_keep bu ?_)); done)); (have kq0 : w7.cell? ⟨(w4.heap.size + 1 + 1), 0, none⟩ = some (.bool false) := KQ.at 0; have kq1 : w7.cell? ⟨(w4.heap.size + 1 + 1), 1, none⟩ = some (.slice none 0 0) := KQ.at 1; have kq2 : w7.cell? ⟨(w4.heap.size + 1 + 1), 2, none⟩ = some (.slice none 0 0) := KQ.at 2; have kf0 := KQ.free 0; have kf1 := KQ.free 1; have kf2 := KQ.free 2; have nq7 : w1.heap.size ≠ (w4.heap.size + 1 + 1) := fun h => (by rw [h] at K7; have e7 := K7.symm.trans KQ; simp at e7))) | skip)))
      | fail)
    all_goals
      have GF := gap_facts hu.1 hu6.1 hN.1 hD.1 nN nD vu vu6 vN vD la lb (Int.natCast_nonneg _)
      clear vu vu6 vN vD
      go_wp2_with fail
      go_meet
      case rel =>
        refine ⟨_, .slice a7 ns.length c7, .slice a8 ds.length c8, ns, ds, rfl, ?_, ?_, nN, ?_, nD, GF.1, GF.2.1, GF.2.2.1, GF.2.2.2.1, GF.2.2.2.2, ?_, ?_⟩
        · first | with_reducible exact blk_put3 KQ | ((with_reducible refine blk_at ?_); simp)
        · first | with_reducible exact Rd.putQ hN KQ | with_reducible exact rd_alloc hN
        · first | with_reducible exact Rd.putQ hD KQ | with_reducible exact rd_alloc hD
        · first | with_reducible exact blk_other3 nq7 K7 | with_reducible exact Blk.alloc K7 _
        · first | with_reducible exact bel_alloc pr7 | ((with_reducible refine below3 pr7 ?_); (have s1 := pr.size; have s2 := pr5.size; have s3 := pr6.size; omega))
  case rest =>
    obtain ⟨b, v1, v2, ns, ds, rfl, KQ, h1, n1, h2, n2, cr, l1, l2, p1, p2, K1, prc⟩ := hcut
    have GX : Hid (∀ e m r : Int, Fl (val ns) (val ds) e m r → 0 ≤ m → -1074 ≤ e → m < 9007199254740992 → (e = -1074 ∨ 4503599627370496 ≤ m) → (r = 0 ∧ e ≤ 971) ∧ lay52 m e = gapB T) := fun e m r h m0 e0 m1 st => gap_exact (Z := 1074) rfl T1 p2 cr h m0 e0 m1 st
    clear cr K2 q0 q1 L2 pr
    have y0 : wc.cell? ⟨b, 0, none⟩ = some (.bool false) := KQ.at 0
    have y1 : wc.cell? ⟨b, 1, none⟩ = some v1 := KQ.at 1
    have y2 : wc.cell? ⟨b, 2, none⟩ = some v2 := KQ.at 2
    have z0 : wc.cell? ⟨w1.heap.size, 0, none⟩ = some (.int .i64 53) := K1.at 0
    have z1 : wc.cell? ⟨w1.heap.size, 1, none⟩ = some (.int .i64 (-1074)) := K1.at 1
    have z2 : wc.cell? ⟨w1.heap.size, 2, none⟩ = some (.int .i64 971) := K1.at 2
    have z3 : wc.cell? ⟨w1.heap.size, 3, none⟩ = some (.int .i64 52) := K1.at 3
    obtain ⟨a7, c7, rfl⟩ : ∃ a c, v1 = .slice a ns.length c := by obtain ⟨_, a, c, e, _⟩ := h1; exact ⟨a, c, e⟩
    obtain ⟨a8, c8, rfl⟩ : ∃ a c, v2 = .slice a ds.length c := by obtain ⟨_, a, c, e, _⟩ := h2; exact ⟨a, c, e⟩
    go_wp2_with (first
      | (go_at_call 56; (refine (Rounded_w _ _ ns ds 6 _ h1 h2 n1 n2 (by omega) (by omega) p1 p2 (fun e m r h a b c d => (GX.out e m r h a b c d).1)).mono ?_); (rintro x w9 ⟨ee, mm, fl, m0, m1, e0, st, rfl, b9⟩; have EQ : Hid (lay52 mm ee = gapB T) := (GX.out ee mm 0 fl m0 e0 m1 st).2))
      | fail)
    exact bodyPost_ret (v := .tuple #[.int .u64 (lay52 mm ee), .bool true]) (by simp [results, Try.results35, go_sem]) rfl ⟨by rw [EQ.out], bel prc b9⟩
end Go.Proofs.Ytfpmegfdopnnpaa.L

namespace Go.Proofs.Ytfpmegfdopnnpaa.L
open Go.RowKit Tl

/-- x times B is added to X0 from place i on: k limbs of it. -/
structure Mu (X0 B : List Int) (i : Nat) (x : Int) (k : Nat) (c : Int) (X : List Int) : Prop where
  len : X.length = X0.length
  wd : Wd X
  up : ∀ j, i + k ≤ j → nth X j = nth X0 j
  c0 : 0 ≤ c
  c1 : c < 1073741824
  eq : val X + pw (i + k) * c = val X0 + x * (pw i * val (B.take k))
theorem Mu.start {X0 B : List Int} {i : Nat} {x : Int} (h : Wd X0) : Mu X0 B i x 0 0 X0 := ⟨rfl, h, fun _ _ => rfl, by omega, by omega, by simp [val]⟩
theorem mu_bd {a b y c : Int} (a0 : 0 ≤ a) (a1 : a < 1073741824) (b0 : 0 ≤ b) (b1 : b < 1073741824) (y0 : 0 ≤ y) (y1 : y < 1073741824) (c0 : 0 ≤ c) (c1 : c < 1073741824) : 0 ≤ a * b ∧ a * b ≤ 1152921502459363329 ∧ c + (y + a * b) < 1152921504606846976 := by
  have h0 := Int.mul_nonneg a0 b0
  have h1 := Int.mul_le_mul (show a ≤ 1073741823 by omega) (show b ≤ 1073741823 by omega) b0 (by decide)
  omega
theorem Mu.next {X0 B : List Int} {i : Nat} {x : Int} {k : Nat} {c S : Int} {X : List Int} (h : Mu X0 B i x k c X) (hB : Wd B) (x0 : 0 ≤ x) (x1 : x < 1073741824) (hk : k < B.length) (hl : i + k < X0.length) (hS : S = c + (nth X (i + k) + x * nth B k)) : Mu X0 B i x (k + 1) (S / 1073741824) (X.set (i + k) (S % 1073741824)) := by
  have hlen := h.len
  have b := nth_bd h.wd (i + k)
  have b2 := nth_bd hB k
  have bd := mu_bd x0 x1 b2.1 b2.2 b.1 b.2 h.c0 h.c1
  have c0 := h.c0
  refine ⟨by simp [hlen], h.wd.set _ (by omega) (by omega), ?_, by omega, by omega, ?_⟩
  · intro j hj
    rw [nth_set_other _ _ _ _ (by omega)]
    exact h.up j (by omega)
  · have e := h.eq
    have es : S = S % 1073741824 + 1073741824 * (S / 1073741824) := by omega
    rw [val_set (by omega), val_at B k hk, show i + (k + 1) = i + k + 1 from rfl]
    have a4 : pw (i + k) = pw i * pw k := pw_add i k
    generalize S % 1073741824 = p at *
    generalize S / 1073741824 = q at *
    simp only [pw]
    rw [a4] at e ⊢
    grind
/-- The first i limbs of A times B. -/
structure Mo (A B : List Int) (i : Nat) (X : List Int) : Prop where
  len : X.length = A.length + B.length
  wd : Wd X
  zero : ∀ j, i + B.length ≤ j → nth X j = 0
  eq : val X = val (A.take i) * val B
theorem Mo.start (A B : List Int) : Mo A B 0 (List.replicate (A.length + B.length) 0) := ⟨by simp, wd_zero _, fun j _ => nth_replicate _ _, by rw [val_zeros]; simp [val]⟩
theorem Mo.next {A B X0 X : List Int} {i : Nat} {c : Int} (h : Mo A B i X0) (m : Mu X0 B i (nth A i) B.length c X) (hi : i < A.length) : nth X (i + B.length) = 0 ∧ Mo A B (i + 1) (X.set (i + B.length) c) := by
  have hlen := m.len
  have hl := h.len
  have z : nth X (i + B.length) = 0 := by rw [m.up _ (Nat.le_refl _)]; exact h.zero _ (Nat.le_refl _)
  refine ⟨z, ⟨by simp; omega, m.wd.set _ m.c0 m.c1, ?_, ?_⟩⟩
  · intro j hj
    rw [nth_set_other _ _ _ _ (by omega), m.up j (by omega)]
    exact h.zero j (by omega)
  · have e := m.eq
    have e2 := h.eq
    rw [List.take_length] at e
    rw [val_set (by omega), z, val_at A i hi]
    grind
theorem mul_none_l (a1 : Option Addr) (c1 : Nat) (v : Value) (w : World) : Calls Try.prog 110 #[.slice a1 0 c1, v] w fun e w' => e = .returned (.slice none 0 0) ∧ w' = w := by
  go_enter Try.func110, Try.ntmps110
  go_wp2
  go_ret
  exact ⟨rfl, rfl⟩
theorem mul_none_r (a1 a2 : Option Addr) (n1 c1 c2 : Nat) (h : ((n1 : Int) == 0) = false) (w : World) : Calls Try.prog 110 #[.slice a1 n1 c1, .slice a2 0 c2] w fun e w' => e = .returned (.slice none 0 0) ∧ w' = w := by
  go_enter Try.func110, Try.ntmps110
  go_wp2
  go_ret
  exact ⟨rfl, rfl⟩
set_option maxHeartbeats 3200000 in
set_option maxRecDepth 100000 in
theorem mul_some (a1 a2 : Option Addr) (c1 c2 : Nat) (xs ys : List Int) (w : World) (hx : Wd xs) (hy : Wd ys) (g1 : 0 < xs.length → ∃ b o, a1 = some ⟨b, o, none⟩ ∧ Cells w b o xs) (g2 : 0 < ys.length → ∃ b o, a2 = some ⟨b, o, none⟩ ∧ Cells w b o ys) (p1 : 0 < xs.length) (p2 : 0 < ys.length) (l1 : xs.length ≤ 274877906944) (l2 : ys.length ≤ 274877906944) :
    Calls Try.prog 110 #[.slice a1 xs.length c1, .slice a2 ys.length c2] w fun e w' => ∃ v zs, e = .returned v ∧ Rd w' v zs ∧ Nm zs ∧ val zs = val xs * val ys ∧ Below w.heap.size w w' := by
  obtain ⟨b1, o1, rfl, q1⟩ := g1 p1
  obtain ⟨b2, o2, rfl, q2⟩ := g2 p2
  have hs1 : Hid (∀ w', Below w.heap.size w w' → Cells w' b1 o1 xs) := fun w' h => q1.grow h
  have hs2 : Hid (∀ w', Below w.heap.size w w' → Cells w' b2 o2 ys) := fun w' h => q2.grow h
  have z1 : ((xs.length : Int) == 0) = false := by rw [beq_eq_false_iff_ne]; omega
  have z2 : ((ys.length : Int) == 0) = false := by rw [beq_eq_false_iff_ne]; omega
  clear q1 q2 g1 g2
  obtain ⟨N, hN⟩ : ∃ N, N = xs.length + ys.length := ⟨_, rfl⟩
  have HN : Hid (N = xs.length + ys.length) := hN
  have nb : N ≤ 549755813888 := by omega
  have hw0 : IntKind.i64.wrap ((xs.length : Int) + ys.length) = (N : Int) := by rw [hN, wrap_self _ (by omega) (by omega)]; simp
  clear hN
  go_enter Try.func110, Try.ntmps110
  go_wp2_with (first
    | (at_make; refine wpList_make_words rfl _ _ rfl N _ _ rfl rfl rfl rfl (by omega) ?_; intro w1 k1 k2 k3 k4)
    | fail)
  go_loopw [6] (fun i wr => ∃ (k : Nat) (X : List Int), k ≤ xs.length ∧ i = .int .i64 k ∧ Mo xs ys k X ∧ Cells wr w.heap.size 0 X ∧ Wr w.heap.size 0 N w1 wr) (fun i _ => xs.length - (intOf i).toNat)
  case atStart => exact ⟨0, _, Nat.zero_le _, rfl, Mo.start xs ys, by rw [← HN.out]; exact k1, Wr.refl _ _ _ _⟩
  case round =>
    obtain ⟨i, X, hi, rfl, hMo, hc, hwr⟩ := hrel
    have hlX : Hid (X.length = xs.length + ys.length) := hMo.len
    by_cases hlt : i < xs.length
    · have HMo : Hid (Mo xs ys i X) := hMo
      clear hMo
      go_wp2_with fail
      go_loopw [7, 8] (fun c k wr => ∃ (k' : Nat) (cy : Int) (Y : List Int), k' ≤ ys.length ∧ c = .int .i64 cy ∧ k = .int .i64 k' ∧ Mu X ys i (nth xs i) k' cy Y ∧ Cells wr w.heap.size 0 Y ∧ Wr w.heap.size 0 N w1 wr) (fun _ k _ => ys.length - (intOf k).toNat)
      case atStart => exact ⟨0, 0, X, Nat.zero_le _, rfl, rfl, Mu.start HMo.out.wd, hc, hwr⟩
      case round =>
        clear hc hwr
        obtain ⟨k, cy, Y, hk, rfl, rfl, hMu, hc, hwr⟩ := hrel
        have hb := k3.trans (hwr.below (B := w.heap.size) (Nat.le_refl _) (by omega))
        have lY : Hid (Y.length = xs.length + ys.length) := hMu.len.trans hlX.out
        by_cases hlt2 : k < ys.length
        · have kx := hc.at (i := i + k) (by rw [lY.out]; omega)
          have kf := ((k2.wr hwr).free 0 N) (i + k) (by rw [HN.out]; omega)
          rw [Nat.zero_add] at kx kf
          have d1 := (hs1.out _ hb).at (i := i) hlt
          have d2 := (hs2.out _ hb).at (i := k) hlt2
          have y1 : (0 : Int) ≤ (i : Int) + k := by omega
          have y2 : ((i : Int) + k).toNat = i + k := by omega
          have y3 : IntKind.i64.wrap ((i : Int) + k) = (i : Int) + k := wrap_self _ (by omega) (by omega)
          have y4 : (i : Int) + k < N := by rw [HN.out]; omega
          have ba := nth_bd hx i
          have bb := nth_bd hy k
          have bY := nth_bd hMu.wd (i + k)
          obtain ⟨S, hS⟩ : ∃ S, cy + (nth Y (i + k) + nth xs i * nth ys k) = S := ⟨_, rfl⟩
          have NX : Hid (Mu X ys i (nth xs i) (k + 1) (S / 1073741824) (Y.set (i + k) (S % 1073741824))) := hMu.next hy ba.1 ba.2 hlt2 (by rw [hlX.out]; omega) hS.symm
          have bd := mu_bd ba.1 ba.2 bb.1 bb.2 bY.1 bY.2 hMu.c0 hMu.c1
          have c0 := hMu.c0
          generalize nth Y (i + k) = y at *
          generalize nth xs i = a at *
          generalize nth ys k = b at *
          have e1 : IntKind.i64.wrap (a * b) = a * b := wrap_self _ (by omega) (by omega)
          have e2 : IntKind.i64.wrap (y + a * b) = y + a * b := wrap_self _ (by omega) (by omega)
          have e3 : IntKind.i64.wrap (cy + (y + a * b)) = S := by rw [hS]; exact wrap_self _ (by omega) (by omega)
          have s0 : 0 ≤ S := by omega
          have s1 : S < 1152921504606846976 := by omega
          have e4 : S.tdiv 1073741824 = S / 1073741824 := Int.tdiv_eq_ediv_of_nonneg s0
          have e5 : S.tmod 1073741824 = S % 1073741824 := Int.tmod_eq_emod_of_nonneg s0
          have i6 : Hid (k + 1 ≤ ys.length) := hlt2
          have LN : Hid (∀ m, Cells ((wr.drewN m).setCell ⟨w.heap.size, i + k, none⟩ (.int .i64 (S % 1073741824))) w.heap.size 0 (Y.set (i + k) (S % 1073741824)) ∧ Wr w.heap.size 0 N w1 ((wr.drewN m).setCell ⟨w.heap.size, i + k, none⟩ (.int .i64 (S % 1073741824)))) := fun m => ⟨by have := Cells.set (w := wr.drewN m) hc (i + k) (by rw [lY.out]; omega) (S % 1073741824); simpa using this, (hwr.drewN m).setCell (i + k) (by rw [HN.out]; omega) _⟩
          clear hS bd ba bb bY hMu
          go_wp2_with fail
          go_quiet (fail)
          go_wp2
          go_roundw
          case rel => exact ⟨k + 1, _, _, i6.out, rfl, by go_num, NX.out, (LN.out _).1, (LN.out _).2⟩
          case measure => simp [intOf]; omega
        · have ek : k = ys.length := by omega
          subst ek
          obtain ⟨z, R⟩ := HMo.out.next hMu hlt
          have kx := hc.at (i := i + ys.length) (by rw [lY.out]; omega)
          have kf := ((k2.wr hwr).free 0 N) (i + ys.length) (by rw [HN.out]; omega)
          rw [Nat.zero_add] at kx kf
          rw [z] at kx
          have HR : Hid (Mo xs ys (i + 1) (Y.set (i + ys.length) cy)) := R
          have y1 : (0 : Int) ≤ (i : Int) + ys.length := by omega
          have y2 : ((i : Int) + ys.length).toNat = i + ys.length := by omega
          have y3 : IntKind.i64.wrap ((i : Int) + ys.length) = (i : Int) + ys.length := wrap_self _ (by omega) (by omega)
          have y4 : (i : Int) + ys.length < N := by rw [HN.out]; omega
          have e1 : IntKind.i64.wrap cy = cy := wrap_self _ (by have := hMu.c0; omega) (by have := hMu.c1; omega)
          have hlt3 : i + 1 ≤ xs.length := hlt
          have LN : Hid (Cells (wr.setCell ⟨w.heap.size, i + ys.length, none⟩ (.int .i64 cy)) w.heap.size 0 (Y.set (i + ys.length) cy) ∧ Wr w.heap.size 0 N w1 (wr.setCell ⟨w.heap.size, i + ys.length, none⟩ (.int .i64 cy))) := ⟨by have := Cells.set hc (i + ys.length) (by rw [lY.out]; omega) cy; simpa using this, hwr.setCell (i + ys.length) (by rw [HN.out]; omega) _⟩
          clear R hMu z
          go_wp2
          go_roundw
          case rel => exact ⟨i + 1, _, hlt3, by go_num, HR.out, LN.out.1, LN.out.2⟩
          case measure => simp [intOf]; omega
    · have ek : i = xs.length := by omega
      subst ek
      have hb := k3.trans (hwr.below (B := w.heap.size) (Nat.le_refl _) (by omega))
      have Rv : Hid (val X = val xs * val ys) := by
        have e := hMo.eq
        rw [List.take_length] at e; exact e
      have wX := hMo.wd
      have lX2 : Hid (N = X.length) := by show N = X.length; rw [HN.out, hlX.out]
      clear hMo
      go_wp2_with fail
      refine (norm_rd _ _ _ X wr lX2.out wX (by have := lX2.out; omega) (by omega) (fun _ => ⟨_, _, rfl, hc⟩)).mono ?_
      rintro e w' ⟨n, zs, rfl, hrd, hnm, hvz, rfl⟩
      have hvz' : Hid (val zs = val xs * val ys) := hvz.trans Rv.out
      clear hvz
      go_wp2
      go_ret
      exact ⟨_, zs, rfl, hrd, hnm, hvz'.out, hb⟩
/-- (Nat).Mul of the reference. -/
theorem Mul_any (v1 v2 : Value) (xs ys : List Int) (w : World) (h1 : Rd w v1 xs) (h2 : Rd w v2 ys) (l1 : xs.length ≤ 274877906944) (l2 : ys.length ≤ 274877906944) :
    Calls Try.prog 110 #[v1, v2] w fun e w' => ∃ v zs, e = .returned v ∧ Rd w' v zs ∧ Nm zs ∧ val zs = val xs * val ys ∧ Below w.heap.size w w' := by
  obtain ⟨hx, a1, c1, rfl, _, _, g1⟩ := h1
  obtain ⟨hy, a2, c2, rfl, _, _, g2⟩ := h2
  by_cases p1 : 0 < xs.length
  · by_cases p2 : 0 < ys.length
    · exact mul_some a1 a2 c1 c2 xs ys w hx hy g1 g2 p1 p2 l1 l2
    · have e0 : ys = [] := List.eq_nil_of_length_eq_zero (by omega)
      subst e0
      refine (mul_none_r a1 a2 xs.length c1 c2 (by rw [beq_eq_false_iff_ne]; omega) w).mono ?_
      rintro e w' ⟨rfl, rfl⟩
      exact ⟨_, [], rfl, rd_nil _, Or.inl rfl, by simp [val], Below.refl _ _⟩
  · have e0 : xs = [] := List.eq_nil_of_length_eq_zero (by omega)
    subst e0
    refine (mul_none_l a1 c1 _ w).mono ?_
    rintro e w' ⟨rfl, rfl⟩
    exact ⟨_, [], rfl, rd_nil _, Or.inl rfl, by simp [val], Below.refl _ _⟩
end Go.Proofs.Ytfpmegfdopnnpaa.L
