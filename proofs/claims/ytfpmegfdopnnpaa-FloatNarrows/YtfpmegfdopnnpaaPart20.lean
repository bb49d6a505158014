import Derived.Test.YtfpmegfdopnnpaaPart19
import Derived.Laws.FloatArith
import Derived.Test.YtfpmegfdopnnpaaPart16

namespace Go.Proofs.Ytfpmegfdopnnpaa
open Go.RowKit Tn

set_option maxRecDepth 100000 in
set_option maxHeartbeats 1600000 in
theorem Finite_w (n d : Int) (t : Bool) (hd : bits .and .u64 (n / 4503599627370496) 2047 = d) (ht : (d != 2047) = t) (w : World) : Calls Try.prog 66 #[szW, .int .u64 n] w fun e w' => e = .returned (.bool t) ∧ Below w.heap.size w w' := by
  go_enter Try.func66, Try.ntmps66
  go_wp2_with fail
  have K0 := Blk.new w #[.int .i64 53, .int .i64 (-1074), .int .i64 971, .int .i64 52] 31
  have pr : Below w.heap.size w (w.alloc (.cells #[.int .i64 53, .int .i64 (-1074), .int .i64 971, .int .i64 52] 31)) := (Below.refl _ _).alloc (Nat.le_refl _) _
  generalize w.alloc (.cells #[.int .i64 53, .int .i64 (-1074), .int .i64 971, .int .i64 52] 31) = W at *
  have e0 : W.cell? ⟨w.heap.size, 0, none⟩ = some (.int .i64 53) := K0.at 0
  have e1 : W.cell? ⟨w.heap.size, 1, none⟩ = some (.int .i64 (-1074)) := K0.at 1
  have e2 : W.cell? ⟨w.heap.size, 2, none⟩ = some (.int .i64 971) := K0.at 2
  have e3 : W.cell? ⟨w.heap.size, 3, none⟩ = some (.int .i64 52) := K0.at 3
  go_region_held3 (fun x => x.cell? ⟨w.heap.size, 0, none⟩ = some (.int .i64 53) ∧ x.cell? ⟨w.heap.size, 1, none⟩ = some (.int .i64 (-1074)) ∧ x.cell? ⟨w.heap.size, 2, none⟩ = some (.int .i64 971) ∧ x.cell? ⟨w.heap.size, 3, none⟩ = some (.int .i64 52)) (go_keep) (first
    | (go_at_call 43; refine (top_w _).mono ?_; rintro e w1 ⟨rfl, b1⟩; replace K0 := K0.below b1 K0.lt; replace pr := bel pr b1; clear b1; have e0 : w1.cell? ⟨w.heap.size, 0, none⟩ = some (.int .i64 53) := K0.at 0; have e1 : w1.cell? ⟨w.heap.size, 1, none⟩ = some (.int .i64 (-1074)) := K0.at 1; have e2 : w1.cell? ⟨w.heap.size, 2, none⟩ = some (.int .i64 971) := K0.at 2; have e3 : w1.cell? ⟨w.heap.size, 3, none⟩ = some (.int .i64 52) := K0.at 3)
    | (go_at_call 43; refine (top_w _).mono ?_; rintro e w1 ⟨rfl, b1⟩; replace K0 := K0.below (below_undrew b1) K0.lt; replace pr := bel pr (below_undrew b1); clear b1; have e0 : w1.cell? ⟨w.heap.size, 0, none⟩ = some (.int .i64 53) := K0.at 0; have e1 : w1.cell? ⟨w.heap.size, 1, none⟩ = some (.int .i64 (-1074)) := K0.at 1; have e2 : w1.cell? ⟨w.heap.size, 2, none⟩ = some (.int .i64 971) := K0.at 2; have e3 : w1.cell? ⟨w.heap.size, 3, none⟩ = some (.int .i64 52) := K0.at 3)
    | fail)
  go_wp2
  go_ret
  exact ⟨rfl, pr⟩
set_option maxRecDepth 100000 in
set_option maxHeartbeats 1600000 in
theorem IsNone_w (n : Nat) (hn : n < 18446744073709551616) (w : World) : Calls Try.prog 51 #[szW, .int .u64 n] w fun e w' => e = .returned (.bool (decide (fdW n = 2047) && decide (frW n ≠ 0))) ∧ Below w.heap.size w w' := by
  have hf := hfW n hn
  have F := Finite_w n (fdW n) (decide (fdW n ≠ 2047)) (hdW n hn) (by rw [Bool.eq_iff_iff, decide_eq_true_iff, bne_iff_ne]; omega)
  have g1 : ((frW n : Int) != 0) = decide (frW n ≠ 0) := by rw [Bool.eq_iff_iff, decide_eq_true_iff, bne_iff_ne]; omega
  by_cases h : fdW n = 2047
  · rw [decide_eq_true h, Bool.true_and]
    rw [decide_eq_false (show ¬ (fdW n ≠ 2047) from fun x => x h)] at F
    clear h
    generalize decide (frW n ≠ 0) = t at g1 ⊢
    generalize frW n = z at *
    go_enter Try.func51, Try.ntmps51
    have K0 := Blk.new w #[.int .i64 53, .int .i64 (-1074), .int .i64 971, .int .i64 52] 31
    have pr : Below w.heap.size w (w.alloc (.cells #[.int .i64 53, .int .i64 (-1074), .int .i64 971, .int .i64 52] 31)) := (Below.refl _ _).alloc (Nat.le_refl _) _
    have h1 : IntKind.u64.wrap 4503599627370495 = 4503599627370495 := by decide
    go_wp2_with (first
      | (go_at_call 66; refine (F _).mono ?_; rintro e w1 ⟨rfl, b1⟩; replace K0 := K0.below b1 K0.lt; replace pr := bel pr b1; clear b1; have e0 : w1.cell? ⟨w.heap.size, 0, none⟩ = some (.int .i64 53) := K0.at 0; have e1 : w1.cell? ⟨w.heap.size, 1, none⟩ = some (.int .i64 (-1074)) := K0.at 1; have e2 : w1.cell? ⟨w.heap.size, 2, none⟩ = some (.int .i64 971) := K0.at 2; have e3 : w1.cell? ⟨w.heap.size, 3, none⟩ = some (.int .i64 52) := K0.at 3)
      | fail)
    go_ret
    exact ⟨rfl, pr⟩
  · rw [decide_eq_false h, Bool.false_and]
    rw [decide_eq_true (show fdW n ≠ 2047 from h)] at F
    clear h
    clear g1
    generalize frW n = z at *
    go_enter Try.func51, Try.ntmps51
    have K0 := Blk.new w #[.int .i64 53, .int .i64 (-1074), .int .i64 971, .int .i64 52] 31
    have pr : Below w.heap.size w (w.alloc (.cells #[.int .i64 53, .int .i64 (-1074), .int .i64 971, .int .i64 52] 31)) := (Below.refl _ _).alloc (Nat.le_refl _) _
    have h1 : IntKind.u64.wrap 4503599627370495 = 4503599627370495 := by decide
    go_wp2_with (first
      | (go_at_call 66; refine (F _).mono ?_; rintro e w1 ⟨rfl, b1⟩; replace K0 := K0.below b1 K0.lt; replace pr := bel pr b1; clear b1; have e0 : w1.cell? ⟨w.heap.size, 0, none⟩ = some (.int .i64 53) := K0.at 0; have e1 : w1.cell? ⟨w.heap.size, 1, none⟩ = some (.int .i64 (-1074)) := K0.at 1; have e2 : w1.cell? ⟨w.heap.size, 2, none⟩ = some (.int .i64 971) := K0.at 2; have e3 : w1.cell? ⟨w.heap.size, 3, none⟩ = some (.int .i64 52) := K0.at 3)
      | fail)
    go_ret
    exact ⟨rfl, pr⟩
set_option maxRecDepth 100000 in
set_option maxHeartbeats 1600000 in
theorem Finite_s (n d : Int) (t : Bool) (hd : bits .and .u64 (n / 8388608) 255 = d) (ht : (d != 255) = t) (w : World) : Calls Try.prog 66 #[szS, .int .u64 n] w fun e w' => e = .returned (.bool t) ∧ Below w.heap.size w w' := by
  go_enter Try.func66, Try.ntmps66
  go_wp2_with fail
  have K0 := Blk.new w #[.int .i64 24, .int .i64 (-149), .int .i64 104, .int .i64 23] 31
  have pr : Below w.heap.size w (w.alloc (.cells #[.int .i64 24, .int .i64 (-149), .int .i64 104, .int .i64 23] 31)) := (Below.refl _ _).alloc (Nat.le_refl _) _
  generalize w.alloc (.cells #[.int .i64 24, .int .i64 (-149), .int .i64 104, .int .i64 23] 31) = W at *
  have e0 : W.cell? ⟨w.heap.size, 0, none⟩ = some (.int .i64 24) := K0.at 0
  have e1 : W.cell? ⟨w.heap.size, 1, none⟩ = some (.int .i64 (-149)) := K0.at 1
  have e2 : W.cell? ⟨w.heap.size, 2, none⟩ = some (.int .i64 104) := K0.at 2
  have e3 : W.cell? ⟨w.heap.size, 3, none⟩ = some (.int .i64 23) := K0.at 3
  go_region_held3 (fun x => x.cell? ⟨w.heap.size, 0, none⟩ = some (.int .i64 24) ∧ x.cell? ⟨w.heap.size, 1, none⟩ = some (.int .i64 (-149)) ∧ x.cell? ⟨w.heap.size, 2, none⟩ = some (.int .i64 104) ∧ x.cell? ⟨w.heap.size, 3, none⟩ = some (.int .i64 23)) (go_keep) (first
    | (go_at_call 43; refine (top_s _).mono ?_; rintro e w1 ⟨rfl, b1⟩; replace K0 := K0.below b1 K0.lt; replace pr := bel pr b1; clear b1; have e0 : w1.cell? ⟨w.heap.size, 0, none⟩ = some (.int .i64 24) := K0.at 0; have e1 : w1.cell? ⟨w.heap.size, 1, none⟩ = some (.int .i64 (-149)) := K0.at 1; have e2 : w1.cell? ⟨w.heap.size, 2, none⟩ = some (.int .i64 104) := K0.at 2; have e3 : w1.cell? ⟨w.heap.size, 3, none⟩ = some (.int .i64 23) := K0.at 3)
    | (go_at_call 43; refine (top_s _).mono ?_; rintro e w1 ⟨rfl, b1⟩; replace K0 := K0.below (below_undrew b1) K0.lt; replace pr := bel pr (below_undrew b1); clear b1; have e0 : w1.cell? ⟨w.heap.size, 0, none⟩ = some (.int .i64 24) := K0.at 0; have e1 : w1.cell? ⟨w.heap.size, 1, none⟩ = some (.int .i64 (-149)) := K0.at 1; have e2 : w1.cell? ⟨w.heap.size, 2, none⟩ = some (.int .i64 104) := K0.at 2; have e3 : w1.cell? ⟨w.heap.size, 3, none⟩ = some (.int .i64 23) := K0.at 3)
    | fail)
  go_wp2
  go_ret
  exact ⟨rfl, pr⟩
set_option maxRecDepth 100000 in
set_option maxHeartbeats 1600000 in
theorem IsNone_s (n : Nat) (hn : n < 18446744073709551616) (w : World) : Calls Try.prog 51 #[szS, .int .u64 n] w fun e w' => e = .returned (.bool (decide (fdS n = 255) && decide (frS n ≠ 0))) ∧ Below w.heap.size w w' := by
  have hf := hfS n hn
  have F := Finite_s n (fdS n) (decide (fdS n ≠ 255)) (hdS n hn) (by rw [Bool.eq_iff_iff, decide_eq_true_iff, bne_iff_ne]; omega)
  have g1 : ((frS n : Int) != 0) = decide (frS n ≠ 0) := by rw [Bool.eq_iff_iff, decide_eq_true_iff, bne_iff_ne]; omega
  by_cases h : fdS n = 255
  · rw [decide_eq_true h, Bool.true_and]
    rw [decide_eq_false (show ¬ (fdS n ≠ 255) from fun x => x h)] at F
    clear h
    generalize decide (frS n ≠ 0) = t at g1 ⊢
    generalize frS n = z at *
    go_enter Try.func51, Try.ntmps51
    have K0 := Blk.new w #[.int .i64 24, .int .i64 (-149), .int .i64 104, .int .i64 23] 31
    have pr : Below w.heap.size w (w.alloc (.cells #[.int .i64 24, .int .i64 (-149), .int .i64 104, .int .i64 23] 31)) := (Below.refl _ _).alloc (Nat.le_refl _) _
    have h1 : IntKind.u64.wrap 8388607 = 8388607 := by decide
    go_wp2_with (first
      | (go_at_call 66; refine (F _).mono ?_; rintro e w1 ⟨rfl, b1⟩; replace K0 := K0.below b1 K0.lt; replace pr := bel pr b1; clear b1; have e0 : w1.cell? ⟨w.heap.size, 0, none⟩ = some (.int .i64 24) := K0.at 0; have e1 : w1.cell? ⟨w.heap.size, 1, none⟩ = some (.int .i64 (-149)) := K0.at 1; have e2 : w1.cell? ⟨w.heap.size, 2, none⟩ = some (.int .i64 104) := K0.at 2; have e3 : w1.cell? ⟨w.heap.size, 3, none⟩ = some (.int .i64 23) := K0.at 3)
      | fail)
    go_ret
    exact ⟨rfl, pr⟩
  · rw [decide_eq_false h, Bool.false_and]
    rw [decide_eq_true (show fdS n ≠ 255 from h)] at F
    clear h
    clear g1
    generalize frS n = z at *
    go_enter Try.func51, Try.ntmps51
    have K0 := Blk.new w #[.int .i64 24, .int .i64 (-149), .int .i64 104, .int .i64 23] 31
    have pr : Below w.heap.size w (w.alloc (.cells #[.int .i64 24, .int .i64 (-149), .int .i64 104, .int .i64 23] 31)) := (Below.refl _ _).alloc (Nat.le_refl _) _
    have h1 : IntKind.u64.wrap 8388607 = 8388607 := by decide
    go_wp2_with (first
      | (go_at_call 66; refine (F _).mono ?_; rintro e w1 ⟨rfl, b1⟩; replace K0 := K0.below b1 K0.lt; replace pr := bel pr b1; clear b1; have e0 : w1.cell? ⟨w.heap.size, 0, none⟩ = some (.int .i64 24) := K0.at 0; have e1 : w1.cell? ⟨w.heap.size, 1, none⟩ = some (.int .i64 (-149)) := K0.at 1; have e2 : w1.cell? ⟨w.heap.size, 2, none⟩ = some (.int .i64 104) := K0.at 2; have e3 : w1.cell? ⟨w.heap.size, 3, none⟩ = some (.int .i64 23) := K0.at 3)
      | fail)
    go_ret
    exact ⟨rfl, pr⟩
theorem none_nan (n : Nat) : (decide (fdW n = 2047) && decide (frW n ≠ 0)) = nan64 n := by
  unfold nan64 fdW frW rg64
  rw [Bool.eq_iff_iff, Bool.and_eq_true, decide_eq_true_iff, decide_eq_true_iff, decide_eq_true_iff]
  omega
theorem IsNone64 (n : Nat) (hn : n < 18446744073709551616) (w : World) : Calls Try.prog 51 #[szW, .int .u64 n] w fun e w' => e = .returned (.bool (nan64 n)) ∧ Below w.heap.size w w' := by
  have H := IsNone_w n hn w
  rw [none_nan] at H
  exact H
/-- The place as the reference tells it. -/
def place64 (n : Nat) : Int := if ng64 n = true then -(rg64 n : Int) else rg64 n
set_option maxRecDepth 100000 in
set_option maxHeartbeats 1600000 in
theorem place_any (n : Nat) (hn : n < 18446744073709551616) (w : World) : Calls Try.prog 62 #[.int .u64 n] w fun e w' => e = .returned (.int .i64 (place64 n)) ∧ w' = w := by
  have h := andNot_sign n hn
  have r := rg64_lt n
  have hx : IntKind.i64.wrap (rg64 n : Int) = (rg64 n : Int) := w64 _ (by omega) (by omega)
  have hy : IntKind.i64.wrap (-(rg64 n : Int)) = -(rg64 n : Int) := w64 _ (by omega) (by omega)
  unfold place64
  have s : ng64 n = (n / 9223372036854775808 % 2 == 1) := rfl
  by_cases c : 9223372036854775808 ≤ n
  · have s1 : ng64 n = true := by rw [s, beq_iff_eq]; omega
    rw [if_pos s1]
    have c1 : decide ((9223372036854775808 : Int) ≤ (n : Int)) = true := by rw [decide_eq_true_eq]; omega
    clear s s1
    generalize rg64 n = z at *
    go_enter Try.func62, Try.ntmps62
    go_wp2
    go_ret
    exact ⟨rfl, rfl⟩
  · have s1 : ¬ (ng64 n = true) := by rw [s, beq_iff_eq]; omega
    rw [if_neg s1]
    have c1 : decide ((9223372036854775808 : Int) ≤ (n : Int)) = false := by rw [decide_eq_false_iff_not]; omega
    clear s s1
    generalize rg64 n = z at *
    go_enter Try.func62, Try.ntmps62
    go_wp2
    go_ret
    exact ⟨rfl, rfl⟩
set_option maxRecDepth 100000 in
set_option maxHeartbeats 1600000 in
theorem RUp_any (n : Nat) (hn : n < 18446744073709551616) (w : World) : Calls Try.prog 25 #[.int .u64 n] w fun e w' => e = .returned (.int .u64 (up64 n)) ∧ Below w.heap.size w w' := by
  have N := IsNone64 n hn
  have G := Neg_w n (ng64 n) (hg2W n hn)
  have I := Infinite_w_pos
  have s : ng64 n = (n / 9223372036854775808 % 2 == 1) := rfl
  have rn : rg64 n = n % 9223372036854775808 := rfl
  unfold up64
  by_cases h1 : nan64 n = true
  · rw [h1] at N
    rw [if_pos h1]
    clear h1 s rn
    go_enter Try.func25, Try.ntmps25
    go_wp2_with (first
      | (go_at_call 10; refine (Wide_any _).mono ?_; rintro x w1 ⟨rfl, b1⟩; have pr := b1; clear b1; have m0 := Blk.new w1 #[.int .i64 53, .int .i64 (-1074), .int .i64 971, .int .i64 52] 31; have q0 : (w1.alloc (.cells #[.int .i64 53, .int .i64 (-1074), .int .i64 971, .int .i64 52] 31)).cell? ⟨w1.heap.size, 0, none⟩ = some (.int .i64 53) := m0.at 0; have q1 : (w1.alloc (.cells #[.int .i64 53, .int .i64 (-1074), .int .i64 971, .int .i64 52] 31)).cell? ⟨w1.heap.size, 1, none⟩ = some (.int .i64 (-1074)) := m0.at 1; have q2 : (w1.alloc (.cells #[.int .i64 53, .int .i64 (-1074), .int .i64 971, .int .i64 52] 31)).cell? ⟨w1.heap.size, 2, none⟩ = some (.int .i64 971) := m0.at 2; have q3 : (w1.alloc (.cells #[.int .i64 53, .int .i64 (-1074), .int .i64 971, .int .i64 52] 31)).cell? ⟨w1.heap.size, 3, none⟩ = some (.int .i64 52) := m0.at 3; clear m0)
      | (go_at_call 51; (with_reducible refine (N _).mono ?_); rintro x w4 ⟨rfl, b4⟩; replace K2 := K2.below b4 K2.lt; replace pr := bel pr b4; clear b4; have q0 : w4.cell? ⟨w1.heap.size, 0, none⟩ = some (.int .i64 53) := K2.at 0; have q1 : w4.cell? ⟨w1.heap.size, 1, none⟩ = some (.int .i64 (-1074)) := K2.at 1; have q2 : w4.cell? ⟨w1.heap.size, 2, none⟩ = some (.int .i64 971) := K2.at 2; have q3 : w4.cell? ⟨w1.heap.size, 3, none⟩ = some (.int .i64 52) := K2.at 3)
      | (go_at_call 51; (with_reducible refine (N _).mono ?_); rintro x w4 ⟨rfl, b4⟩; obtain ⟨b5, K2⟩ := var4 b4; clear b4; replace pr := bel pr b5; clear b5; have q0 : w4.cell? ⟨w1.heap.size, 0, none⟩ = some (.int .i64 53) := K2.at 0; have q1 : w4.cell? ⟨w1.heap.size, 1, none⟩ = some (.int .i64 (-1074)) := K2.at 1; have q2 : w4.cell? ⟨w1.heap.size, 2, none⟩ = some (.int .i64 971) := K2.at 2; have q3 : w4.cell? ⟨w1.heap.size, 3, none⟩ = some (.int .i64 52) := K2.at 3)
      | fail)
    go_ret
    exact ⟨rfl, pr⟩
  rw [if_neg h1]
  have h2 : nan64 n = false := by simpa using h1
  rw [h2] at N
  by_cases i1 : n = 9218868437227405312
  · rw [if_pos i1]
    have i2 : ((n : Int) == 9218868437227405312) = true := by rw [beq_iff_eq]; omega
    clear i1 h1 h2 s rn
    go_enter Try.func25, Try.ntmps25
    go_wp2_with (first
      | (go_at_call 10; refine (Wide_any _).mono ?_; rintro x w1 ⟨rfl, b1⟩; have pr := b1; clear b1; have m0 := Blk.new w1 #[.int .i64 53, .int .i64 (-1074), .int .i64 971, .int .i64 52] 31; have q0 : (w1.alloc (.cells #[.int .i64 53, .int .i64 (-1074), .int .i64 971, .int .i64 52] 31)).cell? ⟨w1.heap.size, 0, none⟩ = some (.int .i64 53) := m0.at 0; have q1 : (w1.alloc (.cells #[.int .i64 53, .int .i64 (-1074), .int .i64 971, .int .i64 52] 31)).cell? ⟨w1.heap.size, 1, none⟩ = some (.int .i64 (-1074)) := m0.at 1; have q2 : (w1.alloc (.cells #[.int .i64 53, .int .i64 (-1074), .int .i64 971, .int .i64 52] 31)).cell? ⟨w1.heap.size, 2, none⟩ = some (.int .i64 971) := m0.at 2; have q3 : (w1.alloc (.cells #[.int .i64 53, .int .i64 (-1074), .int .i64 971, .int .i64 52] 31)).cell? ⟨w1.heap.size, 3, none⟩ = some (.int .i64 52) := m0.at 3; clear m0)
      | (go_at_call 51; (with_reducible refine (N _).mono ?_); rintro x w4 ⟨rfl, b4⟩; replace K2 := K2.below b4 K2.lt; replace pr := bel pr b4; clear b4; have q0 : w4.cell? ⟨w1.heap.size, 0, none⟩ = some (.int .i64 53) := K2.at 0; have q1 : w4.cell? ⟨w1.heap.size, 1, none⟩ = some (.int .i64 (-1074)) := K2.at 1; have q2 : w4.cell? ⟨w1.heap.size, 2, none⟩ = some (.int .i64 971) := K2.at 2; have q3 : w4.cell? ⟨w1.heap.size, 3, none⟩ = some (.int .i64 52) := K2.at 3)
      | (go_at_call 51; (with_reducible refine (N _).mono ?_); rintro x w4 ⟨rfl, b4⟩; obtain ⟨b5, K2⟩ := var4 b4; clear b4; replace pr := bel pr b5; clear b5; have q0 : w4.cell? ⟨w1.heap.size, 0, none⟩ = some (.int .i64 53) := K2.at 0; have q1 : w4.cell? ⟨w1.heap.size, 1, none⟩ = some (.int .i64 (-1074)) := K2.at 1; have q2 : w4.cell? ⟨w1.heap.size, 2, none⟩ = some (.int .i64 971) := K2.at 2; have q3 : w4.cell? ⟨w1.heap.size, 3, none⟩ = some (.int .i64 52) := K2.at 3)
      | (go_at_call 49; (with_reducible refine (I _).mono ?_); rintro x w4 ⟨rfl, b4⟩; replace K2 := K2.below b4 K2.lt; replace pr := bel pr b4; clear b4; have q0 : w4.cell? ⟨w1.heap.size, 0, none⟩ = some (.int .i64 53) := K2.at 0; have q1 : w4.cell? ⟨w1.heap.size, 1, none⟩ = some (.int .i64 (-1074)) := K2.at 1; have q2 : w4.cell? ⟨w1.heap.size, 2, none⟩ = some (.int .i64 971) := K2.at 2; have q3 : w4.cell? ⟨w1.heap.size, 3, none⟩ = some (.int .i64 52) := K2.at 3)
      | (go_at_call 49; (with_reducible refine (I _).mono ?_); rintro x w4 ⟨rfl, b4⟩; obtain ⟨b5, K2⟩ := var4 b4; clear b4; replace pr := bel pr b5; clear b5; have q0 : w4.cell? ⟨w1.heap.size, 0, none⟩ = some (.int .i64 53) := K2.at 0; have q1 : w4.cell? ⟨w1.heap.size, 1, none⟩ = some (.int .i64 (-1074)) := K2.at 1; have q2 : w4.cell? ⟨w1.heap.size, 2, none⟩ = some (.int .i64 971) := K2.at 2; have q3 : w4.cell? ⟨w1.heap.size, 3, none⟩ = some (.int .i64 52) := K2.at 3)
      | fail)
    go_ret
    exact ⟨rfl, pr⟩
  rw [if_neg i1]
  have i2 : ((n : Int) == 9218868437227405312) = false := by rw [beq_eq_false_iff_ne]; omega
  by_cases z1 : rg64 n = 0
  · rw [if_pos z1]
    by_cases c : n = 0
    · subst c
      clear i1 i2 h1 h2 s rn z1
      have N0 : ∀ w : World, Calls Try.prog 51 #[szW, .int .u64 0] w fun e w' => e = .returned (.bool false) ∧ Below w.heap.size w w' := N
      go_enter Try.func25, Try.ntmps25
      go_wp2_with (first
        | (go_at_call 10; refine (Wide_any _).mono ?_; rintro x w1 ⟨rfl, b1⟩; have pr := b1; clear b1; have m0 := Blk.new w1 #[.int .i64 53, .int .i64 (-1074), .int .i64 971, .int .i64 52] 31; have q0 : (w1.alloc (.cells #[.int .i64 53, .int .i64 (-1074), .int .i64 971, .int .i64 52] 31)).cell? ⟨w1.heap.size, 0, none⟩ = some (.int .i64 53) := m0.at 0; have q1 : (w1.alloc (.cells #[.int .i64 53, .int .i64 (-1074), .int .i64 971, .int .i64 52] 31)).cell? ⟨w1.heap.size, 1, none⟩ = some (.int .i64 (-1074)) := m0.at 1; have q2 : (w1.alloc (.cells #[.int .i64 53, .int .i64 (-1074), .int .i64 971, .int .i64 52] 31)).cell? ⟨w1.heap.size, 2, none⟩ = some (.int .i64 971) := m0.at 2; have q3 : (w1.alloc (.cells #[.int .i64 53, .int .i64 (-1074), .int .i64 971, .int .i64 52] 31)).cell? ⟨w1.heap.size, 3, none⟩ = some (.int .i64 52) := m0.at 3; clear m0)
        | (go_at_call 51; (with_reducible refine (N0 _).mono ?_); rintro x w4 ⟨rfl, b4⟩; replace K2 := K2.below b4 K2.lt; replace pr := bel pr b4; clear b4; have q0 : w4.cell? ⟨w1.heap.size, 0, none⟩ = some (.int .i64 53) := K2.at 0; have q1 : w4.cell? ⟨w1.heap.size, 1, none⟩ = some (.int .i64 (-1074)) := K2.at 1; have q2 : w4.cell? ⟨w1.heap.size, 2, none⟩ = some (.int .i64 971) := K2.at 2; have q3 : w4.cell? ⟨w1.heap.size, 3, none⟩ = some (.int .i64 52) := K2.at 3)
        | (go_at_call 51; (with_reducible refine (N0 _).mono ?_); rintro x w4 ⟨rfl, b4⟩; obtain ⟨b5, K2⟩ := var4 b4; clear b4; replace pr := bel pr b5; clear b5; have q0 : w4.cell? ⟨w1.heap.size, 0, none⟩ = some (.int .i64 53) := K2.at 0; have q1 : w4.cell? ⟨w1.heap.size, 1, none⟩ = some (.int .i64 (-1074)) := K2.at 1; have q2 : w4.cell? ⟨w1.heap.size, 2, none⟩ = some (.int .i64 971) := K2.at 2; have q3 : w4.cell? ⟨w1.heap.size, 3, none⟩ = some (.int .i64 52) := K2.at 3)
        | (go_at_call 49; (with_reducible refine (I _).mono ?_); rintro x w4 ⟨rfl, b4⟩; replace K2 := K2.below b4 K2.lt; replace pr := bel pr b4; clear b4; have q0 : w4.cell? ⟨w1.heap.size, 0, none⟩ = some (.int .i64 53) := K2.at 0; have q1 : w4.cell? ⟨w1.heap.size, 1, none⟩ = some (.int .i64 (-1074)) := K2.at 1; have q2 : w4.cell? ⟨w1.heap.size, 2, none⟩ = some (.int .i64 971) := K2.at 2; have q3 : w4.cell? ⟨w1.heap.size, 3, none⟩ = some (.int .i64 52) := K2.at 3)
        | (go_at_call 49; (with_reducible refine (I _).mono ?_); rintro x w4 ⟨rfl, b4⟩; obtain ⟨b5, K2⟩ := var4 b4; clear b4; replace pr := bel pr b5; clear b5; have q0 : w4.cell? ⟨w1.heap.size, 0, none⟩ = some (.int .i64 53) := K2.at 0; have q1 : w4.cell? ⟨w1.heap.size, 1, none⟩ = some (.int .i64 (-1074)) := K2.at 1; have q2 : w4.cell? ⟨w1.heap.size, 2, none⟩ = some (.int .i64 971) := K2.at 2; have q3 : w4.cell? ⟨w1.heap.size, 3, none⟩ = some (.int .i64 52) := K2.at 3)
        | fail)
      go_ret
      exact ⟨rfl, pr⟩
    · have c1 : ((n : Int) == 9223372036854775808) = true := by rw [beq_iff_eq]; omega
      clear c i1 h1 h2 s rn z1
      go_enter Try.func25, Try.ntmps25
      go_wp2_with (first
        | (go_at_call 10; refine (Wide_any _).mono ?_; rintro x w1 ⟨rfl, b1⟩; have pr := b1; clear b1; have m0 := Blk.new w1 #[.int .i64 53, .int .i64 (-1074), .int .i64 971, .int .i64 52] 31; have q0 : (w1.alloc (.cells #[.int .i64 53, .int .i64 (-1074), .int .i64 971, .int .i64 52] 31)).cell? ⟨w1.heap.size, 0, none⟩ = some (.int .i64 53) := m0.at 0; have q1 : (w1.alloc (.cells #[.int .i64 53, .int .i64 (-1074), .int .i64 971, .int .i64 52] 31)).cell? ⟨w1.heap.size, 1, none⟩ = some (.int .i64 (-1074)) := m0.at 1; have q2 : (w1.alloc (.cells #[.int .i64 53, .int .i64 (-1074), .int .i64 971, .int .i64 52] 31)).cell? ⟨w1.heap.size, 2, none⟩ = some (.int .i64 971) := m0.at 2; have q3 : (w1.alloc (.cells #[.int .i64 53, .int .i64 (-1074), .int .i64 971, .int .i64 52] 31)).cell? ⟨w1.heap.size, 3, none⟩ = some (.int .i64 52) := m0.at 3; clear m0)
        | (go_at_call 51; (with_reducible refine (N _).mono ?_); rintro x w4 ⟨rfl, b4⟩; replace K2 := K2.below b4 K2.lt; replace pr := bel pr b4; clear b4; have q0 : w4.cell? ⟨w1.heap.size, 0, none⟩ = some (.int .i64 53) := K2.at 0; have q1 : w4.cell? ⟨w1.heap.size, 1, none⟩ = some (.int .i64 (-1074)) := K2.at 1; have q2 : w4.cell? ⟨w1.heap.size, 2, none⟩ = some (.int .i64 971) := K2.at 2; have q3 : w4.cell? ⟨w1.heap.size, 3, none⟩ = some (.int .i64 52) := K2.at 3)
        | (go_at_call 51; (with_reducible refine (N _).mono ?_); rintro x w4 ⟨rfl, b4⟩; obtain ⟨b5, K2⟩ := var4 b4; clear b4; replace pr := bel pr b5; clear b5; have q0 : w4.cell? ⟨w1.heap.size, 0, none⟩ = some (.int .i64 53) := K2.at 0; have q1 : w4.cell? ⟨w1.heap.size, 1, none⟩ = some (.int .i64 (-1074)) := K2.at 1; have q2 : w4.cell? ⟨w1.heap.size, 2, none⟩ = some (.int .i64 971) := K2.at 2; have q3 : w4.cell? ⟨w1.heap.size, 3, none⟩ = some (.int .i64 52) := K2.at 3)
        | (go_at_call 49; (with_reducible refine (I _).mono ?_); rintro x w4 ⟨rfl, b4⟩; replace K2 := K2.below b4 K2.lt; replace pr := bel pr b4; clear b4; have q0 : w4.cell? ⟨w1.heap.size, 0, none⟩ = some (.int .i64 53) := K2.at 0; have q1 : w4.cell? ⟨w1.heap.size, 1, none⟩ = some (.int .i64 (-1074)) := K2.at 1; have q2 : w4.cell? ⟨w1.heap.size, 2, none⟩ = some (.int .i64 971) := K2.at 2; have q3 : w4.cell? ⟨w1.heap.size, 3, none⟩ = some (.int .i64 52) := K2.at 3)
        | (go_at_call 49; (with_reducible refine (I _).mono ?_); rintro x w4 ⟨rfl, b4⟩; obtain ⟨b5, K2⟩ := var4 b4; clear b4; replace pr := bel pr b5; clear b5; have q0 : w4.cell? ⟨w1.heap.size, 0, none⟩ = some (.int .i64 53) := K2.at 0; have q1 : w4.cell? ⟨w1.heap.size, 1, none⟩ = some (.int .i64 (-1074)) := K2.at 1; have q2 : w4.cell? ⟨w1.heap.size, 2, none⟩ = some (.int .i64 971) := K2.at 2; have q3 : w4.cell? ⟨w1.heap.size, 3, none⟩ = some (.int .i64 52) := K2.at 3)
        | fail)
      go_ret
      exact ⟨rfl, pr⟩
  rw [if_neg z1]
  have c1 : ((n : Int) == 9223372036854775808) = false := by rw [beq_eq_false_iff_ne]; omega
  have c2 : ((n : Int) == 0) = false := by rw [beq_eq_false_iff_ne]; omega
  cases g : ng64 n
  · rw [g] at G s
    rw [if_neg (by simp)]
    have s2 : n / 9223372036854775808 % 2 ≠ 1 := by have := s.symm; simpa using this
    obtain ⟨m, hm⟩ : ∃ m, m = n + 1 := ⟨_, rfl⟩
    rw [← hm]
    have hw : IntKind.u64.wrap ((n : Int) + 1) = (m : Int) := by rw [wu64 _ (by omega) (by omega)]; omega
    clear hm s s2 rn i1 z1 h1 h2 g
    go_enter Try.func25, Try.ntmps25
    go_wp2_with (first
      | (go_at_call 10; refine (Wide_any _).mono ?_; rintro x w1 ⟨rfl, b1⟩; have pr := b1; clear b1; have m0 := Blk.new w1 #[.int .i64 53, .int .i64 (-1074), .int .i64 971, .int .i64 52] 31; have q0 : (w1.alloc (.cells #[.int .i64 53, .int .i64 (-1074), .int .i64 971, .int .i64 52] 31)).cell? ⟨w1.heap.size, 0, none⟩ = some (.int .i64 53) := m0.at 0; have q1 : (w1.alloc (.cells #[.int .i64 53, .int .i64 (-1074), .int .i64 971, .int .i64 52] 31)).cell? ⟨w1.heap.size, 1, none⟩ = some (.int .i64 (-1074)) := m0.at 1; have q2 : (w1.alloc (.cells #[.int .i64 53, .int .i64 (-1074), .int .i64 971, .int .i64 52] 31)).cell? ⟨w1.heap.size, 2, none⟩ = some (.int .i64 971) := m0.at 2; have q3 : (w1.alloc (.cells #[.int .i64 53, .int .i64 (-1074), .int .i64 971, .int .i64 52] 31)).cell? ⟨w1.heap.size, 3, none⟩ = some (.int .i64 52) := m0.at 3; clear m0)
      | (go_at_call 51; (with_reducible refine (N _).mono ?_); rintro x w4 ⟨rfl, b4⟩; replace K2 := K2.below b4 K2.lt; replace pr := bel pr b4; clear b4; have q0 : w4.cell? ⟨w1.heap.size, 0, none⟩ = some (.int .i64 53) := K2.at 0; have q1 : w4.cell? ⟨w1.heap.size, 1, none⟩ = some (.int .i64 (-1074)) := K2.at 1; have q2 : w4.cell? ⟨w1.heap.size, 2, none⟩ = some (.int .i64 971) := K2.at 2; have q3 : w4.cell? ⟨w1.heap.size, 3, none⟩ = some (.int .i64 52) := K2.at 3)
      | (go_at_call 51; (with_reducible refine (N _).mono ?_); rintro x w4 ⟨rfl, b4⟩; obtain ⟨b5, K2⟩ := var4 b4; clear b4; replace pr := bel pr b5; clear b5; have q0 : w4.cell? ⟨w1.heap.size, 0, none⟩ = some (.int .i64 53) := K2.at 0; have q1 : w4.cell? ⟨w1.heap.size, 1, none⟩ = some (.int .i64 (-1074)) := K2.at 1; have q2 : w4.cell? ⟨w1.heap.size, 2, none⟩ = some (.int .i64 971) := K2.at 2; have q3 : w4.cell? ⟨w1.heap.size, 3, none⟩ = some (.int .i64 52) := K2.at 3)
      | (go_at_call 49; (with_reducible refine (I _).mono ?_); rintro x w4 ⟨rfl, b4⟩; replace K2 := K2.below b4 K2.lt; replace pr := bel pr b4; clear b4; have q0 : w4.cell? ⟨w1.heap.size, 0, none⟩ = some (.int .i64 53) := K2.at 0; have q1 : w4.cell? ⟨w1.heap.size, 1, none⟩ = some (.int .i64 (-1074)) := K2.at 1; have q2 : w4.cell? ⟨w1.heap.size, 2, none⟩ = some (.int .i64 971) := K2.at 2; have q3 : w4.cell? ⟨w1.heap.size, 3, none⟩ = some (.int .i64 52) := K2.at 3)
      | (go_at_call 49; (with_reducible refine (I _).mono ?_); rintro x w4 ⟨rfl, b4⟩; obtain ⟨b5, K2⟩ := var4 b4; clear b4; replace pr := bel pr b5; clear b5; have q0 : w4.cell? ⟨w1.heap.size, 0, none⟩ = some (.int .i64 53) := K2.at 0; have q1 : w4.cell? ⟨w1.heap.size, 1, none⟩ = some (.int .i64 (-1074)) := K2.at 1; have q2 : w4.cell? ⟨w1.heap.size, 2, none⟩ = some (.int .i64 971) := K2.at 2; have q3 : w4.cell? ⟨w1.heap.size, 3, none⟩ = some (.int .i64 52) := K2.at 3)
      | (go_at_call 44; (with_reducible refine (G _).mono ?_); rintro x w4 ⟨rfl, b4⟩; replace K2 := K2.below b4 K2.lt; replace pr := bel pr b4; clear b4; have q0 : w4.cell? ⟨w1.heap.size, 0, none⟩ = some (.int .i64 53) := K2.at 0; have q1 : w4.cell? ⟨w1.heap.size, 1, none⟩ = some (.int .i64 (-1074)) := K2.at 1; have q2 : w4.cell? ⟨w1.heap.size, 2, none⟩ = some (.int .i64 971) := K2.at 2; have q3 : w4.cell? ⟨w1.heap.size, 3, none⟩ = some (.int .i64 52) := K2.at 3)
      | (go_at_call 44; (with_reducible refine (G _).mono ?_); rintro x w4 ⟨rfl, b4⟩; obtain ⟨b5, K2⟩ := var4 b4; clear b4; replace pr := bel pr b5; clear b5; have q0 : w4.cell? ⟨w1.heap.size, 0, none⟩ = some (.int .i64 53) := K2.at 0; have q1 : w4.cell? ⟨w1.heap.size, 1, none⟩ = some (.int .i64 (-1074)) := K2.at 1; have q2 : w4.cell? ⟨w1.heap.size, 2, none⟩ = some (.int .i64 971) := K2.at 2; have q3 : w4.cell? ⟨w1.heap.size, 3, none⟩ = some (.int .i64 52) := K2.at 3)
      | fail)
    go_ret
    exact ⟨rfl, pr⟩
  · rw [g] at G s
    rw [if_pos rfl]
    obtain ⟨m, hm⟩ : ∃ m, m = n - 1 := ⟨_, rfl⟩
    rw [← hm]
    have hw : IntKind.u64.wrap ((n : Int) - 1) = (m : Int) := by rw [wu64 _ (by omega) (by omega)]; omega
    clear hm s rn i1 z1 h1 h2 g
    go_enter Try.func25, Try.ntmps25
    go_wp2_with (first
      | (go_at_call 10; refine (Wide_any _).mono ?_; rintro x w1 ⟨rfl, b1⟩; have pr := b1; clear b1; have m0 := Blk.new w1 #[.int .i64 53, .int .i64 (-1074), .int .i64 971, .int .i64 52] 31; have q0 : (w1.alloc (.cells #[.int .i64 53, .int .i64 (-1074), .int .i64 971, .int .i64 52] 31)).cell? ⟨w1.heap.size, 0, none⟩ = some (.int .i64 53) := m0.at 0; have q1 : (w1.alloc (.cells #[.int .i64 53, .int .i64 (-1074), .int .i64 971, .int .i64 52] 31)).cell? ⟨w1.heap.size, 1, none⟩ = some (.int .i64 (-1074)) := m0.at 1; have q2 : (w1.alloc (.cells #[.int .i64 53, .int .i64 (-1074), .int .i64 971, .int .i64 52] 31)).cell? ⟨w1.heap.size, 2, none⟩ = some (.int .i64 971) := m0.at 2; have q3 : (w1.alloc (.cells #[.int .i64 53, .int .i64 (-1074), .int .i64 971, .int .i64 52] 31)).cell? ⟨w1.heap.size, 3, none⟩ = some (.int .i64 52) := m0.at 3; clear m0)
      | (go_at_call 51; (with_reducible refine (N _).mono ?_); rintro x w4 ⟨rfl, b4⟩; replace K2 := K2.below b4 K2.lt; replace pr := bel pr b4; clear b4; have q0 : w4.cell? ⟨w1.heap.size, 0, none⟩ = some (.int .i64 53) := K2.at 0; have q1 : w4.cell? ⟨w1.heap.size, 1, none⟩ = some (.int .i64 (-1074)) := K2.at 1; have q2 : w4.cell? ⟨w1.heap.size, 2, none⟩ = some (.int .i64 971) := K2.at 2; have q3 : w4.cell? ⟨w1.heap.size, 3, none⟩ = some (.int .i64 52) := K2.at 3)
      | (go_at_call 51; (with_reducible refine (N _).mono ?_); rintro x w4 ⟨rfl, b4⟩; obtain ⟨b5, K2⟩ := var4 b4; clear b4; replace pr := bel pr b5; clear b5; have q0 : w4.cell? ⟨w1.heap.size, 0, none⟩ = some (.int .i64 53) := K2.at 0; have q1 : w4.cell? ⟨w1.heap.size, 1, none⟩ = some (.int .i64 (-1074)) := K2.at 1; have q2 : w4.cell? ⟨w1.heap.size, 2, none⟩ = some (.int .i64 971) := K2.at 2; have q3 : w4.cell? ⟨w1.heap.size, 3, none⟩ = some (.int .i64 52) := K2.at 3)
      | (go_at_call 49; (with_reducible refine (I _).mono ?_); rintro x w4 ⟨rfl, b4⟩; replace K2 := K2.below b4 K2.lt; replace pr := bel pr b4; clear b4; have q0 : w4.cell? ⟨w1.heap.size, 0, none⟩ = some (.int .i64 53) := K2.at 0; have q1 : w4.cell? ⟨w1.heap.size, 1, none⟩ = some (.int .i64 (-1074)) := K2.at 1; have q2 : w4.cell? ⟨w1.heap.size, 2, none⟩ = some (.int .i64 971) := K2.at 2; have q3 : w4.cell? ⟨w1.heap.size, 3, none⟩ = some (.int .i64 52) := K2.at 3)
      | (go_at_call 49; (with_reducible refine (I _).mono ?_); rintro x w4 ⟨rfl, b4⟩; obtain ⟨b5, K2⟩ := var4 b4; clear b4; replace pr := bel pr b5; clear b5; have q0 : w4.cell? ⟨w1.heap.size, 0, none⟩ = some (.int .i64 53) := K2.at 0; have q1 : w4.cell? ⟨w1.heap.size, 1, none⟩ = some (.int .i64 (-1074)) := K2.at 1; have q2 : w4.cell? ⟨w1.heap.size, 2, none⟩ = some (.int .i64 971) := K2.at 2; have q3 : w4.cell? ⟨w1.heap.size, 3, none⟩ = some (.int .i64 52) := K2.at 3)
      | (go_at_call 44; (with_reducible refine (G _).mono ?_); rintro x w4 ⟨rfl, b4⟩; replace K2 := K2.below b4 K2.lt; replace pr := bel pr b4; clear b4; have q0 : w4.cell? ⟨w1.heap.size, 0, none⟩ = some (.int .i64 53) := K2.at 0; have q1 : w4.cell? ⟨w1.heap.size, 1, none⟩ = some (.int .i64 (-1074)) := K2.at 1; have q2 : w4.cell? ⟨w1.heap.size, 2, none⟩ = some (.int .i64 971) := K2.at 2; have q3 : w4.cell? ⟨w1.heap.size, 3, none⟩ = some (.int .i64 52) := K2.at 3)
      | (go_at_call 44; (with_reducible refine (G _).mono ?_); rintro x w4 ⟨rfl, b4⟩; obtain ⟨b5, K2⟩ := var4 b4; clear b4; replace pr := bel pr b5; clear b5; have q0 : w4.cell? ⟨w1.heap.size, 0, none⟩ = some (.int .i64 53) := K2.at 0; have q1 : w4.cell? ⟨w1.heap.size, 1, none⟩ = some (.int .i64 (-1074)) := K2.at 1; have q2 : w4.cell? ⟨w1.heap.size, 2, none⟩ = some (.int .i64 971) := K2.at 2; have q3 : w4.cell? ⟨w1.heap.size, 3, none⟩ = some (.int .i64 52) := K2.at 3)
      | fail)
    go_ret
    exact ⟨rfl, pr⟩
end Go.Proofs.Ytfpmegfdopnnpaa

namespace Go.Proofs.Ytfpmegfdopnnpaa
open Go.RowKit Tn

/-- The bits that a size of one word, times 2 to the E, comes to. -/
def rouW (g : Bool) (m E way : Int) : Int := (L.laidW g (cutF (m * 2 ^ (64 - L.bl m)) (L.canW m E - E + (64 - L.bl m : Nat)).toNat false g way).1 (L.canW m E) way).1
/-- The bits that parts come to. -/
def movW (p : Int × Bool × Int × Int) (way : Int) : Int := if p.1 = 4 then 9221120237041090560 else if p.1 = 3 then L.sgnW p.2.1 9218868437227405312 else if p.1 = 0 then L.sgnW p.2.1 0 else rouW p.2.1 p.2.2.1 p.2.2.2 way
/-- The bits that a size of one word, times 2 to the E, comes to. -/
def rouS (g : Bool) (m E way : Int) : Int := (L.laidS g (cutF (m * 2 ^ (64 - L.bl m)) (L.canS m E - E + (64 - L.bl m : Nat)).toNat false g way).1 (L.canS m E) way).1
/-- The bits that parts come to. -/
def movS (p : Int × Bool × Int × Int) (way : Int) : Int := if p.1 = 4 then 2143289344 else if p.1 = 3 then L.sgnS p.2.1 2139095040 else if p.1 = 0 then L.sgnS p.2.1 0 else rouS p.2.1 p.2.2.1 p.2.2.2 way
/-- The bits of a small float, made a float. -/
def wid (g : Bool) (m E : Int) : Int := L.sgnW g (m * 2 ^ (53 - L.bl m) + (E + L.bl m + 1021) * 4503599627370496)
theorem bl24 {m : Int} (m0 : 0 < m) (m1 : m < 16777216) : 1 ≤ L.bl m ∧ L.bl m ≤ 24 := by
  obtain ⟨b1, b0, b2⟩ := L.bl_pos m0
  refine ⟨b0, ?_⟩
  have : L.bl m - 1 < 24 := L.pow_lt (by have e : (2 : Int) ^ 24 = 16777216 := by decide
                                         omega)
  omega
theorem wid_size {m : Int} (m0 : 0 < m) (m1 : m < 16777216) : 4503599627370496 ≤ m * 2 ^ (53 - L.bl m) ∧ m * 2 ^ (53 - L.bl m) < 9007199254740992 := by
  obtain ⟨b1, b2⟩ := bl24 m0 m1
  obtain ⟨c1, c0, c2⟩ := L.bl_pos m0
  have t := L.two_pow_pos (53 - L.bl m)
  have u1 := Int.mul_lt_mul_of_pos_right c1 t
  have u2 := Int.mul_le_mul_of_nonneg_right c2 (Int.le_of_lt t)
  rw [← Int.pow_add] at u1 u2
  rw [show L.bl m + (53 - L.bl m) = 53 from by omega] at u1
  rw [show L.bl m - 1 + (53 - L.bl m) = 52 from by omega] at u2
  have e1 : (2 : Int) ^ 53 = 9007199254740992 := by decide
  have e2 : (2 : Int) ^ 52 = 4503599627370496 := by decide
  omega
theorem rou_wid (g : Bool) (m E way : Int) (m0 : 0 < m) (m1 : m < 16777216) (e0 : -149 ≤ E) (e1 : E ≤ 104) : rouW g m E way = wid g m E := by
  obtain ⟨b1, b2⟩ := bl24 m0 m1
  obtain ⟨s1, s2⟩ := wid_size m0 m1
  have hc : L.canW m E = E + L.bl m - 53 := by unfold L.canW; omega
  unfold rouW wid
  rw [hc, show (E + (L.bl m : Int) - 53 - E + (64 - L.bl m : Nat)).toNat = 11 from by omega]
  have hH : m * 2 ^ (64 - L.bl m) = m * 2 ^ (53 - L.bl m) * 2 ^ 11 := by rw [Int.mul_assoc, ← Int.pow_add]; congr 2; omega
  rw [hH]
  generalize m * 2 ^ (53 - L.bl m) = M at *
  have cu : cutF (M * 2 ^ 11) 11 false g way = (M, true) := by
    unfold cutF
    rw [if_pos ⟨Int.mul_emod_left M (2 ^ 11), rfl⟩, Int.mul_ediv_cancel M (by decide)]
  rw [cu]
  unfold L.laidW L.endW L.layW
  simp only
  rw [if_neg (by omega), if_neg (by omega), if_pos s1]
  simp only
  congr 1
  omega
theorem cut_none (g : Bool) (n : Nat) : Ieee.Toward.even.cut g n 0 = n := by
  unfold Ieee.Toward.cut
  simp [Nat.mod_one]
theorem dbl_lp : Ieee.double.leastPlace = -1074 := by decide
theorem dbl_bi : Ieee.double.binade = 4503599627370496 := by decide
theorem dbl_ir : Ieee.double.infRung = 9218868437227405312 := by decide
theorem dbl_sw : Ieee.double.signWeight = 9223372036854775808 := by decide
theorem dbl_fb : Ieee.double.fractionBits = 52 := rfl
theorem write_num (f : Ieee.Format) (g : Bool) (m : Nat) (E : Int) (m0 : 0 < m) : f.write (.number g m E) = f.word g (min ((max (E + m.log2 - f.fractionBits) f.leastPlace - f.leastPlace).toNat * f.binade + Ieee.Toward.even.cut g (m <<< (E - max (E + m.log2 - f.fractionBits) f.leastPlace).toNat) ((max (E + m.log2 - f.fractionBits) f.leastPlace) - E).toNat) f.infRung) := by
  unfold Ieee.Format.write
  simp only
  unfold Ieee.Format.nearest
  rw [if_neg (Nat.ne_of_gt m0)]
theorem word_sgn (f : Ieee.Format) (g : Bool) (x : Nat) (h : f.signWeight = 9223372036854775808) : (f.word g x : Int) = L.sgnW g x := by
  unfold Ieee.Format.word L.sgnW
  rw [h]
  cases g
  · simp only [Bool.false_eq_true, if_false]
  · simp only [if_true]; omega
theorem write_core (f : Ieee.Format) (g : Bool) (m l : Nat) (E : Int) (m0 : 0 < m) (hl : m.log2 = l) (lp : f.leastPlace = -1074) (bi : f.binade = 4503599627370496) (ir : f.infRung = 9218868437227405312) (sw : f.signWeight = 9223372036854775808) (fb : f.fractionBits = 52) (l1 : l ≤ 23) (e0 : -149 ≤ E) (e1 : E ≤ 104) (M : Nat) (hM : m * 2 ^ (52 - l) = M) (s2 : M < 9007199254740992) :
    (f.write (.number g m E) : Int) = L.sgnW g (M + (E + l + 1022) * 4503599627370496) := by
  rw [write_num f g m E m0, word_sgn f g _ sw, lp, bi, ir, fb, hl, show max (E + (l : Int) - ((52 : Nat) : Int)) (-1074) = E + l - 52 from by omega, show (E + (l : Int) - 52 - E).toNat = 0 from by omega, cut_none, show (E - (E + (l : Int) - 52)).toNat = 52 - l from by omega, Nat.shiftLeft_eq, hM,
    Nat.min_eq_left (show (E + (l : Int) - 52 - -1074).toNat * 4503599627370496 + M ≤ 9218868437227405312 by omega)]
  congr 1
  omega
theorem enc_num (g : Bool) (m : Nat) (E : Int) (m0 : 0 < m) (m1 : m < 16777216) (e0 : -149 ≤ E) (e1 : E ≤ 104) : (Ieee.double.write (.number g m E) : Int) = wid g m E := by
  have hb : L.bl (m : Int) = m.log2 + 1 := by unfold L.bl; rw [if_neg (by omega), Int.toNat_natCast]
  obtain ⟨b1, b2⟩ := bl24 (m := m) (by omega) (by omega)
  obtain ⟨s1, s2⟩ := wid_size (m := m) (by omega) (by omega)
  unfold wid
  rw [hb] at b1 b2 s1 s2 ⊢
  have c : ((m * 2 ^ (52 - m.log2) : Nat) : Int) = (m : Int) * 2 ^ (53 - (m.log2 + 1)) := by rw [show 53 - (m.log2 + 1) = 52 - m.log2 from by omega]; simp
  have := write_core Ieee.double g m m.log2 E m0 rfl dbl_lp dbl_bi dbl_ir dbl_sw dbl_fb (by omega) e0 e1 _ rfl (by omega)
  rw [this, c]
  congr 1
  omega
theorem wid_bd (g : Bool) (m E : Int) (m0 : 0 < m) (m1 : m < 16777216) (e0 : -149 ≤ E) (e1 : E ≤ 104) : 0 ≤ wid g m E ∧ wid g m E < 18446744073709551616 ∧ wid g m E % 9223372036854775808 < 9218868437227405312 := by
  obtain ⟨b1, b2⟩ := bl24 m0 m1
  obtain ⟨s1, s2⟩ := wid_size m0 m1
  unfold wid L.sgnW
  cases g
  · simp only [Bool.false_eq_true, if_false]; omega
  · simp only [if_true]; omega
theorem not_inf (r : Nat) (h : r % 9223372036854775808 < 9218868437227405312) : (Ieee.double.read r).isInfinity = false := by
  have h' : rg64 r < 9218868437227405312 := h
  rw [read64]
  by_cases a : rg64 r < 4503599627370496
  · rw [if_pos a]; rfl
  · rw [if_neg a, if_pos h']; rfl
theorem read32 (n : Nat) : Ieee.single.read n = if n % 2147483648 < 8388608 then .number (n / 2147483648 % 2 == 1) (n % 2147483648) (-149)
    else if n % 2147483648 < 2139095040 then .number (n / 2147483648 % 2 == 1) (8388608 + n % 2147483648 % 8388608) (-149 + ((n % 2147483648 / 8388608 - 1 : Nat) : Int))
    else if n % 2147483648 = 2139095040 then .infinity (n / 2147483648 % 2 == 1) else .nan (n / 2147483648 % 2 == 1) (n % 2147483648 - 2139095040) := rfl
theorem sg_eq (n : Nat) : (n / 2147483648 % 2 == 1) = sgS n := by
  unfold sgS
  rw [Bool.eq_iff_iff, decide_eq_true_iff, beq_iff_eq]
theorem movW_1 (g : Bool) (m E way : Int) : movW (1, g, m, E) way = rouW g m E way := by simp only [movW, show ¬ (1 : Int) = 4 from by decide, show ¬ (1 : Int) = 3 from by decide, show ¬ (1 : Int) = 0 from by decide, if_false]
theorem movW_2 (g : Bool) (m E way : Int) : movW (2, g, m, E) way = rouW g m E way := by simp only [movW, show ¬ (2 : Int) = 4 from by decide, show ¬ (2 : Int) = 3 from by decide, show ¬ (2 : Int) = 0 from by decide, if_false]
theorem enc_zero (g : Bool) : (FloatKind.f64.decode (FloatKind.f64.encode (.number g (0 + 0) (-149)))).isInfinity = false := by cases g <;> decide
/-- What float64 makes of a small float that is no NaN. -/
theorem widen_bits (c : Nat) (h : (splS c).1 ≠ 4) (way : Int) : 0 ≤ movW (splS c) way ∧ movW (splS c) way < 18446744073709551616 ∧ floatToFloatBits .f32 c .f64 = some (movW (splS c) way).toNat := by
  have f1 : fdS c < 256 := Nat.mod_lt _ (by decide)
  have f2 : frS c < 8388608 := Nat.mod_lt _ (by decide)
  have d1 : c % 2147483648 = fdS c * 8388608 + frS c := by unfold fdS frS; omega
  have num : ∀ (m : Nat) (E : Int), 0 < m → m < 16777216 → -149 ≤ E → E ≤ 104 → FloatKind.f32.decode c = .number (sgS c) m E → 0 ≤ rouW (sgS c) m E way ∧ rouW (sgS c) m E way < 18446744073709551616 ∧ floatToFloatBits .f32 c .f64 = some (rouW (sgS c) m E way).toNat := by
    intro m E m0 m1 e0 e1 hd
    have r := rou_wid (sgS c) m E way (by omega) (by omega) e0 e1
    have b := wid_bd (sgS c) m E (by omega) (by omega) e0 e1
    have en := enc_num (sgS c) m E m0 m1 e0 e1
    rw [r]
    refine ⟨b.1, b.2.1, ?_⟩
    unfold floatToFloatBits
    rw [if_neg (by decide), hd]
    have x : FloatKind.f64.encode (.number (sgS c) m E) = (wid (sgS c) m E).toNat := by
      show Ieee.double.write _ = _
      omega
    simp only [x]
    have ni : (FloatKind.f64.decode (wid (sgS c) m E).toNat).isInfinity = false := not_inf _ (by omega)
    rw [ni]; rfl
  unfold splS at h ⊢
  have rd : FloatKind.f32.decode c = Ieee.single.read c := rfl
  rw [read32, sg_eq, d1] at rd
  by_cases a : fdS c = 255
  · rw [if_pos a] at h ⊢
    by_cases b : frS c = 0
    · rw [if_pos b]
      rw [a, b, if_neg (by decide), if_neg (by decide), if_pos (by decide)] at rd
      have e : floatToFloatBits .f32 c .f64 = some (FloatKind.f64.encode (.infinity (sgS c))) := by
        unfold floatToFloatBits
        rw [if_neg (by decide), rd]
      have e2 : movW (3, sgS c, 0, 0) way = L.sgnW (sgS c) 9218868437227405312 := by unfold movW; simp
      rw [e, e2]
      cases sgS c <;> decide
    · rw [if_neg b] at h; exact absurd rfl h
  · rw [if_neg a] at h ⊢
    by_cases b : fdS c = 0
    · rw [if_pos b]
      rw [b, if_pos (by omega)] at rd
      by_cases z : frS c = 0
      · rw [if_pos z]
        rw [z, Nat.zero_mul] at rd
        have e : floatToFloatBits .f32 c .f64 = some (FloatKind.f64.encode (.number (sgS c) 0 (-149))) := by
          unfold floatToFloatBits
          rw [if_neg (by decide), rd]
          exact if_neg (by rw [enc_zero]; decide)
        have e2 : movW (0, sgS c, 0, 0) way = L.sgnW (sgS c) 0 := by unfold movW; simp
        rw [e, e2]
        cases sgS c <;> decide
      · rw [if_neg z]
        have := num (frS c) (-149) (by omega) (by omega) (by decide) (by decide) (by rw [rd, Nat.zero_mul, Nat.zero_add])
        rw [movW_1]
        exact this
    · rw [if_neg b]
      rw [if_neg (by omega), if_pos (by omega)] at rd
      have := num (frS c + 8388608) ((fdS c : Int) - 1 - 149) (by omega) (by omega) (by omega) (by omega) (by rw [rd, show 8388608 + (fdS c * 8388608 + frS c) % 8388608 = frS c + 8388608 from by omega, show -149 + (((fdS c * 8388608 + frS c) / 8388608 - 1 : Nat) : Int) = (fdS c : Int) - 1 - 149 from by omega])
      rw [show ((frS c + 8388608 : Nat) : Int) = (frS c : Int) + 8388608 from by omega] at this
      rw [movW_2]
      exact this
end Go.Proofs.Ytfpmegfdopnnpaa

namespace Go.Proofs.Ytfpmegfdopnnpaa.L
open Go.RowKit Tl
theorem field_kind (k m e : Int) (g : Bool) (w : World) : (Instr.field 25 (.agg #[.int .i64 k, .bool g, .int .u64 m, .int .i64 e]) 0).run Try.prog w = .ok (.int .i64 k) w := by
  simp [Instr.field, run_underlying Try.underlying25, asAgg, part, Try.sizeOf3, go_sem]
theorem field_exp (k m e : Int) (g : Bool) (w : World) : (Instr.field 25 (.agg #[.int .i64 k, .bool g, .int .u64 m, .int .i64 e]) 3).run Try.prog w = .ok (.int .i64 e) w := by
  simp [Instr.field, run_underlying Try.underlying25, asAgg, part, Try.sizeOf3, go_sem]
end Go.Proofs.Ytfpmegfdopnnpaa.L
