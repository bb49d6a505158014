import Derived.Test.YtfpmegfdopnnpaaPart24
import Derived.Test.YtfpmegfdopnnpaaPart13
import Derived.Test.YtfpmegfdopnnpaaPart14
import Derived.Test.YtfpmegfdopnnpaaPart19

namespace Go.Proofs.Ytfpmegfdopnnpaa
open Go.RowKit Tn

theorem isWay_not (way : Int) (h : ¬ (1 ≤ way ∧ way ≤ 6)) (w : World) : Calls Try.prog 52 #[.int .i64 way] w fun e w' => e = .returned (.bool false) ∧ w' = w := by
  by_cases a : way < 1
  · exact IsWay_low way a w
  · exact IsWay_high way (by omega) w
set_option maxRecDepth 100000 in
set_option maxHeartbeats 1600000 in
theorem FWhole_no (n : Nat) (way : Int) (I : ∀ w, Calls Try.prog 52 #[.int .i64 way] w fun e w' => e = .returned (.bool false) ∧ w' = w) (w : World) :
    Calls Try.prog 36 #[.float .f64 n, .int .i64 way] w fun e w' => e = .returned (.tuple #[.int .i64 0, .int .i64 1]) ∧ Below w.heap.size w w' := by
  go_enter Try.func36, Try.ntmps36
  go_wp2_with (first
    | (go_at_call 52; (with_reducible refine (I _).mono ?_); rintro e w0 ⟨rfl, rfl⟩)
    | fail)
  exact bodyPost_ret (v := .tuple #[.int .i64 0, .int .i64 1]) (by simp [results, Try.results36, go_sem]) rfl ⟨rfl, Below.refl _ _⟩
set_option maxRecDepth 100000 in
set_option maxHeartbeats 1600000 in
theorem FWhole_infinite (n : Nat) (way k m E : Int) (g : Bool) (I : ∀ w, Calls Try.prog 52 #[.int .i64 way] w fun e w' => e = .returned (.bool true) ∧ w' = w)
    (S : ∀ w, Calls Try.prog 8 #[.float .f64 n] w fun e w' => e = .returned (.agg #[.int .i64 k, .bool g, .int .u64 m, .int .i64 E]) ∧ Below w.heap.size w w')
    (F : ∀ w, Calls Try.prog 65 #[.agg #[.int .i64 k, .bool g, .int .u64 m, .int .i64 E]] w fun e w' => e = .returned (.bool false) ∧ Below w.heap.size w w') (w : World) :
    Calls Try.prog 36 #[.float .f64 n, .int .i64 way] w fun e w' => e = .returned (.tuple #[.int .i64 0, .int .i64 20]) ∧ Below w.heap.size w w' := by
  have pr := Below.refl w.heap.size w
  go_enter Try.func36, Try.ntmps36
  go_wp2_with (first
    | (go_at_call 52; (with_reducible refine (I _).mono ?_); rintro e w0 ⟨rfl, rfl⟩)
    | (go_at_call 8; (with_reducible refine (S _).mono ?_); (rintro e w1 ⟨rfl, b1⟩; have K0 := Blk.new w1 #[.int .i64 k, .bool g, .int .u64 m, .int .i64 E] 25; replace pr := (bel pr b1); replace pr := pr.alloc pr.size (.cells #[.int .i64 k, .bool g, .int .u64 m, .int .i64 E] 25); clear b1; have c0 : (w1.alloc (.cells #[.int .i64 k, .bool g, .int .u64 m, .int .i64 E] 25)).cell? ⟨w1.heap.size, 0, none⟩ = some (.int .i64 k) := K0.at 0; have c1 : (w1.alloc (.cells #[.int .i64 k, .bool g, .int .u64 m, .int .i64 E] 25)).cell? ⟨w1.heap.size, 1, none⟩ = some (.bool g) := K0.at 1; have c2 : (w1.alloc (.cells #[.int .i64 k, .bool g, .int .u64 m, .int .i64 E] 25)).cell? ⟨w1.heap.size, 2, none⟩ = some (.int .u64 m) := K0.at 2; have c3 : (w1.alloc (.cells #[.int .i64 k, .bool g, .int .u64 m, .int .i64 E] 25)).cell? ⟨w1.heap.size, 3, none⟩ = some (.int .i64 E) := K0.at 3))
    | (go_at_call 65; (with_reducible refine (F _).mono ?_); (rintro e w2 ⟨rfl, b2⟩; replace K0 := K0.below b2 K0.lt; replace pr := bel pr b2; clear b2; have c0 : w2.cell? ⟨w1.heap.size, 0, none⟩ = some (.int .i64 k) := K0.at 0; have c1 : w2.cell? ⟨w1.heap.size, 1, none⟩ = some (.bool g) := K0.at 1; have c2 : w2.cell? ⟨w1.heap.size, 2, none⟩ = some (.int .u64 m) := K0.at 2; have c3 : w2.cell? ⟨w1.heap.size, 3, none⟩ = some (.int .i64 E) := K0.at 3))
    | fail)
  exact bodyPost_ret (v := .tuple #[.int .i64 0, .int .i64 20]) (by simp [results, Try.results36, go_sem]) rfl ⟨rfl, pr⟩
set_option maxRecDepth 100000 in
set_option maxHeartbeats 1600000 in
theorem FWhole_neg (n : Nat) (way k m E N : Int) (I : ∀ w, Calls Try.prog 52 #[.int .i64 way] w fun e w' => e = .returned (.bool true) ∧ w' = w)
    (S : ∀ w, Calls Try.prog 8 #[.float .f64 n] w fun e w' => e = .returned (.agg #[.int .i64 k, .bool true, .int .u64 m, .int .i64 E]) ∧ Below w.heap.size w w')
    (F : ∀ w, Calls Try.prog 65 #[.agg #[.int .i64 k, .bool true, .int .u64 m, .int .i64 E]] w fun e w' => e = .returned (.bool true) ∧ Below w.heap.size w w')
    (WS : ∀ w, Calls Try.prog 69 #[.agg #[.int .i64 k, .bool true, .int .u64 m, .int .i64 E], .int .i64 way] w fun e w' => e = .returned (.tuple #[.int .u64 N, .bool true]) ∧ Below w.heap.size w w') (h : N ≤ 9223372036854775808) (n0 : 0 ≤ N) (w : World) :
    Calls Try.prog 36 #[.float .f64 n, .int .i64 way] w fun e w' => e = .returned (.tuple #[.int .i64 (-N), .int .i64 0]) ∧ Below w.heap.size w w' := by
  have e1 : IntKind.i64.wrap (IntKind.u64.wrap (-N)) = -N := by rw [IntKind.wrap_u64]; simp [IntKind.wrap, IntKind.bits, IntKind.signed]; omega
  have d1 : decide (N ≤ 9223372036854775808) = true := decide_eq_true h
  clear h n0
  have pr := Below.refl w.heap.size w
  go_enter Try.func36, Try.ntmps36
  go_wp2_with (first
    | (go_at_call 52; (with_reducible refine (I _).mono ?_); rintro e w0 ⟨rfl, rfl⟩)
    | (go_at_call 8; (with_reducible refine (S _).mono ?_); (rintro e w1 ⟨rfl, b1⟩; have K0 := Blk.new w1 #[.int .i64 k, .bool true, .int .u64 m, .int .i64 E] 25; replace pr := (bel pr b1); replace pr := pr.alloc pr.size (.cells #[.int .i64 k, .bool true, .int .u64 m, .int .i64 E] 25); clear b1; have c0 : (w1.alloc (.cells #[.int .i64 k, .bool true, .int .u64 m, .int .i64 E] 25)).cell? ⟨w1.heap.size, 0, none⟩ = some (.int .i64 k) := K0.at 0; have c1 : (w1.alloc (.cells #[.int .i64 k, .bool true, .int .u64 m, .int .i64 E] 25)).cell? ⟨w1.heap.size, 1, none⟩ = some (.bool true) := K0.at 1; have c2 : (w1.alloc (.cells #[.int .i64 k, .bool true, .int .u64 m, .int .i64 E] 25)).cell? ⟨w1.heap.size, 2, none⟩ = some (.int .u64 m) := K0.at 2; have c3 : (w1.alloc (.cells #[.int .i64 k, .bool true, .int .u64 m, .int .i64 E] 25)).cell? ⟨w1.heap.size, 3, none⟩ = some (.int .i64 E) := K0.at 3))
    | (go_at_call 65; (with_reducible refine (F _).mono ?_); (rintro e w2 ⟨rfl, b2⟩; replace K0 := K0.below b2 K0.lt; replace pr := bel pr b2; clear b2; have c0 : w2.cell? ⟨w1.heap.size, 0, none⟩ = some (.int .i64 k) := K0.at 0; have c1 : w2.cell? ⟨w1.heap.size, 1, none⟩ = some (.bool true) := K0.at 1; have c2 : w2.cell? ⟨w1.heap.size, 2, none⟩ = some (.int .u64 m) := K0.at 2; have c3 : w2.cell? ⟨w1.heap.size, 3, none⟩ = some (.int .i64 E) := K0.at 3))
    | (go_at_call 69; (with_reducible refine (WS _).mono ?_); (rintro e w3 ⟨rfl, b3⟩; replace K0 := K0.below b3 K0.lt; replace pr := bel pr b3; clear b3; have c0 : w3.cell? ⟨w1.heap.size, 0, none⟩ = some (.int .i64 k) := K0.at 0; have c1 : w3.cell? ⟨w1.heap.size, 1, none⟩ = some (.bool true) := K0.at 1; have c2 : w3.cell? ⟨w1.heap.size, 2, none⟩ = some (.int .u64 m) := K0.at 2; have c3 : w3.cell? ⟨w1.heap.size, 3, none⟩ = some (.int .i64 E) := K0.at 3))
    | fail)
  exact bodyPost_ret (v := .tuple #[.int .i64 (-N), .int .i64 0]) (by simp [results, Try.results36, go_sem]) rfl ⟨rfl, pr⟩
set_option maxRecDepth 100000 in
set_option maxHeartbeats 1600000 in
theorem FWhole_neg_far (n : Nat) (way k m E N : Int) (I : ∀ w, Calls Try.prog 52 #[.int .i64 way] w fun e w' => e = .returned (.bool true) ∧ w' = w)
    (S : ∀ w, Calls Try.prog 8 #[.float .f64 n] w fun e w' => e = .returned (.agg #[.int .i64 k, .bool true, .int .u64 m, .int .i64 E]) ∧ Below w.heap.size w w')
    (F : ∀ w, Calls Try.prog 65 #[.agg #[.int .i64 k, .bool true, .int .u64 m, .int .i64 E]] w fun e w' => e = .returned (.bool true) ∧ Below w.heap.size w w')
    (WS : ∀ w, Calls Try.prog 69 #[.agg #[.int .i64 k, .bool true, .int .u64 m, .int .i64 E], .int .i64 way] w fun e w' => e = .returned (.tuple #[.int .u64 N, .bool true]) ∧ Below w.heap.size w w') (h : 9223372036854775808 < N) (w : World) :
    Calls Try.prog 36 #[.float .f64 n, .int .i64 way] w fun e w' => e = .returned (.tuple #[.int .i64 0, .int .i64 1]) ∧ Below w.heap.size w w' := by
  have d1 : decide (N ≤ 9223372036854775808) = false := decide_eq_false (by omega)
  clear h
  have pr := Below.refl w.heap.size w
  go_enter Try.func36, Try.ntmps36
  go_wp2_with (first
    | (go_at_call 52; (with_reducible refine (I _).mono ?_); rintro e w0 ⟨rfl, rfl⟩)
    | (go_at_call 8; (with_reducible refine (S _).mono ?_); (rintro e w1 ⟨rfl, b1⟩; have K0 := Blk.new w1 #[.int .i64 k, .bool true, .int .u64 m, .int .i64 E] 25; replace pr := (bel pr b1); replace pr := pr.alloc pr.size (.cells #[.int .i64 k, .bool true, .int .u64 m, .int .i64 E] 25); clear b1; have c0 : (w1.alloc (.cells #[.int .i64 k, .bool true, .int .u64 m, .int .i64 E] 25)).cell? ⟨w1.heap.size, 0, none⟩ = some (.int .i64 k) := K0.at 0; have c1 : (w1.alloc (.cells #[.int .i64 k, .bool true, .int .u64 m, .int .i64 E] 25)).cell? ⟨w1.heap.size, 1, none⟩ = some (.bool true) := K0.at 1; have c2 : (w1.alloc (.cells #[.int .i64 k, .bool true, .int .u64 m, .int .i64 E] 25)).cell? ⟨w1.heap.size, 2, none⟩ = some (.int .u64 m) := K0.at 2; have c3 : (w1.alloc (.cells #[.int .i64 k, .bool true, .int .u64 m, .int .i64 E] 25)).cell? ⟨w1.heap.size, 3, none⟩ = some (.int .i64 E) := K0.at 3))
    | (go_at_call 65; (with_reducible refine (F _).mono ?_); (rintro e w2 ⟨rfl, b2⟩; replace K0 := K0.below b2 K0.lt; replace pr := bel pr b2; clear b2; have c0 : w2.cell? ⟨w1.heap.size, 0, none⟩ = some (.int .i64 k) := K0.at 0; have c1 : w2.cell? ⟨w1.heap.size, 1, none⟩ = some (.bool true) := K0.at 1; have c2 : w2.cell? ⟨w1.heap.size, 2, none⟩ = some (.int .u64 m) := K0.at 2; have c3 : w2.cell? ⟨w1.heap.size, 3, none⟩ = some (.int .i64 E) := K0.at 3))
    | (go_at_call 69; (with_reducible refine (WS _).mono ?_); (rintro e w3 ⟨rfl, b3⟩; replace K0 := K0.below b3 K0.lt; replace pr := bel pr b3; clear b3; have c0 : w3.cell? ⟨w1.heap.size, 0, none⟩ = some (.int .i64 k) := K0.at 0; have c1 : w3.cell? ⟨w1.heap.size, 1, none⟩ = some (.bool true) := K0.at 1; have c2 : w3.cell? ⟨w1.heap.size, 2, none⟩ = some (.int .u64 m) := K0.at 2; have c3 : w3.cell? ⟨w1.heap.size, 3, none⟩ = some (.int .i64 E) := K0.at 3))
    | fail)
  exact bodyPost_ret (v := .tuple #[.int .i64 0, .int .i64 1]) (by simp [results, Try.results36, go_sem]) rfl ⟨rfl, pr⟩
set_option maxRecDepth 100000 in
set_option maxHeartbeats 1600000 in
theorem FWhole_pos (n : Nat) (way k m E N : Int) (I : ∀ w, Calls Try.prog 52 #[.int .i64 way] w fun e w' => e = .returned (.bool true) ∧ w' = w)
    (S : ∀ w, Calls Try.prog 8 #[.float .f64 n] w fun e w' => e = .returned (.agg #[.int .i64 k, .bool false, .int .u64 m, .int .i64 E]) ∧ Below w.heap.size w w')
    (F : ∀ w, Calls Try.prog 65 #[.agg #[.int .i64 k, .bool false, .int .u64 m, .int .i64 E]] w fun e w' => e = .returned (.bool true) ∧ Below w.heap.size w w')
    (WS : ∀ w, Calls Try.prog 69 #[.agg #[.int .i64 k, .bool false, .int .u64 m, .int .i64 E], .int .i64 way] w fun e w' => e = .returned (.tuple #[.int .u64 N, .bool true]) ∧ Below w.heap.size w w') (h : N < 9223372036854775808) (n0 : 0 ≤ N) (w : World) :
    Calls Try.prog 36 #[.float .f64 n, .int .i64 way] w fun e w' => e = .returned (.tuple #[.int .i64 N, .int .i64 0]) ∧ Below w.heap.size w w' := by
  have e1 : IntKind.i64.wrap N = N := w64 _ (by omega) (by omega)
  have d1 : decide (N < 9223372036854775808) = true := decide_eq_true h
  clear h n0
  have pr := Below.refl w.heap.size w
  go_enter Try.func36, Try.ntmps36
  go_wp2_with (first
    | (go_at_call 52; (with_reducible refine (I _).mono ?_); rintro e w0 ⟨rfl, rfl⟩)
    | (go_at_call 8; (with_reducible refine (S _).mono ?_); (rintro e w1 ⟨rfl, b1⟩; have K0 := Blk.new w1 #[.int .i64 k, .bool false, .int .u64 m, .int .i64 E] 25; replace pr := (bel pr b1); replace pr := pr.alloc pr.size (.cells #[.int .i64 k, .bool false, .int .u64 m, .int .i64 E] 25); clear b1; have c0 : (w1.alloc (.cells #[.int .i64 k, .bool false, .int .u64 m, .int .i64 E] 25)).cell? ⟨w1.heap.size, 0, none⟩ = some (.int .i64 k) := K0.at 0; have c1 : (w1.alloc (.cells #[.int .i64 k, .bool false, .int .u64 m, .int .i64 E] 25)).cell? ⟨w1.heap.size, 1, none⟩ = some (.bool false) := K0.at 1; have c2 : (w1.alloc (.cells #[.int .i64 k, .bool false, .int .u64 m, .int .i64 E] 25)).cell? ⟨w1.heap.size, 2, none⟩ = some (.int .u64 m) := K0.at 2; have c3 : (w1.alloc (.cells #[.int .i64 k, .bool false, .int .u64 m, .int .i64 E] 25)).cell? ⟨w1.heap.size, 3, none⟩ = some (.int .i64 E) := K0.at 3))
    | (go_at_call 65; (with_reducible refine (F _).mono ?_); (rintro e w2 ⟨rfl, b2⟩; replace K0 := K0.below b2 K0.lt; replace pr := bel pr b2; clear b2; have c0 : w2.cell? ⟨w1.heap.size, 0, none⟩ = some (.int .i64 k) := K0.at 0; have c1 : w2.cell? ⟨w1.heap.size, 1, none⟩ = some (.bool false) := K0.at 1; have c2 : w2.cell? ⟨w1.heap.size, 2, none⟩ = some (.int .u64 m) := K0.at 2; have c3 : w2.cell? ⟨w1.heap.size, 3, none⟩ = some (.int .i64 E) := K0.at 3))
    | (go_at_call 69; (with_reducible refine (WS _).mono ?_); (rintro e w3 ⟨rfl, b3⟩; replace K0 := K0.below b3 K0.lt; replace pr := bel pr b3; clear b3; have c0 : w3.cell? ⟨w1.heap.size, 0, none⟩ = some (.int .i64 k) := K0.at 0; have c1 : w3.cell? ⟨w1.heap.size, 1, none⟩ = some (.bool false) := K0.at 1; have c2 : w3.cell? ⟨w1.heap.size, 2, none⟩ = some (.int .u64 m) := K0.at 2; have c3 : w3.cell? ⟨w1.heap.size, 3, none⟩ = some (.int .i64 E) := K0.at 3))
    | fail)
  exact bodyPost_ret (v := .tuple #[.int .i64 N, .int .i64 0]) (by simp [results, Try.results36, go_sem]) rfl ⟨rfl, pr⟩
set_option maxRecDepth 100000 in
set_option maxHeartbeats 1600000 in
theorem FWhole_pos_far (n : Nat) (way k m E N : Int) (I : ∀ w, Calls Try.prog 52 #[.int .i64 way] w fun e w' => e = .returned (.bool true) ∧ w' = w)
    (S : ∀ w, Calls Try.prog 8 #[.float .f64 n] w fun e w' => e = .returned (.agg #[.int .i64 k, .bool false, .int .u64 m, .int .i64 E]) ∧ Below w.heap.size w w')
    (F : ∀ w, Calls Try.prog 65 #[.agg #[.int .i64 k, .bool false, .int .u64 m, .int .i64 E]] w fun e w' => e = .returned (.bool true) ∧ Below w.heap.size w w')
    (WS : ∀ w, Calls Try.prog 69 #[.agg #[.int .i64 k, .bool false, .int .u64 m, .int .i64 E], .int .i64 way] w fun e w' => e = .returned (.tuple #[.int .u64 N, .bool true]) ∧ Below w.heap.size w w') (h : 9223372036854775808 ≤ N) (w : World) :
    Calls Try.prog 36 #[.float .f64 n, .int .i64 way] w fun e w' => e = .returned (.tuple #[.int .i64 0, .int .i64 1]) ∧ Below w.heap.size w w' := by
  have d1 : decide (N < 9223372036854775808) = false := decide_eq_false (by omega)
  clear h
  have pr := Below.refl w.heap.size w
  go_enter Try.func36, Try.ntmps36
  go_wp2_with (first
    | (go_at_call 52; (with_reducible refine (I _).mono ?_); rintro e w0 ⟨rfl, rfl⟩)
    | (go_at_call 8; (with_reducible refine (S _).mono ?_); (rintro e w1 ⟨rfl, b1⟩; have K0 := Blk.new w1 #[.int .i64 k, .bool false, .int .u64 m, .int .i64 E] 25; replace pr := (bel pr b1); replace pr := pr.alloc pr.size (.cells #[.int .i64 k, .bool false, .int .u64 m, .int .i64 E] 25); clear b1; have c0 : (w1.alloc (.cells #[.int .i64 k, .bool false, .int .u64 m, .int .i64 E] 25)).cell? ⟨w1.heap.size, 0, none⟩ = some (.int .i64 k) := K0.at 0; have c1 : (w1.alloc (.cells #[.int .i64 k, .bool false, .int .u64 m, .int .i64 E] 25)).cell? ⟨w1.heap.size, 1, none⟩ = some (.bool false) := K0.at 1; have c2 : (w1.alloc (.cells #[.int .i64 k, .bool false, .int .u64 m, .int .i64 E] 25)).cell? ⟨w1.heap.size, 2, none⟩ = some (.int .u64 m) := K0.at 2; have c3 : (w1.alloc (.cells #[.int .i64 k, .bool false, .int .u64 m, .int .i64 E] 25)).cell? ⟨w1.heap.size, 3, none⟩ = some (.int .i64 E) := K0.at 3))
    | (go_at_call 65; (with_reducible refine (F _).mono ?_); (rintro e w2 ⟨rfl, b2⟩; replace K0 := K0.below b2 K0.lt; replace pr := bel pr b2; clear b2; have c0 : w2.cell? ⟨w1.heap.size, 0, none⟩ = some (.int .i64 k) := K0.at 0; have c1 : w2.cell? ⟨w1.heap.size, 1, none⟩ = some (.bool false) := K0.at 1; have c2 : w2.cell? ⟨w1.heap.size, 2, none⟩ = some (.int .u64 m) := K0.at 2; have c3 : w2.cell? ⟨w1.heap.size, 3, none⟩ = some (.int .i64 E) := K0.at 3))
    | (go_at_call 69; (with_reducible refine (WS _).mono ?_); (rintro e w3 ⟨rfl, b3⟩; replace K0 := K0.below b3 K0.lt; replace pr := bel pr b3; clear b3; have c0 : w3.cell? ⟨w1.heap.size, 0, none⟩ = some (.int .i64 k) := K0.at 0; have c1 : w3.cell? ⟨w1.heap.size, 1, none⟩ = some (.bool false) := K0.at 1; have c2 : w3.cell? ⟨w1.heap.size, 2, none⟩ = some (.int .u64 m) := K0.at 2; have c3 : w3.cell? ⟨w1.heap.size, 3, none⟩ = some (.int .i64 E) := K0.at 3))
    | fail)
  exact bodyPost_ret (v := .tuple #[.int .i64 0, .int .i64 1]) (by simp [results, Try.results36, go_sem]) rfl ⟨rfl, pr⟩
set_option maxRecDepth 100000 in
set_option maxHeartbeats 1600000 in
theorem FWhole_none (n : Nat) (way k m E N : Int) (g : Bool) (I : ∀ w, Calls Try.prog 52 #[.int .i64 way] w fun e w' => e = .returned (.bool true) ∧ w' = w)
    (S : ∀ w, Calls Try.prog 8 #[.float .f64 n] w fun e w' => e = .returned (.agg #[.int .i64 k, .bool g, .int .u64 m, .int .i64 E]) ∧ Below w.heap.size w w')
    (F : ∀ w, Calls Try.prog 65 #[.agg #[.int .i64 k, .bool g, .int .u64 m, .int .i64 E]] w fun e w' => e = .returned (.bool true) ∧ Below w.heap.size w w')
    (WS : ∀ w, Calls Try.prog 69 #[.agg #[.int .i64 k, .bool g, .int .u64 m, .int .i64 E], .int .i64 way] w fun e w' => e = .returned (.tuple #[.int .u64 N, .bool false]) ∧ Below w.heap.size w w') (w : World) :
    Calls Try.prog 36 #[.float .f64 n, .int .i64 way] w fun e w' => e = .returned (.tuple #[.int .i64 0, .int .i64 1]) ∧ Below w.heap.size w w' := by
  have pr := Below.refl w.heap.size w
  go_enter Try.func36, Try.ntmps36
  go_wp2_with (first
    | (go_at_call 52; (with_reducible refine (I _).mono ?_); rintro e w0 ⟨rfl, rfl⟩)
    | (go_at_call 8; (with_reducible refine (S _).mono ?_); (rintro e w1 ⟨rfl, b1⟩; have K0 := Blk.new w1 #[.int .i64 k, .bool g, .int .u64 m, .int .i64 E] 25; replace pr := (bel pr b1); replace pr := pr.alloc pr.size (.cells #[.int .i64 k, .bool g, .int .u64 m, .int .i64 E] 25); clear b1; have c0 : (w1.alloc (.cells #[.int .i64 k, .bool g, .int .u64 m, .int .i64 E] 25)).cell? ⟨w1.heap.size, 0, none⟩ = some (.int .i64 k) := K0.at 0; have c1 : (w1.alloc (.cells #[.int .i64 k, .bool g, .int .u64 m, .int .i64 E] 25)).cell? ⟨w1.heap.size, 1, none⟩ = some (.bool g) := K0.at 1; have c2 : (w1.alloc (.cells #[.int .i64 k, .bool g, .int .u64 m, .int .i64 E] 25)).cell? ⟨w1.heap.size, 2, none⟩ = some (.int .u64 m) := K0.at 2; have c3 : (w1.alloc (.cells #[.int .i64 k, .bool g, .int .u64 m, .int .i64 E] 25)).cell? ⟨w1.heap.size, 3, none⟩ = some (.int .i64 E) := K0.at 3))
    | (go_at_call 65; (with_reducible refine (F _).mono ?_); (rintro e w2 ⟨rfl, b2⟩; replace K0 := K0.below b2 K0.lt; replace pr := bel pr b2; clear b2; have c0 : w2.cell? ⟨w1.heap.size, 0, none⟩ = some (.int .i64 k) := K0.at 0; have c1 : w2.cell? ⟨w1.heap.size, 1, none⟩ = some (.bool g) := K0.at 1; have c2 : w2.cell? ⟨w1.heap.size, 2, none⟩ = some (.int .u64 m) := K0.at 2; have c3 : w2.cell? ⟨w1.heap.size, 3, none⟩ = some (.int .i64 E) := K0.at 3))
    | (go_at_call 69; (with_reducible refine (WS _).mono ?_); (rintro e w3 ⟨rfl, b3⟩; replace K0 := K0.below b3 K0.lt; replace pr := bel pr b3; clear b3; have c0 : w3.cell? ⟨w1.heap.size, 0, none⟩ = some (.int .i64 k) := K0.at 0; have c1 : w3.cell? ⟨w1.heap.size, 1, none⟩ = some (.bool g) := K0.at 1; have c2 : w3.cell? ⟨w1.heap.size, 2, none⟩ = some (.int .u64 m) := K0.at 2; have c3 : w3.cell? ⟨w1.heap.size, 3, none⟩ = some (.int .i64 E) := K0.at 3))
    | fail)
  exact bodyPost_ret (v := .tuple #[.int .i64 0, .int .i64 1]) (by simp [results, Try.results36, go_sem]) rfl ⟨rfl, pr⟩
set_option maxRecDepth 100000 in
set_option maxHeartbeats 1600000 in
theorem OfInt_no (n way : Int) (I : ∀ w, Calls Try.prog 52 #[.int .i64 way] w fun e w' => e = .returned (.bool false) ∧ w' = w) (w : World) :
    Calls Try.prog 38 #[.int .i64 n, .int .i64 way] w fun e w' => e = .returned (.tuple #[.float .f64 0, .int .i64 1]) ∧ Below w.heap.size w w' := by
  go_enter Try.func38, Try.ntmps38
  go_wp2_with (first
    | (go_at_call 52; (with_reducible refine (I _).mono ?_); rintro e w0 ⟨rfl, rfl⟩)
    | fail)
  exact bodyPost_ret (v := .tuple #[.float .f64 0, .int .i64 1]) (by simp [results, Try.results38, go_sem]) rfl ⟨rfl, Below.refl _ _⟩
set_option maxRecDepth 100000 in
set_option maxHeartbeats 1600000 in
theorem OfInt_pos (n way : Int) (N : Nat) (v : Value) (h0 : 0 ≤ n) (h1 : n < 9223372036854775808) (I : ∀ w, Calls Try.prog 52 #[.int .i64 way] w fun e w' => e = .returned (.bool true) ∧ w' = w)
    (O : ∀ w, Calls Try.prog 73 #[.bool false, .int .u64 n] w fun e w' => e = .returned v ∧ Below w.heap.size w w')
    (R : ∀ w, Calls Try.prog 53 #[fmtW, v, .int .i64 way] w fun r w' => ∃ F : Int, r = .returned (.tuple #[.int .u64 N, .int .i64 F]) ∧ Below w.heap.size w w') (w : World) :
    Calls Try.prog 38 #[.int .i64 n, .int .i64 way] w fun e w' => e = .returned (.tuple #[.float .f64 N, .int .i64 0]) ∧ Below w.heap.size w w' := by
  have e1 : IntKind.u64.wrap n = n := wu64 _ h0 (by omega)
  have d1 : decide (n < 0) = false := decide_eq_false (by omega)
  clear h0 h1
  have hb := f64frombits N
  have pr := Below.refl w.heap.size w
  go_enter Try.func38, Try.ntmps38
  go_wp2_with (first
    | (go_at_call 52; (with_reducible refine (I _).mono ?_); rintro e w0 ⟨rfl, rfl⟩)
    | (go_at_call 40; (with_reducible refine (floats_any _).mono ?_); (rintro e w1 ⟨rfl, b1⟩; replace pr := bel pr b1; clear b1))
    | (go_at_call 73; (with_reducible refine (O _).mono ?_); (rintro e w2 ⟨rfl, b2⟩; replace pr := bel pr b2; clear b2))
    | (go_at_call 53; (with_reducible refine (R _).mono ?_); (rintro e w3 ⟨F, rfl, b3⟩; replace pr := bel pr b3; clear b3))
    | fail)
  exact bodyPost_ret (v := .tuple #[.float .f64 N, .int .i64 0]) (by simp [results, Try.results38, go_sem]) rfl ⟨rfl, pr⟩
set_option maxRecDepth 100000 in
set_option maxHeartbeats 1600000 in
theorem OfInt_neg (n way : Int) (N : Nat) (v : Value) (h0 : n < 0) (h1 : -9223372036854775808 ≤ n) (I : ∀ w, Calls Try.prog 52 #[.int .i64 way] w fun e w' => e = .returned (.bool true) ∧ w' = w)
    (O : ∀ w, Calls Try.prog 73 #[.bool true, .int .u64 (-n)] w fun e w' => e = .returned v ∧ Below w.heap.size w w')
    (R : ∀ w, Calls Try.prog 53 #[fmtW, v, .int .i64 way] w fun r w' => ∃ F : Int, r = .returned (.tuple #[.int .u64 N, .int .i64 F]) ∧ Below w.heap.size w w') (w : World) :
    Calls Try.prog 38 #[.int .i64 n, .int .i64 way] w fun e w' => e = .returned (.tuple #[.float .f64 N, .int .i64 0]) ∧ Below w.heap.size w w' := by
  have e1 : IntKind.u64.wrap n = n + 18446744073709551616 := by rw [IntKind.wrap_u64]; omega
  have e2 : IntKind.u64.wrap (-(n + 18446744073709551616)) = -n := by rw [IntKind.wrap_u64]; omega
  have d1 : decide (n < 0) = true := decide_eq_true h0
  clear h0 h1
  have hb := f64frombits N
  have pr := Below.refl w.heap.size w
  go_enter Try.func38, Try.ntmps38
  go_wp2_with (first
    | (go_at_call 52; (with_reducible refine (I _).mono ?_); rintro e w0 ⟨rfl, rfl⟩)
    | (go_at_call 40; (with_reducible refine (floats_any _).mono ?_); (rintro e w1 ⟨rfl, b1⟩; replace pr := bel pr b1; clear b1))
    | (go_at_call 73; (with_reducible refine (O _).mono ?_); (rintro e w2 ⟨rfl, b2⟩; replace pr := bel pr b2; clear b2))
    | (go_at_call 53; (with_reducible refine (R _).mono ?_); (rintro e w3 ⟨F, rfl, b3⟩; replace pr := bel pr b3; clear b3))
    | fail)
  exact bodyPost_ret (v := .tuple #[.float .f64 N, .int .i64 0]) (by simp [results, Try.results38, go_sem]) rfl ⟨rfl, pr⟩
end Go.Proofs.Ytfpmegfdopnnpaa

namespace Go.Proofs.Ytfpmegfdopnnpaa
open Go.RowKit Tn

/-- The whole number that a finite float comes to. -/
def whZ (p : Int × Bool × Int × Int) (way : Int) : Int := if p.2.2.2 < 0 then L.sgI p.2.1 (cutF p.2.2.1 (-p.2.2.2).toNat false p.2.1 way).1 else L.sgI p.2.1 (p.2.2.1 * 2 ^ p.2.2.2.toNat)
/-- What is told of it. -/
def wres (Z : Int) : Int × Int := if -9223372036854775808 ≤ Z ∧ Z < 9223372036854775808 then (Z, 0) else (0, 1)
theorem mk_qs2 {n : Int} {d K : Nat} (hd : 0 < d) (h1 : (n.natAbs : Int) < Tl.pw K) (h2 : (d : Int) < Tl.pw K) : L.QS (mkRat n d) K := by
  have d0 : d ≠ 0 := by omega
  refine ⟨?_, ?_⟩
  · rw [Rat.num_mkRat, if_neg d0]
    have := Int.natAbs_ediv_le_natAbs n ((d.gcd n.natAbs : Nat) : Int)
    omega
  · rw [Rat.den_mkRat, if_neg d0]
    have := Nat.div_le_self d (d.gcd n.natAbs)
    omega
theorem pw100 : Tl.pw 100 = 2 ^ 3000 := by
  exact L.pw_two 100
theorem lt100 {m : Int} {T : Nat} (m1 : m < 18446744073709551616) (hT : T ≤ 2100) : m * 2 ^ T < Tl.pw 100 := by
  rw [pw100]
  have a := Int.mul_lt_mul_of_pos_right m1 (L.two_pow_pos T)
  have b : (18446744073709551616 : Int) * 2 ^ T = 2 ^ (64 + T) := by rw [Int.pow_add]; rfl
  have c := L.two_pow_le (show 64 + T ≤ 3000 by omega)
  omega
theorem sgI_nat (g : Bool) {x : Int} (h : 0 ≤ x) : ((L.sgI g x).natAbs : Int) = x := L.sgI_abs g h
theorem two100 {T : Nat} (hT : T ≤ 2100) : ((2 ^ T : Nat) : Int) < Tl.pw 100 := by
  rw [L.two_cast]
  have := lt100 (m := 1) (T := T) (by decide) hT
  omega
/-- Parts of a finite float. -/
def Fin (p : Int × Bool × Int × Int) : Prop := (p.1 != 3) = true ∧ (p.1 != 4) = true ∧ 0 ≤ p.2.2.1 ∧ p.2.2.1 < 9007199254740992 ∧ -1074 ≤ p.2.2.2 ∧ p.2.2.2 ≤ 971 ∧ (p.2.2.2 < 0 → 0 < p.2.2.1) ∧ (p.2.2.1 = 0 → p.2.2.2 = 0)
theorem fin_spl (n : Nat) (h : fdW n ≠ 2047) : Fin (splW n) := by
  have o := splW_ok n
  have k : (splW n).1 ≠ 3 ∧ (splW n).1 ≠ 4 := by
    unfold splW
    rw [if_neg h]
    split
    · split <;> simp
    · simp
  unfold OkW at o
  unfold Fin
  refine ⟨by rw [bne_iff_ne]; exact k.1, by rw [bne_iff_ne]; exact k.2, ?_⟩
  omega
theorem cut_sz (m : Int) (T : Nat) (g : Bool) (way : Int) (m0 : 0 ≤ m) (m1 : m < 9007199254740992) : 0 ≤ (cutF m T false g way).1 ∧ (cutF m T false g way).1 ≤ 9007199254740992 := by
  obtain ⟨k1, -⟩ := cutF_1 m T false g way
  have q0 : 0 ≤ m / 2 ^ T := Int.ediv_nonneg m0 (Int.le_of_lt (L.two_pow_pos T))
  have q1 : m / 2 ^ T ≤ m := Int.ediv_le_self _ m0
  omega
/-- The reference's Whole, of a finite float. -/
theorem RWhole_fin (n : Nat) (hn : n < 18446744073709551616) (way : Int) (w1 : 1 ≤ way) (w2 : way ≤ 6) (h : fdW n ≠ 2047) (w : World) :
    Calls Try.prog 37 #[.int .u64 n, .int .i64 way] w fun e w' => e = .returned (.tuple #[.int .i64 (wres (whZ (splW n) way)).1, .int .i64 (wres (whZ (splW n) way)).2]) ∧ Below w.heap.size w w' := by
  have f := fin_spl n h
  have S := Split_w n hn
  have Fi := Finite_w n _ true (hdW n hn) (by rw [bne_iff_ne]; omega)
  generalize splW n = p at *
  obtain ⟨k, g, m, E⟩ := p
  unfold Fin at f
  simp only at f S
  obtain ⟨f3, f4, m0, m1, e0, e1, mp, _⟩ := f
  have M := L.Mode_yes way w1 w2
  obtain ⟨r, NB, Q, RZ⟩ : ∃ r : Rat, (∀ w, Calls Try.prog 57 #[szW, .int .u64 n] w fun e w' => ∃ v, e = .returned v ∧ L.IsQ w' v r ∧ Below w.heap.size w w') ∧ L.QS r 100 ∧ L.rndQ way r = whZ (k, g, m, E) way := by
    unfold whZ
    simp only
    by_cases c : E < 0
    · obtain ⟨T, hT⟩ : ∃ T : Nat, -E = T := ⟨(-E).toNat, by omega⟩
      refine ⟨mkRat (L.sgI g m) (2 ^ T), L.Numq_neg 53 (-1074) 971 52 n k m E g T S m0 (by omega) hT (by omega) (by omega), mk_qs2 (Nat.two_pow_pos T) ?_ (two100 (by omega)), ?_⟩
      · rw [sgI_nat g m0]
        have := lt100 (m := m) (T := 0) (by omega) (by decide)
        omega
      · rw [if_pos c, show (-E).toNat = T from by omega]
        cases g
        · exact L.rnd_pos way m T w1 w2 m0 (by omega)
        · exact L.rnd_neg way m T w1 w2 (mp c) (by omega)
    · obtain ⟨T, rfl⟩ := Int.eq_ofNat_of_zero_le (show 0 ≤ E by omega)
      refine ⟨mkRat (L.sgI g (m * 2 ^ T)) 1, L.Numq_pos 53 (-1074) 971 52 n k m g T S m0 (by omega) (by omega), mk_qs2 (by decide) ?_ ?_, ?_⟩
      · rw [sgI_nat g (Int.mul_nonneg m0 (Int.le_of_lt (L.two_pow_pos T)))]
        exact lt100 (by omega) (by omega)
      · have := lt100 (m := 1) (T := 0) (by decide) (by decide)
        omega
      · rw [if_neg c, L.rndQ_mk way _ (by decide)]
        rw [show ((1 : Nat) : Int) = 1 from rfl, Int.emod_one, if_pos rfl, Int.ediv_one, Int.toNat_natCast]
  have R : ∀ w v, L.IsQ w v r → Calls Try.prog 70 #[v, .int .i64 way] w fun e w' => ∃ v, e = .returned v ∧ L.IsQ w' v ((whZ (k, g, m, E) way : Int) : Rat) ∧ Below w.heap.size w w' := by
    intro w v hv
    have := L.QRound_any v r 100 way w hv Q (by decide)
    rw [RZ] at this
    exact this
  have zb : ((whZ (k, g, m, E) way).natAbs : Int) < Tl.pw 1000000 := by
    have p := Tl.pw_mono (show 100 ≤ 1000000 by decide)
    have : ((whZ (k, g, m, E) way).natAbs : Int) < Tl.pw 100 := by
      unfold whZ
      simp only
      by_cases c : E < 0
      · rw [if_pos c]
        have z := cut_sz m (-E).toNat g way m0 m1
        rw [sgI_nat g z.1]
        have := lt100 (m := 9007199254740992) (T := 0) (by decide) (by decide)
        omega
      · rw [if_neg c, sgI_nat g (Int.mul_nonneg m0 (Int.le_of_lt (L.two_pow_pos _)))]
        exact lt100 (by omega) (by omega)
    omega
  generalize whZ (k, g, m, E) way = Z at *
  clear RZ Q S
  unfold wres
  have t63 : (2 : Int) ^ 63 = 9223372036854775808 := by decide
  have t64 : (2 : Int) ^ 64 = 18446744073709551616 := by decide
  have blz : L.bl (0 : Int) = 0 := rfl
  by_cases big : 18446744073709551616 ≤ (Z.natAbs : Int)
  · have b64 : 64 < L.bl (Z.natAbs : Int) := by
      obtain ⟨x1, x2, x3⟩ := L.bl_pos (x := (Z.natAbs : Int)) (by omega)
      by_cases q : 64 < L.bl (Z.natAbs : Int)
      · exact q
      · have := L.two_pow_le (show L.bl (Z.natAbs : Int) ≤ 64 by omega); omega
    rw [if_neg (by omega)]
    exact L.rwhole_big (decide (Z < 0)) n way Z r M Fi NB R zb _ rfl rfl b64 w
  by_cases top : 9223372036854775808 ≤ (Z.natAbs : Int)
  · have b64 : L.bl (Z.natAbs : Int) = 64 := (L.bl_unique (L := 64) (by omega) (by omega) (Or.inr (by show (2 : Int) ^ 63 ≤ _; omega))).symm
    by_cases ng : Z < 0
    · by_cases le : Z = -9223372036854775808
      · rw [if_pos (by omega)]
        exact L.rwhole_least n way Z r M Fi NB R _ rfl (show (Z.natAbs : Int) < 18446744073709551616 by omega) (decide_eq_true ng) b64 (by rw [le]; decide) ⟨by omega, ng⟩ w
      · rw [if_neg (by omega)]
        refine L.rwhole_far n way Z r M Fi NB R zb _ rfl (decide_eq_true ng) b64 ?_ w
        unfold L.cmp3
        rw [if_neg (by omega), if_pos (by omega)]; rfl
    · rw [if_neg (by omega)]
      exact L.rwhole_top n way Z r M Fi NB R zb _ rfl (decide_eq_false ng) b64 w
  · have b64 : L.bl (Z.natAbs : Int) < 64 := by
      by_cases z : (Z.natAbs : Int) = 0
      · rw [z, blz]; decide
      · obtain ⟨x1, x2, x3⟩ := L.bl_pos (x := (Z.natAbs : Int)) (by omega)
        by_cases q : L.bl (Z.natAbs : Int) < 64
        · exact q
        · have := L.two_pow_le (show 63 ≤ L.bl (Z.natAbs : Int) - 1 by omega); omega
    rw [if_pos (by omega)]
    by_cases ng : Z < 0
    · exact L.rwhole_neg n way Z r M Fi NB R _ rfl (show (Z.natAbs : Int) < 18446744073709551616 by omega) (decide_eq_true ng) b64 ⟨by omega, ng⟩ w
    · exact L.rwhole_pos n way Z r M Fi NB R _ rfl (show (Z.natAbs : Int) < 18446744073709551616 by omega) (decide_eq_false ng) b64 ⟨by omega, by omega⟩ w
end Go.Proofs.Ytfpmegfdopnnpaa

namespace Go.Proofs.Ytfpmegfdopnnpaa
open Go.RowKit Tn

theorem bl_shift {m : Int} (m0 : 0 < m) (T : Nat) : m * 2 ^ T < 2 ^ (L.bl m + T) ∧ (2 : Int) ^ (L.bl m - 1 + T) ≤ m * 2 ^ T := by
  obtain ⟨c1, c0, c2⟩ := L.bl_pos m0
  have t := L.two_pow_pos T
  have u1 := Int.mul_lt_mul_of_pos_right c1 t
  have u2 := Int.mul_le_mul_of_nonneg_right c2 (Int.le_of_lt t)
  rw [← Int.pow_add] at u1 u2
  exact ⟨u1, u2⟩
/-- The program's Whole, of a finite float. -/
theorem FWhole_fin (n : Nat) (hn : n < 18446744073709551616) (way : Int) (w1 : 1 ≤ way) (w2 : way ≤ 6) (h : fdW n ≠ 2047) (w : World) :
    Calls Try.prog 36 #[.float .f64 n, .int .i64 way] w fun e w' => e = .returned (.tuple #[.int .i64 (wres (whZ (splW n) way)).1, .int .i64 (wres (whZ (splW n) way)).2]) ∧ Below w.heap.size w w' := by
  have f := fin_spl n h
  have S := FSplit64 n hn
  have I := IsWay_yes way w1 w2
  generalize splW n = p at *
  obtain ⟨k, g, m, E⟩ := p
  unfold Fin at f
  simp only at f S
  obtain ⟨f3, f4, m0, m1, e0, e1, mp, mz⟩ := f
  have F := isFin_yes k g m E f3 f4
  unfold whZ wres
  simp only
  by_cases c : E < 0
  · obtain ⟨T, hT⟩ : ∃ T : Nat, -E = T := ⟨(-E).toNat, by omega⟩
    rw [if_pos c, show (-E).toNat = T from by omega]
    have z := cut_sz m T g way m0 m1
    have WS := wholeSize_neg k m E way _ g _ T (by rw [hT]; exact w64 _ (by omega) (by omega)) c (cut_all m T false g way (mp c) (by omega) (by omega) (by omega))
    generalize (cutF m T false g way).1 = M at *
    cases g
    · rw [show L.sgI false M = M from rfl, if_pos (by omega)]
      exact FWhole_pos n way k m E M I S F WS (by omega) z.1 w
    · rw [show L.sgI true M = -M from rfl, if_pos (by omega)]
      exact FWhole_neg n way k m E M I S F WS (by omega) z.1 w
  · obtain ⟨T, rfl⟩ := Int.eq_ofNat_of_zero_le (show 0 ≤ E by omega)
    rw [if_neg c, Int.toNat_natCast]
    have Ln := Len64_any m m0 (by omega)
    have N0 : 0 ≤ m * 2 ^ T := Int.mul_nonneg m0 (Int.le_of_lt (L.two_pow_pos T))
    have b53 : L.bl m ≤ 64 := by
      by_cases z : m = 0
      · rw [z]; decide
      · exact (L.bl_le64 (by omega) (by omega)).2
    have hB : IntKind.i64.wrap ((L.bl m : Int) + T) = (L.bl m : Int) + T := w64 _ (by omega) (by omega)
    by_cases ok : L.bl m + T ≤ 64
    · have lt : m * 2 ^ T < 18446744073709551616 := by
        by_cases z : m = 0
        · rw [z, Int.zero_mul]; decide
        · have a := (bl_shift (show 0 < m by omega) T).1
          have b := L.two_pow_le ok
          have t64 : (2 : Int) ^ 64 = 18446744073709551616 := by decide
          omega
      have WS := wholeSize_pos k m way (m * 2 ^ T) (L.bl m) _ g true T (by rw [shift_shl_any _ _ _ _ (by omega), show min (T : Int).toNat IntKind.u64.bits = T from by simp [IntKind.bits]; omega, wu64 _ N0 lt]) hB (decide_eq_true (by omega)) Ln
      generalize m * 2 ^ T = N at *
      cases g
      · rw [show L.sgI false N = N from rfl]
        by_cases r : N < 9223372036854775808
        · rw [if_pos (by omega)]
          exact FWhole_pos n way k m T N I S F WS r N0 w
        · rw [if_neg (by omega)]
          exact FWhole_pos_far n way k m T N I S F WS (by omega) w
      · rw [show L.sgI true N = -N from rfl]
        by_cases r : N ≤ 9223372036854775808
        · rw [if_pos (by omega)]
          exact FWhole_neg n way k m T N I S F WS r N0 w
        · rw [if_neg (by omega)]
          exact FWhole_neg_far n way k m T N I S F WS (by omega) w
    · have mp2 : 0 < m := by
        by_cases z : m = 0
        · have := mz z
          have b0 : L.bl m = 0 := by rw [z]; rfl
          omega
        · omega
      have ge : 18446744073709551616 ≤ m * 2 ^ T := by
        have a := (bl_shift mp2 T).2
        have b := L.two_pow_le (show 64 ≤ L.bl m - 1 + T by have := (L.bl_pos mp2).2.1; omega)
        have t64 : (2 : Int) ^ 64 = 18446744073709551616 := by decide
        omega
      have sh : ∃ N, Op.shift .shl .u64 m .i64 (T : Int) = pure (.int .u64 N) := ⟨_, shift_shl_any _ _ _ _ (by omega)⟩
      obtain ⟨N, hs⟩ := sh
      have WS := wholeSize_pos k m way N (L.bl m) _ g false T hs hB (decide_eq_false (by omega)) Ln
      have nr : ¬ (-9223372036854775808 ≤ L.sgI g (m * 2 ^ T) ∧ L.sgI g (m * 2 ^ T) < 9223372036854775808) := by
        unfold L.sgI
        split <;> omega
      rw [if_neg nr]
      exact FWhole_none n way k m T N g I S F WS w
theorem FWhole_inf (n : Nat) (hn : n < 18446744073709551616) (way : Int) (w1 : 1 ≤ way) (w2 : way ≤ 6) (h : fdW n = 2047) (w : World) :
    Calls Try.prog 36 #[.float .f64 n, .int .i64 way] w fun e w' => e = .returned (.tuple #[.int .i64 0, .int .i64 20]) ∧ Below w.heap.size w w' := by
  have S := FSplit64 n hn
  have I := IsWay_yes way w1 w2
  unfold splW at S
  rw [if_pos h] at S
  by_cases z : frW n = 0
  · rw [if_pos z] at S
    exact FWhole_infinite n way 3 0 0 _ I S (isFin_no3 3 _ 0 0 rfl) w
  · rw [if_neg z] at S
    exact FWhole_infinite n way 4 0 0 _ I S (isFin_no4 4 _ 0 0 rfl rfl) w
set_option maxRecDepth 100000 in
set_option maxHeartbeats 1600000 in
theorem RWhole_inf (n way : Int) (M : ∀ w, Calls Try.prog 55 #[.int .i64 way] w fun e w' => e = .returned (.bool true) ∧ w' = w) (Fi : ∀ w, Calls Try.prog 66 #[szW, .int .u64 n] w fun e w' => e = .returned (.bool false) ∧ Below w.heap.size w w') (w : World) :
    Calls Try.prog 37 #[.int .u64 n, .int .i64 way] w fun e w' => e = .returned (.tuple #[.int .i64 0, .int .i64 20]) ∧ Below w.heap.size w w' := by
  have pr := Below.refl w.heap.size w
  go_enter Try.func37, Try.ntmps37
  go_wp2_with (first
    | (go_at_call 55; (with_reducible refine (M _).mono ?_); rintro e w1 ⟨rfl, rfl⟩)
    | (go_at_call 10; (with_reducible refine (Wide_any _).mono ?_); (rintro e w1 ⟨rfl, b1⟩; replace pr := bel pr b1; clear b1))
    | (go_at_call 66; (with_reducible refine (Fi _).mono ?_); (rintro e w1 ⟨rfl, b1⟩; replace pr := bel pr b1; clear b1))
    | fail)
  exact bodyPost_ret (v := .tuple #[.int .i64 0, .int .i64 20]) (by simp [results, Try.results37, go_sem]) rfl ⟨rfl, pr⟩
set_option maxRecDepth 100000 in
set_option maxHeartbeats 1600000 in
theorem RWhole_no (n way : Int) (M : ∀ w, Calls Try.prog 55 #[.int .i64 way] w fun e w' => e = .returned (.bool false) ∧ w' = w) (w : World) :
    Calls Try.prog 37 #[.int .u64 n, .int .i64 way] w fun e w' => e = .returned (.tuple #[.int .i64 0, .int .i64 1]) ∧ Below w.heap.size w w' := by
  go_enter Try.func37, Try.ntmps37
  go_wp2_with (first
    | (go_at_call 55; (with_reducible refine (M _).mono ?_); rintro e w1 ⟨rfl, rfl⟩)
    | fail)
  exact bodyPost_ret (v := .tuple #[.int .i64 0, .int .i64 1]) (by simp [results, Try.results37, go_sem]) rfl ⟨rfl, Below.refl _ _⟩
theorem mode_not (way : Int) (h : ¬ (1 ≤ way ∧ way ≤ 6)) (w : World) : Calls Try.prog 55 #[.int .i64 way] w fun e w' => e = .returned (.bool false) ∧ w' = w := by
  by_cases a : way < 1
  · exact L.Mode_low way a w
  · exact L.Mode_high way (by omega) w
/-- Both Wholes tell the same. -/
theorem Whole_same (n : Nat) (hn : n < 18446744073709551616) (way : Int) : ∃ Z e : Int, (∀ w, Calls Try.prog 36 #[.float .f64 n, .int .i64 way] w fun r w' => r = .returned (.tuple #[.int .i64 Z, .int .i64 e]) ∧ Below w.heap.size w w') ∧ (∀ w, Calls Try.prog 37 #[.int .u64 n, .int .i64 way] w fun r w' => r = .returned (.tuple #[.int .i64 Z, .int .i64 e]) ∧ Below w.heap.size w w') := by
  by_cases c : 1 ≤ way ∧ way ≤ 6
  · by_cases f : fdW n = 2047
    · exact ⟨0, 20, FWhole_inf n hn way c.1 c.2 f, RWhole_inf n way (L.Mode_yes way c.1 c.2) (Finite_w n _ false (hdW n hn) (by rw [f]; rfl))⟩
    · exact ⟨_, _, FWhole_fin n hn way c.1 c.2 f, RWhole_fin n hn way c.1 c.2 f⟩
  · exact ⟨0, 1, FWhole_no n way (isWay_not way c), RWhole_no n way (mode_not way c)⟩
end Go.Proofs.Ytfpmegfdopnnpaa

namespace Go.Proofs.Ytfpmegfdopnnpaa
open Go.RowKit Tn

/-- The bits that a size of one word, times 2 to the E, comes to. -/
def rouW (g : Bool) (m E way : Int) : Int := (L.laidW g (cutF (m * 2 ^ (64 - L.bl m)) (L.canW m E - E + (64 - L.bl m : Nat)).toNat false g way).1 (L.canW m E) way).1
theorem laid_bd_w (g : Bool) (M e way : Int) (m0 : 0 ≤ M) (m1 : M ≤ 9007199254740992) (e0 : -1074 ≤ e) : 0 ≤ (L.laidW g M e way).1 ∧ (L.laidW g M e way).1 < 18446744073709551616 := by
  have sg : ∀ b : Int, 0 ≤ b → b < 9223372036854775808 → 0 ≤ L.sgnW g b ∧ L.sgnW g b < 18446744073709551616 := by
    intro b b0 b1
    unfold L.sgnW
    split <;> omega
  have en : ∀ m x : Int, 0 ≤ m → m < 9007199254740992 → -1074 ≤ x → 0 ≤ (L.endW g m x way).1 ∧ (L.endW g m x way).1 < 18446744073709551616 := by
    intro m x h0 h1 h2
    unfold L.endW
    by_cases c : 971 < x
    · rw [if_pos c]
      exact sg _ (by split <;> decide) (by split <;> decide)
    · rw [if_neg c]
      have b := L.layW_bd h0 h1 h2 (by omega)
      exact sg _ b.1 b.2
  unfold L.laidW
  by_cases c : M = 9007199254740992
  · rw [if_pos c]; exact en _ _ (by decide) (by decide) (by omega)
  · rw [if_neg c]; exact en _ _ m0 (by omega) e0
theorem rou_bd_w (g : Bool) (m E way : Int) (m0 : 0 < m) (m1 : m < 18446744073709551616) : 0 ≤ rouW g m E way ∧ rouW g m E way < 18446744073709551616 := by
  obtain ⟨b1, b2⟩ := L.bl_le64 m0 m1
  obtain ⟨h0, h1⟩ := raised_size m m0 m1
  unfold rouW
  have hx : L.canW m E = max (E + L.bl m - 53) (-1074) := rfl
  generalize L.canW m E = X at *
  obtain ⟨p, hp⟩ : ∃ p : Nat, p = (X - E + (64 - L.bl m : Nat)).toNat := ⟨_, rfl⟩
  rw [← hp]
  generalize m * 2 ^ (64 - L.bl m) = H at *
  obtain ⟨k1, -⟩ := cutF_1 H p false g way
  have q0 : 0 ≤ H / 2 ^ p := Int.ediv_nonneg (by omega) (Int.le_of_lt (L.two_pow_pos p))
  have q1 : H / 2 ^ p < 9007199254740992 := by
    apply Int.ediv_lt_of_lt_mul (L.two_pow_pos p)
    have := L.two_pow_le (show 11 ≤ p by omega)
    have t : (2 : Int) ^ 11 = 2048 := by decide
    omega
  exact laid_bd_w g _ X way (by omega) (by omega) (by omega)
set_option maxRecDepth 100000 in
set_option maxHeartbeats 1600000 in
/-- round, of what is no number but nought. -/
theorem round_other_w (k h l E fl way N : Int) (g mr : Bool) (hk : (k == 2) = false) (PK : ∀ w, Calls Try.prog 79 #[fmtW, prt k g 0 0] w fun e w' => e = .returned (.int .u64 N) ∧ Below w.heap.size w w') (w : World) :
    Calls Try.prog 53 #[.agg #[.int .i64 53, .int .i64 (-1074), .int .i64 971], nmb k g h l E mr fl, .int .i64 way] w fun r w' => r = .returned (.tuple #[.int .u64 N, .int .i64 0]) ∧ Below w.heap.size w w' := by
  have pr : Below w.heap.size w ((w.alloc (.cells #[.int .i64 53, .int .i64 (-1074), .int .i64 971] 72)).alloc (.cells #[.int .i64 k, .bool g, .int .u64 h, .int .u64 l, .int .i64 E, .bool mr, .int .i64 fl] 85)) := ((Below.refl _ _).alloc (Nat.le_refl _) _).alloc (by simp) _
  go_enter Try.func53, Try.ntmps53
  go_wp2_with (first
    | (go_at_call 79; refine (PK _).mono ?_; rintro r w1 ⟨rfl, b1⟩; replace pr := bel pr b1)
    | fail)
  exact bodyPost_ret (v := .tuple #[.int .u64 N, .int .i64 0]) (by simp [results, Try.results53, go_sem]) rfl ⟨rfl, pr⟩
/-- The bits that a size of one word, times 2 to the E, comes to. -/
def rouS (g : Bool) (m E way : Int) : Int := (L.laidS g (cutF (m * 2 ^ (64 - L.bl m)) (L.canS m E - E + (64 - L.bl m : Nat)).toNat false g way).1 (L.canS m E) way).1
theorem laid_bd_s (g : Bool) (M e way : Int) (m0 : 0 ≤ M) (m1 : M ≤ 16777216) (e0 : -149 ≤ e) : 0 ≤ (L.laidS g M e way).1 ∧ (L.laidS g M e way).1 < 4294967296 := by
  have sg : ∀ b : Int, 0 ≤ b → b < 2147483648 → 0 ≤ L.sgnS g b ∧ L.sgnS g b < 4294967296 := by
    intro b b0 b1
    unfold L.sgnS
    split <;> omega
  have en : ∀ m x : Int, 0 ≤ m → m < 16777216 → -149 ≤ x → 0 ≤ (L.endS g m x way).1 ∧ (L.endS g m x way).1 < 4294967296 := by
    intro m x h0 h1 h2
    unfold L.endS
    by_cases c : 104 < x
    · rw [if_pos c]
      exact sg _ (by split <;> decide) (by split <;> decide)
    · rw [if_neg c]
      have b := L.layS_bd h0 h1 h2 (by omega)
      exact sg _ b.1 b.2
  unfold L.laidS
  by_cases c : M = 16777216
  · rw [if_pos c]; exact en _ _ (by decide) (by decide) (by omega)
  · rw [if_neg c]; exact en _ _ m0 (by omega) e0
theorem rou_bd_s (g : Bool) (m E way : Int) (m0 : 0 < m) (m1 : m < 18446744073709551616) : 0 ≤ rouS g m E way ∧ rouS g m E way < 4294967296 := by
  obtain ⟨b1, b2⟩ := L.bl_le64 m0 m1
  obtain ⟨h0, h1⟩ := raised_size m m0 m1
  unfold rouS
  have hx : L.canS m E = max (E + L.bl m - 24) (-149) := rfl
  generalize L.canS m E = X at *
  obtain ⟨p, hp⟩ : ∃ p : Nat, p = (X - E + (64 - L.bl m : Nat)).toNat := ⟨_, rfl⟩
  rw [← hp]
  generalize m * 2 ^ (64 - L.bl m) = H at *
  obtain ⟨k1, -⟩ := cutF_1 H p false g way
  have q0 : 0 ≤ H / 2 ^ p := Int.ediv_nonneg (by omega) (Int.le_of_lt (L.two_pow_pos p))
  have q1 : H / 2 ^ p < 16777216 := by
    apply Int.ediv_lt_of_lt_mul (L.two_pow_pos p)
    have := L.two_pow_le (show 40 ≤ p by omega)
    have t : (2 : Int) ^ 40 = 1099511627776 := by decide
    omega
  exact laid_bd_s g _ X way (by omega) (by omega) (by omega)
set_option maxRecDepth 100000 in
set_option maxHeartbeats 1600000 in
/-- round, of what is no number but nought. -/
theorem round_other_s (k h l E fl way N : Int) (g mr : Bool) (hk : (k == 2) = false) (PK : ∀ w, Calls Try.prog 79 #[fmtS, prt k g 0 0] w fun e w' => e = .returned (.int .u64 N) ∧ Below w.heap.size w w') (w : World) :
    Calls Try.prog 53 #[.agg #[.int .i64 24, .int .i64 (-149), .int .i64 104], nmb k g h l E mr fl, .int .i64 way] w fun r w' => r = .returned (.tuple #[.int .u64 N, .int .i64 0]) ∧ Below w.heap.size w w' := by
  have pr : Below w.heap.size w ((w.alloc (.cells #[.int .i64 24, .int .i64 (-149), .int .i64 104] 72)).alloc (.cells #[.int .i64 k, .bool g, .int .u64 h, .int .u64 l, .int .i64 E, .bool mr, .int .i64 fl] 85)) := ((Below.refl _ _).alloc (Nat.le_refl _) _).alloc (by simp) _
  go_enter Try.func53, Try.ntmps53
  go_wp2_with (first
    | (go_at_call 79; refine (PK _).mono ?_; rintro r w1 ⟨rfl, b1⟩; replace pr := bel pr b1)
    | fail)
  exact bodyPost_ret (v := .tuple #[.int .u64 N, .int .i64 0]) (by simp [results, Try.results53, go_sem]) rfl ⟨rfl, pr⟩
end Go.Proofs.Ytfpmegfdopnnpaa

namespace Go.Proofs.Ytfpmegfdopnnpaa
open Go.RowKit Tn

set_option maxRecDepth 100000 in
set_option maxHeartbeats 1600000 in
/-- The reference's OfInt of nought. -/
theorem ROfInt_zero (way : Int) (M : ∀ w, Calls Try.prog 55 #[.int .i64 way] w fun e w' => e = .returned (.bool true) ∧ w' = w) (w : World) :
    Calls Try.prog 39 #[.int .i64 0, .int .i64 way] w fun r w' => r = .returned (.tuple #[.int .u64 0, .int .i64 0]) ∧ Below w.heap.size w w' := by
  have O : ∀ w, Calls Try.prog 74 #[.int .i64 0] w fun e w' => ∃ a1 c1 a2 c2, e = .returned (.agg #[.bool false, .slice a1 0 c1, .slice a2 1 c2]) ∧ Below w.heap.size w w' := fun w => (L.Of_pos 0 (by decide) (by decide) w).mono (fun e w' ⟨u1, u2, ns, he, h1, n1, v1, h2, b⟩ => by
    obtain ⟨a, c, rfl⟩ := L.rd_form h1
    obtain ⟨a', c', rfl⟩ := L.rd_form h2
    rw [Tl.val_eq_zero h1.1 n1] at v1
    subst v1
    exact ⟨a, c, a', c', he, b⟩)
  have pr := Below.refl w.heap.size w
  go_enter Try.func39, Try.ntmps39
  go_wp2_with (first
    | (go_at_call 55; refine (M _).mono ?_; rintro x w1 ⟨rfl, rfl⟩)
    | (go_at_call 10; refine (Wide_any _).mono ?_; (rintro x w2 ⟨rfl, b2⟩; replace pr := bel pr b2; clear b2))
    | (go_at_call 74; (refine (O _).mono ?_); (rintro x w3 ⟨a1, c1, a2, c2, rfl, b3⟩; replace pr := bel pr b3; clear b3))
    | (go_at_call 56; (refine (L.Rounded_zero 53 (-1074) 971 52 false a1 a2 c1 1 c2 way _).mono ?_); (rintro x w4 ⟨rfl, b4⟩; replace pr := bel pr b4; clear b4))
    | fail)
  exact bodyPost_ret (v := .tuple #[.int .u64 0, .int .i64 0]) (by simp [results, Try.results39, go_sem]) rfl ⟨rfl, pr⟩
theorem ofInt_rou (S way : Int) (neg : Bool) (S0 : 0 < S) (S1 : S < 18446744073709551616) {e m q : Int} (fl : L.Fl S 1 e m q) (m0 : 0 ≤ m) (m1 : m < 9007199254740992) (e0 : -1074 ≤ e) (st : e = -1074 ∨ 4503599627370496 ≤ m) : (L.laidW neg (L.rnd neg way m q (1 * 2 ^ e.toNat)) e way).1 = rouW neg S 0 way := by
  have hc : S * 2 ^ (-(0 : Int)).toNat = 1 * (S * 2 ^ (0 : Int).toNat) := by simp
  have he := L.can_w S0 (by decide) fl hc m0 m1 e0 st
  obtain ⟨b1, b2⟩ := L.bl_le64 S0 S1
  have hX : L.canW S 0 = max (0 + (L.bl S : Int) - 53) (-1074) := rfl
  obtain ⟨p, hp⟩ : ∃ p : Nat, p = (L.canW S 0 - 0 + (64 - L.bl S : Nat)).toNat := ⟨_, rfl⟩
  have hr := L.rnd_w (lz := 64 - L.bl S) (p := p) neg way (by decide) fl hc (by omega) (by omega)
  unfold rouW
  rw [hr, he, hp]
theorem OfInt_some (n S way : Int) (g : Bool) (w1 : 1 ≤ way) (w2 : way ≤ 6) (S0 : 0 < S) (S1 : S < 18446744073709551616)
    (P : ∀ (N : Nat) (v : Value), (∀ w, Calls Try.prog 73 #[.bool g, .int .u64 S] w fun e w' => e = .returned v ∧ Below w.heap.size w w') → (∀ w, Calls Try.prog 53 #[fmtW, v, .int .i64 way] w fun r w' => ∃ F : Int, r = .returned (.tuple #[.int .u64 N, .int .i64 F]) ∧ Below w.heap.size w w') → ∀ w, Calls Try.prog 38 #[.int .i64 n, .int .i64 way] w fun e w' => e = .returned (.tuple #[.float .f64 N, .int .i64 0]) ∧ Below w.heap.size w w')
    (Q : ∀ w, Calls Try.prog 74 #[.int .i64 n] w fun e w' => ∃ u1 u2 ns, e = .returned (.agg #[.bool g, u1, u2]) ∧ L.Rd w' u1 ns ∧ Tl.Nm ns ∧ Tl.val ns = S ∧ L.Rd w' u2 [1] ∧ Below w.heap.size w w') :
    (0 ≤ rouW g S 0 way) ∧ (∀ w, Calls Try.prog 38 #[.int .i64 n, .int .i64 way] w fun e w' => e = .returned (.tuple #[.float .f64 (rouW g S 0 way).toNat, .int .i64 0]) ∧ Below w.heap.size w w') ∧ (∀ w, Calls Try.prog 39 #[.int .i64 n, .int .i64 way] w fun r w' => r = .returned (.tuple #[.int .u64 (rouW g S 0 way), .int .i64 0]) ∧ Below w.heap.size w w') := by
  have bd := rou_bd_w g S 0 way S0 S1
  refine ⟨bd.1, ?_, ?_⟩
  · refine P _ (nmb 2 g 0 S 0 false 0) (ofSize_some g S (by rw [beq_eq_false_iff_ne]; omega)) ?_
    rw [Int.toNat_of_nonneg bd.1]
    exact round_w g false way S 0 0 S0 S1 (by decide) (by decide) w1 w2
  · intro w
    refine (L.ROfInt_some n way S g S0 S1 (L.Mode_yes way w1 w2) Q w).mono ?_
    rintro r w' ⟨e, m, q, fl, m0, m1, e0, st, rfl, hb⟩
    exact ⟨by rw [ofInt_rou S way g S0 S1 fl m0 m1 e0 st], hb⟩
/-- Both OfInts tell the same. -/
theorem OfInt_same (n : Int) (n0 : -9223372036854775808 ≤ n) (n1 : n < 9223372036854775808) (way : Int) : ∃ (N : Nat) (e : Int), (∀ w, Calls Try.prog 38 #[.int .i64 n, .int .i64 way] w fun r w' => r = .returned (.tuple #[.float .f64 N, .int .i64 e]) ∧ Below w.heap.size w w') ∧ (∀ w, Calls Try.prog 39 #[.int .i64 n, .int .i64 way] w fun r w' => r = .returned (.tuple #[.int .u64 N, .int .i64 e]) ∧ Below w.heap.size w w') := by
  by_cases c : 1 ≤ way ∧ way ≤ 6
  · have I := IsWay_yes way c.1 c.2
    by_cases z : n = 0
    · subst z
      have PK := pack_ok_w (0, false, 0, 0) (by simp [OkW])
      have e : pckW (0, false, 0, 0) = ((0 : Nat) : Int) := by decide
      rw [e] at PK
      refine ⟨0, 0, OfInt_pos 0 way 0 _ (by decide) (by decide) I (ofSize_zero false) (fun w => (round_other_w 0 0 0 0 0 way _ false false rfl PK w).mono (fun r w' k => ⟨0, k⟩)), ROfInt_zero way (L.Mode_yes way c.1 c.2)⟩
    · by_cases s : n < 0
      · obtain ⟨b, p, r⟩ := OfInt_some n (-n) way true c.1 c.2 (by omega) (by omega) (fun N v O R => OfInt_neg n way N v s n0 I O R) (L.Of_neg n s n0)
        refine ⟨_, 0, p, ?_⟩
        rw [Int.toNat_of_nonneg b]
        exact r
      · obtain ⟨b, p, r⟩ := OfInt_some n n way false c.1 c.2 (by omega) (by omega) (fun N v O R => OfInt_pos n way N v (by omega) n1 I O R) (L.Of_pos n (by omega) n1)
        refine ⟨_, 0, p, ?_⟩
        rw [Int.toNat_of_nonneg b]
        exact r
  · exact ⟨0, 1, OfInt_no n way (isWay_not way c), L.ROfInt_no n way (mode_not way c)⟩
theorem rou_one : rouW false 1 0 1 = 4607182418800017408 := by
  have b : L.bl 1 = 1 := (L.bl_unique (L := 1) (by decide) (by decide) (Or.inr (by decide))).symm
  unfold rouW L.canW
  rw [b]
  decide
theorem OfInt_one (w : World) : Calls Try.prog 38 #[.int .i64 1, .int .i64 1] w fun e w' => e = .returned (.tuple #[.float .f64 4607182418800017408, .int .i64 0]) ∧ Below w.heap.size w w' := by
  obtain ⟨b, p, r⟩ := OfInt_some 1 1 1 false (by decide) (by decide) (by decide) (by decide) (fun N v O R => OfInt_pos 1 1 N v (by decide) (by decide) (IsWay_yes 1 (by decide) (by decide)) O R) (L.Of_pos 1 (by decide) (by decide))
  rw [rou_one] at p
  exact p w
set_option maxRecDepth 100000 in
set_option maxHeartbeats 3200000 in
theorem wholes_walk (b N : Nat) (n way Z e f : Int)
    (h1 : ∀ w, Calls Try.prog 36 #[.float .f64 b, .int .i64 way] w fun r w' => r = .returned (.tuple #[.int .i64 Z, .int .i64 e]) ∧ Below w.heap.size w w')
    (h2 : ∀ w, Calls Try.prog 37 #[.int .u64 b, .int .i64 way] w fun r w' => r = .returned (.tuple #[.int .i64 Z, .int .i64 e]) ∧ Below w.heap.size w w')
    (h3 : ∀ w, Calls Try.prog 38 #[.int .i64 n, .int .i64 way] w fun r w' => r = .returned (.tuple #[.float .f64 N, .int .i64 f]) ∧ Below w.heap.size w w')
    (h4 : ∀ w, Calls Try.prog 39 #[.int .i64 n, .int .i64 way] w fun r w' => r = .returned (.tuple #[.int .u64 N, .int .i64 f]) ∧ Below w.heap.size w w') (w : World) :
    Calls Try.prog 6 #[.int .u64 b, .int .i64 n, .int .i64 way] w fun r w' => r = .returned (.bool true) ∧ Below w.heap.size w w' := by
  have f1 := f64frombits b
  have i1 := is64_yes N
  have h5 := OfInt_one
  have ho : (FloatKind.f64.format.order 4607182418800017408 4607182418800017408 == some Ordering.eq) = true := by kernel_rfl
  have pr := Below.refl w.heap.size w
  go_enter Try.func6, Try.ntmps6
  go_wp2_with (first
    | (go_at_call 36; (with_reducible refine (h1 _).mono ?_); (rintro r w1 ⟨rfl, b1⟩; replace pr := bel pr b1; clear b1))
    | (go_at_call 37; (with_reducible refine (h2 _).mono ?_); (rintro r w1 ⟨rfl, b1⟩; replace pr := bel pr b1; clear b1))
    | (go_at_call 38; (with_reducible refine (h5 _).mono ?_); (rintro r w1 ⟨rfl, b1⟩; replace pr := bel pr b1; clear b1))
    | (go_at_call 38; (with_reducible refine (h3 _).mono ?_); (rintro r w1 ⟨rfl, b1⟩; replace pr := bel pr b1; clear b1))
    | (go_at_call 39; (with_reducible refine (h4 _).mono ?_); (rintro r w1 ⟨rfl, b1⟩; replace pr := bel pr b1; clear b1))
    | (go_at_call 18; (with_reducible refine (i1 _).mono ?_); rintro r w1 ⟨rfl, rfl⟩)
    | fail)
  go_ret
  exact ⟨rfl, pr⟩
theorem wholes_any (b : Nat) (n way : Int) (hb : b < 18446744073709551616) (n0 : -9223372036854775808 ≤ n) (n1 : n < 9223372036854775808) (w : World) :
    Calls Try.prog 6 #[.int .u64 b, .int .i64 n, .int .i64 way] w fun r w' => r = .returned (.bool true) ∧ Below w.heap.size w w' := by
  obtain ⟨Z, e, h1, h2⟩ := Whole_same b hb way
  obtain ⟨N, f, h3, h4⟩ := OfInt_same n n0 n1 way
  exact wholes_walk b N n way Z e f h1 h2 h3 h4 w
end Go.Proofs.Ytfpmegfdopnnpaa
