import Derived.Test.YtjgljcifnklmeaaFr3
namespace Go.Proofs.Ytjgljcifnklmeaa
open Go.RowKit Tn

/-- The parts of m times 2 to the e. -/
def finW (neg : Bool) (m e : Int) : Int × Bool × Int × Int := if m = 0 then (0, neg, 0, 0) else if m < 4503599627370496 then (1, neg, m, e) else (2, neg, m, e)
set_option maxRecDepth 100000 in
set_option maxHeartbeats 1600000 in
theorem finite_w (neg : Bool) (m e : Int) (w : World) : Calls Try.prog 83 #[fmtW, .bool neg, .int .u64 m, .int .i64 e] w fun x w' => x = .returned (prt4 (finW neg m e)) ∧ Below w.heap.size w w' := by
  unfold finW
  by_cases h1 : m = 0
  · rw [if_pos h1]
    have d1 : (m == 0) = true := by rw [beq_iff_eq]; exact h1
    clear h1
    go_enter Try.func83, Try.ntmps83
    go_wp2
    exact bodyPost_ret (v := prt 0 neg 0 0) (by simp [results, Try.results83, go_sem]) rfl ⟨rfl, ((Below.refl _ _).alloc (Nat.le_refl _) _).alloc (by simp) _⟩
  rw [if_neg h1]
  have d1 : (m == 0) = false := by rw [beq_eq_false_iff_ne]; exact h1
  clear h1
  by_cases h2 : m < 4503599627370496
  · rw [if_pos h2]
    have d2 : decide (m < 4503599627370496) = true := decide_eq_true h2
    clear h2
    go_enter Try.func83, Try.ntmps83
    have K0 : Blk ((w.alloc (.cells #[.int .i64 53, .int .i64 (-1074), .int .i64 971] 72)).alloc (.cells #[.int .i64 0, .bool false, .int .u64 0, .int .i64 0] 25)) w.heap.size #[.int .i64 53, .int .i64 (-1074), .int .i64 971] 72 := (Blk.new w _ _).alloc _
    have K1 := Blk.new (w.alloc (.cells #[.int .i64 53, .int .i64 (-1074), .int .i64 971] 72)) #[.int .i64 0, .bool false, .int .u64 0, .int .i64 0] 25
    have pr : Below w.heap.size w ((w.alloc (.cells #[.int .i64 53, .int .i64 (-1074), .int .i64 971] 72)).alloc (.cells #[.int .i64 0, .bool false, .int .u64 0, .int .i64 0] 25)) := ((Below.refl _ _).alloc (Nat.le_refl _) _).alloc (by simp) _
    simp only [World.size_alloc] at K1
    go_wp2_with (first
      | (go_at_call 77; refine (leastNormal_w _).mono ?_; rintro x w1 ⟨rfl, b1⟩; replace K0 := K0.below b1 K0.lt; replace K1 := K1.below b1 K1.lt; replace pr := bel pr b1; clear b1; have e0 : w1.cell? ⟨w.heap.size, 0, none⟩ = some (.int .i64 53) := K0.at 0; have e1 : w1.cell? ⟨w.heap.size, 1, none⟩ = some (.int .i64 (-1074)) := K0.at 1; have e2 : w1.cell? ⟨w.heap.size, 2, none⟩ = some (.int .i64 971) := K0.at 2; have c0 : w1.cell? ⟨w.heap.size + 1, 0, none⟩ = some (.int .i64 0) := K1.at 0; have c1 : w1.cell? ⟨w.heap.size + 1, 1, none⟩ = some (.bool false) := K1.at 1; have c2 : w1.cell? ⟨w.heap.size + 1, 2, none⟩ = some (.int .u64 0) := K1.at 2; have c3 : w1.cell? ⟨w.heap.size + 1, 3, none⟩ = some (.int .i64 0) := K1.at 3; have z0 := K1.free 0; have z1 := K1.free 1; have z2 := K1.free 2; have z3 := K1.free 3)
      | fail)
    obtain ⟨F0, F1, F2, F3, FB⟩ := put4 (.int .i64 1) (.bool neg) (.int .u64 m) (.int .i64 e) (K1.at 0) (K1.at 1) (K1.at 2) (K1.at 3)
    exact bodyPost_ret (v := prt 1 neg m e) (by simp [results, Try.results83, go_sem, F0, F1, F2, F3]) rfl ⟨rfl, FB _ _ (by omega) pr⟩
  · rw [if_neg h2]
    have d2 : decide (m < 4503599627370496) = false := decide_eq_false h2
    clear h2
    go_enter Try.func83, Try.ntmps83
    have K0 : Blk ((w.alloc (.cells #[.int .i64 53, .int .i64 (-1074), .int .i64 971] 72)).alloc (.cells #[.int .i64 0, .bool false, .int .u64 0, .int .i64 0] 25)) w.heap.size #[.int .i64 53, .int .i64 (-1074), .int .i64 971] 72 := (Blk.new w _ _).alloc _
    have K1 := Blk.new (w.alloc (.cells #[.int .i64 53, .int .i64 (-1074), .int .i64 971] 72)) #[.int .i64 0, .bool false, .int .u64 0, .int .i64 0] 25
    have pr : Below w.heap.size w ((w.alloc (.cells #[.int .i64 53, .int .i64 (-1074), .int .i64 971] 72)).alloc (.cells #[.int .i64 0, .bool false, .int .u64 0, .int .i64 0] 25)) := ((Below.refl _ _).alloc (Nat.le_refl _) _).alloc (by simp) _
    simp only [World.size_alloc] at K1
    go_wp2_with (first
      | (go_at_call 77; refine (leastNormal_w _).mono ?_; rintro x w1 ⟨rfl, b1⟩; replace K0 := K0.below b1 K0.lt; replace K1 := K1.below b1 K1.lt; replace pr := bel pr b1; clear b1; have e0 : w1.cell? ⟨w.heap.size, 0, none⟩ = some (.int .i64 53) := K0.at 0; have e1 : w1.cell? ⟨w.heap.size, 1, none⟩ = some (.int .i64 (-1074)) := K0.at 1; have e2 : w1.cell? ⟨w.heap.size, 2, none⟩ = some (.int .i64 971) := K0.at 2; have c0 : w1.cell? ⟨w.heap.size + 1, 0, none⟩ = some (.int .i64 0) := K1.at 0; have c1 : w1.cell? ⟨w.heap.size + 1, 1, none⟩ = some (.bool false) := K1.at 1; have c2 : w1.cell? ⟨w.heap.size + 1, 2, none⟩ = some (.int .u64 0) := K1.at 2; have c3 : w1.cell? ⟨w.heap.size + 1, 3, none⟩ = some (.int .i64 0) := K1.at 3; have z0 := K1.free 0; have z1 := K1.free 1; have z2 := K1.free 2; have z3 := K1.free 3)
      | fail)
    obtain ⟨F0, F1, F2, F3, FB⟩ := put4 (.int .i64 2) (.bool neg) (.int .u64 m) (.int .i64 e) (K1.at 0) (K1.at 1) (K1.at 2) (K1.at 3)
    exact bodyPost_ret (v := prt 2 neg m e) (by simp [results, Try.results83, go_sem, F0, F1, F2, F3]) rfl ⟨rfl, FB _ _ (by omega) pr⟩
/-- The parts of m times 2 to the e. -/
def finS (neg : Bool) (m e : Int) : Int × Bool × Int × Int := if m = 0 then (0, neg, 0, 0) else if m < 8388608 then (1, neg, m, e) else (2, neg, m, e)
set_option maxRecDepth 100000 in
set_option maxHeartbeats 1600000 in
theorem finite_s (neg : Bool) (m e : Int) (w : World) : Calls Try.prog 83 #[fmtS, .bool neg, .int .u64 m, .int .i64 e] w fun x w' => x = .returned (prt4 (finS neg m e)) ∧ Below w.heap.size w w' := by
  unfold finS
  by_cases h1 : m = 0
  · rw [if_pos h1]
    have d1 : (m == 0) = true := by rw [beq_iff_eq]; exact h1
    clear h1
    go_enter Try.func83, Try.ntmps83
    go_wp2
    exact bodyPost_ret (v := prt 0 neg 0 0) (by simp [results, Try.results83, go_sem]) rfl ⟨rfl, ((Below.refl _ _).alloc (Nat.le_refl _) _).alloc (by simp) _⟩
  rw [if_neg h1]
  have d1 : (m == 0) = false := by rw [beq_eq_false_iff_ne]; exact h1
  clear h1
  by_cases h2 : m < 8388608
  · rw [if_pos h2]
    have d2 : decide (m < 8388608) = true := decide_eq_true h2
    clear h2
    go_enter Try.func83, Try.ntmps83
    have K0 : Blk ((w.alloc (.cells #[.int .i64 24, .int .i64 (-149), .int .i64 104] 72)).alloc (.cells #[.int .i64 0, .bool false, .int .u64 0, .int .i64 0] 25)) w.heap.size #[.int .i64 24, .int .i64 (-149), .int .i64 104] 72 := (Blk.new w _ _).alloc _
    have K1 := Blk.new (w.alloc (.cells #[.int .i64 24, .int .i64 (-149), .int .i64 104] 72)) #[.int .i64 0, .bool false, .int .u64 0, .int .i64 0] 25
    have pr : Below w.heap.size w ((w.alloc (.cells #[.int .i64 24, .int .i64 (-149), .int .i64 104] 72)).alloc (.cells #[.int .i64 0, .bool false, .int .u64 0, .int .i64 0] 25)) := ((Below.refl _ _).alloc (Nat.le_refl _) _).alloc (by simp) _
    simp only [World.size_alloc] at K1
    go_wp2_with (first
      | (go_at_call 77; refine (leastNormal_s _).mono ?_; rintro x w1 ⟨rfl, b1⟩; replace K0 := K0.below b1 K0.lt; replace K1 := K1.below b1 K1.lt; replace pr := bel pr b1; clear b1; have e0 : w1.cell? ⟨w.heap.size, 0, none⟩ = some (.int .i64 24) := K0.at 0; have e1 : w1.cell? ⟨w.heap.size, 1, none⟩ = some (.int .i64 (-149)) := K0.at 1; have e2 : w1.cell? ⟨w.heap.size, 2, none⟩ = some (.int .i64 104) := K0.at 2; have c0 : w1.cell? ⟨w.heap.size + 1, 0, none⟩ = some (.int .i64 0) := K1.at 0; have c1 : w1.cell? ⟨w.heap.size + 1, 1, none⟩ = some (.bool false) := K1.at 1; have c2 : w1.cell? ⟨w.heap.size + 1, 2, none⟩ = some (.int .u64 0) := K1.at 2; have c3 : w1.cell? ⟨w.heap.size + 1, 3, none⟩ = some (.int .i64 0) := K1.at 3; have z0 := K1.free 0; have z1 := K1.free 1; have z2 := K1.free 2; have z3 := K1.free 3)
      | fail)
    obtain ⟨F0, F1, F2, F3, FB⟩ := put4 (.int .i64 1) (.bool neg) (.int .u64 m) (.int .i64 e) (K1.at 0) (K1.at 1) (K1.at 2) (K1.at 3)
    exact bodyPost_ret (v := prt 1 neg m e) (by simp [results, Try.results83, go_sem, F0, F1, F2, F3]) rfl ⟨rfl, FB _ _ (by omega) pr⟩
  · rw [if_neg h2]
    have d2 : decide (m < 8388608) = false := decide_eq_false h2
    clear h2
    go_enter Try.func83, Try.ntmps83
    have K0 : Blk ((w.alloc (.cells #[.int .i64 24, .int .i64 (-149), .int .i64 104] 72)).alloc (.cells #[.int .i64 0, .bool false, .int .u64 0, .int .i64 0] 25)) w.heap.size #[.int .i64 24, .int .i64 (-149), .int .i64 104] 72 := (Blk.new w _ _).alloc _
    have K1 := Blk.new (w.alloc (.cells #[.int .i64 24, .int .i64 (-149), .int .i64 104] 72)) #[.int .i64 0, .bool false, .int .u64 0, .int .i64 0] 25
    have pr : Below w.heap.size w ((w.alloc (.cells #[.int .i64 24, .int .i64 (-149), .int .i64 104] 72)).alloc (.cells #[.int .i64 0, .bool false, .int .u64 0, .int .i64 0] 25)) := ((Below.refl _ _).alloc (Nat.le_refl _) _).alloc (by simp) _
    simp only [World.size_alloc] at K1
    go_wp2_with (first
      | (go_at_call 77; refine (leastNormal_s _).mono ?_; rintro x w1 ⟨rfl, b1⟩; replace K0 := K0.below b1 K0.lt; replace K1 := K1.below b1 K1.lt; replace pr := bel pr b1; clear b1; have e0 : w1.cell? ⟨w.heap.size, 0, none⟩ = some (.int .i64 24) := K0.at 0; have e1 : w1.cell? ⟨w.heap.size, 1, none⟩ = some (.int .i64 (-149)) := K0.at 1; have e2 : w1.cell? ⟨w.heap.size, 2, none⟩ = some (.int .i64 104) := K0.at 2; have c0 : w1.cell? ⟨w.heap.size + 1, 0, none⟩ = some (.int .i64 0) := K1.at 0; have c1 : w1.cell? ⟨w.heap.size + 1, 1, none⟩ = some (.bool false) := K1.at 1; have c2 : w1.cell? ⟨w.heap.size + 1, 2, none⟩ = some (.int .u64 0) := K1.at 2; have c3 : w1.cell? ⟨w.heap.size + 1, 3, none⟩ = some (.int .i64 0) := K1.at 3; have z0 := K1.free 0; have z1 := K1.free 1; have z2 := K1.free 2; have z3 := K1.free 3)
      | fail)
    obtain ⟨F0, F1, F2, F3, FB⟩ := put4 (.int .i64 2) (.bool neg) (.int .u64 m) (.int .i64 e) (K1.at 0) (K1.at 1) (K1.at 2) (K1.at 3)
    exact bodyPost_ret (v := prt 2 neg m e) (by simp [results, Try.results83, go_sem, F0, F1, F2, F3]) rfl ⟨rfl, FB _ _ (by omega) pr⟩
end Go.Proofs.Ytjgljcifnklmeaa
