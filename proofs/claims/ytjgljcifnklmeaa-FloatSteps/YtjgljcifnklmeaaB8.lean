import Derived.Test.YtjgljcifnklmeaaB7
namespace Go.Proofs.Ytjgljcifnklmeaa.L
open Go.RowKit Tl

theorem val_mod2 (xs : List Int) : val xs % 2 = nth xs 0 % 2 := by
  cases xs with
  | nil => rfl
  | cons x xs =>
    show (x + 1073741824 * val xs) % 2 = x % 2
    omega
set_option maxRecDepth 100000 in
/-- (Nat).Even of the reference. -/
theorem Even_any (v : Value) (xs : List Int) (w : World) (h : Rd w v xs) :
    Calls Try.prog 88 #[v] w fun e w' => e = .returned (.bool (decide (val xs % 2 = 0))) ∧ w' = w := by
  obtain ⟨hx, a, c, rfl, _, _, g⟩ := h
  have m := val_mod2 xs
  by_cases h0 : xs.length = 0
  · have hz : ((xs.length : Int) == 0) = true := by rw [beq_iff_eq]; omega
    have r : nth xs 0 = 0 := nth_out xs 0 (by omega)
    have R : Hid (decide (val xs % 2 = 0) = true) := by show _ = _; rw [decide_eq_true_eq, m, r]; rfl
    clear g m
    go_enter Try.func88, Try.ntmps88
    go_wp2
    go_ret
    exact ⟨by rw [R.out]; rfl, rfl⟩
  · have hz : ((xs.length : Int) == 0) = false := by rw [beq_eq_false_iff_ne]; omega
    obtain ⟨b, o, rfl, q⟩ := g (by omega)
    have d1 := q.at (i := 0) (by omega)
    have bx := nth_bd hx 0
    rw [Nat.add_zero] at d1
    have t1 : (nth xs 0).tmod 2 = nth xs 0 % 2 := Int.tmod_eq_emod_of_nonneg bx.1
    have R : Hid (decide (val xs % 2 = 0) = (nth xs 0 % 2 == 0)) := by show _ = _; rw [m, Bool.eq_iff_iff, decide_eq_true_iff, beq_iff_eq]
    have l1 : 0 < xs.length := by omega
    clear g m
    go_enter Try.func88, Try.ntmps88
    go_wp2
    go_ret
    exact ⟨by rw [R.out]; rfl, rfl⟩
end Go.Proofs.Ytjgljcifnklmeaa.L
