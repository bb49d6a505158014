import Derived.Test.YtfalncbcomlelaaGreatDoorGcd1
namespace Go.Proofs.YtfalncbcomlelaaGreatDoor
open Go.RowKit Tn

/-- The first words of a number, at a place. -/
theorem first_words {X : List Int} {m s : Nat} (hX : Wd X) (hl : X.length = m + 2) (hs : s ≤ 63) :
    ∃ l : Int, val X = (nth X (m + 1) * 2 ^ s + nth X m / 2 ^ (64 - s)) * (pw m * 2 ^ (64 - s)) + l ∧ 0 ≤ l ∧ l < pw m * 2 ^ (64 - s) := by
  have e1 := val_last (X := X) (n := m + 1) hl
  have e2 := val_at X m (by omega)
  have p := pw_pos m
  have q := two_pos (64 - s)
  have t0 := val_nonneg (hX.take m)
  have t1 := val_lt (hX.take m)
  rw [List.length_take, Nat.min_eq_left (by omega)] at t1
  have pe : pw (m + 1) = 18446744073709551616 * pw m := rfl
  have e3 := pow_split (show s ≤ 64 by omega)
  have e4 := divmod_eq (nth X m) (2 ^ (64 - s))
  have m0 := Int.emod_nonneg (nth X m) (show (2 : Int) ^ (64 - s) ≠ 0 by omega)
  have m1 := Int.emod_lt_of_pos (nth X m) q
  refine ⟨val (X.take m) + pw m * (nth X m % 2 ^ (64 - s)), ?_, ?_, ?_⟩
  · rw [e1, e2, pe]; grind
  · have := Int.mul_nonneg (Int.le_of_lt p) m0; omega
  · have := Int.mul_le_mul_of_nonneg_left (show nth X m % 2 ^ (64 - s) + 1 ≤ 2 ^ (64 - s) by omega) (Int.le_of_lt p)
    grind
theorem first_le {a b ah bh H al bl : Int} (ha : a = ah * H + al) (hb : b = bh * H + bl) (hH : 0 < H) (al1 : al < H) (bl0 : 0 ≤ bl) (h : b ≤ a) : bh ≤ ah := by
  by_cases c : bh ≤ ah
  · exact c
  · have := Int.mul_le_mul_of_nonneg_right (show ah + 1 ≤ bh by omega) (Int.le_of_lt hH)
    grind
/-- What foresee may lean on: words of sizes, the steps' rows. -/
theorem Leh.sizes {a b ah bh H al bl x0 y0 x1 y1 p q e : Int} (h : Leh a b ah bh H al bl x0 y0 x1 y1 p q e) (hah : ah < 18446744073709551616) (hbh : bh ≤ ah) (hq : 0 < q) :
    0 ≤ p / q * x1 ∧ 0 ≤ p / q * y1 ∧ x0 + p / q * x1 < 18446744073709551616 ∧ y0 + p / q * y1 < 18446744073709551616 ∧ 0 ≤ p % q ∧ p % q < q ∧ (y0 + p / q * y1 ≤ p % q → y1 + (y0 + p / q * y1) < 18446744073709551616) := by
  have m0 := Int.emod_nonneg p (show q ≠ 0 by omega)
  have m1 := Int.emod_lt_of_pos p hq
  have t0 : 1 ≤ p / q := (Int.le_ediv_iff_mul_le hq).2 (by have := h.qp; omega)
  have d := divmod_eq p q
  have a1 := Int.mul_nonneg (show 0 ≤ p / q by omega) h.px1
  have a2 := Int.mul_nonneg (show 0 ≤ p / q by omega) (show 0 ≤ y1 by have := h.py1; omega)
  have sy : (y0 + p / q * y1) * q + y1 * (p % q) = ah := by have := h.sumY; grind
  have sx : (x0 + p / q * x1) * q + x1 * (p % q) = bh := by have := h.sumX; grind
  have b1 := Int.mul_nonneg (show 0 ≤ y1 by have := h.py1; omega) m0
  have b2 := Int.mul_nonneg h.px1 m0
  have c1 := Int.mul_le_mul_of_nonneg_left (show 1 ≤ q by omega) (show 0 ≤ y0 + p / q * y1 by have := h.py0; omega)
  have c2 := Int.mul_le_mul_of_nonneg_left (show 1 ≤ q by omega) (show 0 ≤ x0 + p / q * x1 by have := h.px0; omega)
  refine ⟨a1, a2, by omega, by omega, m0, m1, fun hy => ?_⟩
  have y1' := h.py1
  have := Int.mul_le_mul_of_nonneg_left (show y1 ≤ p / q * y1 by have := Int.mul_le_mul_of_nonneg_right t0 (show 0 ≤ y1 by omega); omega) (show 0 ≤ (1 : Int) by omega)
  have b3 := Int.mul_le_mul_of_nonneg_left (show 1 ≤ p % q by have := h.py0; omega) (show 0 ≤ y1 by omega)
  omega
/-- The sign that goes with odd. -/
def sg (t : Bool) : Int := if t then -1 else 1
theorem sg_not (t : Bool) : sg (!t) = -sg t := by cases t <;> rfl
/-- What foresee answers: nothing, or steps that may be done. -/
def Seen (a b x0 y0 x1 y1 : Int) (t : Bool) : Prop :=
  x1 = 0 ∨ ((0 ≤ x0 ∧ x0 < 18446744073709551616) ∧ (0 ≤ y0 ∧ y0 < 18446744073709551616) ∧ (0 ≤ x1 ∧ x1 < 18446744073709551616) ∧ (0 ≤ y1 ∧ y1 < 18446744073709551616) ∧ 0 ≤ sg t * (y1 * b - x1 * a) ∧ sg t * (y1 * b - x1 * a) ≤ sg t * (x0 * a - y0 * b) ∧ sg t * (x0 * a - y0 * b) ≤ a ∧ sg t * (y1 * b - x1 * a) < b ∧ Int.gcd (sg t * (x0 * a - y0 * b)) (sg t * (y1 * b - x1 * a)) = Int.gcd a b)
theorem Leh.seen {a b ah bh H al bl x0 y0 x1 y1 p q : Int} {t : Bool} (h : Leh a b ah bh H al bl x0 y0 x1 y1 p q (sg t)) (hx : x0 < 18446744073709551616) (hy : y0 < 18446744073709551616) (hx1 : x1 < 18446744073709551616) (hy1 : y1 < 18446744073709551616) : Seen a b x0 y0 x1 y1 t := by
  rcases h.first with f | f
  · exact Or.inl f.1
  · exact Or.inr ⟨⟨h.px0, hx⟩, ⟨h.py0, hy⟩, ⟨h.px1, hx1⟩, ⟨by have := h.py1; omega, hy1⟩, h.low, h.ord, h.topA, f.2.2, h.same⟩

set_option maxRecDepth 100000 in
theorem foresee_none (a1 a2 : Option Addr) (n m c1 c2 : Nat) (w : World) (h : m + 1 < n) (hL : n ≤ 1099511627776) :
    Calls Tryz.prog 98 #[.slice a1 n c1, .slice a2 m c2] w fun e w' => e = .returned (.agg #[.int .u64 0, .int .u64 0, .int .u64 0, .int .u64 0, .bool false]) ∧ Below w.heap.size w w' := by
  go_enter Tryz.func98, Tryz.ntmps98
  go_wp2
  exact bodyPost_ret (v := .agg #[.int .u64 0, .int .u64 0, .int .u64 0, .int .u64 0, .bool false]) (by simp [results, Tryz.results98, go_sem]) rfl ⟨rfl, (Below.refl _ _).alloc (Nat.le_refl _) _⟩
end Go.Proofs.YtfalncbcomlelaaGreatDoor
