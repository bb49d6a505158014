import Derived.Test.YthadighbhdekdaaDoorB18
namespace Go.Proofs.YthadighbhdekdaaDoor.L
open Go.RowKit Tl

/-- x times B is added to X0 from place i on: k limbs of it. -/
structure Mu (X0 B : List Int) (i : Nat) (x : Int) (k : Nat) (c : Int) (X : List Int) : Prop where
  len : X.length = X0.length
  wd : Wd X
  up : ∀ j, i + k ≤ j → nth X j = nth X0 j
  c0 : 0 ≤ c
  c1 : c < 1073741824
  eq : val X + pw (i + k) * c = val X0 + x * (pw i * val (B.take k))
theorem Mu.start {X0 B : List Int} {i : Nat} {x : Int} (h : Wd X0) : Mu X0 B i x 0 0 X0 := ⟨rfl, h, fun _ _ => rfl, by omega, by omega, by simp [val]⟩
theorem mu_bd {a b y c : Int} (a0 : 0 ≤ a) (a1 : a < 1073741824) (b0 : 0 ≤ b) (b1 : b < 1073741824) (y0 : 0 ≤ y) (y1 : y < 1073741824) (c0 : 0 ≤ c) (c1 : c < 1073741824) : 0 ≤ a * b ∧ a * b ≤ 1152921502459363329 ∧ c + (y + a * b) < 1152921504606846976 := by
  have h0 := Int.mul_nonneg a0 b0
  have h1 := Int.mul_le_mul (show a ≤ 1073741823 by omega) (show b ≤ 1073741823 by omega) b0 (by decide)
  omega
theorem Mu.next {X0 B : List Int} {i : Nat} {x : Int} {k : Nat} {c S : Int} {X : List Int} (h : Mu X0 B i x k c X) (hB : Wd B) (x0 : 0 ≤ x) (x1 : x < 1073741824) (hk : k < B.length) (hl : i + k < X0.length) (hS : S = c + (nth X (i + k) + x * nth B k)) : Mu X0 B i x (k + 1) (S / 1073741824) (X.set (i + k) (S % 1073741824)) := by
  have hlen := h.len
  have b := nth_bd h.wd (i + k)
  have b2 := nth_bd hB k
  have bd := mu_bd x0 x1 b2.1 b2.2 b.1 b.2 h.c0 h.c1
  have c0 := h.c0
  refine ⟨by simp [hlen], h.wd.set _ (by omega) (by omega), ?_, by omega, by omega, ?_⟩
  · intro j hj
    rw [nth_set_other _ _ _ _ (by omega)]
    exact h.up j (by omega)
  · have e := h.eq
    have es : S = S % 1073741824 + 1073741824 * (S / 1073741824) := by omega
    rw [val_set (by omega), val_at B k hk, show i + (k + 1) = i + k + 1 from rfl]
    have a4 : pw (i + k) = pw i * pw k := pw_add i k
    generalize S % 1073741824 = p at *
    generalize S / 1073741824 = q at *
    simp only [pw]
    rw [a4] at e ⊢
    grind
/-- The first i limbs of A times B. -/
structure Mo (A B : List Int) (i : Nat) (X : List Int) : Prop where
  len : X.length = A.length + B.length
  wd : Wd X
  zero : ∀ j, i + B.length ≤ j → nth X j = 0
  eq : val X = val (A.take i) * val B
theorem Mo.start (A B : List Int) : Mo A B 0 (List.replicate (A.length + B.length) 0) := ⟨by simp, wd_zero _, fun j _ => nth_replicate _ _, by rw [val_zeros]; simp [val]⟩
theorem Mo.next {A B X0 X : List Int} {i : Nat} {c : Int} (h : Mo A B i X0) (m : Mu X0 B i (nth A i) B.length c X) (hi : i < A.length) : nth X (i + B.length) = 0 ∧ Mo A B (i + 1) (X.set (i + B.length) c) := by
  have hlen := m.len
  have hl := h.len
  have z : nth X (i + B.length) = 0 := by rw [m.up _ (Nat.le_refl _)]; exact h.zero _ (Nat.le_refl _)
  refine ⟨z, ⟨by simp; omega, m.wd.set _ m.c0 m.c1, ?_, ?_⟩⟩
  · intro j hj
    rw [nth_set_other _ _ _ _ (by omega), m.up j (by omega)]
    exact h.zero j (by omega)
  · have e := m.eq
    have e2 := h.eq
    rw [List.take_length] at e
    rw [val_set (by omega), z, val_at A i hi]
    grind
end Go.Proofs.YthadighbhdekdaaDoor.L
