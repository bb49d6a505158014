import Derived.Test.YtfalncbcomlelaaGreatDoorDiv2
import Derived.Test.YtfalncbcomlelaaGreatDoorMul2
namespace Go.Proofs.YtfalncbcomlelaaGreatDoor
open Go.RowKit Tn

/-- The quotient's word and a guess that is not below it: what is left, up to the words that there are. -/
structure Left (X R D : List Int) (g : Int) : Prop where
  len : X.length = D.length + 1
  wd : Wd X
  ge : val R / val D ≤ g
  g1 : g < 18446744073709551616
  cong : ∃ k : Int, val X = val R - g * val D + pw (D.length + 1) * k
theorem val_last {X : List Int} {n : Nat} (h : X.length = n + 1) : val X = val (X.take n) + pw n * nth X n := by
  have e := val_at X n (by omega)
  rw [← h, List.take_length] at e; exact e
theorem Left.top {X R D : List Int} {g : Int} (h : Left X R D g) (hR : Wd R) (hD : Wd D) (d0 : 0 < val D) (g0 : 0 ≤ g) : (nth X D.length = 0 → g = val R / val D ∧ val (X.take D.length) = val R - g * val D) ∧ (nth X D.length ≠ 0 → val R / val D ≤ g - 1) := by
  obtain ⟨k, hk⟩ := h.cong
  have e := val_last h.len
  have x0 := val_nonneg h.wd
  have x1 := val_lt h.wd
  rw [h.len] at x1
  have p := pw_pos D.length
  have dl := val_lt hD
  have R0 := val_nonneg hR
  have tb := nth_bd h.wd D.length
  have t0 := val_nonneg (h.wd.take D.length)
  have t1 := val_lt (h.wd.take D.length)
  rw [List.length_take, Nat.min_eq_left (by have := h.len; omega)] at t1
  have m1 : (val R / val D) * val D ≤ val R := quo_le d0
  have m2 : val R < (val R / val D + 1) * val D := by have := divmod_eq (val R) (val D); have := Int.emod_lt_of_pos (val R) d0; grind
  have pe : pw (D.length + 1) = 18446744073709551616 * pw D.length := rfl
  rw [pe] at hk x1
  by_cases hg : g = val R / val D
  · have v0 : 0 ≤ val R - g * val D := by rw [hg]; omega
    have v1 : val R - g * val D < val D := by rw [hg]; grind
    have hk0 : k = 0 := by
      by_cases c : k = 0
      · exact c
      · rcases Int.lt_or_gt_of_ne c with c | c
        · have := Int.mul_le_mul_of_nonneg_left (show k ≤ -1 by omega) (show 0 ≤ 18446744073709551616 * pw D.length by omega); omega
        · have := Int.mul_le_mul_of_nonneg_left (show 1 ≤ k by omega) (show 0 ≤ 18446744073709551616 * pw D.length by omega); omega
    rw [hk0] at hk
    have ht : nth X D.length = 0 := by
      by_cases c : nth X D.length = 0
      · exact c
      · have := Int.mul_le_mul_of_nonneg_left (show 1 ≤ nth X D.length by omega) (Int.le_of_lt p); omega
    refine ⟨fun _ => ⟨hg, ?_⟩, fun c => absurd ht c⟩
    rw [ht] at e; omega
  · have hg2 : val R / val D + 1 ≤ g := by have := h.ge; omega
    have v0 : val R - g * val D < 0 := by
      have := Int.mul_le_mul_of_nonneg_right hg2 (Int.le_of_lt d0); omega
    have v1 : -(18446744073709551615 * pw D.length) < val R - g * val D ∨ g = 0 := by
      by_cases c : g = 0
      · exact Or.inr c
      · left
        have a1 := Int.mul_lt_mul_of_pos_left dl (show 0 < g by omega)
        have a2 := Int.mul_le_mul_of_nonneg_right (show g ≤ 18446744073709551615 by have := h.g1; omega) (Int.le_of_lt p)
        omega
    have v1' : -(18446744073709551615 * pw D.length) < val R - g * val D := by
      rcases v1 with v1 | v1
      · exact v1
      · rw [v1] at v0; simp at v0; omega
    have hk1 : 1 ≤ k := by
      by_cases c : 1 ≤ k
      · exact c
      · have := Int.mul_le_mul_of_nonneg_left (show k ≤ 0 by omega) (show 0 ≤ 18446744073709551616 * pw D.length by omega); omega
    have hx : pw D.length < val X := by
      have := Int.mul_le_mul_of_nonneg_left hk1 (show 0 ≤ 18446744073709551616 * pw D.length by omega); omega
    refine ⟨fun c => ?_, fun _ => by omega⟩
    rw [c] at e; omega
theorem guess_fits {R D : List Int} {q : Int} (hR : Wd R) (hD : Wd D) (n : Nat) (hn : D.length = n + 2) (hl : R.length = n + 3) (q0 : 0 ≤ q) (hq : q * val D ≤ val R) :
    q * (nth D (n + 1) * 18446744073709551616 + nth D n) ≤ (nth R (n + 2) * 18446744073709551616 + nth R (n + 1)) * 18446744073709551616 + nth R n := by
  have e1 := val_last (X := D) (n := n + 1) (by omega)
  have e2 := val_at D n (by omega)
  have e3 := val_last (X := R) (n := n + 2) (by omega)
  have e4 := val_at R (n + 1) (by omega)
  have e5 := val_at R n (by omega)
  have d0 := val_nonneg (hD.take n)
  have r1 := val_lt (hR.take n)
  rw [List.length_take, Nat.min_eq_left (by omega)] at r1
  have p := pw_pos n
  have p1 : pw (n + 1) = 18446744073709551616 * pw n := rfl
  have p2 : pw (n + 2) = 18446744073709551616 * (18446744073709551616 * pw n) := rfl
  have f1 : val D = val (D.take n) + (nth D (n + 1) * 18446744073709551616 + nth D n) * pw n := by rw [e1, e2, p1]; grind
  have f2 : val R = val (R.take n) + ((nth R (n + 2) * 18446744073709551616 + nth R (n + 1)) * 18446744073709551616 + nth R n) * pw n := by rw [e3, e4, e5, p1, p2]; grind
  have g1 := Int.mul_nonneg q0 d0
  have g2 : q * (nth D (n + 1) * 18446744073709551616 + nth D n) * pw n < ((nth R (n + 2) * 18446744073709551616 + nth R (n + 1)) * 18446744073709551616 + nth R n + 1) * pw n := by
    rw [f1, f2] at hq; grind
  have := Int.lt_of_mul_lt_mul_right g2 (Int.le_of_lt p)
  omega
theorem Left.first {R D S' : List Int} {g c : Int} (hR : R.length = D.length + 1) (hw : Wd S') (hl : S'.length = D.length) (ge : val R / val D ≤ g) (g1 : g < 18446744073709551616) (hv : val S' - pw D.length * c = val (R.take D.length) - val D * g) : Left (S' ++ [IntKind.u64.wrap (nth R D.length - c)]) R D g := by
  refine ⟨by simp [hl], hw.append (Wd.cons (by rw [wrap_u64]; omega) (by rw [wrap_u64]; omega) Wd.nil), ge, g1, ?_⟩
  have e := val_last hR
  rw [val_snoc, hl, wrap_u64]
  have dm := Int.emod_add_mul_ediv (nth R D.length - c) 18446744073709551616
  refine ⟨-((nth R D.length - c) / 18446744073709551616), ?_⟩
  have pe : pw (D.length + 1) = 18446744073709551616 * pw D.length := rfl
  rw [e, pe]
  grind
theorem Left.back {X R D S' : List Int} {g c : Int} (h : Left X R D g) (hw : Wd S') (hl : S'.length = D.length) (ge : val R / val D ≤ g - 1) (hv : val S' + pw D.length * c = val (X.take D.length) + val D) : Left (S' ++ [IntKind.u64.wrap (nth X D.length + c)]) R D (g - 1) := by
  refine ⟨by simp [hl], hw.append (Wd.cons (by rw [wrap_u64]; omega) (by rw [wrap_u64]; omega) Wd.nil), ge, by have := h.g1; omega, ?_⟩
  have e := val_last h.len
  obtain ⟨k, hk⟩ := h.cong
  rw [val_snoc, hl, wrap_u64]
  have dm := Int.emod_add_mul_ediv (nth X D.length + c) 18446744073709551616
  refine ⟨k - (nth X D.length + c) / 18446744073709551616, ?_⟩
  have pe : pw (D.length + 1) = 18446744073709551616 * pw D.length := rfl
  rw [pe] at hk ⊢
  grind
/-- The words, and one more behind them that was stored. -/
theorem Cells.snoc {w : World} {b o : Nat} {S : List Int} (h : Cells w b o S) (v : Int) {u : Value} (hu : w.cell? ⟨b, o + S.length, none⟩ = some u) : Cells (w.setCell ⟨b, o + S.length, none⟩ (.int .u64 v)) b o (S ++ [v]) := by
  refine Cells.append (fun i hi => ?_) (fun i hi => ?_)
  · rw [World.cell?_setCell_other _ _ _ _ (by simp; try omega)]; exact h i hi
  · have : i = 0 := by simp at hi; omega
    subst this
    exact World.cell?_setCell_same _ _ _ hu
end Go.Proofs.YtfalncbcomlelaaGreatDoor
