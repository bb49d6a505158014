import Derived.Test.YthadighbhdekdaaDoorB16
import Derived.Test.YthadighbhdekdaaDoorBlk
namespace Go.Proofs.YthadighbhdekdaaDoor.L
open Go.RowKit Tl

theorem rd_one {w : World} {n c : Nat} (h : w.cell? ⟨n, 0, none⟩ = some (.int .i64 1)) (h1 : 1 ≤ c) (h2 : c ≤ 9223372036854775807) : Rd w (.slice (some ⟨n, 0, none⟩) 1 c) [1] := by
  refine ⟨Wd.cons (by decide) (by decide) Wd.nil, _, c, rfl, h1, h2, fun _ => ⟨n, 0, rfl, ?_⟩⟩
  intro i hi
  have : i = 0 := by simp at hi; omega
  subst this
  simpa [nth] using h
theorem nm_one : Nm [1] := Or.inr (by simp)
theorem val_one : val [1] = 1 := by simp [val]
/-- Three cells are written. -/
theorem put3 {w1 : World} {b : Nat} {u0 u1 u2 : Value} (x y z : Value) (g0 : w1.cell? ⟨b, 0, none⟩ = some u0) (g1 : w1.cell? ⟨b, 1, none⟩ = some u1) (g2 : w1.cell? ⟨b, 2, none⟩ = some u2) :
    (((w1.setCell ⟨b, 0, none⟩ x).setCell ⟨b, 1, none⟩ y).setCell ⟨b, 2, none⟩ z).cell? ⟨b, 0, none⟩ = some x ∧ (((w1.setCell ⟨b, 0, none⟩ x).setCell ⟨b, 1, none⟩ y).setCell ⟨b, 2, none⟩ z).cell? ⟨b, 1, none⟩ = some y ∧ (((w1.setCell ⟨b, 0, none⟩ x).setCell ⟨b, 1, none⟩ y).setCell ⟨b, 2, none⟩ z).cell? ⟨b, 2, none⟩ = some z ∧ (∀ B w, B ≤ b → Below B w w1 → Below B w (((w1.setCell ⟨b, 0, none⟩ x).setCell ⟨b, 1, none⟩ y).setCell ⟨b, 2, none⟩ z)) := by
  have h1 : (w1.setCell ⟨b, 0, none⟩ x).cell? ⟨b, 1, none⟩ = some u1 := (World.cell?_setCell_other _ _ _ _ (by simp)).trans g1
  have h2 : ((w1.setCell ⟨b, 0, none⟩ x).setCell ⟨b, 1, none⟩ y).cell? ⟨b, 2, none⟩ = some u2 := (World.cell?_setCell_other _ _ _ _ (by simp)).trans ((World.cell?_setCell_other _ _ _ _ (by simp)).trans g2)
  refine ⟨?_, ?_, World.cell?_setCell_same _ _ _ h2, fun B w hB h => ((h.setCell (p := ⟨b, 0, none⟩) hB x).setCell (p := ⟨b, 1, none⟩) hB y).setCell (p := ⟨b, 2, none⟩) hB z⟩
  · rw [World.cell?_setCell_other _ _ _ _ (by simp), World.cell?_setCell_other _ _ _ _ (by simp), World.cell?_setCell_same _ _ _ g0]
  · rw [World.cell?_setCell_other _ _ _ _ (by simp), World.cell?_setCell_same _ _ _ h1]
/-- Numbers lie as they did where a Q's own block was written. -/
theorem Rd.putQ {w1 : World} {b : Nat} {v x y z : Value} {xs : List Int} {g : Bool} {a1 a2 : Option Addr} {n1 c1 n2 c2 : Nat} {t : TypeId} (h : Rd w1 v xs) (K : Blk w1 b #[.bool g, .slice a1 n1 c1, .slice a2 n2 c2] t) : Rd (((w1.setCell ⟨b, 0, none⟩ x).setCell ⟨b, 1, none⟩ y).setCell ⟨b, 2, none⟩ z) v xs := by
  obtain ⟨hx, a, c, rfl, h2, h3, g⟩ := h
  refine ⟨hx, a, c, rfl, h2, h3, fun l => ?_⟩
  obtain ⟨b', o, rfl, hc⟩ := g l
  have hne : b' ≠ b := by
    intro e
    subst e
    have h0 := hc 0 l
    rw [K.at] at h0
    match o, h0 with
    | 0, h0 => simp at h0
    | 1, h0 => simp at h0
    | 2, h0 => simp at h0
    | o + 3, h0 => simp at h0
  have hw : Wr b 0 3 w1 (((w1.setCell ⟨b, 0, none⟩ x).setCell ⟨b, 1, none⟩ y).setCell ⟨b, 2, none⟩ z) := (((Wr.refl _ _ _ _).setCell 0 (by omega) x).setCell 1 (by omega) y).setCell 2 (by omega) z
  exact ⟨b', o, rfl, hc.other hw hne⟩
theorem gcd_rest {x g q r : Int} (hd : g ∣ x) (h : x = q * g + r) (r0 : 0 ≤ r) (r1 : r < g) : q * g = x := by
  have h1 : g ∣ r := by
    obtain ⟨k, hk⟩ := hd
    exact ⟨k - q, by rw [Int.mul_sub, ← hk, h]; rw [Int.mul_comm g q]; omega⟩
  obtain ⟨k, hk⟩ := h1
  by_cases c : k = 0
  · rw [c] at hk; simp at hk; omega
  · rcases Int.lt_or_gt_of_ne c with c | c
    · have := Int.mul_le_mul_of_nonneg_left (show k ≤ -1 by omega) (show 0 ≤ g by omega); omega
    · have := Int.mul_le_mul_of_nonneg_left (show 1 ≤ k by omega) (show 0 ≤ g by omega); omega
end Go.Proofs.YthadighbhdekdaaDoor.L
