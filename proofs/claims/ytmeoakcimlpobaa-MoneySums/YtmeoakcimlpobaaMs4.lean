import Derived.Test.YtmeoakcimlpobaaMs3
import Derived.WalkKit
namespace Go.Proofs.Ytmeoakcimlpobaa.Mo
open Go.RowKit Go.Proofs.Ytmeoakcimlpobaa.L

theorem sum12 : sumR [1, 2] = (3, 0) := by
  rw [sumR_all (by simp)]
  · decide
  · intro i hi
    match i, hi with
    | 0, _ => decide
    | 1, _ => decide
theorem ri12 (w : World) (t : TypeId) : Ri (w.alloc (.cells #[.int .i64 1, .int .i64 2] t)) (.slice (some ⟨w.heap.size, 0, none⟩) 2 2) [1, 2] := by
  refine ⟨fun i => ?_, _, 2, rfl, Nat.le_refl _, by decide, fun _ => ⟨w.heap.size, 0, rfl, fun i hi => ?_⟩⟩
  · match i with
    | 0 => decide
    | 1 => decide
    | n + 2 => simp [nth]
  · match i, hi with
    | 0, _ => simp [nth]
    | 1, _ => simp [nth]

set_option maxHeartbeats 1600000 in
set_option maxRecDepth 100000 in
theorem law_any (ao : Option Addr) (cap : Nat) (xs : List Int) (w : World) (h : Ri w (.slice ao xs.length cap) xs) (hno : ao = none → cap = 0) (hL : xs.length * 8 ≤ 140737488351232) :
    Calls Try.prog 3 #[.slice ao xs.length cap] w fun e w' => e = .returned (.bool true) ∧ Below w.heap.size w w' := by
  have S1 := fun v W H => Sum_any v xs W H
  have S2 := fun v W H => RSum_any v xs W H
  have S3 := fun v W H => Sum_any v [1, 2] W H
  rw [sum12] at S3
  generalize sumR xs = R at S1 S2
  obtain ⟨p, q⟩ := R
  go_enter Try.func3, Try.ntmps3
  go_wp2_with (first
    | (at_builtin; refine wpList_copy_ints rfl _ _ rfl w.heap.size w.heap.size #[] rfl (heap_alloc_new _ _) rfl (Nat.le_refl _) ao cap xs xs.length rfl rfl hno (h.grow ((Below.refl _ _).alloc (Nat.le_refl _) _)) hL (by simp) ?_; intro g c1 W1 hg r1 b1; have h1 : Ri W1 (.slice ao xs.length cap) xs := h.grow (((Below.refl _ _).alloc (Nat.le_refl _) _).trans b1))
    | (go_at_call 4; (with_reducible refine (S1 _ _ r1).mono ?_); rintro e w' ⟨rfl, rfl⟩)
    | (go_at_call 4; (with_reducible refine (S3 _ _ (ri12 _ _)).mono ?_); rintro e w' ⟨rfl, rfl⟩; have r2 := r1.grow ((Below.refl _ _).alloc (Nat.le_refl _) (.cells #[.int .i64 1, .int .i64 2] 3)); have h2 := h1.grow ((Below.refl _ _).alloc (Nat.le_refl _) (.cells #[.int .i64 1, .int .i64 2] 3)))
    | (go_at_call 5; (with_reducible refine (S2 _ _ h1).mono ?_); rintro e w' ⟨rfl, rfl⟩)
    | (go_at_call 6; (with_reducible refine (ints_same _ _ xs _ r2 h2).mono ?_); rintro e w' ⟨rfl, b3⟩))
  go_ret
  refine ⟨rfl, ?_⟩
  have q1 := ((Below.refl w.heap.size w).alloc (Nat.le_refl _) (.cells #[] 3)).trans b1
  exact (q1.alloc q1.size _).trans (b3.mono (by simp; have := q1.size; omega))
end Go.Proofs.Ytmeoakcimlpobaa.Mo
