import Derived.Test.YtemfndmffpalfaaDf3
namespace Go.Proofs.Ytemfndmffpalfaa.Df
open Go.RowKit Tn Go.Proofs.Ytemfndmffpalfaa.Ta
open Go.Proofs.Ytemfndmffpalfaa.Mo (Ri wrapI)

set_option maxRecDepth 100000 in
set_option maxHeartbeats 3200000 in
theorem Check_k0 (f : Int) (b o c L n : Nat) (N : Nat → Nat) (w : World) (h1 : 0 < L) (h2 : L ≤ 8) (h3 : 0 ≤ f) (h4 : f ≤ 130) (hN : N 0 = n) (hn : n = 0) (C0 : ∃ a cap, w.cell? ⟨b, o, none⟩ = some (.slice a (N 0) cap)) : Calls Try.prog 14 #[.agg #[.int .i64 f, .slice (some ⟨b, o, none⟩) L c]] w fun e w' => e = .returned (.int .i64 150) ∧ Below w.heap.size w w' := by
  obtain ⟨a, cap, c0⟩ := C0
  rw [hN, hn] at c0
  have K := Blk.new w #[.int .i64 f, .slice (some ⟨b, o, none⟩) L c] 24
  have pr : Below w.heap.size w (w.alloc (.cells #[.int .i64 f, .slice (some ⟨b, o, none⟩) L c] 24)) := (Below.refl _ _).alloc (Nat.le_refl _) _
  have d1 : ((L : Int) == 0) = false := beq_eq_false_iff_ne.2 (by omega)
  have d2 : decide ((L : Int) > 8) = false := decide_eq_false (by omega)
  have d3 : decide (f < 0) = false := decide_eq_false (by omega)
  have d4 : decide (f > 130) = false := decide_eq_false (by omega)
  have l0 : (0 : Int) < (L : Int) := by omega
  have c1 := (pr.cell (p := ⟨b, o, none⟩) (World.block_lt_of_cell? w _ c0)).trans c0
  go_enter Try.func14, Try.ntmps14
  go_wp2_with fail
  go_ret
  exact ⟨rfl, pr⟩
set_option maxRecDepth 100000 in
set_option maxHeartbeats 3200000 in
theorem Check_k1 (f M : Int) (b o c L n : Nat) (N : Nat → Nat) (w : World) (h1 : 0 < L) (h2 : L ≤ 8) (h3 : 0 ≤ f) (h4 : f ≤ 130) (hN : N 0 = n) (hn : 0 < n) (hM : M > 130) (C0 : ∃ a cap, w.cell? ⟨b, o, none⟩ = some (.slice a (N 0) cap)) (LA : ∀ x, Below w.heap.size w x → Calls Try.prog 10 #[.agg #[.int .i64 f, .slice (some ⟨b, o, none⟩) L c]] x fun e w' => e = .returned (.int .i64 M) ∧ Below x.heap.size x w') : Calls Try.prog 14 #[.agg #[.int .i64 f, .slice (some ⟨b, o, none⟩) L c]] w fun e w' => e = .returned (.int .i64 150) ∧ Below w.heap.size w w' := by
  obtain ⟨a, cap, c0⟩ := C0
  rw [hN] at c0
  have K := Blk.new w #[.int .i64 f, .slice (some ⟨b, o, none⟩) L c] 24
  have pr : Below w.heap.size w (w.alloc (.cells #[.int .i64 f, .slice (some ⟨b, o, none⟩) L c] 24)) := (Below.refl _ _).alloc (Nat.le_refl _) _
  have d1 : ((L : Int) == 0) = false := beq_eq_false_iff_ne.2 (by omega)
  have d2 : decide ((L : Int) > 8) = false := decide_eq_false (by omega)
  have d3 : decide (f < 0) = false := decide_eq_false (by omega)
  have d4 : decide (f > 130) = false := decide_eq_false (by omega)
  have l0 : (0 : Int) < (L : Int) := by omega
  have d5 : ((n : Int) == 0) = false := beq_eq_false_iff_ne.2 (by omega)
  have d6 : decide (M > 130) = true := decide_eq_true hM
  have c1 := (pr.cell (p := ⟨b, o, none⟩) (World.block_lt_of_cell? w _ c0)).trans c0
  go_enter Try.func14, Try.ntmps14
  go_wp2_with (first
    | (go_at_call 10; (refine (LA _ pr).mono ?_); (rintro e w1 ⟨rfl, b1⟩); (have p1 := bel' pr b1))
    | fail)
  go_ret
  exact ⟨rfl, p1⟩
set_option maxRecDepth 100000 in
set_option maxHeartbeats 3200000 in
theorem Check_k2 (f M : Int) (b o c L n : Nat) (N : Nat → Nat) (Y : Nat → Bool) (w : World) (h1 : 0 < L) (h2 : L ≤ 8) (h3 : 0 ≤ f) (h4 : f ≤ 130) (hN : N 0 = n) (hn : 0 < n) (hM : ¬ M > 130) (R : Int) (hR : Hid (R = if (∀ d, d < L → N d = n ∧ Y d = true) then 0 else 150)) (LA : ∀ x, Below w.heap.size w x → Calls Try.prog 10 #[.agg #[.int .i64 f, .slice (some ⟨b, o, none⟩) L c]] x fun e w' => e = .returned (.int .i64 M) ∧ Below x.heap.size x w') (CL : ∀ d, d < L → ∃ a cap, w.cell? ⟨b, o + d, none⟩ = some (.slice a (N d) cap) ∧ ∀ x, Below w.heap.size w x → Calls Try.prog 18 #[.slice a (N d) cap] x fun e w' => e = .returned (.bool (Y d)) ∧ w' = x) : Calls Try.prog 14 #[.agg #[.int .i64 f, .slice (some ⟨b, o, none⟩) L c]] w fun e w' => e = .returned (.int .i64 R) ∧ Below w.heap.size w w' := by
  obtain ⟨a, cap, c0, A0⟩ := CL 0 h1
  rw [hN, Nat.add_zero] at c0
  have K := Blk.new w #[.int .i64 f, .slice (some ⟨b, o, none⟩) L c] 24
  have pr : Below w.heap.size w (w.alloc (.cells #[.int .i64 f, .slice (some ⟨b, o, none⟩) L c] 24)) := (Below.refl _ _).alloc (Nat.le_refl _) _
  have d1 : ((L : Int) == 0) = false := beq_eq_false_iff_ne.2 (by omega)
  have d2 : decide ((L : Int) > 8) = false := decide_eq_false (by omega)
  have d3 : decide (f < 0) = false := decide_eq_false (by omega)
  have d4 : decide (f > 130) = false := decide_eq_false (by omega)
  have l0 : (0 : Int) < (L : Int) := by omega
  have d5 : ((n : Int) == 0) = false := beq_eq_false_iff_ne.2 (by omega)
  have d6 : decide (M > 130) = false := decide_eq_false hM
  have c1 := (pr.cell (p := ⟨b, o, none⟩) (World.block_lt_of_cell? w _ c0)).trans c0
  go_enter Try.func14, Try.ntmps14
  go_wp2_with (first
    | (go_at_call 10; (refine (LA _ pr).mono ?_); (rintro e w1 ⟨rfl, b1⟩); (have p1 := bel' pr b1); (have K1 := K.below b1 K.lt); (have k0 := K1.at 0); (have k1 := K1.at 1); (simp at k0 k1))
    | fail)
  go_loopw [41] (fun i wr => ∃ k : Nat, k ≤ L ∧ i = .int .i64 k ∧ Hid (∀ d, d < k → N d = n ∧ Y d = true) ∧ wr = w1) (fun i _ => L - (intOf i).toNat)
  case atStart => exact ⟨0, Nat.zero_le _, rfl, fun j hj => absurd hj (by omega), rfl⟩
  case round =>
    obtain ⟨k, hk, rfl, hd, rfl⟩ := hrel
    by_cases hlt : k < L
    · obtain ⟨a', cap', c0', A⟩ := CL k hlt
      have c2 := (p1.cell (p := ⟨b, o + k, none⟩) (World.block_lt_of_cell? w _ c0')).trans c0'
      have kl : (k : Int) < (L : Int) := by omega
      have A1 := A _ p1
      by_cases e1 : N k = n
      · rw [e1] at c2 A1
        cases e2 : Y k with
        | true =>
          rw [e2] at A1
          have H : Hid (∀ d, d < k + 1 → N d = n ∧ Y d = true) := fun d hd' => by
            by_cases e : d = k
            · subst e; exact ⟨e1, e2⟩
            · exact hd.out d (by omega)
          clear e1 e2 A A0 LA CL
          go_wp2_with (first
            | (go_at_call 18; (refine A1.mono ?_); (rintro e w2 ⟨rfl, hw⟩); (subst hw))
            | fail)
          go_roundw
          case rel => exact ⟨k + 1, by omega, by go_num, H, trivial⟩
          case measure => simp [intOf]; omega
        | false =>
          rw [e2] at A1
          obtain rfl : R = 150 := by
            rw [hR.out, if_neg]
            intro z
            have := (z k hlt).2
            rw [e2] at this
            cases this
          clear e1 e2 A A0 LA CL hR
          go_wp2_with (first
            | (go_at_call 18; (refine A1.mono ?_); (rintro e w2 ⟨rfl, hw⟩); (subst hw))
            | fail)
          go_ret
          exact ⟨rfl, p1⟩
      · obtain rfl : R = 150 := by
          rw [hR.out, if_neg]
          intro z
          exact e1 (z k hlt).1
        have d7 : ((N k : Int) != (n : Int)) = true := by
          simp; omega
        clear e1 A A0 LA CL hR A1
        generalize N k = nk at *
        go_wp2_with fail
        go_ret
        exact ⟨rfl, p1⟩
    · obtain rfl : R = 0 := by
        rw [hR.out, if_pos]
        intro d hd'
        exact hd.out d (by omega)
      have kl : ¬ (k : Int) < (L : Int) := by omega
      clear A0 LA CL hR
      go_wp2_with fail
      go_ret
      exact ⟨rfl, p1⟩
end Go.Proofs.Ytemfndmffpalfaa.Df
