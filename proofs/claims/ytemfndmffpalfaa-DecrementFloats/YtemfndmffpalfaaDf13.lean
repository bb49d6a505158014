import Derived.Test.YtemfndmffpalfaaDf12
namespace Go.Proofs.Ytemfndmffpalfaa.Df
open Go.RowKit Tn Go.Proofs.Ytemfndmffpalfaa.Ta
open Go.Proofs.Ytemfndmffpalfaa.Mo (Ri wrapI)

set_option maxRecDepth 100000 in
theorem Abs_c (n : Nat) (hn : n < 18446744073709551616) (w : World) : Calls Try.prog 15 #[.float .f64 n] w fun x w' => x = .returned (.float .f64 (rg64 n)) ∧ w' = w := by
  have hb := f64bits n w
  have ha := andNot_sign n hn
  have hf := f64frombits (rg64 n) w
  generalize rg64 n = m at *
  go_enter Try.func15, Try.ntmps15
  go_wp2
  go_ret
  exact ⟨rfl, rfl⟩
set_option maxRecDepth 100000 in
theorem IsInf_c (n : Nat) (hn : n < 18446744073709551616) (h : nan64 n = false) (w : World) : Calls Try.prog 9 #[.float .f64 n, .int .i64 0] w fun x w' => x = .returned (.bool (decide (rg64 n = 9218868437227405312))) ∧ w' = w := by
  have A := Abs_c n hn w
  have lt : rg64 n < 9223372036854775808 := Nat.mod_lt _ (by decide)
  have h2 : nan64 (rg64 n) = false := by
    unfold nan64 at *
    rw [decide_eq_false_iff_not] at *
    have e : rg64 (rg64 n) = rg64 n := Nat.mod_eq_of_lt lt
    rw [e]; exact h
  have h := order_max (rg64 n) h2
  rw [Nat.mod_eq_of_lt (show rg64 n < 18446744073709551616 by omega)] at h
  generalize decide (rg64 n = 9218868437227405312) = t at h ⊢
  generalize rg64 n = m at *
  go_enter Try.func9, Try.ntmps9
  go_wp2_with (first
    | (go_at_call 15; (refine A.mono ?_); (rintro e w2 ⟨rfl, hw⟩); (subst hw))
    | fail)
  go_ret
  exact ⟨rfl, rfl⟩
/-- Two floats are the same, or both are none. -/
def Sm (x y : Nat) : Prop := x = y ∨ (nan64 x = true ∧ nan64 y = true)
set_option maxRecDepth 100000 in
theorem SameFloat_c (x y : Nat) (h : Sm x y) (w : World) : Calls Try.prog 13 #[.float .f64 x, .float .f64 y] w fun e w' => e = .returned (.bool true) ∧ w' = w := by
  have b1 := f64bits x w
  have b2 := f64bits y w
  have o1 := order_self x
  have o2 := order_self y
  by_cases e : x = y
  · subst e
    have e1 : ((x : Int) == (x : Int)) = true := by simp
    clear o1 o2 h b2
    go_enter Try.func13, Try.ntmps13
    go_wp2
    go_ret
    exact ⟨rfl, rfl⟩
  · rcases h with h | ⟨n1, n2⟩
    · exact absurd h e
    · rw [n1] at o1
      rw [n2] at o2
      have e1 : ((x : Int) == (y : Int)) = false := by simp; omega
      clear e n1 n2
      go_enter Try.func13, Try.ntmps13
      go_wp2
      go_ret
      exact ⟨rfl, rfl⟩
set_option maxRecDepth 100000 in
set_option maxHeartbeats 1600000 in
theorem SameFloats_nil (w : World) : Calls Try.prog 6 #[.slice none 0 0, .slice none 0 0] w fun e w' => e = .returned (.bool true) ∧ Below w.heap.size w w' := by
  go_enter Try.func6, Try.ntmps6
  go_wp2_with fail
  go_loopw [5] (fun i wr => i = .int .i64 0 ∧ wr = w) (fun _ _ => 0)
  case atStart => exact ⟨rfl, rfl⟩
  case round =>
    obtain ⟨rfl, rfl⟩ := hrel
    go_wp2
    go_ret
    exact ⟨rfl, Below.refl _ _⟩
set_option maxRecDepth 100000 in
set_option maxHeartbeats 3200000 in
theorem SameFloats_c (b1 b2 c1 c2 n : Nat) (w : World) (hn : n ≤ 4096) (l1 : n ≤ c1) (l2 : n ≤ c2) (H : ∀ i, i < n → ∃ x y, w.cell? ⟨b1, i, none⟩ = some (.float .f64 x) ∧ w.cell? ⟨b2, i, none⟩ = some (.float .f64 y) ∧ Sm x y) : Calls Try.prog 6 #[.slice (some ⟨b1, 0, none⟩) n c1, .slice (some ⟨b2, 0, none⟩) n c2] w fun e w' => e = .returned (.bool true) ∧ Below w.heap.size w w' := by
  go_enter Try.func6, Try.ntmps6
  go_wp2_with fail
  go_loopw [5] (fun i wr => ∃ k : Nat, i = .int .i64 (k : Int) ∧ k ≤ n ∧ Below w.heap.size w wr) (fun i _ => n - (intOf i).toNat)
  case atStart => exact ⟨0, rfl, Nat.zero_le _, Below.refl _ _⟩
  case round =>
    obtain ⟨k, rfl, hk, pw⟩ := hrel
    by_cases lt : k < n
    · have lt' : (k : Int) < (n : Int) := by omega
      obtain ⟨x, y, h1, h2, h3⟩ := H k lt
      have g1 := (pw.cell (p := ⟨b1, k, none⟩) (World.block_lt_of_cell? w _ h1)).trans h1
      have g2 := (pw.cell (p := ⟨b2, k, none⟩) (World.block_lt_of_cell? w _ h2)).trans h2
      have y4 : IntKind.i64.wrap ((k : Int) + 1) = ((k + 1 : Nat) : Int) := by rw [show (k : Int) + 1 = ((k + 1 : Nat) : Int) by omega]; exact wrapI _ (by omega) (by omega)
      have HK : Hid (k + 1 ≤ n) := lt
      have S := fun V => SameFloat_c x y h3 V
      clear h1 h2 h3 H lt hk l1 l2 hn
      go_wp2_with fail
      go_region_held3 (fun x' => x'.cell? ⟨b1, k, none⟩ = some (.float .f64 x) ∧ x'.cell? ⟨b2, k, none⟩ = some (.float .f64 y)) (go_keep) (first
        | (go_at_call 13; (refine (S _).mono ?_); (rintro e w2 ⟨rfl, hw⟩); (subst hw))
        | fail)
      go_wp2_with fail
      go_roundw
      case rel => exact ⟨k + 1, by go_num, HK.out, pw.drew⟩
      case measure => simp [intOf]; have := HK.out; omega
    · obtain rfl : k = n := by omega
      have lt' : ¬ (k : Int) < (k : Int) := by omega
      clear H
      go_wp2_with fail
      go_ret
      exact ⟨rfl, pw⟩
end Go.Proofs.Ytemfndmffpalfaa.Df
