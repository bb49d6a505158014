import Derived.Test.YtmeoakcimlpobaaMs1
namespace Go.Proofs.Ytmeoakcimlpobaa.Mo
open Go.RowKit Go.Proofs.Ytmeoakcimlpobaa.L

/-- Where a sum stands behind k of them. -/
def Sm (xs : List Int) (k : Nat) (s : Int) : Prop := k ≤ xs.length ∧ (∀ i, i < k → isA (nth xs i) = true) ∧ s = (xs.take k).sum
theorem Sm.bd {xs : List Int} {k : Nat} {s : Int} (h : Sm xs k s) : -(1000000000000000 * (k : Int)) ≤ s ∧ s ≤ 1000000000000000 * (k : Int) := by
  obtain ⟨h1, h2, rfl⟩ := h; exact sum_bd xs k h1 h2
theorem Sm.next {xs : List Int} {k : Nat} {s : Int} (h : Sm xs k s) (hk : k < xs.length) (ha : isA (nth xs k) = true) : Sm xs (k + 1) (s + nth xs k) := by
  obtain ⟨h1, h2, rfl⟩ := h
  refine ⟨hk, fun i hi => ?_, (sum_more xs k hk).symm⟩
  by_cases e : i = k
  · subst e; exact ha
  · exact h2 i (by omega)
theorem Sm.done {xs : List Int} {s : Int} (h : Sm xs xs.length s) (hl : ¬ 4096 < xs.length) : sumR xs = if isA s then (s, 0) else (0, 6) := by
  obtain ⟨_, h2, rfl⟩ := h; exact sumR_all hl h2

set_option maxHeartbeats 1600000 in
set_option maxRecDepth 100000 in
theorem Sum_any (v : Value) (xs : List Int) (w : World) (h : Ri w v xs) :
    Calls Try.prog 4 #[v] w fun e w' => e = .returned (.tuple #[.int .i64 (sumR xs).1, .int .i64 (sumR xs).2]) ∧ w' = w := by
  obtain ⟨hb, a, cap, rfl, hl, hm, g⟩ := h
  by_cases hL : 4096 < xs.length
  · have hL' : (4096 : Int) < (xs.length : Int) := by omega
    have R := sumR_long hL
    rw [R]
    clear R g hb
    go_enter Try.func4, Try.ntmps4
    go_wp2
    go_ret2
    exact ⟨rfl, rfl⟩
  · have hL' : ¬ (4096 : Int) < (xs.length : Int) := by omega
    generalize hR : sumR xs = R
    have HR : Hid (sumR xs = R) := hR
    clear hR
    go_enter Try.func4, Try.ntmps4
    go_wp2_with fail
    go_loop [4, 12] (fun s i => ∃ (k : Nat) (z : Int), i = .int .i64 k ∧ s = .int .i64 z ∧ Sm xs k z) (fun _ i => xs.length - (intOf i).toNat)
    case atStart => exact ⟨0, 0, rfl, rfl, Nat.zero_le _, by simp, rfl⟩
    case round =>
      obtain ⟨k, z, rfl, rfl, S⟩ := hrel
      have kl := S.1
      have bz := S.bd
      by_cases hk : k < xs.length
      · obtain ⟨b, o, rfl, hc⟩ := g (by omega)
        have hc1 := hc.at hk
        have b1 := hc.lt (by omega)
        have bn := hb k
        rcases ha : isA (nth xs k) with _ | _
        · have E := sumR_bad hL hk ha
          rw [HR.out] at E
          subst E
          clear g hb HR
          go_wp2_with (go_at_call 7; refine (isAmount_any _ _).mono ?_; rintro e w' ⟨rfl, rfl⟩)
          go_ret2
          exact ⟨rfl, rfl⟩
        · have N := S.next hk ha
          have bi := isA_iff.1 ha
          generalize nth xs k = x at *
          have x1 : IntKind.i64.wrap (z + x) = z + x := wrapI _ (by omega) (by omega)
          clear g hb
          go_wp2_with (go_at_call 7; refine (isAmount_any _ _).mono ?_; rintro e w' ⟨rfl, rfl⟩)
          go_round
          case rel => exact ⟨k + 1, z + x, by go_num, rfl, N⟩
          case measure => simp [intOf]; omega
      · obtain rfl : k = xs.length := by omega
        have D := S.done hL
        rw [HR.out] at D
        clear g hb HR
        rcases hA : isA z with _ | _
        · rw [hA] at D
          subst D
          go_wp2_with (go_at_call 8; refine (asAmount_any _ _).mono ?_; rintro e w' ⟨rfl, rfl⟩)
          go_ret2
          exact ⟨rfl, rfl⟩
        · rw [hA] at D
          subst D
          go_wp2_with (go_at_call 8; refine (asAmount_any _ _).mono ?_; rintro e w' ⟨rfl, rfl⟩)
          go_ret2
          exact ⟨rfl, rfl⟩

set_option maxHeartbeats 1600000 in
set_option maxRecDepth 100000 in
theorem RSum_any (v : Value) (xs : List Int) (w : World) (h : Ri w v xs) :
    Calls Try.prog 5 #[v] w fun e w' => e = .returned (.tuple #[.int .i64 (sumR xs).1, .int .i64 (sumR xs).2]) ∧ w' = w := by
  obtain ⟨hb, a, cap, rfl, hl, hm, g⟩ := h
  by_cases hL : 4096 < xs.length
  · have hL' : (4096 : Int) < (xs.length : Int) := by omega
    have R := sumR_long hL
    rw [R]
    clear R g hb
    go_enter Try.func5, Try.ntmps5
    go_wp2
    go_ret2
    exact ⟨rfl, rfl⟩
  · have hL' : ¬ (4096 : Int) < (xs.length : Int) := by omega
    generalize hR : sumR xs = R
    have HR : Hid (sumR xs = R) := hR
    clear hR
    go_enter Try.func5, Try.ntmps5
    go_wp2_with fail
    go_loop [4, 5] (fun s i => ∃ (k : Nat) (z : Int), i = .int .i64 k ∧ s = .int .i64 z ∧ Sm xs k z) (fun _ i => xs.length - (intOf i).toNat)
    case atStart => exact ⟨0, 0, rfl, rfl, Nat.zero_le _, by simp, rfl⟩
    case round =>
      obtain ⟨k, z, rfl, rfl, S⟩ := hrel
      have kl := S.1
      have bz := S.bd
      by_cases hk : k < xs.length
      · obtain ⟨b, o, rfl, hc⟩ := g (by omega)
        have hc1 := hc.at hk
        have b1 := hc.lt (by omega)
        have bn := hb k
        rcases ha : isA (nth xs k) with _ | _
        · have E := sumR_bad hL hk ha
          rw [HR.out] at E
          subst E
          clear g hb HR
          go_wp2_with (go_at_call 9; refine (Is_any _ _).mono ?_; rintro e w' ⟨rfl, rfl⟩)
          go_ret2
          exact ⟨rfl, rfl⟩
        · have N := S.next hk ha
          have bi := isA_iff.1 ha
          generalize nth xs k = x at *
          have x1 : IntKind.i64.wrap (z + x) = z + x := wrapI _ (by omega) (by omega)
          clear g hb
          go_wp2_with (go_at_call 9; refine (Is_any _ _).mono ?_; rintro e w' ⟨rfl, rfl⟩)
          go_round
          case rel => exact ⟨k + 1, z + x, by go_num, rfl, N⟩
          case measure => simp [intOf]; omega
      · obtain rfl : k = xs.length := by omega
        have D := S.done hL
        rw [HR.out] at D
        clear g hb HR
        rcases hA : isA z with _ | _
        · rw [hA] at D
          subst D
          go_wp2_with (go_at_call 9; refine (Is_any _ _).mono ?_; rintro e w' ⟨rfl, rfl⟩)
          go_ret2
          exact ⟨rfl, rfl⟩
        · rw [hA] at D
          subst D
          go_wp2_with (go_at_call 9; refine (Is_any _ _).mono ?_; rintro e w' ⟨rfl, rfl⟩)
          go_ret2
          exact ⟨rfl, rfl⟩

set_option maxHeartbeats 1600000 in
set_option maxRecDepth 100000 in
/-- ints of two slices that read the same. -/
theorem ints_same (v u : Value) (xs : List Int) (w : World) (h : Ri w v xs) (h' : Ri w u xs) :
    Calls Try.prog 6 #[v, u] w fun e w' => e = .returned (.bool true) ∧ Below w.heap.size w w' := by
  obtain ⟨hb, a, cap, rfl, hl, hm, g⟩ := h
  obtain ⟨_, a', cap', rfl, hl', hm', g'⟩ := h'
  have hb : xs.length ≤ 9223372036854775807 := by unfold maxLen at hm; omega
  go_enter Try.func6, Try.ntmps6
  go_wp2_with fail
  go_loopw [5] (fun i wr => ∃ k : Nat, k ≤ xs.length ∧ i = .int .i64 k ∧ ∃ m, wr = w.drewN m) (fun i _ => xs.length - (intOf i).toNat)
  case atStart => exact ⟨0, Nat.zero_le _, rfl, 0, rfl⟩
  case round =>
    obtain ⟨k, hk, rfl, m, rfl⟩ := hrel
    by_cases hlt : k < xs.length
    · obtain ⟨b, o, rfl, hc⟩ := g (by omega)
      obtain ⟨b', o', rfl, hc'⟩ := g' (by omega)
      have d1 := hc.at hlt
      have d2 := hc'.at hlt
      have l1 := hc.lt (by omega)
      have l2 := hc'.lt (by omega)
      have x0 : (0 : Int) ≤ (k : Int) := by omega
      have x1 : ((k : Int)).toNat = k := by omega
      clear g g'
      go_wp2_with fail
      go_quiet (fail)
      go_wp2
      go_roundw
      case rel => exact ⟨k + 1, by omega, by go_num, _, rfl⟩
      case measure => simp [intOf]; omega
    · obtain rfl : k = xs.length := by omega
      clear g g'
      go_wp2
      go_ret
      exact ⟨rfl, (by repeat (first | exact Below.refl _ _ | refine below_drewN ?_ _))⟩
end Go.Proofs.Ytmeoakcimlpobaa.Mo
