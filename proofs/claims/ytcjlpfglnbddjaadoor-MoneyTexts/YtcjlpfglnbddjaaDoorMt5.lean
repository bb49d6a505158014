import Derived.Test.YtcjlpfglnbddjaaDoorMt4
namespace Go.Proofs.YtcjlpfglnbddjaaDoor.Mo
open Go.RowKit Go.Lib Dc

theorem empty_iff (s : ByteArray) : s.toList.isEmpty = decide (s.size = 0) := by
  rw [ByteArray.toList_eq, Bool.eq_iff_iff, List.isEmpty_iff, decide_eq_true_iff, ← List.length_eq_zero_iff, Array.length_toList]
  rfl
set_option maxHeartbeats 1600000 in
set_option maxRecDepth 100000 in
/-- exact.CutSign. -/
theorem CutSign_any (s : ByteArray) (w : World) (hs : s.size ≤ 1099511627776) :
    Calls Tryd.prog 14 #[.string s] w fun e w' => e = .returned (.tuple #[.bool (neg s), .string (rest s)]) ∧ Below w.heap.size w w' := by
  have he := empty_iff s
  by_cases h0 : s.size = 0
  · have hn : neg s = false := by unfold neg; rw [bt_out (by omega)]; decide
    have hr : rest s = s := by unfold rest; rw [hn]; rfl
    rw [hn, hr]
    rw [h0] at he
    simp at he
    go_enter Tryd.func14, Tryd.ntmps14
    go_wp2
    go_ret2
    exact ⟨rfl, Below.refl _ _⟩
  · have hp : 0 < s.size := by omega
    have he' : s.toList.isEmpty = false := by rw [he]; simp [h0]
    clear he
    have hb := bt_in hp
    rcases hn : neg s with _ | _
    · have hc : (((s[0].toNat : Int)) == 45) = false := by
        rw [beq_eq_false_iff_ne]
        have : ¬ bt s 0 = 45 := by simpa [neg] using hn
        rw [hb] at this
        omega
      have hr : rest s = s := by unfold rest; rw [hn]; rfl
      rw [hr]
      clear hb hn hr
      go_enter Tryd.func14, Tryd.ntmps14
      go_wp2
      go_ret2
      exact ⟨rfl, Below.refl _ _⟩
    · have hc : (((s[0].toNat : Int)) == 45) = true := by
        rw [beq_iff_eq]
        have : bt s 0 = 45 := by simpa [neg] using hn
        rw [hb] at this
        omega
      have hr : rest s = s.extract 1 s.size := by unfold rest; rw [hn]; rfl
      rw [hr]
      clear hb hn hr
      have h1 : (1 : Int) ≤ (s.size : Int) := by omega
      go_enter Tryd.func14, Tryd.ntmps14
      go_wp2_with fail
      go_region
      all_goals
        go_wp2
        go_ret2
        exact ⟨rfl, (by repeat (first | exact Below.refl _ _ | refine L.below_drewN ?_ _ | refine Below.drew ?_))⟩

set_option maxHeartbeats 1600000 in
set_option maxRecDepth 100000 in
/-- digitsAhead: the digits ahead, so many at most. -/
theorem digitsAhead_any (s : ByteArray) (m : Nat) (w : World) (hs : s.size ≤ 1099511627776) :
    Calls Tryd.prog 24 #[.string s, .int .i64 (m : Int)] w fun e w' => ∃ k : Nat, e = .returned (.int .i64 (k : Int)) ∧ k ≤ m ∧ k ≤ s.size ∧ (∀ j, j < k → dgt s j = true) ∧ (k = m ∨ dgt s k = false) ∧ w' = w := by
  go_enter Tryd.func24, Tryd.ntmps24
  go_wp2_with fail
  go_loop [5] (fun i => ∃ k : Nat, k ≤ m ∧ k ≤ s.size ∧ i = .int .i64 (k : Int) ∧ Hid (∀ j, j < k → dgt s j = true)) (fun i => s.size - (RowKit.intOf i).toNat)
  case atStart => exact ⟨0, Nat.zero_le _, Nat.zero_le _, rfl, fun j hj => absurd hj (by omega)⟩
  case round =>
    obtain ⟨k, hk, hks, rfl, hd⟩ := hrel
    by_cases h1 : k < s.size
    · have hb := bt_in h1
      by_cases h2 : k < m
      · by_cases hg : dgt s k = true
        · have N : Hid (∀ j, j < k + 1 → dgt s j = true) := fun j hj => by
            by_cases e : j = k
            · subst e; exact hg
            · exact hd.out j (by omega)
          simp only [dgt, decide_eq_true_iff, hb] at hg
          obtain ⟨g1, g2⟩ := hg
          clear hb
          have g1' : (48 : Int) ≤ (s[k].toNat : Int) := by omega
          have g2' : (s[k].toNat : Int) ≤ 57 := by omega
          go_wp2
          go_round
          case rel => exact ⟨k + 1, by omega, by omega, by go_num, N⟩
          case measure => simp [RowKit.intOf]; omega
        · have F : Hid (dgt s k = false) := by show _ = _; simpa using hg
          have hg' : (s[k].toNat : Int) < 48 ∨ 57 < (s[k].toNat : Int) := by simp only [dgt, decide_eq_true_iff, hb] at hg; omega
          clear hg hb
          rcases hg' with hg | hg
          · go_wp2
            go_ret
            exact ⟨k, rfl, hk, hks, hd.out, Or.inr F.out, rfl⟩
          · have hg2 : (48 : Int) ≤ (s[k].toNat : Int) := by omega
            go_wp2
            go_ret
            exact ⟨k, rfl, hk, hks, hd.out, Or.inr F.out, rfl⟩
      · go_wp2
        go_ret
        exact ⟨k, rfl, hk, hks, hd.out, Or.inl (by omega), rfl⟩
    · have F : Hid (dgt s k = false) := by show _ = _; unfold dgt; rw [bt_out (by omega)]; decide
      go_wp2
      go_ret
      exact ⟨k, rfl, hk, hks, hd.out, Or.inr F.out, rfl⟩

set_option maxHeartbeats 1600000 in
set_option maxRecDepth 100000 in
/-- digit of the reference. -/
theorem digit_any (s : ByteArray) (k : Nat) (w : World) :
    Calls Tryd.prog 17 #[.string s, .int .i64 (k : Int)] w fun e w' => e = .returned (.bool (dgt s k)) ∧ w' = w := by
  by_cases h1 : k < s.size
  · have hb := bt_in h1
    by_cases hg : dgt s k = true
    · rw [hg]
      simp only [dgt, decide_eq_true_iff, hb] at hg
      obtain ⟨g1, g2⟩ := hg
      have g1' : (48 : Int) ≤ (s[k].toNat : Int) := by omega
      have g2' : (s[k].toNat : Int) ≤ 57 := by omega
      clear hb
      go_enter Tryd.func17, Tryd.ntmps17
      go_wp2
      go_ret
      exact ⟨rfl, rfl⟩
    · have F : dgt s k = false := by simpa using hg
      have hg' : (s[k].toNat : Int) < 48 ∨ 57 < (s[k].toNat : Int) := by simp only [dgt, decide_eq_true_iff, hb] at hg; omega
      rw [F]
      clear hg hb F
      rcases hg' with hg | hg
      · go_enter Tryd.func17, Tryd.ntmps17
        go_wp2
        go_ret
        exact ⟨rfl, rfl⟩
      · have hg2 : (48 : Int) ≤ (s[k].toNat : Int) := by omega
        have D : Hid (decide ((s[k].toNat : Int) ≤ 57) = false) := decide_eq_false (by omega)
        go_enter Tryd.func17, Tryd.ntmps17
        go_wp2
        go_ret
        exact ⟨by rw [D.out]; rfl, rfl⟩
  · have F : dgt s k = false := by unfold dgt; rw [bt_out (by omega)]; decide
    rw [F]
    clear F
    go_enter Tryd.func17, Tryd.ntmps17
    go_wp2
    go_ret
    exact ⟨rfl, rfl⟩
theorem digitsAhead_all (s : ByteArray) (w : World) (hs : s.size ≤ 1099511627776) :
    Calls Tryd.prog 24 #[.string s, .int .i64 (s.size : Int)] w fun e w' => e = .returned (.int .i64 (nd s 0 : Int)) ∧ w' = w := by
  refine (digitsAhead_any s s.size w hs).mono ?_
  rintro e w' ⟨k, rfl, h1, h2, h3, h4, rfl⟩
  have : k = nd s 0 := by
    refine nd_eq (fun j hj => by rw [Nat.zero_add]; exact h3 j hj) ?_
    rw [Nat.zero_add]
    rcases h4 with h4 | h4
    · subst h4
      unfold dgt; rw [bt_out (Nat.le_refl _)]; decide
    · exact h4
  rw [← this]
  exact ⟨rfl, rfl⟩
/-- How many of two digits stand there. -/
def two (s : ByteArray) (a : Nat) : Nat := if dgt s a = true then (if dgt s (a + 1) = true then 2 else 1) else 0
theorem digitsAhead_two (s : ByteArray) (a : Nat) (w : World) (hs : s.size ≤ 1099511627776) :
    Calls Tryd.prog 24 #[.string (s.extract a s.size), .int .i64 2] w fun e w' => e = .returned (.int .i64 (two s a : Int)) ∧ w' = w := by
  refine (digitsAhead_any (s.extract a s.size) 2 w (by rw [ex_size]; omega)).mono ?_
  rintro e w' ⟨k, rfl, h1, h2, h3, h4, rfl⟩
  have e0 : ∀ j, dgt (s.extract a s.size) j = dgt s (a + j) := dgt_ex s a
  have : k = two s a := by
    unfold two
    match k, h1 with
    | 0, _ =>
      rcases h4 with h4 | h4
      · cases h4
      · rw [e0, Nat.add_zero] at h4; simp [h4]
    | 1, _ =>
      have a0 := h3 0 (by omega)
      rw [e0, Nat.add_zero] at a0
      rcases h4 with h4 | h4
      · cases h4
      · rw [e0] at h4; simp [h4, a0]
    | 2, _ =>
      have a0 := h3 0 (by omega)
      have a1 := h3 1 (by omega)
      rw [e0] at a0 a1
      rw [Nat.add_zero] at a0
      simp [a0, a1]
  rw [← this]
  exact ⟨rfl, rfl⟩
theorem hp1 (s : ByteArray) (c : UInt8) : Lib.hasPrefix s.data.toList [c] = decide (bt s 0 = c.toNat) := by
  obtain ⟨⟨l⟩⟩ := s
  cases l with
  | nil =>
    have : bt ⟨⟨[]⟩⟩ 0 = 256 := bt_out (by simp [ByteArray.size])
    rw [this]
    have := UInt8.toNat_lt c
    simp [Lib.hasPrefix]
    omega
  | cons b l =>
    have : bt ⟨⟨b :: l⟩⟩ 0 = b.toNat := by rw [bt_in (by simp [ByteArray.size])]; rfl
    rw [this]
    simp [Lib.hasPrefix, List.isPrefixOf]
    rw [Bool.eq_iff_iff]
    simp
    constructor
    · rintro rfl; rfl
    · intro h; exact (UInt8.toNat_inj.1 h).symm
theorem HasPrefix_one (s : ByteArray) (c : UInt8) (w : World) :
    Calls Tryd.prog 25 #[.string s, .string ⟨#[c]⟩] w fun e w' => e = .returned (.bool (decide (bt s 0 = c.toNat))) ∧ w' = w := by
  refine (Tryd.strings_HasPrefix s ⟨#[c]⟩ w).mono ?_
  rintro e w' ⟨rfl, rfl⟩
  refine ⟨?_, rfl⟩
  have := hp1 s c
  rw [← this]
end Go.Proofs.YtcjlpfglnbddjaaDoor.Mo
