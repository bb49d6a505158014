import Derived.Test.YtachlkcoghkjnaaMs1
import Derived.Laws.Strings
import Derived.Test.YtachlkcoghkjnaaCs1
namespace Go.Proofs.Ytachlkcoghkjnaa.Ta
open Go.RowKit Go.Proofs.Ytachlkcoghkjnaa.L Dc
open Go.Proofs.Ytachlkcoghkjnaa.Mo (Ri wrapI empty_iff)

/-- A byte of a name: a small letter; or a digit or _. -/
def lett (b : Nat) : Bool := decide (97 ≤ b ∧ b ≤ 122)
def othr (b : Nat) : Bool := decide (48 ≤ b ∧ b ≤ 57 ∨ b = 95)
/-- Is a text a name? -/
def nmB (s : ByteArray) : Bool := decide (0 < s.size ∧ s.size ≤ 24 ∧ lett (bt s 0) = true ∧ ∀ i, i < s.size → (lett (bt s i) || othr (bt s i)) = true)
theorem nmB_none {s : ByteArray} (h : s.size = 0) : nmB s = false := by simp [nmB, h]
theorem nmB_long {s : ByteArray} (h : 24 < s.size) : nmB s = false := by simp [nmB]; omega
theorem nmB_first {s : ByteArray} (h : lett (bt s 0) = false) : nmB s = false := by simp [nmB, h]
theorem nmB_bad {s : ByteArray} {k : Nat} (hk : k < s.size) (h : (lett (bt s k) || othr (bt s k)) = false) : nmB s = false := by
  cases c : nmB s with
  | false => rfl
  | true =>
    simp only [nmB, decide_eq_true_iff] at c
    have := c.2.2.2 k hk
    rw [h] at this; cases this
theorem nmB_all {s : ByteArray} (h0 : 0 < s.size) (h1 : s.size ≤ 24) (h2 : lett (bt s 0) = true) (h3 : ∀ i, i < s.size → (lett (bt s i) || othr (bt s i)) = true) : nmB s = true := by
  simp only [nmB, decide_eq_true_iff]; exact ⟨h0, h1, h2, h3⟩
theorem lett_in {s : ByteArray} {k : Nat} (hk : k < s.size) : lett (bt s k) = (decide (97 ≤ s[k].toNat) && decide (s[k].toNat ≤ 122)) := by
  rw [bt_in hk]; simp [lett]
theorem othr_in {s : ByteArray} {k : Nat} (hk : k < s.size) : othr (bt s k) = (decide (48 ≤ s[k].toNat) && decide (s[k].toNat ≤ 57) || decide (s[k].toNat = 95)) := by
  rw [bt_in hk]; simp [othr]

set_option maxRecDepth 100000 in
set_option maxHeartbeats 1600000 in
/-- Name of the reference. -/
theorem Name_any (s : ByteArray) (w : World) (hs : s.size ≤ 140737488351232) :
    Calls Try.prog 13 #[.string s] w fun e w' => e = .returned (.bool (nmB s)) ∧ w' = w := by
  by_cases h0 : s.size = 0
  · have R : Hid (nmB s = false) := nmB_none h0
    have h0' : (s.size : Int) < 1 := by omega
    go_enter Try.func13, Try.ntmps13
    go_wp2
    go_ret
    exact ⟨by rw [R.out]; rfl, rfl⟩
  · by_cases h1 : 24 < s.size
    · have R : Hid (nmB s = false) := nmB_long h1
      have h1' : (24 : Int) < (s.size : Int) := by omega
      have h0' : ¬ (s.size : Int) < 1 := by omega
      clear h0
      go_enter Try.func13, Try.ntmps13
      go_wp2
      go_ret
      exact ⟨by rw [R.out]; rfl, rfl⟩
    · have zp : 0 < s.size := by omega
      have h1' : ¬ (24 : Int) < (s.size : Int) := by omega
      have h0' : ¬ (s.size : Int) < 1 := by omega
      rcases hl : lett (bt s 0) with _ | _
      · have R : Hid (nmB s = false) := nmB_first hl
        rw [lett_in zp] at hl
        have hl' : (s[0].toNat : Int) < 97 ∨ 122 < (s[0].toNat : Int) := by
          simp only [Bool.and_eq_false_iff, decide_eq_false_iff_not] at hl; omega
        clear hl h0
        go_enter Try.func13, Try.ntmps13
        rcases hl' with hl | hl
        · go_wp2
          go_ret
          exact ⟨by rw [R.out]; rfl, rfl⟩
        · go_wp2
          go_ret
          exact ⟨by rw [R.out]; rfl, rfl⟩
      · have hl' := hl
        rw [lett_in zp] at hl
        simp only [Bool.and_eq_true, decide_eq_true_iff] at hl
        obtain ⟨l1, l2⟩ := hl
        have HL : Hid (lett (bt s 0) = true) := hl'
        clear hl' h0
        go_enter Try.func13, Try.ntmps13
        go_wp2_with fail
        go_loopw [3] (fun i wr => ∃ k : Nat, k ≤ s.size ∧ i = .int .i64 k ∧ Hid (∀ j, j < k → (lett (bt s j) || othr (bt s j)) = true) ∧ wr = w) (fun i _ => s.size - (intOf i).toNat)
        case atStart => exact ⟨0, Nat.zero_le _, rfl, fun j hj => absurd hj (by omega), rfl⟩
        case round =>
          obtain ⟨k, hk, rfl, hd, rfl⟩ := hrel
          by_cases hlt : k < s.size
          · rcases hg : (lett (bt s k) || othr (bt s k)) with _ | _
            · have R : Hid (nmB s = false) := nmB_bad hlt hg
              rw [lett_in hlt, othr_in hlt] at hg
              simp only [Bool.or_eq_false_iff, Bool.and_eq_false_iff, decide_eq_false_iff_not] at hg
              obtain ⟨g1, g2, g3⟩ := hg
              have b5 : ((s[k].toNat : Int) == 95) = false := by simp; omega
              rcases (show (s[k].toNat : Int) < 48 ∨ (57 < (s[k].toNat : Int) ∧ (s[k].toNat : Int) < 97) ∨ 122 < (s[k].toNat : Int) by omega) with q | ⟨q, q'⟩ | q
              · have b1 : decide (97 ≤ (s[k].toNat : Int)) = false := decide_eq_false (by omega)
                have b2 : decide (48 ≤ (s[k].toNat : Int)) = false := decide_eq_false (by omega)
                clear g1 g2 g3
                go_wp2
                go_ret
                exact ⟨by rw [R.out]; rfl, rfl⟩
              · have b1 : decide (97 ≤ (s[k].toNat : Int)) = false := decide_eq_false (by omega)
                have b2 : decide (48 ≤ (s[k].toNat : Int)) = true := decide_eq_true (by omega)
                have b3 : decide ((s[k].toNat : Int) ≤ 57) = false := decide_eq_false (by omega)
                clear g1 g2 g3
                go_wp2
                go_ret
                exact ⟨by rw [R.out]; rfl, rfl⟩
              · have b1 : decide (97 ≤ (s[k].toNat : Int)) = true := decide_eq_true (by omega)
                have b2 : decide (48 ≤ (s[k].toNat : Int)) = true := decide_eq_true (by omega)
                have b3 : decide ((s[k].toNat : Int) ≤ 57) = false := decide_eq_false (by omega)
                have b4 : decide ((s[k].toNat : Int) ≤ 122) = false := decide_eq_false (by omega)
                clear g1 g2 g3
                go_wp2
                go_ret
                exact ⟨by rw [R.out]; rfl, rfl⟩
            · have N : Hid (∀ j, j < k + 1 → (lett (bt s j) || othr (bt s j)) = true) := fun j hjk => by
                by_cases e : j = k
                · subst e; exact hg
                · exact hd.out j (by omega)
              rw [lett_in hlt, othr_in hlt] at hg
              simp only [Bool.or_eq_true, Bool.and_eq_true, decide_eq_true_iff] at hg
              rcases (show (97 ≤ (s[k].toNat : Int) ∧ (s[k].toNat : Int) ≤ 122) ∨ (48 ≤ (s[k].toNat : Int) ∧ (s[k].toNat : Int) ≤ 57) ∨ (s[k].toNat : Int) = 95 by omega) with ⟨q, q'⟩ | ⟨q, q'⟩ | q
              all_goals
                clear hg
                go_wp2
                go_roundw
                case rel => exact ⟨k + 1, by omega, by go_num, N, trivial⟩
                case measure => simp [intOf]; omega
          · have R : Hid (nmB s = true) := nmB_all zp (by omega) HL.out (fun i hi => hd.out i (by omega))
            go_wp2
            go_ret
            exact ⟨by rw [R.out]; rfl, rfl⟩
end Go.Proofs.Ytachlkcoghkjnaa.Ta
