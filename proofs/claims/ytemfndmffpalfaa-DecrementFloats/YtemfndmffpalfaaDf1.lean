import Derived.Test.YtemfndmffpalfaaTb3
import Derived.Test.YtemfndmffpalfaaFs2
namespace Go.Proofs.Ytemfndmffpalfaa.Df
open Go.RowKit Tn Go.Proofs.Ytemfndmffpalfaa.Ta
open Go.Proofs.Ytemfndmffpalfaa.Mo (Ri wrapI)

/-- Rates from nought to one. -/
def arB (xs : List Int) : Bool := decide (∀ i, i < xs.length → 0 ≤ L.nth xs i ∧ L.nth xs i ≤ 10000000)
theorem arB_bad {xs : List Int} {k : Nat} (hk : k < xs.length) (h : ¬ (0 ≤ L.nth xs k ∧ L.nth xs k ≤ 10000000)) : arB xs = false := by
  cases c : arB xs with
  | false => rfl
  | true =>
    simp only [arB, decide_eq_true_iff] at c
    exact absurd (c k hk) h
theorem arB_all {xs : List Int} (h : ∀ i, i < xs.length → 0 ≤ L.nth xs i ∧ L.nth xs i ≤ 10000000) : arB xs = true := by
  simp only [arB, decide_eq_true_iff]; exact h
set_option maxRecDepth 100000 in
set_option maxHeartbeats 1600000 in
theorem areRates_c (v : Value) (xs : List Int) (w : World) (h : Rx w v xs) :
    Calls Try.prog 18 #[v] w fun e w' => e = .returned (.bool (arB xs)) ∧ w' = w := by
  obtain ⟨⟨hb, a, cap, rfl, hl, hm, g⟩, _, hL⟩ := h
  go_enter Try.func18, Try.ntmps18
  go_wp2_with fail
  go_loopw [7] (fun i wr => ∃ k : Nat, k ≤ xs.length ∧ i = .int .i64 k ∧ Hid (∀ i, i < k → 0 ≤ L.nth xs i ∧ L.nth xs i ≤ 10000000) ∧ wr = w) (fun i _ => xs.length - (intOf i).toNat)
  case atStart => exact ⟨0, Nat.zero_le _, rfl, fun j hj => absurd hj (by omega), rfl⟩
  case round =>
    obtain ⟨k, hk, rfl, hd, rfl⟩ := hrel
    by_cases hlt : k < xs.length
    · obtain ⟨b, o, rfl, hc⟩ := g (by omega)
      have hc1 := hc.at hlt
      have b1 := hc.lt (by omega)
      have bn := hb k
      by_cases hg : 0 ≤ L.nth xs k ∧ L.nth xs k ≤ 10000000
      · have N : Hid (∀ i, i < k + 1 → 0 ≤ L.nth xs i ∧ L.nth xs i ≤ 10000000) := fun j hjk => by
          by_cases e : j = k
          · subst e; exact hg
          · exact hd.out j (by omega)
        have q1 : ¬ L.nth xs k < 0 := by omega
        have q2 : ¬ L.nth xs k > 10000000 := by omega
        clear hg hb g
        generalize L.nth xs k = x at *
        go_wp2
        go_roundw
        case rel => exact ⟨k + 1, by omega, by go_num, N, trivial⟩
        case measure => simp [intOf]; omega
      · have R : Hid (arB xs = false) := arB_bad hlt hg
        by_cases q1 : L.nth xs k < 0
        · clear hg hb g
          generalize L.nth xs k = x at *
          go_wp2
          go_ret
          exact ⟨by rw [R.out]; rfl, rfl⟩
        · have q2 : L.nth xs k > 10000000 := by omega
          clear hg hb g
          generalize L.nth xs k = x at *
          go_wp2
          go_ret
          exact ⟨by rw [R.out]; rfl, rfl⟩
    · have R : Hid (arB xs = true) := arB_all (fun i hi => hd.out i (by omega))
      clear g hb
      go_wp2
      go_ret
      exact ⟨by rw [R.out]; rfl, rfl⟩
end Go.Proofs.Ytemfndmffpalfaa.Df
