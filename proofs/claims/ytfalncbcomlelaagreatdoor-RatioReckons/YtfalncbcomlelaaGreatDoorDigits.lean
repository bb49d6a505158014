import Derived.Test.YtfalncbcomlelaaGreatDoorCompare2
import Derived.Laws.Strings
namespace Go.Proofs.YtfalncbcomlelaaGreatDoor
open Go.RowKit Tn

/-- A byte that is a decimal digit. -/
def Dg (b : UInt8) : Prop := 48 ≤ (b.toNat : Int) ∧ (b.toNat : Int) ≤ 57
/-- One decimal digit or more. -/
def Digs (s : ByteArray) : Prop := 0 < s.size ∧ ∀ i (h : i < s.size), Dg s[i]
theorem empty_iff (s : ByteArray) : s.toList.isEmpty = decide (s.size = 0) := by
  rw [ByteArray.toList_eq, Bool.eq_iff_iff, List.isEmpty_iff, decide_eq_true_iff, ← List.length_eq_zero_iff, Array.length_toList]
  rfl

set_option maxRecDepth 100000 in
theorem isDigits_yes (s : ByteArray) (w : World) (hs : s.size ≤ 9223372036854775807) (h : Digs s) :
    Calls Tryz.prog 94 #[.string s] w fun e w' => e = .returned (.bool true) ∧ w' = w := by
  have he : Hid (s.toList.isEmpty = false) := by show _ = _; rw [empty_iff, decide_eq_false_iff_not]; have := h.1; omega
  go_enter Tryz.func94, Tryz.ntmps94
  go_wp2_with fail
  go_loopw [6] (fun i wr => ∃ k : Nat, k ≤ s.size ∧ i = .int .i64 k ∧ wr = w) (fun i _ => s.size - (intOf i).toNat)
  case atStart => exact ⟨0, Nat.zero_le _, rfl, rfl⟩
  case round =>
    obtain ⟨k, hk, rfl, rfl⟩ := hrel
    by_cases hlt : k < s.size
    · obtain ⟨d1, d2⟩ := h.2 k hlt
      go_wp2
      go_roundw
      case rel => exact ⟨k + 1, by omega, by go_num, trivial⟩
      case measure => simp [intOf]; omega
    · go_wp2
      go_ret
      exact ⟨by rw [he.out]; rfl, rfl⟩

set_option maxRecDepth 100000 in
theorem isDigits_no (s : ByteArray) (w : World) (hs : s.size ≤ 9223372036854775807) (h : ¬ Digs s) :
    Calls Tryz.prog 94 #[.string s] w fun e w' => e = .returned (.bool false) ∧ w' = w := by
  have H : Hid (¬ Digs s) := h
  clear h
  go_enter Tryz.func94, Tryz.ntmps94
  go_wp2_with fail
  go_loopw [6] (fun i wr => ∃ k : Nat, k ≤ s.size ∧ i = .int .i64 k ∧ Hid (∀ j (h : j < s.size), j < k → Dg s[j]) ∧ wr = w) (fun i _ => s.size - (intOf i).toNat)
  case atStart => exact ⟨0, Nat.zero_le _, rfl, fun j _ hj => absurd hj (by omega), rfl⟩
  case round =>
    obtain ⟨k, hk, rfl, hd, rfl⟩ := hrel
    by_cases hlt : k < s.size
    · by_cases hg : Dg s[k]
      · have N : Hid (∀ j (h : j < s.size), j < k + 1 → Dg s[j]) := fun j hj hjk => by
          by_cases e : j = k
          · subst e; exact hg
          · exact hd.out j hj (by omega)
        obtain ⟨d1, d2⟩ := hg
        go_wp2
        go_roundw
        case rel => exact ⟨k + 1, by omega, by go_num, N, trivial⟩
        case measure => simp [intOf]; omega
      · have hg' : (s[k].toNat : Int) < 48 ∨ 57 < (s[k].toNat : Int) := by unfold Dg at hg; omega
        clear hg
        rcases hg' with hg | hg
        · go_wp2
          go_ret
          exact ⟨rfl, rfl⟩
        · go_wp2
          all_goals first | (go_ret; exact ⟨rfl, rfl⟩) | (exfalso; omega)
    · have he : Hid (s.toList.isEmpty = true) := by
        show _ = _
        rw [empty_iff, decide_eq_true_iff]
        by_cases e : s.size = 0
        · exact e
        · exact absurd ⟨by omega, fun j hj => hd.out j hj (by omega)⟩ H.out
      go_wp2
      go_ret
      exact ⟨by rw [he.out]; rfl, rfl⟩
end Go.Proofs.YtfalncbcomlelaaGreatDoor
