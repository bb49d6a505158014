import Derived.Test.YtfalncbcomlelaaGreatDoorDigits2
namespace Go.Proofs.YtfalncbcomlelaaGreatDoor
open Go.RowKit Tn

set_option maxRecDepth 100000 in
theorem isNatural_no (s : ByteArray) (w : World) (hs : s.size ≤ 9223372036854775807) (h : ¬ Digs s) :
    Calls Tryz.prog 64 #[.string s] w fun e w' => e = .returned (.bool false) ∧ w' = w := by
  go_enter Tryz.func64, Tryz.ntmps64
  go_wp2_with (go_at_call 94; go_must (refine (isDigits_no s _ hs h).mono ?_; rintro e w' ⟨rfl, rfl⟩))
  go_ret
  exact ⟨rfl, rfl⟩
set_option maxRecDepth 100000 in
theorem isNatural_long (s : ByteArray) (w : World) (hs : s.size ≤ 9223372036854775807) (h : Digs s) (h0 : (s[0]'h.1).toNat ≠ 48) :
    Calls Tryz.prog 64 #[.string s] w fun e w' => e = .returned (.bool true) ∧ w' = w := by
  have hz := h.1
  have hb : ((s[0].toNat : Int) != 48) = true := by rw [bne_iff_ne]; omega
  go_enter Tryz.func64, Tryz.ntmps64
  go_wp2_with (go_at_call 94; go_must (refine (isDigits_yes s _ hs h).mono ?_; rintro e w' ⟨rfl, rfl⟩))
  go_ret
  exact ⟨rfl, rfl⟩
set_option maxRecDepth 100000 in
theorem isNatural_nought (s : ByteArray) (w : World) (hs : s.size ≤ 9223372036854775807) (h : Digs s) (h0 : (s[0]'h.1).toNat = 48) :
    Calls Tryz.prog 64 #[.string s] w fun e w' => e = .returned (.bool (s.toList == [48])) ∧ w' = w := by
  have hz := h.1
  have hb : ((s[0].toNat : Int) != 48) = false := by rw [bne_eq_false_iff_eq]; omega
  go_enter Tryz.func64, Tryz.ntmps64
  go_wp2_with (go_at_call 94; go_must (refine (isDigits_yes s _ hs h).mono ?_; rintro e w' ⟨rfl, rfl⟩))
  go_ret
  exact ⟨rfl, rfl⟩

/-- A whole number from nought on, as the Words have it. -/
def Natl (s : ByteArray) : Prop := Digs s ∧ (s.size = 1 ∨ ∀ h : 0 < s.size, s[0].toNat ≠ 48)
theorem one_nought (s : ByteArray) (hz : 0 < s.size) (h : s[0].toNat = 48) : (s.toList == [48]) = decide (s.size = 1) := by
  rw [ByteArray.toList_eq]
  obtain ⟨⟨l⟩⟩ := s
  match l, hz, h with
  | [], hz, _ => exact absurd hz (by decide)
  | [x], _, h =>
    have e : x = 48 := UInt8.toNat_inj.1 h
    subst e
    rfl
  | x :: y :: t, _, _ =>
    have e : (ByteArray.mk ⟨x :: y :: t⟩).size = t.length + 2 := rfl
    rw [e]
    simp
/-- ratio.isNatural. -/
theorem isNatural_yes (s : ByteArray) (w : World) (hs : s.size ≤ 9223372036854775807) (h : Natl s) :
    Calls Tryz.prog 64 #[.string s] w fun e w' => e = .returned (.bool true) ∧ w' = w := by
  by_cases h0 : (s[0]'h.1.1).toNat = 48
  · have := isNatural_nought s w hs h.1 h0
    rw [one_nought s h.1.1 h0] at this
    rcases h.2 with e | e
    · rw [decide_eq_true e] at this; exact this
    · exact absurd h0 (e h.1.1)
  · exact isNatural_long s w hs h.1 h0
theorem isNatural_not (s : ByteArray) (w : World) (hs : s.size ≤ 9223372036854775807) (h : ¬ Natl s) :
    Calls Tryz.prog 64 #[.string s] w fun e w' => e = .returned (.bool false) ∧ w' = w := by
  by_cases d : Digs s
  · by_cases h0 : (s[0]'d.1).toNat = 48
    · have := isNatural_nought s w hs d h0
      rw [one_nought s d.1 h0] at this
      by_cases e : s.size = 1
      · exact absurd ⟨d, Or.inl e⟩ h
      · rw [decide_eq_false e] at this; exact this
    · exact absurd ⟨d, Or.inr fun _ => h0⟩ h
  · exact isNatural_no s w hs d
end Go.Proofs.YtfalncbcomlelaaGreatDoor
