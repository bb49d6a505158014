import Derived.Test.YtfalncbcomlelaaGreatDoorCs1
import Derived.Test.YtfalncbcomlelaaGreatDoorDigits3
namespace Go.Proofs.YtfalncbcomlelaaGreatDoor.Mo
open Go.RowKit Dc

/-- Is a text a whole number from nought on? -/
def natB (s : ByteArray) : Bool := s.data.toList.all (fun c => decide (48 ≤ c.toNat ∧ c.toNat ≤ 57)) && decide (0 < s.size) && (decide (s.size = 1) || !decide (bt s 0 = 48))
/-- Is it 0? -/
def is0 (s : ByteArray) : Bool := s.toList == [48]
def is1 (s : ByteArray) : Bool := s.toList == [49]
theorem all_iff (s : ByteArray) : s.data.toList.all (fun c => decide (48 ≤ c.toNat ∧ c.toNat ≤ 57)) = true ↔ ∀ i (h : i < s.size), Dg s[i] := by
  rw [List.all_eq_true]
  constructor
  · intro h i hi
    have := h (s.data.toList[i]'(by simpa using hi)) (List.getElem_mem _)
    simp only [decide_eq_true_iff] at this
    show 48 ≤ ((s[i]).toNat : Int) ∧ ((s[i]).toNat : Int) ≤ 57
    have e : s[i] = s.data.toList[i]'(by simpa using hi) := rfl
    rw [e]
    omega
  · intro h c hc
    obtain ⟨i, hi, rfl⟩ := List.getElem_of_mem hc
    have := h i (by simpa using hi)
    unfold Go.Proofs.YtfalncbcomlelaaGreatDoor.Dg at this
    have e : s[i]'(by simpa using hi) = s.data.toList[i] := rfl
    rw [e] at this
    simp only [decide_eq_true_iff]
    omega
theorem natB_iff (s : ByteArray) : natB s = true ↔ Natl s := by
  unfold natB Natl Digs
  rw [Bool.and_eq_true, Bool.and_eq_true, all_iff, decide_eq_true_iff, Bool.or_eq_true, decide_eq_true_iff]
  have e : (!decide (bt s 0 = 48)) = true ↔ ∀ h : 0 < s.size, s[0].toNat ≠ 48 := by
    by_cases h0 : 0 < s.size
    · rw [bt_in h0]
      simp [h0]
    · rw [bt_out (by omega)]
      simp [h0]
  rw [e]
  constructor
  · rintro ⟨⟨a, b⟩, c⟩; exact ⟨⟨b, a⟩, c⟩
  · rintro ⟨⟨b, a⟩, c⟩; exact ⟨⟨a, b⟩, c⟩
theorem IsNatural_any (s : ByteArray) (w : World) (hs : s.size ≤ 9223372036854775807) :
    Calls Tryz.prog 64 #[.string s] w fun e w' => e = .returned (.bool (natB s)) ∧ w' = w := by
  rcases h : natB s with _ | _
  · exact isNatural_not s w hs (fun e => by rw [(natB_iff s).2 e] at h; cases h)
  · exact isNatural_yes s w hs ((natB_iff s).1 h)
/-- Is a text a whole number? -/
def whB (s : ByteArray) : Bool := natB (rest s) && !(neg s && is0 (rest s))
theorem rest_size (s : ByteArray) : (rest s).size ≤ s.size := by rw [rest_ex, ex_size]; omega
set_option maxHeartbeats 800000 in
set_option maxRecDepth 100000 in
theorem IsWhole_any (s : ByteArray) (w : World) (hs : s.size ≤ 9223372036854775807) :
    Calls Tryz.prog 63 #[.string s] w fun e w' => e = .returned (.bool (whB s)) ∧ Below w.heap.size w w' := by
  have hr := rest_size s
  have C := fun W => CutSign_any s W hs
  have N := fun W => IsNatural_any (rest s) W (by omega)
  unfold whB is0
  generalize rest s = z at *
  generalize neg s = g at *
  generalize natB z = b at *
  obtain ⟨q, hq⟩ : ∃ q, (z.toList == [48]) = q := ⟨_, rfl⟩
  rw [hq]
  cases b <;> cases g <;> cases q
  all_goals
    go_enter Tryz.func63, Tryz.ntmps63
    go_wp2_with (first
      | (go_at_call 65; (refine (C _).mono ?_); rintro e w' ⟨rfl, b1⟩)
      | (go_at_call 64; (refine (N _).mono ?_); rintro e w' ⟨rfl, rfl⟩))
    go_ret
    exact ⟨rfl, b1⟩
end Go.Proofs.YtfalncbcomlelaaGreatDoor.Mo
