import Derived.Test.YtfalncbcomlelaaGreatDoorB1
import Derived.Test.YtfalncbcomlelaaGreatDoorLawsL
namespace Go.Proofs.YtfalncbcomlelaaGreatDoor.L
open Go.RowKit Tl

theorem wrap_self (x : Int) (h0 : -9223372036854775808 ≤ x) (h1 : x < 9223372036854775808) : IntKind.i64.wrap x = x := by
  simp [IntKind.wrap, IntKind.bits, IntKind.signed]; omega
theorem wd_zero (n : Nat) : Wd (List.replicate n 0) := by
  intro x hx
  rw [List.eq_of_mem_replicate hx]; omega
theorem rd_nil (w : World) : Rd w (.slice none 0 0) [] := ⟨Wd.nil, none, 0, rfl, by simp, by simp, fun h => by simp at h⟩
theorem val_top {xs : List Int} (ne : 0 < xs.length) : val xs = val (xs.take (xs.length - 1)) + pw (xs.length - 1) * nth xs (xs.length - 1) := by
  have e := val_at xs (xs.length - 1) (by omega)
  rw [Nat.sub_add_cancel ne, List.take_length] at e; exact e
theorem nm_top {xs : List Int} (h : Wd xs) (n : Nm xs) (ne : 0 < xs.length) : 0 < nth xs (xs.length - 1) := by
  rcases n with rfl | n
  · simp at ne
  · have := (nth_bd h (xs.length - 1)).1; unfold nth at *; omega
theorem val_more (xs : List Int) (k : Nat) : val (xs.take (k + 1)) = val (xs.take k) + pw k * nth xs k := by
  by_cases h : k < xs.length
  · exact val_at xs k h
  · have e : nth xs k = 0 := by unfold nth; rw [List.getD_eq_getElem?_getD, List.getElem?_eq_none (Nat.le_of_not_lt h)]; rfl
    rw [List.take_of_length_le (by omega), List.take_of_length_le (by omega), e]; simp
theorem nth_out (xs : List Int) (k : Nat) (h : ¬ k < xs.length) : nth xs k = 0 := by
  unfold nth; rw [List.getD_eq_getElem?_getD, List.getElem?_eq_none (Nat.le_of_not_lt h)]; rfl
end Go.Proofs.YtfalncbcomlelaaGreatDoor.L
