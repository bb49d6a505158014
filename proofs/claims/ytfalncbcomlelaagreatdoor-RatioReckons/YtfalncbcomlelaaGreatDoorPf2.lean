import Derived.Test.YtfalncbcomlelaaGreatDoorPf1
import Derived.Test.YtfalncbcomlelaaGreatDoorEr11
namespace Go.Proofs.YtfalncbcomlelaaGreatDoor.Mo
open Go.RowKit Fu Tn Go.Lib

/-- How many binary digits. -/
def nb (V : Nat) : Nat := if V = 0 then 0 else V.log2 + 1
theorem nb_eq {V L : Nat} (h1 : V < 2 ^ L) (h2 : L = 0 ∨ 2 ^ (L - 1) ≤ V) : L = nb V := by
  unfold nb
  by_cases c : V = 0
  · rw [if_pos c]
    rcases h2 with h | h
    · exact h
    · have := Nat.two_pow_pos (L - 1)
      omega
  · rw [if_neg c]
    rcases h2 with h | h
    · subst h; simp at h1; omega
    · have := (Nat.log2_eq_iff (k := L - 1) c).2 ⟨h, by
        by_cases e : L = 0
        · subst e; simp at h1; omega
        · rw [Nat.sub_add_cancel (by omega)]; exact h1⟩
      by_cases e : L = 0
      · subst e; simp at h1; omega
      · omega
theorem BitLen_n {a : Option Addr} {l c : Nat} {V : Nat} {x : World} (h : Nn x a l c V) {m : Nat} (hV : (V : Int) < pw m) (hm : m ≤ 1000000) :
    Calls Tryz.prog 103 #[.agg #[.slice a l c]] x fun e w' => e = .returned (.int .i64 (nb V)) ∧ Below x.heap.size x w' := by
  obtain ⟨xs, r, n, v⟩ := h
  have := len_of r.1 n (by rw [v]; exact hV)
  refine (BitLen_any _ xs x r n (by omega)).mono ?_
  rintro e w' ⟨L, rfl, h1, h2, _, b⟩
  rw [v] at h1 h2
  have e : L = nb V := nb_eq (by exact_mod_cast h1) (h2.imp id (fun h => by exact_mod_cast h))
  exact ⟨by rw [← e], b⟩
theorem nb_le {V k : Nat} (h : V < 2 ^ k) : nb V ≤ k := by
  unfold nb
  by_cases c : V = 0
  · rw [if_pos c]; omega
  · rw [if_neg c]
    have := (Nat.log2_lt (k := k) c).2 h
    omega
/-- An exact number as it is written. -/
def wrt (r : Rat) : Value := .agg #[.string (sB (sg (decide (r.num < 0)) (decDigits r.num.natAbs))), .string (sB (decDigits r.den))]
end Go.Proofs.YtfalncbcomlelaaGreatDoor.Mo
