import Derived.Test.YtbfaebaoekimhaaVf5
namespace Go.Proofs.Ytbfaebaoekimhaa.Vf
open Go.RowKit Tn

/-- The payments at the times from lo on, n of them. -/
def Rl (a : Int → Int) (lo : Int) : Nat → List (Int × Int)
  | 0 => []
  | n + 1 => Rl a lo n ++ opt (lo + n) (a (lo + n))
/-- The payments of the first years, year by year. -/
def Lp (N T : Int → Int) : Nat → List (Int × Int)
  | 0 => []
  | j + 1 => (Lp N T j ++ opt (j : Int) (N j)) ++ opt ((j : Int) + 1) (T j)
theorem opt_len (t a : Int) : (opt t a).length ≤ 1 := by unfold opt; split <;> simp
theorem Rl_len (a : Int → Int) (lo : Int) (n : Nat) : (Rl a lo n).length ≤ n := by
  induction n with
  | zero => simp [Rl]
  | succ n ih => have := opt_len (lo + n) (a (lo + n)); simp only [Rl, List.length_append]; omega
theorem Lp_len (N T : Int → Int) (n : Nat) : (Lp N T n).length ≤ 2 * n := by
  induction n with
  | zero => simp [Lp]
  | succ n ih => have := opt_len (n : Int) (N n); have := opt_len ((n : Int) + 1) (T n); simp only [Lp, List.length_append]; omega
theorem Bb.adds {bx : Nat} {W W' : World} {g : Nat} {K V T S : Int} (h : Bb W g K V T S) (k : Adds bx W W') (ne : g ≠ bx) : Bb W' g K V T S := k.blk h ne (by decide)
theorem own_mono {W : World} {base b2 n : Nat} {v : Value} {xs : List Value} (h : W.ownsRow base 34 2 v n xs) (hb : b2 ≤ base) : W.ownsRow b2 34 2 v n xs := by
  obtain ⟨h0, h⟩ := h
  refine ⟨h0, ?_⟩
  rcases h with h | ⟨g, cap, cur, h1, h2, h3, h4⟩
  · exact Or.inl h
  · exact Or.inr ⟨g, cap, cur, h1, by omega, h3, h4⟩
theorem opt_one (t : Int) : opt t 1 = [(t, 1)] := rfl
end Go.Proofs.Ytbfaebaoekimhaa.Vf
