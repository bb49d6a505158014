import Derived.Test.YteepjipecfdkoaaDoorWe5
namespace Go.Proofs.YteepjipecfdkoaaDoor.Dy
open Go.RowKit Tn
/-- What Work answers. -/
def wo (y m d how : Int) (f : Nat → Int × Int × Int) (n : Nat) : (Int × Int × Int) × Int :=
  if good y m d = true then
    if fe f n = 0 then
      if how = 1 then (fr (fi 1 f n (num y m d)), rg (nr (fi 1 f n (num y m d))))
      else if how = 2 then (fr (fi (-1) f n (num y m d)), rg (nr (fi (-1) f n (num y m d))))
      else if how = 3 then
        if nr (fi 1 f n (num y m d)) = true ∧ mo (fy (fi 1 f n (num y m d))) (fm (fi 1 f n (num y m d))) = mo y m then (fr (fi 1 f n (num y m d)), 0)
        else (fr (fi (-1) f n (num y m d)), rg (nr (fi (-1) f n (num y m d))))
      else ((0, 0, 0), 1)
    else ((0, 0, 0), fe f n)
  else ((0, 0, 0), 70)
theorem fe_len {f : Nat → Int × Int × Int} {n : Nat} (h : fe f n = 0) : n ≤ 4096 := by
  unfold fe at h
  by_cases c : n ≤ 4096
  · exact c
  · rw [if_neg c] at h; cases h
theorem Work_any (y m d how : Int) (f : Nat → Int × Int × Int) (n : Nat) (hn' : n ≤ 9223372036854775807) (v : Value) (w : World) (S : Rs w v n f) (G : Gl w) :
    Calls Tryd.prog 4 #[dt y m d, v, .int .i64 how] w fun x w' => x = .returned (.tuple #[dt (wo y m d how f n).1.1 (wo y m d how f n).1.2.1 (wo y m d how f n).1.2.2, .int .i64 (wo y m d how f n).2]) ∧ Below w.heap.size w w' := by
  have NU := Number_any y m d
  have FN := freeNumbers_any f n hn' v
  unfold wo
  by_cases g : good y m d = true
  · rw [if_pos g]
    rw [g] at NU
    have n1 := num_lo g
    have n2 := num_hi g
    by_cases e : fe f n = 0
    · rw [if_pos e]
      rw [e] at FN
      have hl := fe_len e
      have FN' : ∀ W, Rs W v n f → Gl W → Calls Tryd.prog 7 #[v] W fun x w' => ∃ v', x = .returned (.tuple #[v', .int .i64 0]) ∧ So w' v' (sl f n) ∧ Below W.heap.size W w' := fun W a b => (FN W a b).mono (by rintro x w' ⟨v', h1, h2, h3⟩; exact ⟨v', h1, h2 rfl, h3⟩)
      have W1 := fun v' W S => workFrom_any 1 f n (num y m d) (Or.inl rfl) hl n1 n2 v' W S
      have W2 := fun v' W S => workFrom_any (-1) f n (num y m d) (Or.inr rfl) hl n1 n2 v' W S
      by_cases h1 : how = 1
      · subst h1
        rw [if_pos rfl]
        exact Work_on y m d _ v f n w G S _ _ _ _ _ _ NU FN' W1 (FromNumber_any _)
      rw [if_neg h1]
      by_cases h2 : how = 2
      · subst h2
        rw [if_pos rfl]
        exact Work_back y m d _ v f n w G S _ _ _ _ _ _ NU FN' W2 (FromNumber_any _)
      rw [if_neg h2]
      by_cases h3 : how = 3
      · subst h3
        rw [if_pos rfl]
        have F1 := FromNumber_any (fi 1 f n (num y m d))
        generalize fi 1 f n (num y m d) = X at *
        by_cases c : nr X = true
        · have gg := (fr_good c).1
          obtain ⟨a1, a2, a3, a4, _, _⟩ := good_iff.1 gg
          obtain ⟨b1, b2, b3, b4, _, _⟩ := good_iff.1 g
          have M1 := monthsAhead_any (fy X) (fm X) (fd X) (by omega) (by omega) (by omega) (by omega)
          have M2 := monthsAhead_any y m d (by omega) (by omega) (by omega) (by omega)
          by_cases k : mo (fy X) (fm X) = mo y m
          · rw [if_pos ⟨c, k⟩]
            rw [k] at M1
            exact Work_in y m d _ v f n w G S _ _ _ _ _ _ NU FN' W1 F1 _ M1 M2 (by rw [c]; rfl)
          · rw [if_neg (fun h => k h.2)]
            exact Work_out y m d _ v f n w G S _ _ _ _ _ _ NU FN' W1 F1 _ _ M1 M2 _ _ _ _ _ W2 (FromNumber_any _) (by rw [c]; rfl) (by simpa using k)
        · rw [if_neg (fun h => c h.1)]
          exact Work_beyond y m d _ v f n w G S _ _ _ _ _ _ NU FN' W1 F1 _ _ _ _ _ W2 (FromNumber_any _) (by simp only [Bool.not_eq_true] at c; rw [c]; rfl)
      · rw [if_neg h3]
        exact Work_none y m d _ v f n w G S how h1 h2 h3 _ NU FN'
    · rw [if_neg e]
      exact Work_free y m d _ v f n w G S how _ NU (fun W a b => (FN W a b).mono (by rintro x w' ⟨v', h1, h2, h3⟩; exact ⟨v', h1, trivial, h3⟩)) e
  · rw [if_neg g]
    simp only [Bool.not_eq_true] at g
    rw [g] at NU
    exact Work_bad y m d _ v f n w G S how NU
end Go.Proofs.YteepjipecfdkoaaDoor.Dy
