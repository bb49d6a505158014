import Derived.Test.YteepjipecfdkoaaDoorWe10
import Derived.Test.YteepjipecfdkoaaDoorWe6
namespace Go.Proofs.YteepjipecfdkoaaDoor.Dy
open Go.RowKit Tn
theorem fr_zero {X : Int} (h : nr X = false) : fr X = (0, 0, 0) := by
  obtain ⟨a, b, c⟩ := fr_bad h
  unfold fy fm fd at *
  cases e : fr X with
  | mk p q => cases q with
    | mk q r => rw [e] at a b c; simp at a b c; subst a b c; rfl
theorem RWork_any (y m d how : Int) (f : Nat → Int × Int × Int) (n : Nat) (hn' : n ≤ 9223372036854775807) (v : Value) (w : World) (S : Rs w v n f) :
    Calls Tryd.prog 5 #[dt y m d, v, .int .i64 how] w fun x w' => x = .returned (.tuple #[dt (wo y m d how f n).1.1 (wo y m d how f n).1.2.1 (wo y m d how f n).1.2.2, .int .i64 (wo y m d how f n).2]) ∧ Below w.heap.size w w' := by
  have GO := Good_any y m d
  have GF : ∀ i, i < n → ∀ W, Calls Tryd.prog 11 #[.agg #[.int .i64 (f i).1, .int .i64 (f i).2.1, .int .i64 (f i).2.2]] W fun e w' => e = .returned (.bool (gf f i)) ∧ Below W.heap.size W w' := fun i _ W => Good_any _ _ _ W
  unfold wo
  by_cases g : good y m d = true
  · rw [if_pos g]
    rw [g] at GO
    obtain ⟨b1, b2, b3, b4, b5, b6⟩ := good_iff.1 g
    have := ml_bd (lp y) m
    have NU := RNumber_any y m d (by omega) (by omega) (by omega) (by omega) (by omega) (by omega)
    have n1 := num_lo g
    have n2 := num_hi g
    by_cases hl : n ≤ 4096
    · by_cases hb : ag f n = true
      · have e : fe f n = 0 := by unfold fe; rw [if_pos hl, hb]; rfl
        rw [if_pos e]
        have M1 := fun W S => moved_any 1 f n hl (ag_iff.1 hb) (num y m d) (Or.inl rfl) n1 n2 v W S
        have M2 := fun W S => moved_any (-1) f n hl (ag_iff.1 hb) (num y m d) (Or.inr rfl) n1 n2 v W S
        by_cases h1 : how = 1
        · subst h1
          rw [if_pos rfl]
          generalize fi 1 f n (num y m d) = X at *
          cases c : nr X
          · rw [c] at M1
            rw [fr_zero c]
            exact RWork_on_no y m d v f n w S GO GF hl hb _ _ _ _ NU M1
          · rw [c] at M1
            exact RWork_on y m d v f n w S GO GF hl hb _ _ _ _ NU M1
        rw [if_neg h1]
        by_cases h2 : how = 2
        · subst h2
          rw [if_pos rfl]
          generalize fi (-1) f n (num y m d) = X at *
          cases c : nr X
          · rw [c] at M2
            rw [fr_zero c]
            exact RWork_back_no y m d v f n w S GO GF hl hb _ _ _ _ NU M2
          · rw [c] at M2
            exact RWork_back y m d v f n w S GO GF hl hb _ _ _ _ NU M2
        rw [if_neg h2]
        by_cases h3 : how = 3
        · subst h3
          rw [if_pos rfl]
          generalize fi 1 f n (num y m d) = X at *
          generalize fi (-1) f n (num y m d) = Z at *
          by_cases k : nr X = true ∧ mo (fy X) (fm X) = mo y m
          · rw [if_pos k]
            have gg := (fr_good k.1).1
            obtain ⟨a1, a2, a3, a4, _, _⟩ := good_iff.1 gg
            have k2 := k.2
            unfold mo at k2
            obtain ⟨e1, e2⟩ : fy X = y ∧ fm X = m := by constructor <;> omega
            rw [k.1] at M1
            show Calls _ _ _ _ fun x w' => x = .returned (.tuple #[dt (fy X) (fm X) (fd X), .int .i64 0]) ∧ Below w.heap.size w w'
            rw [e1, e2] at M1 ⊢
            exact RWork_in y m d v f n w S GO GF hl hb _ _ NU M1
          · rw [if_neg k]
            cases c2 : nr Z
            · rw [c2] at M2
              rw [fr_zero c2]
              cases c : nr X
              · rw [c] at M1
                exact RWork_out_n_no y m d v f n w S GO GF hl hb _ _ _ _ _ _ _ NU M1 M2
              · rw [c] at M1
                by_cases e2 : fm X = m
                · have e1 : fy X ≠ y := fun e1 => k ⟨c, by rw [e1, e2]⟩
                  exact RWork_out_y_no y m d v f n w S GO GF hl hb _ _ _ _ _ _ _ NU M1 M2 (by simpa using e2) (by simpa using e1)
                · exact RWork_out_m_no y m d v f n w S GO GF hl hb _ _ _ _ _ _ _ NU M1 M2 (by simpa using e2)
            · rw [c2] at M2
              cases c : nr X
              · rw [c] at M1
                exact RWork_out_n y m d v f n w S GO GF hl hb _ _ _ _ _ _ _ NU M1 M2
              · rw [c] at M1
                by_cases e2 : fm X = m
                · have e1 : fy X ≠ y := fun e1 => k ⟨c, by rw [e1, e2]⟩
                  exact RWork_out_y y m d v f n w S GO GF hl hb _ _ _ _ _ _ _ NU M1 M2 (by simpa using e2) (by simpa using e1)
                · exact RWork_out_m y m d v f n w S GO GF hl hb _ _ _ _ _ _ _ NU M1 M2 (by simpa using e2)
        · rw [if_neg h3]
          exact RWork_none y m d how v f n w S GO GF hl hb (by omega)
      · have hb' : ag f n = false := by simpa using hb
        have e : fe f n = 70 := by unfold fe; rw [if_pos hl, hb']; rfl
        rw [if_neg (by rw [e]; decide), e]
        exact RWork_free y m d how v f n w S GO GF hl hb'
    · have e : fe f n = 3 := by unfold fe; rw [if_neg hl]
      rw [if_neg (by rw [e]; decide), e]
      exact RWork_long y m d how v f n w S GO (by omega) hn'
  · rw [if_neg g]
    simp only [Bool.not_eq_true] at g
    rw [g] at GO
    exact RWork_bad y m d how v f n w S GO
end Go.Proofs.YteepjipecfdkoaaDoor.Dy
