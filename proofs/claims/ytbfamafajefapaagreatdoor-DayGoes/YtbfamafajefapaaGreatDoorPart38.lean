import Derived.Test.YtbfamafajefapaaGreatDoorPart37

namespace Go.Proofs.YtbfamafajefapaaGreatDoor.Dy
open Go.RowKit Tn Mo

/-- The part of a year, by the days, those in leap years, and those by months of thirty. -/
def pq (how D L B : Int) : Rat := if how = 1 then (D : Rat) / 365 else if how = 2 then (D : Rat) / 360 else if how = 3 then (L : Rat) / 366 + ((D - L : Int) : Rat) / 365 else (B : Rat) / 360
/-- What Part answers. -/
def pa (y m d u v e how : Int) : Value × Int :=
  if tw y m d u v e = 0 then
    if 1 ≤ how ∧ how ≤ 4 then (wrt (pq how (num u v e - num y m d) (la u v e - la y m d) (ba u v e - ba y m d)), 0)
    else (.agg #[.string ⟨#[]⟩, .string ⟨#[]⟩], 1)
  else (.agg #[.string ⟨#[]⟩, .string ⟨#[]⟩], tw y m d u v e)
theorem tw_zero {y m d u v e : Int} (h : tw y m d u v e = 0) : good y m d = true ∧ good u v e = true ∧ num y m d ≤ num u v e := by
  unfold tw at h
  cases g : good y m d <;> cases k : good u v e <;> simp [g, k] at h
  exact ⟨rfl, rfl, h⟩
theorem la_bd {y m d : Int} (g : good y m d = true) : 0 ≤ la y m d ∧ la y m d ≤ 8000000 := by
  obtain ⟨g1, g2, g3, g4, g5, g6⟩ := good_iff.1 g
  have mb := ml_bd (lp y) m
  have cb := cu_bd (lp y) g3 g4
  have sb := sz_bd (lp y)
  have lb : 0 ≤ lv y ∧ lv y ≤ 20000 := by unfold lv; omega
  unfold la
  split <;> omega
theorem ba_bd {y m d : Int} (g : good y m d = true) : -1 ≤ ba y m d ∧ ba y m d ≤ 8000000 := by
  obtain ⟨g1, g2, g3, g4, g5, g6⟩ := good_iff.1 g
  have mb := ml_bd (lp y) m
  unfold ba mo
  omega
theorem q365 (D : Int) : ((D * 366 : Int) : Rat) / ((133590 : Int) : Rat) = (D : Rat) / 365 := by
  rw [Rat.intCast_mul]
  have a : ((366 : Int) : Rat) = 366 := rfl
  have b : ((133590 : Int) : Rat) = 133590 := rfl
  rw [a, b]
  grind
theorem qyears (L M : Int) : ((L * 365 + M * 366 : Int) : Rat) / ((133590 : Int) : Rat) = (L : Rat) / 366 + (M : Rat) / 365 := by
  rw [Rat.intCast_add, Rat.intCast_mul, Rat.intCast_mul]
  have a : ((366 : Int) : Rat) = 366 := rfl
  have b : ((133590 : Int) : Rat) = 133590 := rfl
  have c : ((365 : Int) : Rat) = 365 := rfl
  rw [a, b, c]
  grind
theorem wrt_form (r : Rat) : ∃ s t, wrt r = .agg #[.string s, .string t] := ⟨_, _, rfl⟩
theorem Part_any (y m d u v e how : Int) (w : World) (G : Gl w) (H : Gw w) : Calls Tryz.prog 16 #[dt y m d, dt u v e, .int .i64 how] w fun x w' => x = .returned (.tuple #[(pa y m d u v e how).1, .int .i64 (pa y m d u v e how).2]) ∧ Below w.heap.size w w' := by
  have DF := daysFrom_any y m d u v e
  unfold pa
  by_cases z : tw y m d u v e = 0
  · rw [if_pos z]
    obtain ⟨g1, g2, g3⟩ := tw_zero z
    have td0 : td y m d u v e = num u v e - num y m d := by unfold td; rw [if_pos z]
    rw [z, td0] at DF
    have n1 := num_lo g1
    have n2 := num_hi g2
    have n3 := num_hi g1
    have n4 := num_lo g2
    have l1 := la_bd g1
    have l2 := la_bd g2
    have b1 := ba_bd g1
    have b2 := ba_bd g2
    by_cases c : 1 ≤ how ∧ how ≤ 4
    · rw [if_pos c]
      have ho : how = 1 ∨ how = 2 ∨ how = 3 ∨ how = 4 := by omega
      rcases ho with rfl | rfl | rfl | rfl
      · have OF := fun W (b : Below w.heap.size w W) => Of_p ((num u v e - num y m d) * 366) 133590 W (by omega) (by omega) (by decide) (by decide) (by decide) (H.grow b)
        rw [q365] at OF
        rw [show pq 1 (num u v e - num y m d) (la u v e - la y m d) (ba u v e - ba y m d) = ((num u v e - num y m d : Int) : Rat) / 365 from rfl]
        obtain ⟨s, t, e⟩ := wrt_form (((num u v e - num y m d : Int) : Rat) / 365)
        rw [e] at OF ⊢
        exact Part_365 y m d u v _ _ w G s t DF OF (wrapI _ (by omega) (by omega))
      · have OF := fun W (b : Below w.heap.size w W) => Of_p (num u v e - num y m d) 360 W (by omega) (by omega) (by decide) (by decide) (by decide) (H.grow b)
        rw [show pq 2 (num u v e - num y m d) (la u v e - la y m d) (ba u v e - ba y m d) = ((num u v e - num y m d : Int) : Rat) / ((360 : Int) : Rat) from rfl]
        obtain ⟨s, t, e⟩ := wrt_form (((num u v e - num y m d : Int) : Rat) / ((360 : Int) : Rat))
        rw [e] at OF ⊢
        exact Part_360 y m d u v _ _ w G s t DF OF
      · have OF := fun W (b : Below w.heap.size w W) => Of_p ((la u v e - la y m d) * 365 + ((num u v e - num y m d) - (la u v e - la y m d)) * 366) 133590 W (by omega) (by omega) (by decide) (by decide) (by decide) (H.grow b)
        rw [qyears] at OF
        rw [show pq 3 (num u v e - num y m d) (la u v e - la y m d) (ba u v e - ba y m d) = ((la u v e - la y m d : Int) : Rat) / 366 + (((num u v e - num y m d) - (la u v e - la y m d) : Int) : Rat) / 365 from rfl]
        obtain ⟨s, t, e⟩ := wrt_form (((la u v e - la y m d : Int) : Rat) / 366 + (((num u v e - num y m d) - (la u v e - la y m d) : Int) : Rat) / 365)
        rw [e] at OF ⊢
        exact Part_years y m d u v _ _ w G _ _ _ _ _ s t DF (leapDaysAhead_any y m d g1) (leapDaysAhead_any u v _ g2) (wrapI _ (by omega) (by omega)) (wrapI _ (by omega) (by omega)) (wrapI _ (by omega) (by omega)) (wrapI _ (by omega) (by omega)) (wrapI _ (by omega) (by omega)) OF
      · have OF := fun W (b : Below w.heap.size w W) => Of_p (ba u v e - ba y m d) 360 W (by omega) (by omega) (by decide) (by decide) (by decide) (H.grow b)
        rw [show pq 4 (num u v e - num y m d) (la u v e - la y m d) (ba u v e - ba y m d) = ((ba u v e - ba y m d : Int) : Rat) / ((360 : Int) : Rat) from rfl]
        obtain ⟨s, t, e⟩ := wrt_form (((ba u v e - ba y m d : Int) : Rat) / ((360 : Int) : Rat))
        rw [e] at OF ⊢
        exact Part_third y m d u v _ _ w G _ _ _ s t DF (fun W _ => bankDaysAhead_any y m d g1 W) (fun W _ => bankDaysAhead_any u v _ g2 W) (wrapI _ (by omega) (by omega)) OF
    · rw [if_neg c]
      exact Part_none y m d u v e _ w G how (by omega) (by omega) (by omega) (by omega) DF
  · rw [if_neg z]
    exact Part_bad y m d u v e _ w G _ how z DF
end Go.Proofs.YtbfamafajefapaaGreatDoor.Dy
