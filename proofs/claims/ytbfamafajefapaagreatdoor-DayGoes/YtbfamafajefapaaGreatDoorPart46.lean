import Derived.Test.YtbfamafajefapaaGreatDoorPart45

namespace Go.Proofs.YtbfamafajefapaaGreatDoor.Dy
open Go.RowKit Tn Mo Go.Lib

def gs (v : Value) : ByteArray := match v with | .agg ⟨[.string s, _]⟩ => s | _ => ⟨#[]⟩
def gt (v : Value) : ByteArray := match v with | .agg ⟨[_, .string t]⟩ => t | _ => ⟨#[]⟩
theorem gs_wrt (r : Rat) : (.agg #[.string (gs (wrt r)), .string (gt (wrt r))] : Value) = wrt r := rfl
theorem gs_pa (y m d u v e how : Int) : (.agg #[.string (gs (pa y m d u v e how).1), .string (gt (pa y m d u v e how).1)] : Value) = (pa y m d u v e how).1 := by
  unfold pa
  split
  · split
    · exact gs_wrt _
    · rfl
  · rfl
theorem pa_ok {y m d u v e : Int} (g1 : good y m d = true) (g2 : good u v e = true) (h : num y m d ≤ num u v e) (k : Int) (h0 : 1 ≤ k) (h1 : k ≤ 4) :
    pa y m d u v e k = (wrt (pq k (num u v e - num y m d) (la u v e - la y m d) (ba u v e - ba y m d)), 0) := by
  have z : tw y m d u v e = 0 := by unfold tw; rw [g1, g2]; simp; omega
  unfold pa
  rw [if_pos z, if_pos ⟨h0, h1⟩]
theorem pa_err {y m d u v e : Int} (g1 : good y m d = true) (g2 : good u v e = true) (k : Int) (h0 : 1 ≤ k) (h1 : k ≤ 4) : (pa y m d u v e k).2 = if num u v e < num y m d then 1 else 0 := by
  unfold pa tw
  rw [g1, g2]
  simp only [Bool.and_self, if_true]
  by_cases c : num u v e < num y m d
  · rw [if_pos c]; rfl
  · rw [if_neg c, if_pos rfl, if_pos ⟨h0, h1⟩]
set_option maxHeartbeats 1600000 in
theorem goes_not (y m d u v e p q r : Int) (w : World) (G : Gl w) (H : Gw w) (h : ¬ (good y m d = true ∧ good u v e = true ∧ good p q r = true)) :
    Calls Tryz.prog 4 #[dt y m d, dt u v e, dt p q r] w fun x w' => x = .returned (.bool true) ∧ Below w.heap.size w w' := by
  have RA := right_any y m d
  have RB := right_any u v e
  have RC := right_any p q r
  have T0 := Th.new w y m d u v e p q r G H
  have WK := works_any
  have ⟨f0, f1, f2, f3, f4, f5, f6, f7, f8⟩ := T0.cells
  clear G H
  generalize good y m d = g1 at *
  generalize good u v e = g2 at *
  generalize good p q r = g3 at *
  unfold dt at *
  cases g1
  · clear h RB RC
    go_enter Tryz.func4, Tryz.ntmps4
    go_wp2_with (first
      | (go_at_call 14; go_must (refine (WK _ T0.2.2.2.1).mono ?_; rintro x wa ⟨rfl, ba⟩; (have Ta := T0.grow ba); (have ⟨a0, a1, a2, a3, a4, a5, a6, a7, a8⟩ := Ta.cells)))
      | (go_at_call 15; go_must (refine (RA _ Ta.2.2.2.1).mono ?_; rintro x wb ⟨rfl, bb⟩; (have Tb' := Ta.grow bb)))
      | fail)
    go_ret
    exact ⟨rfl, Tb'.2.2.2.2.2⟩
  · cases g2
    · clear h RC
      go_enter Tryz.func4, Tryz.ntmps4
      go_wp2_with (first
        | (go_at_call 14; go_must (refine (WK _ T0.2.2.2.1).mono ?_; rintro x wa ⟨rfl, ba⟩; (have Ta := T0.grow ba); (have ⟨a0, a1, a2, a3, a4, a5, a6, a7, a8⟩ := Ta.cells)))
        | (go_at_call 15; refine (RB _ Tb'.2.2.2.1).mono ?_; rintro x wc ⟨rfl, bc⟩; go_must ((have Tc := Tb'.grow bc)))
        | (go_at_call 15; refine (RA _ Ta.2.2.2.1).mono ?_; rintro x wb ⟨rfl, bb⟩; go_must ((have Tb' := Ta.grow bb); (have ⟨b0, b1, b2, b3, b4, b5, b6, b7, b8⟩ := Tb'.cells)))
        | fail)
      go_ret
      exact ⟨rfl, Tc.2.2.2.2.2⟩
    · cases g3
      · clear h
        go_enter Tryz.func4, Tryz.ntmps4
        go_wp2_with (first
          | (go_at_call 14; go_must (refine (WK _ T0.2.2.2.1).mono ?_; rintro x wa ⟨rfl, ba⟩; (have Ta := T0.grow ba); (have ⟨a0, a1, a2, a3, a4, a5, a6, a7, a8⟩ := Ta.cells)))
          | (go_at_call 15; refine (RC _ Tc.2.2.2.1).mono ?_; rintro x wd ⟨rfl, bd⟩; go_must ((have Td := Tc.grow bd)))
          | (go_at_call 15; refine (RB _ Tb'.2.2.2.1).mono ?_; rintro x wc ⟨rfl, bc⟩; go_must ((have Tc := Tb'.grow bc); (have ⟨c0, c1, c2, c3, c4, c5, c6, c7, c8⟩ := Tc.cells)))
          | (go_at_call 15; refine (RA _ Ta.2.2.2.1).mono ?_; rintro x wb ⟨rfl, bb⟩; go_must ((have Tb' := Ta.grow bb); (have ⟨b0, b1, b2, b3, b4, b5, b6, b7, b8⟩ := Tb'.cells)))
          | fail)
        go_ret
        exact ⟨rfl, Td.2.2.2.2.2⟩
      · exact absurd ⟨rfl, rfl, rfl⟩ h
theorem goes_law (y m d u v e p q r : Int) (w : World) (G : Gl w ∧ Gw w) : Calls Tryz.prog 4 #[dt y m d, dt u v e, dt p q r] w fun x w' => x = .returned (.bool true) ∧ Below w.heap.size w w' := by
  by_cases h : good y m d = true ∧ good u v e = true ∧ good p q r = true
  · obtain ⟨g1, g2, g3⟩ := h
    have P : ∀ (y m d u v e : Int), good y m d = true → good u v e = true → ∀ k : Nat, 1 ≤ k → k ≤ 3 → ∀ W, Gl W → Gw W → Calls Tryz.prog 16 #[dt y m d, dt u v e, .int .i64 k] W fun x w' => x = .returned (.tuple #[.agg #[.string (gs (pa y m d u v e k).1), .string (gt (pa y m d u v e k).1)], .int .i64 (if num u v e < num y m d then 1 else 0)]) ∧ Below W.heap.size W w' := fun y m d u v e g1 g2 k h0 h1 W a b => by
      have := Part_any y m d u v e k W a b
      rw [pa_err g1 g2 k (by omega) (by omega)] at this
      rw [gs_pa]
      exact this
    have R : ∀ (y m d : Int), good y m d = true → ∀ W, Gl W → Calls Tryz.prog 15 #[dt y m d] W fun x w' => x = .returned (.bool true) ∧ Below W.heap.size W w' := fun y m d g W a => by
      have := right_any y m d W a
      rw [g] at this
      exact this
    obtain ⟨b1, b2, b3, b4, b5, b6⟩ := good_iff.1 g1
    refine goes_walk y m d u v e p q r _ _ _ (fun k => gs (pa y m d u v e k).1) (fun k => gt (pa y m d u v e k).1) (fun k => gs (pa u v e p q r k).1) (fun k => gt (pa u v e p q r k).1) (fun k => gs (pa y m d p q r k).1) (fun k => gt (pa y m d p q r k).1) w G.1 G.2 (R _ _ _ g1) (R _ _ _ g2) (R _ _ _ g3)
      (P _ _ _ _ _ _ g1 g2) (P _ _ _ _ _ _ g2 g3) (P _ _ _ _ _ _ g1 g3) ?_ b1 b2 ?_
    · by_cases c1 : num u v e < num y m d
      · rw [if_pos c1]
        left
        refine ⟨rfl, ?_⟩
        by_cases c2 : num p q r < num u v e
        · rw [if_pos c2]; exact Or.inr rfl
        · rw [if_neg c2]; exact Or.inl rfl
      · rw [if_neg c1]
        right
        by_cases c2 : num p q r < num u v e
        · rw [if_pos c2]; exact Or.inl ⟨rfl, rfl⟩
        · rw [if_neg c2, if_neg (show ¬ num p q r < num y m d by omega)]
          refine Or.inr ⟨rfl, rfl, rfl, fun k h0 h1 W GW => ?_⟩
          have hk : (k : Int) = 1 ∨ (k : Int) = 2 ∨ (k : Int) = 3 := by omega
          have e1 := pa_ok g1 g2 (by omega) (k : Int) (by omega) (by omega)
          have e2 := pa_ok g2 g3 (by omega) (k : Int) (by omega) (by omega)
          have e3 := pa_ok g1 g3 (by omega) (k : Int) (by omega) (by omega)
          rw [gs_pa, gs_pa, gs_pa, e1, e2, e3]
          have n1 := num_lo g1
          have n2 := num_hi g1
          have n3 := num_lo g2
          have n4 := num_hi g2
          have n5 := num_lo g3
          have n6 := num_hi g3
          have l1 := la_bd g1
          have l2 := la_bd g2
          have l3 := la_bd g3
          have AD := pq_add (k : Int) (num u v e - num y m d) (num p q r - num u v e) (la u v e - la y m d) (la p q r - la u v e) (ba u v e - ba y m d) (ba p q r - ba u v e) hk
          rw [show num u v e - num y m d + (num p q r - num u v e) = num p q r - num y m d by omega, show la u v e - la y m d + (la p q r - la u v e) = la p q r - la y m d by omega, show ba u v e - ba y m d + (ba p q r - ba u v e) = ba p q r - ba y m d by omega] at AD
          rw [← AD]
          exact Add_p _ _ W (pq_small _ _ _ _ hk (by omega) (by omega)) (pq_small _ _ _ _ hk (by omega) (by omega)) (by rw [AD]; exact pq_small _ _ _ _ hk (by omega) (by omega)) GW
    · intro h9 W a b
      have gA : good y 1 1 = true := good_iff.2 ⟨b1, b2, by decide, by decide, by decide, by unfold ml; simp⟩
      have gB : good (y + 1) 1 1 = true := good_iff.2 ⟨by omega, by omega, by decide, by decide, by decide, by unfold ml; simp⟩
      have hn : num y 1 1 ≤ num (y + 1) 1 1 := by
        unfold num
        rw [cu_1, cu_1, (lv_next y).2]
        split <;> omega
      have := Part_any y 1 1 (y + 1) 1 1 3 W a b
      rw [pa_ok gA gB hn 3 (by decide) (by decide), one_year, wrt_one] at this
      exact this
  · exact goes_not y m d u v e p q r w G.1 G.2 h
end Go.Proofs.YtbfamafajefapaaGreatDoor.Dy
