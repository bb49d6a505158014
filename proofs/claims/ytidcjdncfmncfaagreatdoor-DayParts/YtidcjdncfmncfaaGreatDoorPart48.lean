import Derived.Test.YtidcjdncfmncfaaGreatDoorPart47
import Derived.Lib.SmallJoins

namespace Go.Proofs.YtidcjdncfmncfaaGreatDoor.Dy
open Go.RowKit Tn Mo

theorem Jy_bd {y m d u v e : Int} (g1 : good y m d = true) (g2 : good u v e = true) (hn : num y m d ≤ num u v e) (yy l p : Int) (h : Jy y m d u v e yy l p) :
    y ≤ yy ∧ yy ≤ u + 1 ∧ 0 ≤ l ∧ l ≤ 8000000 ∧ 0 ≤ p ∧ p ≤ 8000000 := by
  obtain ⟨a1, a2⟩ := num_year g1
  obtain ⟨b1, b2⟩ := num_year g2
  obtain ⟨q1, q2, _⟩ := good_iff.1 g1
  obtain ⟨q3, q4, _⟩ := good_iff.1 g2
  have eA := la_eq (y := y) (m := m) (d := d)
  have eB := la_eq (y := u) (m := v) (d := e)
  have n1 := num_lo g1
  have n2 := num_hi g2
  have n3 := num_hi g1
  have lA := la_bd g1
  have lB := la_bd g2
  have s1 := hd_succ y
  have s2 := lv_succ y
  have s3 := plain_step y
  unfold sz at s1
  have yu : y ≤ u := by
    by_cases c : y ≤ u
    · exact c
    · have := hd_le (show u + 1 ≤ y by omega); omega
  rcases h with ⟨rfl, rfl, rfl⟩ | ⟨c1, c2, c3, c4⟩ | ⟨c1, c2, c3⟩
  · omega
  · have t1 := lv_le (show y + 1 ≤ yy by omega)
    have t2 := plain_le (show y + 1 ≤ yy by omega)
    have t3 := hd_le (show yy ≤ u by omega)
    have t4 := lv_le (show yy ≤ u by omega)
    have t5 := hd_lv u (by omega)
    refine ⟨by omega, by omega, ?_, ?_, ?_, ?_⟩
    · by_cases k : lp y = true <;> simp [k] at * <;> omega
    · omega
    · by_cases k : lp y = true <;> simp [k] at * <;> omega
    · by_cases k : lp y = true <;> simp [k] at * <;> omega
  · have hl : 0 ≤ l := by
      by_cases c : y = u
      · subst c
        by_cases k : lp y = true <;> simp [k] at * <;> omega
      · have t1 := lv_le (show y + 1 ≤ u by omega)
        by_cases k : lp y = true <;> by_cases k' : lp u = true <;> simp [k, k'] at * <;> omega
    refine ⟨by omega, by omega, hl, by omega, ?_, by omega⟩
    by_cases c : y = u
    · subst c
      by_cases k : lp y = true <;> simp [k] at * <;> omega
    · have t1 := lv_le (show y + 1 ≤ u by omega)
      have t2 := plain_le (show y + 1 ≤ u by omega)
      by_cases k : lp y = true <;> by_cases k' : lp u = true <;> simp [k, k'] at * <;> omega
/-- A quotient of small numbers is small. -/
theorem small_q (p q : Int) (p0 : -9223372036854775807 ≤ p) (p1 : p ≤ 9223372036854775807) (q0 : 0 < q) (q1 : q ≤ 9223372036854775807) :
    L.QS ((p : Rat) / (q : Rat)) 3 ∧ (Go.Lib.decDigits ((p : Rat) / (q : Rat)).num.natAbs).length ≤ 4096 ∧ (Go.Lib.decDigits ((p : Rat) / (q : Rat)).den).length ≤ 4096 := by
  have h := quot_small p q (by omega) (by omega) (by omega)
  rw [← Rat.div_def] at h
  obtain ⟨h1, h2⟩ := h
  have e1 : pw 1 = 18446744073709551616 := by decide
  have e2 : Tl.pw 3 = 1237940039285380274899124224 := by decide
  rw [e1] at h1 h2
  refine ⟨⟨by rw [e2]; omega, by rw [e2]; omega⟩, ?_, ?_⟩
  · have := dec20 (V := ((p : Rat) / (q : Rat)).num.natAbs) (by omega); omega
  · have := dec20 (V := ((p : Rat) / (q : Rat)).den) (by omega); omega
theorem Out_w (p q : Int) (r : Rat) (hr : r = (p : Rat) / (q : Rat)) (p0 : -9223372036854775807 ≤ p) (p1 : p ≤ 9223372036854775807) (q0 : 0 < q) (q1 : q ≤ 9223372036854775807) (v : Value) (W : World) (h : L.IsQ W v r) :
    Calls Tryz.prog 44 #[v] W fun x w' => x = .returned (.tuple #[wrt r, .int .i64 0]) ∧ Below W.heap.size W w' := by
  obtain ⟨s1, s2, s3⟩ := small_q p q p0 p1 q0 q1
  rw [← hr] at s1 s2 s3
  exact L.Out_q v r 3 W h s1 (by decide) s2 s3
theorem RPart_any (y m d u v e how : Int) (w : World) (G : Gl w) : Calls Tryz.prog 15 #[dt y m d, dt u v e, .int .i64 how] w fun x w' => x = .returned (.tuple #[(pa y m d u v e how).1, .int .i64 (pa y m d u v e how).2]) ∧ Below w.heap.size w w' := by
  have TW := two_any y m d u v e
  unfold pa
  by_cases z : tw y m d u v e = 0
  · rw [if_pos z]
    obtain ⟨g1, g2, g3⟩ := tw_zero z
    rw [z] at TW
    have n1 := num_lo g1
    have n2 := num_hi g2
    have n3 := num_hi g1
    have n4 := num_lo g2
    have l1 := la_bd g1
    have l2 := la_bd g2
    have b1 := ba_bd g1
    have b2 := ba_bd g2
    obtain ⟨a1, a2, a3, a4, a5, a6⟩ := good_iff.1 g1
    obtain ⟨c1, c2, c3, c4, c5, c6⟩ := good_iff.1 g2
    have mb1 := ml_bd (lp y) m
    have mb2 := ml_bd (lp u) v
    have NA := RNumber_any y m d (by omega) (by omega) (by omega) (by omega) (by omega) (by omega)
    have NB := RNumber_any u v e (by omega) (by omega) (by omega) (by omega) (by omega) (by omega)
    by_cases c : 1 ≤ how ∧ how ≤ 4
    · rw [if_pos c]
      have ho : how = 1 ∨ how = 2 ∨ how = 3 ∨ how = 4 := by omega
      rcases ho with rfl | rfl | rfl | rfl
      · rw [show pq 1 (num u v e - num y m d) (la u v e - la y m d) (ba u v e - ba y m d) = ((num u v e - num y m d : Int) : Rat) / ((365 : Int) : Rat) from rfl]
        have FR := fun W => L.Frac_q (num u v e - num y m d) 365 W (by omega) (by omega) (by decide) (by decide)
        have OU := Out_w (num u v e - num y m d) 365 _ rfl (by omega) (by omega) (by decide) (by decide)
        obtain ⟨s, t, e'⟩ := wrt_form (((num u v e - num y m d : Int) : Rat) / ((365 : Int) : Rat))
        rw [e'] at OU ⊢
        exact RPart_365 y m d u v e w G _ _ _ _ s t TW NA NB (wrapI _ (by omega) (by omega)) FR OU
      · rw [show pq 2 (num u v e - num y m d) (la u v e - la y m d) (ba u v e - ba y m d) = ((num u v e - num y m d : Int) : Rat) / ((360 : Int) : Rat) from rfl]
        have FR := fun W => L.Frac_q (num u v e - num y m d) 360 W (by omega) (by omega) (by decide) (by decide)
        have OU := Out_w (num u v e - num y m d) 360 _ rfl (by omega) (by omega) (by decide) (by decide)
        obtain ⟨s, t, e'⟩ := wrt_form (((num u v e - num y m d : Int) : Rat) / ((360 : Int) : Rat))
        rw [e'] at OU ⊢
        exact RPart_360 y m d u v e w G _ _ _ _ s t TW NA NB (wrapI _ (by omega) (by omega)) FR OU
      · rw [show pq 3 (num u v e - num y m d) (la u v e - la y m d) (ba u v e - ba y m d) = ((la u v e - la y m d : Int) : Rat) / ((366 : Int) : Rat) + (((num u v e - num y m d) - (la u v e - la y m d) : Int) : Rat) / ((365 : Int) : Rat) from rfl]
        have je : Jy y m d u v e (u + 1) (la u v e - la y m d) ((num u v e - num y m d) - (la u v e - la y m d)) := Or.inr (Or.inr ⟨rfl, rfl, by omega⟩)
        have jb := Jy_bd g1 g2 g3 _ _ _ je
        have F1 := fun W => L.Frac_q (la u v e - la y m d) 366 W (by omega) (by omega) (by decide) (by decide)
        have F2 := fun W => L.Frac_q ((num u v e - num y m d) - (la u v e - la y m d)) 365 W (by omega) (by omega) (by decide) (by decide)
        have AD := fun x x' W h1 h2 => L.QAdd_any x x' _ _ 3 W h1 h2 (small_q (la u v e - la y m d) 366 (by omega) (by omega) (by decide) (by decide)).1 (small_q ((num u v e - num y m d) - (la u v e - la y m d)) 365 (by omega) (by omega) (by decide) (by decide)).1 (by decide)
        have OU := Out_w ((la u v e - la y m d) * 365 + ((num u v e - num y m d) - (la u v e - la y m d)) * 366) 133590 _ (qyears _ _).symm (by omega) (by omega) (by decide) (by decide)
        rw [show ((la u v e - la y m d : Int) : Rat) / 366 + (((num u v e - num y m d) - (la u v e - la y m d) : Int) : Rat) / 365 = ((la u v e - la y m d : Int) : Rat) / ((366 : Int) : Rat) + (((num u v e - num y m d) - (la u v e - la y m d) : Int) : Rat) / ((365 : Int) : Rat) from rfl] at OU
        obtain ⟨s, t, e'⟩ := wrt_form (((la u v e - la y m d : Int) : Rat) / ((366 : Int) : Rat) + (((num u v e - num y m d) - (la u v e - la y m d) : Int) : Rat) / ((365 : Int) : Rat))
        rw [e'] at OU ⊢
        have yu : y ≤ u := by
          obtain ⟨q1, q2⟩ := num_year g1
          obtain ⟨q3, q4⟩ := num_year g2
          by_cases c : y ≤ u
          · exact c
          · have := hd_le (show u + 1 ≤ y by omega); omega
        have hu : hd (u + 1) ≤ 3652059 := by have := hd_le (show u + 1 ≤ 10000 by omega); have : hd 10000 = 3652059 := by decide
                                             omega
        exact RPart_years y m d u v e w G _ _ _ _ _ _ _ _ s t TW NA NB (wrapI _ (by omega) (by omega)) (fun yy h1 h2 W => (ahead_any yy (by omega) (by omega) W).mono (by rintro x w' ⟨rfl, rfl⟩; exact ⟨rfl, Below.refl _ _⟩)) (fun yy h1 h2 W => (RLeap_any yy (by omega) W).mono (by rintro x w' ⟨rfl, rfl⟩; exact ⟨rfl, Below.refl _ _⟩))
          F1 F2 AD OU (Jy y m d u v e) (Or.inl ⟨rfl, rfl, rfl⟩) (Jy_bd g1 g2 g3) (Jy_step g1 g2 g3) (fun l p h => by
            rcases h with ⟨h1, _⟩ | ⟨h1, h2, _⟩ | ⟨_, h2, h3⟩
            · omega
            · omega
            · omega) (by omega) (by omega) (by omega) (by omega) (fun yy h1 h2 => by
            have t1 := hd_le h2
            have t2 := (hd_bd (show 1 ≤ yy by omega)).1
            omega)
      · rw [show pq 4 (num u v e - num y m d) (la u v e - la y m d) (ba u v e - ba y m d) = ((ba u v e - ba y m d : Int) : Rat) / ((360 : Int) : Rat) from rfl]
        have OU := Out_w (ba u v e - ba y m d) 360 _ rfl (by omega) (by omega) (by decide) (by decide)
        obtain ⟨s, t, e'⟩ := wrt_form (((ba u v e - ba y m d : Int) : Rat) / ((360 : Int) : Rat))
        rw [e'] at OU ⊢
        exact RPart_third y m d u v e w G _ _ _ (ba u v e - ba y m d) _ s t (by omega) (by omega) (by omega) (by omega) (by omega) (by omega) (by omega) (by omega) (by omega) (by omega) (by omega) (by omega) (by unfold ba mo; omega) TW NA NB (wrapI _ (by omega) (by omega))
          (fun p W hp => by subst hp; exact L.Frac_q _ 360 W (by omega) (by omega) (by decide) (by decide)) OU
    · rw [if_neg c]
      exact RPart_none y m d u v e w G how (by omega) TW
  · rw [if_neg z]
    exact RPart_bad y m d u v e w G _ how z TW
end Go.Proofs.YtidcjdncfmncfaaGreatDoor.Dy

namespace Go.Proofs.YtidcjdncfmncfaaGreatDoor.Dy
open Go.RowKit Tn Mo
theorem pa_form (y m d u v e how : Int) : ∃ s t, (pa y m d u v e how).1 = .agg #[.string s, .string t] := by
  unfold pa
  split
  · split
    · exact ⟨_, _, rfl⟩
    · exact ⟨_, _, rfl⟩
  · exact ⟨_, _, rfl⟩
theorem gPow : Tryz.prog.globalNamed "internal/strconv.uint64pow10" = some 5 := by kernel_rfl
theorem gw_of {w : World} (h : Go.Lib.TabIs Tryz.prog w "internal/strconv.uint64pow10" .u64 Go.Lib.pow10Tab) : Gw w := fun _ b => Go.Joins.var_stays gPow h b (Nat.le_refl _)
set_option maxHeartbeats 1600000 in
theorem parts_walk (y m d u v e how E : Int) (s t : ByteArray) (w : World) (G : Gl w) (H : Gw w)
    (PA : ∀ W, Gl W → Gw W → Calls Tryz.prog 14 #[dt y m d, dt u v e, .int .i64 how] W fun x w' => x = .returned (.tuple #[.agg #[.string s, .string t], .int .i64 E]) ∧ Below W.heap.size W w')
    (PB : ∀ W, Gl W → Calls Tryz.prog 15 #[dt y m d, dt u v e, .int .i64 how] W fun x w' => x = .returned (.tuple #[.agg #[.string s, .string t], .int .i64 E]) ∧ Below W.heap.size W w') :
    Calls Tryz.prog 4 #[dt y m d, dt u v e, .int .i64 how] w fun x w' => x = .returned (.bool true) ∧ Below w.heap.size w w' := by
  have T0 := Tb.new w y m d u v e G
  have G0 := T0.2.2.1
  have H0 := H.grow T0.2.2.2
  clear G H
  unfold dt at *
  go_enter Tryz.func4, Tryz.ntmps4
  go_wp2_with (first
    | (go_at_call 14; refine (PA _ G0 H0).mono ?_; rintro x w1 ⟨rfl, b1⟩; have T1 := T0.grow (b1.trans ((Below.refl _ _).alloc b1.size (.cells #[.string s, .string t] 23))); have G1 := T1.2.2.1; have a10 := T1.1.c0; have a11 := T1.1.c1; have a12 := T1.1.c2; have b10 := T1.2.1.c0; have b11 := T1.2.1.c1; have b12 := T1.2.1.c2; have K1 := Blk.new w1 #[.string s, .string t] 23)
    | (go_at_call 15; refine (PB _ G1).mono ?_; rintro x w2 ⟨rfl, b2⟩; have T2 := T1.grow b2; have K2 := K1.below b2 K1.lt; have k20 := K2.at 0; have k21 := K2.at 1; simp at k20 k21; have k2l := K2.lt)
    | fail)
  go_ret
  exact ⟨rfl, bel' T2.2.2.2 (bl _ _)⟩
theorem parts_law (y m d u v e how : Int) (w : World) (G : Gl w ∧ Gw w) : Calls Tryz.prog 4 #[dt y m d, dt u v e, .int .i64 how] w fun x w' => x = .returned (.bool true) ∧ Below w.heap.size w w' := by
  obtain ⟨s, t, h⟩ := pa_form y m d u v e how
  have PA := Part_any y m d u v e how
  have PB := RPart_any y m d u v e how
  rw [h] at PA PB
  exact parts_walk y m d u v e how _ s t w G.1 G.2 PA PB
end Go.Proofs.YtidcjdncfmncfaaGreatDoor.Dy
