import Derived.Test.YtohdbpnkenoclaaDoorDy17
import Derived.Test.YtohdbpnkenoclaaDoorDy18
namespace Go.Proofs.YtohdbpnkenoclaaDoor.Dy
open Go.RowKit Tn
set_option maxHeartbeats 3200000 in
theorem RAge_walk (y m d u v e how P LO HI X SI UN R E Y1 M1 D1 Y2 M2 D2 : Int) (w : World) (G : Gl w) (hw1 : 1 ≤ how) (hw2 : how ≤ 3)
    (TW : ∀ W, Gl W → Calls Tryd.prog 53 #[dt y m d, dt u v e] W fun x w' => x = .returned (.int .i64 0) ∧ Below W.heap.size W w')
    (BO : ∀ W, Gl W → Calls Tryd.prog 54 #[dt y m d, dt u v e] W fun x w' => x = .returned (.int .i64 P) ∧ Below W.heap.size W w')
    (MA : ∀ W, Calls Tryd.prog 48 #[dt y m d, .int .i64 (12 * P)] W fun x w' => x = .returned (dt Y1 M1 D1) ∧ Below W.heap.size W w')
    (MB : ∀ W, Calls Tryd.prog 48 #[dt y m d, .int .i64 (12 * (P + 1))] W fun x w' => x = .returned (dt Y2 M2 D2) ∧ Below W.heap.size W w')
    (NA : ∀ W, Calls Tryd.prog 22 #[dt Y1 M1 D1] W fun x w' => x = .returned (.int .i64 LO) ∧ Below W.heap.size W w')
    (NC : ∀ W, Calls Tryd.prog 22 #[dt Y2 M2 D2] W fun x w' => x = .returned (.int .i64 HI) ∧ Below W.heap.size W w')
    (NB : ∀ W, Calls Tryd.prog 22 #[dt u v e] W fun x w' => x = .returned (.int .i64 X) ∧ Below W.heap.size W w')
    (e1 : IntKind.i64.wrap (12 * P) = 12 * P) (e2 : IntKind.i64.wrap (P + 1) = P + 1) (e3 : IntKind.i64.wrap (12 * (P + 1)) = 12 * (P + 1)) (e4 : IntKind.i64.wrap (HI - X) = UN) (e5 : IntKind.i64.wrap (X - LO) = SI) (hS : X - LO = SI) (hR : agS P SI UN how = (R, E)) :
    Calls Tryd.prog 29 #[dt y m d, dt u v e, .int .i64 how] w fun x w' => x = .returned (.tuple #[.int .i64 R, .int .i64 E]) ∧ Below w.heap.size w w' := by
  have T0 := Tb.new w y m d u v e G
  have G0 := T0.2.2.1
  have HR : Hid _ := hR
  have HS : Hid _ := hS
  clear hR hS G
  unfold dt at *
  go_enter Tryd.func29, Tryd.ntmps29
  go_wp2_with (first
    | (go_at_call 53; refine (TW _ G0).mono ?_; rintro x w5 ⟨rfl, b5⟩; have T5 := T0.grow b5; have G5 := T5.2.2.1; have a50 := T5.1.c0; have a51 := T5.1.c1; have a52 := T5.1.c2; have b50 := T5.2.1.c0; have b51 := T5.2.1.c1; have b52 := T5.2.1.c2)
    | (go_at_call 54; refine (BO _ G5).mono ?_; rintro x w6 ⟨rfl, b6⟩; have T6 := T5.grow b6; have G6 := T6.2.2.1; have a60 := T6.1.c0; have a61 := T6.1.c1; have a62 := T6.1.c2; have b60 := T6.2.1.c0; have b61 := T6.2.1.c1; have b62 := T6.2.1.c2)
    | fail)
  go_cut [10, 11] from 32 to 42 (fun a b wc => a = .int .i64 LO ∧ b = .int .i64 HI ∧ Tb w wc y m d u v e)
  case first =>
    go_region_with (first
      | (have _ := T3; go_at_call 22; refine (NC _).mono ?_; rintro x w4 ⟨rfl, b4⟩; have T4 : Tb w w4 y m d u v e := (by first | exact T3.grow b4 | exact T3.grow (undr b4)); have a40 := T4.1.c0; have a41 := T4.1.c1; have a42 := T4.1.c2; have b40 := T4.2.1.c0; have b41 := T4.2.1.c1; have b42 := T4.2.1.c2)
      | (have _ := T2; go_at_call 48; refine (MB _).mono ?_; rintro x w3 ⟨rfl, b3⟩; have T3 : Tb w w3 y m d u v e := (by first | exact T2.grow b3 | exact T2.grow (undr b3)); have a30 := T3.1.c0; have a31 := T3.1.c1; have a32 := T3.1.c2; have b30 := T3.2.1.c0; have b31 := T3.2.1.c1; have b32 := T3.2.1.c2)
      | (have _ := T1; go_at_call 22; refine (NA _).mono ?_; rintro x w2 ⟨rfl, b2⟩; have T2 : Tb w w2 y m d u v e := (by first | exact T1.grow b2 | exact T1.grow (undr b2)); have a20 := T2.1.c0; have a21 := T2.1.c1; have a22 := T2.1.c2; have b20 := T2.2.1.c0; have b21 := T2.2.1.c1; have b22 := T2.2.1.c2)
      | (have _ := T6; go_at_call 48; refine (MA _).mono ?_; rintro x w1 ⟨rfl, b1⟩; have T1 : Tb w w1 y m d u v e := (by first | exact T6.grow b1 | exact T6.grow (undr b1)); have a10 := T1.1.c0; have a11 := T1.1.c1; have a12 := T1.1.c2; have b10 := T1.2.1.c0; have b11 := T1.2.1.c1; have b12 := T1.2.1.c2))
    all_goals
      go_wp2_with fail
      go_meet
      case rel => exact ⟨rfl, rfl, T4⟩
  case rest =>
    obtain ⟨rfl, rfl, T3⟩ := hcut
    have a30 := T3.1.c0
    have a31 := T3.1.c1
    have a32 := T3.1.c2
    have b30 := T3.2.1.c0
    have b31 := T3.2.1.c1
    have b32 := T3.2.1.c2
    have hR := HR.out
    have hS := HS.out
    unfold agS at hR
    clear TW BO MA MB NA NC
    by_cases h1 : how = 1
    · subst h1
      rw [if_pos rfl] at hR
      obtain ⟨rfl, rfl⟩ := Prod.mk.inj hR
      go_wp2_with (first
        | (go_at_call 22; refine (NB _).mono ?_; rintro x w7 ⟨rfl, b7⟩; have T7 := T3.grow b7)
        | fail)
      go_ret2
      exact ⟨rfl, T7.2.2.2⟩
    rw [if_neg h1] at hR
    by_cases h2 : how = 2
    · subst h2
      rw [if_pos rfl] at hR
      by_cases c : SI > 0
      · rw [if_pos c] at hR
        have c' : decide (X > LO) = true := decide_eq_true (by omega)
        obtain ⟨rfl, rfl⟩ := Prod.mk.inj hR
        go_wp2_with (first
          | (go_at_call 22; refine (NB _).mono ?_; rintro x w7 ⟨rfl, b7⟩; have T7 := T3.grow b7)
          | fail)
        go_ret2
        exact ⟨rfl, T7.2.2.2⟩
      · rw [if_neg c] at hR
        have c' : decide (X > LO) = false := decide_eq_false (by omega)
        obtain ⟨rfl, rfl⟩ := Prod.mk.inj hR
        go_wp2_with (first
          | (go_at_call 22; refine (NB _).mono ?_; rintro x w7 ⟨rfl, b7⟩; have T7 := T3.grow b7)
          | fail)
        go_ret2
        exact ⟨rfl, T7.2.2.2⟩
    rw [if_neg h2] at hR
    clear hS
    obtain rfl : how = 3 := by omega
    rw [if_pos rfl] at hR
    by_cases c : UN ≤ SI
    · rw [if_pos c] at hR
      have c' : decide (UN ≤ SI) = true := decide_eq_true c
      obtain ⟨rfl, rfl⟩ := Prod.mk.inj hR
      go_wp2_with (first
        | (go_at_call 22; refine (NB _).mono ?_; rintro x w7 ⟨rfl, b7⟩; have T7 := T3.grow b7)
        | fail)
      go_ret2
      exact ⟨rfl, T7.2.2.2⟩
    · rw [if_neg c] at hR
      have c' : decide (UN ≤ SI) = false := decide_eq_false c
      obtain ⟨rfl, rfl⟩ := Prod.mk.inj hR
      go_wp2_with (first
        | (go_at_call 22; refine (NB _).mono ?_; rintro x w7 ⟨rfl, b7⟩; have T7 := T3.grow b7)
        | fail)
      go_ret2
      exact ⟨rfl, T7.2.2.2⟩
theorem RAge_any (y m d u v e how : Int) (w : World) (G : Gl w) : Calls Tryd.prog 29 #[dt y m d, dt u v e, .int .i64 how] w fun x w' => x = .returned (.tuple #[.int .i64 (agR y m d u v e how).1, .int .i64 (agR y m d u v e how).2]) ∧ Below w.heap.size w w' := by
  have TW := two_any y m d u v e
  by_cases t : tw y m d u v e = 0
  · rw [t] at TW
    have e0 : agR y m d u v e how = agS (mp (mo y m) d (mo u v) e / 12) (agB (mo y m) d (mo u v) e (mp (mo y m) d (mo u v) e / 12)) (agU (mo y m) d (mo u v) e (mp (mo y m) d (mo u v) e / 12)) how := by unfold agR; rw [if_pos t]
    by_cases hh : 1 ≤ how ∧ how ≤ 3
    · obtain ⟨g, k, l⟩ := tw_good t
      obtain ⟨p0, p1, p2⟩ := mp_good t
      have BO := born_any y m d u v e g k
      obtain ⟨g1, g2, g3, g4, g5, g6⟩ := good_iff.1 g
      obtain ⟨h1, h2, h3, h4, h5, h6⟩ := good_iff.1 k
      have NB := RNumber_any u v e (by omega) (by omega) (by omega) (by omega) (by omega) (by have := ml_bd (lp u) v; omega)
      have lo := num_lo k
      have hi := num_hi k
      have nm : num u v e = mn (mo u v) + e := num_mo h3 h4
      obtain ⟨P, hP⟩ : ∃ P, mp (mo y m) d (mo u v) e / 12 = P := ⟨_, rfl⟩
      rw [hP] at BO e0
      have MA := RMonths_any y m d (12 * P) (by omega) (by omega) (by omega) (by omega) (by omega) (by omega)
      have MB := RMonths_any y m d (12 * (P + 1)) (by omega) (by omega) (by omega) (by omega) (by omega) (by omega)
      have m1 := mk_bd (mo y m + 12 * P)
      have m2 := mk_bd (mo y m + 12 * (P + 1))
      have NA := RNumber_any ((mo y m + 12 * P) / 12 + 1) ((mo y m + 12 * P) % 12 + 1) (min d (mk (mo y m + 12 * P))) (by omega) (by omega) (by omega) (by omega) (by omega) (by omega)
      have NC := RNumber_any ((mo y m + 12 * (P + 1)) / 12 + 1) ((mo y m + 12 * (P + 1)) % 12 + 1) (min d (mk (mo y m + 12 * (P + 1)))) (by omega) (by omega) (by omega) (by omega) (by omega) (by omega)
      rw [num_on] at NA NC
      have b1 := nu_bd (a := mo y m + 12 * P) (by omega) (by omega) g5
      have b2 := nu_bd (a := mo y m + 12 * (P + 1)) (by omega) (by omega) g5
      have s1 : num u v e - nu (mo y m + 12 * P) d = agB (mo y m) d (mo u v) e P := by unfold agB; omega
      have s2 : nu (mo y m + 12 * (P + 1)) d - num u v e = agU (mo y m) d (mo u v) e P := by unfold agU; omega
      refine RAge_walk y m d u v e how P _ _ _ (agB (mo y m) d (mo u v) e P) (agU (mo y m) d (mo u v) e P) _ _ _ _ _ _ _ _ w G hh.1 hh.2 TW BO MA MB NA NC NB ?_ ?_ ?_ ?_ ?_ s1 e0.symm
      · exact wrapI _ (by omega) (by omega)
      · exact wrapI _ (by omega) (by omega)
      · exact wrapI _ (by omega) (by omega)
      · rw [wrapI _ (by omega) (by omega)]; exact s2
      · rw [wrapI _ (by omega) (by omega)]; exact s1
    · have e1 : agR y m d u v e how = (0, 1) := by rw [e0]; unfold agS; rw [if_neg (by omega), if_neg (by omega), if_neg (by omega)]
      rw [e1]
      have T0 := Tb.new w y m d u v e G
      have G0 := T0.2.2.1
      clear e0 e1 G t
      unfold dt at *
      by_cases k1 : how < 1
      · clear hh
        go_enter Tryd.func29, Tryd.ntmps29
        go_wp2_with (first
          | (go_at_call 53; refine (TW _ G0).mono ?_; rintro x w5 ⟨rfl, b5⟩; have T5 := T0.grow b5; have G5 := T5.2.2.1; have a50 := T5.1.c0; have a51 := T5.1.c1; have a52 := T5.1.c2; have b50 := T5.2.1.c0; have b51 := T5.2.1.c1; have b52 := T5.2.1.c2)
          | fail)
        go_ret2
        exact ⟨rfl, T5.2.2.2⟩
      · have k2 : 3 < how := by omega
        clear hh
        go_enter Tryd.func29, Tryd.ntmps29
        go_wp2_with (first
          | (go_at_call 53; refine (TW _ G0).mono ?_; rintro x w5 ⟨rfl, b5⟩; have T5 := T0.grow b5; have G5 := T5.2.2.1; have a50 := T5.1.c0; have a51 := T5.1.c1; have a52 := T5.1.c2; have b50 := T5.2.1.c0; have b51 := T5.2.1.c1; have b52 := T5.2.1.c2)
          | fail)
        go_ret2
        exact ⟨rfl, T5.2.2.2⟩
  · have e0 : agR y m d u v e how = (0, tw y m d u v e) := by unfold agR; rw [if_neg t]
    rw [e0]
    have T0 := Tb.new w y m d u v e G
    have G0 := T0.2.2.1
    generalize tw y m d u v e = E at *
    have t' : (E != 0) = true := by simpa using t
    have t2 : (E == 0) = false := by simpa using t
    clear G e0 t
    unfold dt at *
    go_enter Tryd.func29, Tryd.ntmps29
    go_wp2_with (first
      | (go_at_call 53; refine (TW _ G0).mono ?_; rintro x w5 ⟨rfl, b5⟩; have T5 := T0.grow b5; have G5 := T5.2.2.1; have a50 := T5.1.c0; have a51 := T5.1.c1; have a52 := T5.1.c2; have b50 := T5.2.1.c0; have b51 := T5.2.1.c1; have b52 := T5.2.1.c2)
      | fail)
    go_ret2
    exact ⟨rfl, T5.2.2.2⟩
end Go.Proofs.YtohdbpnkenoclaaDoor.Dy
