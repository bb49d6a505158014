import Derived.Test.YtidcjdncfmncfaaGreatDoorPart03

namespace Go.Proofs.YtidcjdncfmncfaaGreatDoor.Dy
open Go.RowKit Tn
set_option maxHeartbeats 1600000 in
theorem two_any (y m d u v e : Int) (w : World) (G : Gl w) : Calls Tryz.prog 42 #[dt y m d, dt u v e] w fun x w' => x = .returned (.int .i64 (tw y m d u v e)) ∧ Below w.heap.size w w' := by
  have T0 := Tb.new w y m d u v e G
  have GA := Good_any y m d
  have GB := Good_any u v e
  clear G
  cases g : good y m d
  · have t1 : tw y m d u v e = 70 := by unfold tw; rw [g]; rfl
    rw [t1]
    rw [g] at GA
    clear GB t1
    unfold dt at *
    go_enter Tryz.func42, Tryz.ntmps42
    go_wp2_with (first
      | (go_at_call 101; (with_reducible refine (GA _).mono ?_); rintro x w1 ⟨rfl, b1⟩; have T1 := T0.grow b1; have a10 := T1.1.c0; have a11 := T1.1.c1; have a12 := T1.1.c2; have b10 := T1.2.1.c0; have b11 := T1.2.1.c1; have b12 := T1.2.1.c2)
      | fail)
    go_ret
    exact ⟨rfl, T1.2.2.2⟩
  cases h : good u v e
  · have t1 : tw y m d u v e = 70 := by unfold tw; rw [g, h]; rfl
    rw [t1]
    rw [g] at GA
    rw [h] at GB
    clear t1
    unfold dt at *
    go_enter Tryz.func42, Tryz.ntmps42
    go_wp2_with (first
      | (go_at_call 101; (with_reducible refine (GA _).mono ?_); rintro x w1 ⟨rfl, b1⟩; have T1 := T0.grow b1; have a10 := T1.1.c0; have a11 := T1.1.c1; have a12 := T1.1.c2; have b10 := T1.2.1.c0; have b11 := T1.2.1.c1; have b12 := T1.2.1.c2)
      | (go_at_call 101; (with_reducible refine (GB _).mono ?_); rintro x w2 ⟨rfl, b2⟩; have T2 := T1.grow b2; have a20 := T2.1.c0; have a21 := T2.1.c1; have a22 := T2.1.c2; have b20 := T2.2.1.c0; have b21 := T2.2.1.c1; have b22 := T2.2.1.c2)
      | fail)
    go_ret
    exact ⟨rfl, T2.2.2.2⟩
  · obtain ⟨g1, g2, g3, g4, g5, g6⟩ := good_iff.1 g
    obtain ⟨h1, h2, h3, h4, h5, h6⟩ := good_iff.1 h
    have NA := RNumber_any y m d (by omega) (by omega) (by omega) (by omega) (by omega) (by have := ml_bd (lp y) m; omega)
    have NB := RNumber_any u v e (by omega) (by omega) (by omega) (by omega) (by omega) (by have := ml_bd (lp u) v; omega)
    have t0 : tw y m d u v e = if num u v e < num y m d then 1 else 0 := by unfold tw; rw [g, h]; rfl
    rw [t0]
    rw [g] at GA
    rw [h] at GB
    clear g h g1 g2 g3 g4 g5 g6 h1 h2 h3 h4 h5 h6 t0
    generalize num y m d = A at *
    generalize num u v e = B at *
    obtain ⟨Z0, hZ⟩ : ∃ Z0 : Int, (if B < A then 1 else 0) = Z0 := ⟨_, rfl⟩
    rw [hZ]
    have HZ : Hid _ := hZ
    clear hZ
    unfold dt at *
    go_enter Tryz.func42, Tryz.ntmps42
    go_wp2_with (first
      | (go_at_call 101; (with_reducible refine (GA _).mono ?_); rintro x w1 ⟨rfl, b1⟩; have T1 := T0.grow b1; have a10 := T1.1.c0; have a11 := T1.1.c1; have a12 := T1.1.c2; have b10 := T1.2.1.c0; have b11 := T1.2.1.c1; have b12 := T1.2.1.c2)
      | (go_at_call 101; (with_reducible refine (GB _).mono ?_); rintro x w2 ⟨rfl, b2⟩; have T2 := T1.grow b2; have a20 := T2.1.c0; have a21 := T2.1.c1; have a22 := T2.1.c2; have b20 := T2.2.1.c0; have b21 := T2.2.1.c1; have b22 := T2.2.1.c2)
      | fail)
    go_region_with (first
      | (have _ := T3; go_at_call 43; refine (NA _).mono ?_; rintro x w4 ⟨rfl, b4⟩; have T4 : Tb w w4 y m d u v e := (by first | exact T3.grow b4 | exact T3.grow (undr b4)); have a40 := T4.1.c0; have a41 := T4.1.c1; have a42 := T4.1.c2; have b40 := T4.2.1.c0; have b41 := T4.2.1.c1; have b42 := T4.2.1.c2)
      | (have _ := T2; go_at_call 43; refine (NB _).mono ?_; rintro x w3 ⟨rfl, b3⟩; have T3 : Tb w w3 y m d u v e := (by first | exact T2.grow b3 | exact T2.grow (undr b3)); have a30 := T3.1.c0; have a31 := T3.1.c1; have a32 := T3.1.c2; have b30 := T3.2.1.c0; have b31 := T3.2.1.c1; have b32 := T3.2.1.c2))
    all_goals
      by_cases c : B < A
      · have hz := HZ.out
        rw [if_pos c] at hz
        subst hz
        go_wp2_with fail
        go_ret
        exact ⟨rfl, T4.2.2.2⟩
      · have hz := HZ.out
        rw [if_neg c] at hz
        subst hz
        go_wp2_with fail
        go_ret
        exact ⟨rfl, T4.2.2.2⟩
end Go.Proofs.YtidcjdncfmncfaaGreatDoor.Dy
