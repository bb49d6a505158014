import Derived.Test.YtohdbpnkenoclaaDoorDy19
namespace Go.Proofs.YtohdbpnkenoclaaDoor.Dy
open Go.RowKit Tn
set_option maxHeartbeats 6400000 in
theorem RBetween_walk (y m d u v e P r B C : Int) (w : World) (G : Gl w) (r0 : 0 ≤ r) (r1 : r ≤ 11) (p0 : 0 ≤ P) (p1 : P ≤ 20000)
    (TW : ∀ W, Gl W → Calls Tryd.prog 53 #[dt y m d, dt u v e] W fun x w' => x = .returned (.int .i64 0) ∧ Below W.heap.size W w')
    (BO : ∀ W, Gl W → Calls Tryd.prog 54 #[dt y m d, dt u v e] W fun x w' => x = .returned (.int .i64 P) ∧ Below W.heap.size W w')
    (MM : ∀ k, r ≤ k → k ≤ 11 → ∃ Y M D N, (k = r → N = C) ∧ (r < k → B < N) ∧ (∀ W, Calls Tryd.prog 48 #[dt y m d, .int .i64 (12 * P + k)] W fun x w' => x = .returned (dt Y M D) ∧ Below W.heap.size W w') ∧
      (∀ W, Calls Tryd.prog 22 #[dt Y M D] W fun x w' => x = .returned (.int .i64 N) ∧ Below W.heap.size W w'))
    (NB : ∀ W, Calls Tryd.prog 22 #[dt u v e] W fun x w' => x = .returned (.int .i64 B) ∧ Below W.heap.size W w')
    (hC : C ≤ B) (hb : IntKind.i64.wrap (B - C) = B - C) :
    Calls Tryd.prog 31 #[dt y m d, dt u v e] w fun x w' => x = .returned (.tuple #[.int .i64 P, .int .i64 r, .int .i64 (B - C), .int .i64 0]) ∧ Below w.heap.size w w' := by
  have T0 := Tb.new w y m d u v e G
  have G0 := T0.2.2.1
  obtain ⟨BC, hBC⟩ : ∃ BC, B - C = BC := ⟨_, rfl⟩
  have hb2 : IntKind.i64.wrap (B - C) = BC := hb.trans hBC
  rw [hBC]
  clear hb hBC G
  unfold dt at *
  go_enter Tryd.func31, Tryd.ntmps31
  go_wp2_with (first
    | (go_at_call 53; refine (TW _ G0).mono ?_; rintro x w5 ⟨rfl, b5⟩; have T5 := T0.grow b5; have G5 := T5.2.2.1; have a50 := T5.1.c0; have a51 := T5.1.c1; have a52 := T5.1.c2; have b50 := T5.2.1.c0; have b51 := T5.2.1.c1; have b52 := T5.2.1.c2)
    | (go_at_call 54; refine (BO _ G5).mono ?_; rintro x w6 ⟨rfl, b6⟩; have T6 := T5.grow b6; have G6 := T6.2.2.1; have a60 := T6.1.c0; have a61 := T6.1.c1; have a62 := T6.1.c2; have b60 := T6.2.1.c0; have b61 := T6.2.1.c1; have b62 := T6.2.1.c2)
    | fail)
  clear T0 G0 TW BO
  go_loopw [10] (fun t wr => ∃ k : Int, r ≤ k ∧ k ≤ 11 ∧ t = .int .i64 k ∧ Tb w wr y m d u v e) (fun t _ => (RowKit.intOf t).toNat)
  case atStart => exact ⟨11, r1, by omega, rfl, T6⟩
  case round =>
    clear T5 T6 G5 G6
    obtain ⟨k, k1, k2, rfl, T0⟩ := hrel
    obtain ⟨Y, M, D, N, n1, n2, MO, NC⟩ := MM k k1 k2
    clear MM
    have a00 := T0.1.c0
    have a01 := T0.1.c1
    have a02 := T0.1.c2
    have b00 := T0.2.1.c0
    have b01 := T0.2.1.c1
    have b02 := T0.2.1.c2
    obtain ⟨K, hK⟩ : ∃ K, 12 * P + k = K := ⟨_, rfl⟩
    rw [hK] at MO
    have e1 : IntKind.i64.wrap (12 * P) = 12 * P := wrapI _ (by omega) (by omega)
    have e2 : IntKind.i64.wrap (12 * P + k) = K := by rw [wrapI _ (by omega) (by omega)]; exact hK
    have e3 : IntKind.i64.wrap (k - 1) = k - 1 := wrapI _ (by omega) (by omega)
    clear hK
    by_cases c : r < k
    · replace n2 := n2 c
      clear n1
      go_wp2_with fail
      go_region_with (first
        | (have _ := T2; go_at_call 22; refine (NB _).mono ?_; rintro x w3 ⟨rfl, b3⟩; have T3 : Tb w w3 y m d u v e := (by first | exact T2.grow b3 | exact T2.grow (undr b3)); have a30 := T3.1.c0; have a31 := T3.1.c1; have a32 := T3.1.c2; have b30 := T3.2.1.c0; have b31 := T3.2.1.c1; have b32 := T3.2.1.c2)
        | (have _ := T1; go_at_call 22; refine (NC _).mono ?_; rintro x w2 ⟨rfl, b2⟩; have T2 : Tb w w2 y m d u v e := (by first | exact T1.grow b2 | exact T1.grow (undr b2)); have a20 := T2.1.c0; have a21 := T2.1.c1; have a22 := T2.1.c2; have b20 := T2.2.1.c0; have b21 := T2.2.1.c1; have b22 := T2.2.1.c2)
        | (have _ := T0; go_at_call 48; refine (MO _).mono ?_; rintro x w1 ⟨rfl, b1⟩; have T1 : Tb w w1 y m d u v e := (by first | exact T0.grow b1 | exact T0.grow (undr b1)); have a10 := T1.1.c0; have a11 := T1.1.c1; have a12 := T1.1.c2; have b10 := T1.2.1.c0; have b11 := T1.2.1.c1; have b12 := T1.2.1.c2))
      all_goals
        go_wp2_with fail
        go_roundw
        case rel => exact ⟨k - 1, by omega, by omega, rfl, T3⟩
        case measure => simp [RowKit.intOf]; omega
    · obtain rfl : k = r := by omega
      obtain rfl : N = C := n1 rfl
      clear n2
      have n2 : ¬ B < N := by omega
      go_wp2_with fail
      go_cut [29] from 20 to 28 (fun x wc => x = .bool (decide (B < N)) ∧ Tb w wc y m d u v e)
      case first =>
        go_region_with (first
          | (have _ := T2; go_at_call 22; refine (NB _).mono ?_; rintro x w3 ⟨rfl, b3⟩; have T3 : Tb w w3 y m d u v e := (by first | exact T2.grow b3 | exact T2.grow (undr b3)); have a30 := T3.1.c0; have a31 := T3.1.c1; have a32 := T3.1.c2; have b30 := T3.2.1.c0; have b31 := T3.2.1.c1; have b32 := T3.2.1.c2)
          | (have _ := T1; go_at_call 22; refine (NC _).mono ?_; rintro x w2 ⟨rfl, b2⟩; have T2 : Tb w w2 y m d u v e := (by first | exact T1.grow b2 | exact T1.grow (undr b2)); have a20 := T2.1.c0; have a21 := T2.1.c1; have a22 := T2.1.c2; have b20 := T2.2.1.c0; have b21 := T2.2.1.c1; have b22 := T2.2.1.c2)
          | (have _ := T0; go_at_call 48; refine (MO _).mono ?_; rintro x w1 ⟨rfl, b1⟩; have T1 : Tb w w1 y m d u v e := (by first | exact T0.grow b1 | exact T0.grow (undr b1)); have a10 := T1.1.c0; have a11 := T1.1.c1; have a12 := T1.1.c2; have b10 := T1.2.1.c0; have b11 := T1.2.1.c1; have b12 := T1.2.1.c2))
        all_goals
          go_wp2_with fail
          go_meet
          case rel => exact ⟨rfl, T3⟩
      case rest =>
        obtain ⟨rfl, T8⟩ := hcut
        have a80 := T8.1.c0
        have a81 := T8.1.c1
        have a82 := T8.1.c2
        have b80 := T8.2.1.c0
        have b81 := T8.2.1.c1
        have b82 := T8.2.1.c2
        go_wp2_with fail
        go_region_with (first
          | (have _ := T2; go_at_call 22; refine (NC _).mono ?_; rintro x w3 ⟨rfl, b3⟩; have T3 : Tb w w3 y m d u v e := (by first | exact T2.grow b3 | exact T2.grow (undr b3)); have a30 := T3.1.c0; have a31 := T3.1.c1; have a32 := T3.1.c2; have b30 := T3.2.1.c0; have b31 := T3.2.1.c1; have b32 := T3.2.1.c2)
          | (have _ := T1; go_at_call 48; refine (MO _).mono ?_; rintro x w2 ⟨rfl, b2⟩; have T2 : Tb w w2 y m d u v e := (by first | exact T1.grow b2 | exact T1.grow (undr b2)); have a20 := T2.1.c0; have a21 := T2.1.c1; have a22 := T2.1.c2; have b20 := T2.2.1.c0; have b21 := T2.2.1.c1; have b22 := T2.2.1.c2)
          | (have _ := T8; go_at_call 22; refine (NB _).mono ?_; rintro x w1 ⟨rfl, b1⟩; have T1 : Tb w w1 y m d u v e := (by first | exact T8.grow b1 | exact T8.grow (undr b1)); have a10 := T1.1.c0; have a11 := T1.1.c1; have a12 := T1.1.c2; have b10 := T1.2.1.c0; have b11 := T1.2.1.c1; have b12 := T1.2.1.c2))
        all_goals
          go_wp2_with fail
          exact bodyPost_ret (v := .tuple #[.int .i64 P, .int .i64 k, .int .i64 BC, .int .i64 0]) (by simp [results, Tryd.results31, go_sem]) rfl ⟨rfl, T3.2.2.2⟩
set_option maxHeartbeats 800000 in
theorem RBetween_any (y m d u v e : Int) (w : World) (G : Gl w) : Calls Tryd.prog 31 #[dt y m d, dt u v e] w fun x w' => x = .returned (btR y m d u v e) ∧ Below w.heap.size w w' := by
  have TW := two_any y m d u v e
  by_cases t : tw y m d u v e = 0
  · rw [t] at TW
    obtain ⟨g, k, l⟩ := tw_good t
    obtain ⟨p0, p1, p2⟩ := mp_good t
    have BO := born_any y m d u v e g k
    obtain ⟨g1, g2, g3, g4, g5, g6⟩ := good_iff.1 g
    obtain ⟨h1, h2, h3, h4, h5, h6⟩ := good_iff.1 k
    have NB := RNumber_any u v e (by omega) (by omega) (by omega) (by omega) (by omega) (by have := ml_bd (lp u) v; omega)
    have lo := num_lo k
    have hi := num_hi k
    have nm : num u v e = mn (mo u v) + e := num_mo h3 h4
    have e0 : btR y m d u v e = .tuple #[.int .i64 (mp (mo y m) d (mo u v) e / 12), .int .i64 (mp (mo y m) d (mo u v) e % 12), .int .i64 (num u v e - nu (mo y m + mp (mo y m) d (mo u v) e) d), .int .i64 0] := by unfold btR; rw [if_pos t]
    rw [e0]
    have I := fun n => mp_iff (j := mo y m) (d := d) (k := mo u v) (e := e) (n := n) g5 h5 (by rw [mk_mo h3 h4]; exact h6)
    have I0 := (I (mp (mo y m) d (mo u v) e)).2 (Int.le_refl _)
    have b1 := nu_bd (a := mo y m + mp (mo y m) d (mo u v) e) (by omega) (by omega) g5
    generalize hQ : mp (mo y m) d (mo u v) e = Q at *
    refine RBetween_walk y m d u v e (Q / 12) (Q % 12) (num u v e) (nu (mo y m + Q) d) w G (by omega) (by omega) (by omega) (by omega) TW BO ?_ NB (by omega) (wrapI _ (by omega) (by omega))
    intro j j1 j2
    have mb := mk_bd (mo y m + (12 * (Q / 12) + j))
    have MO := RMonths_any y m d (12 * (Q / 12) + j) (by omega) (by omega) (by omega) (by omega) (by omega) (by omega)
    have NC := RNumber_any ((mo y m + (12 * (Q / 12) + j)) / 12 + 1) ((mo y m + (12 * (Q / 12) + j)) % 12 + 1) (min d (mk (mo y m + (12 * (Q / 12) + j)))) (by omega) (by omega) (by omega) (by omega) (by omega) (by omega)
    rw [num_on] at NC
    refine ⟨_, _, _, _, ?_, ?_, MO, NC⟩
    · intro hj
      rw [show 12 * (Q / 12) + j = Q by omega]
    · intro hj
      have := (I (12 * (Q / 12) + j)).1
      by_cases hc : nu (mo y m + (12 * (Q / 12) + j)) d ≤ mn (mo u v) + e
      · have := this hc; omega
      · omega
  · have e0 : btR y m d u v e = .tuple #[.int .i64 0, .int .i64 0, .int .i64 0, .int .i64 (tw y m d u v e)] := by unfold btR; rw [if_neg t]
    rw [e0]
    have T0 := Tb.new w y m d u v e G
    have G0 := T0.2.2.1
    generalize tw y m d u v e = E at *
    have t' : (E != 0) = true := by simpa using t
    clear G e0 t
    unfold dt at *
    go_enter Tryd.func31, Tryd.ntmps31
    go_wp2_with (first
      | (go_at_call 53; refine (TW _ G0).mono ?_; rintro x w5 ⟨rfl, b5⟩; have T5 := T0.grow b5; have G5 := T5.2.2.1; have a50 := T5.1.c0; have a51 := T5.1.c1; have a52 := T5.1.c2; have b50 := T5.2.1.c0; have b51 := T5.2.1.c1; have b52 := T5.2.1.c2)
      | fail)
    exact bodyPost_ret (v := .tuple #[.int .i64 0, .int .i64 0, .int .i64 0, .int .i64 E]) (by simp [results, Tryd.results31, go_sem]) rfl ⟨rfl, T5.2.2.2⟩
end Go.Proofs.YtohdbpnkenoclaaDoor.Dy
