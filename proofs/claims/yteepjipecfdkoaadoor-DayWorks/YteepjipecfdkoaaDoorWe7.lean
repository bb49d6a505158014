import Derived.Test.YteepjipecfdkoaaDoorWe1
namespace Go.Proofs.YteepjipecfdkoaaDoor.Dy
open Go.RowKit Tn
theorem RNum_f (f : Nat → Int × Int × Int) (i : Nat) (g : gf f i = true) (W : World) : Calls Tryd.prog 13 #[.agg #[.int .i64 (f i).1, .int .i64 (f i).2.1, .int .i64 (f i).2.2]] W fun e w' => e = .returned (.int .i64 (nf f i)) ∧ Below W.heap.size W w' := by
  obtain ⟨g1, g2, g3, g4, g5, g6⟩ := good_iff.1 g
  have := ml_bd (lp (f i).1) (f i).2.1
  exact RNumber_any (f i).1 (f i).2.1 (f i).2.2 (by omega) (by omega) (by omega) (by omega) (by omega) (by omega) W
set_option maxHeartbeats 1600000 in
theorem works_any (f : Nat → Int × Int × Int) (n : Nat) (hn : n ≤ 4096) (ok : ∀ i, i < n → gf f i = true) (x : Int) (h1 : 1 ≤ x) (h2 : x ≤ 4000000) (v : Value) (w : World) (S : Rs w v n f) :
    Calls Tryd.prog 24 #[.int .i64 x, v] w fun e w' => e = .returned (.bool (wk f n x)) ∧ Below w.heap.size w w' := by
  have K := RWeekday_any x h1 h2
  have WK : Hid (wk f n x = (decide ((x - 1) % 7 + 1 < 6) && !hit f n x)) := rfl
  have OK : Hid (∀ i, i < n → ∀ W, Calls Tryd.prog 13 #[.agg #[.int .i64 (f i).1, .int .i64 (f i).2.1, .int .i64 (f i).2.2]] W fun e w' => e = .returned (.int .i64 (nf f i)) ∧ Below W.heap.size W w') := fun i hi => RNum_f f i (ok i hi)
  clear ok
  obtain ⟨t, ht⟩ : ∃ t, (x - 1) % 7 + 1 = t := ⟨_, rfl⟩
  rw [ht] at K WK
  have t0 : 0 ≤ t := by omega
  clear ht
  obtain ⟨ao, c, rfl, S⟩ := S
  have SH : Hid _ := S
  clear S
  by_cases c : t < 6
  · have c' : ¬ (5 < t) := by omega
    go_enter Tryd.func24, Tryd.ntmps24
    go_wp2_with (first
      | (go_at_call 36; refine (K _).mono ?_; rintro e w2 ⟨rfl, hw⟩; subst w2)
      | fail)
    go_loopw [5] (fun t wr => ∃ k : Nat, k ≤ n ∧ t = .int .i64 (k : Int) ∧ (∀ j : Nat, j < k → nf f j ≠ x) ∧ Below w.heap.size w wr) (fun t _ => ((n : Int) - RowKit.intOf t).toNat)
    case atStart => exact ⟨0, by omega, rfl, fun j hj => absurd hj (by omega), Below.refl _ _⟩
    case round =>
      obtain ⟨k, k1, rfl, no, p3⟩ := hrel
      have NO : Hid _ := no
      clear no
      by_cases kn : k < n
      · obtain ⟨b, o, rfl, S⟩ := SH.out (by omega)
        obtain ⟨c0', c1', c2'⟩ := S k kn
        clear S
        have cc0 := (p3.cell (lt_of_cell c0')).trans c0'
        have cc1 := (p3.cell (lt_of_cell c1')).trans c1'
        have cc2 := (p3.cell (lt_of_cell c2')).trans c2'
        clear c0' c1' c2'
        have NN := OK.out k kn
        have kn' : (k : Int) < (n : Int) := by omega
        have k0 : (0 : Int) ≤ (k : Int) := by omega
        generalize hx : nf f k = xx at NN
        have hx' : Hid (nf f k = xx) := hx
        clear hx
        generalize (f k).1 = Y at *
        generalize (f k).2.1 = M at *
        generalize (f k).2.2 = D at *
        by_cases e : xx = x
        · go_wp2_with (first
            | (go_at_call 13; refine (NN _).mono ?_; rintro e w4 ⟨rfl, b4⟩)
            | fail)
          go_ret
          exact ⟨by rw [WK.out, hit_iff.2 ⟨k, kn, hx'.out.trans e⟩]; simp, belT p3 b4⟩
        · go_wp2_with (first
            | (go_at_call 13; refine (NN _).mono ?_; rintro e w4 ⟨rfl, b4⟩)
            | fail)
          refine ⟨⟨k + 1, by omega, by go_num, fun j hj => ?_, belT p3 b4⟩, by simp [RowKit.intOf]; omega⟩
          by_cases jk : j = k
          · subst jk; rw [hx'.out]; exact e
          · exact NO.out j (by omega)
      · go_wp2_with fail
        go_ret
        exact ⟨by rw [WK.out, hit_no (fun i hi => NO.out i (by omega)), decide_eq_true c]; rfl, p3⟩
  · have c' : 5 < t := by omega
    go_enter Tryd.func24, Tryd.ntmps24
    go_wp2_with (first
      | (go_at_call 36; refine (K _).mono ?_; rintro e w2 ⟨rfl, hw⟩; subst w2)
      | fail)
    go_ret
    exact ⟨by rw [WK.out, decide_eq_false (show ¬ t < 6 by omega)]; rfl, Below.refl _ _⟩
end Go.Proofs.YteepjipecfdkoaaDoor.Dy
