import Derived.Test.YthadighbhdekdaaDoorDy15
namespace Go.Proofs.YthadighbhdekdaaDoor.Dy
open Go.RowKit Tn
theorem num_on {a d : Int} : num (a / 12 + 1) (a % 12 + 1) (min d (mk a)) = nu a d := rfl
set_option maxHeartbeats 800000 in
theorem birthday_any (y m d n : Int) (g : good y m d = true) (n0 : 0 ≤ n) (n1 : mo y m + 12 * n ≤ 200000) (w : World) (G : Gl w) : Calls Tryd.prog 49 #[dt y m d, .int .i64 n] w fun x w' => x = .returned (.int .i64 (nu (mo y m + 12 * n) d)) ∧ Below w.heap.size w w' := by
  have Ka0 := Blk.new w #[.int .i64 y, .int .i64 m, .int .i64 d] 23
  have pr := bl (w := w) #[.int .i64 y, .int .i64 m, .int .i64 d] 23
  have G0 := (G).alloc (.cells #[.int .i64 y, .int .i64 m, .int .i64 d] 23)
  obtain ⟨g1, g2, g3, g4, g5, g6⟩ := good_iff.1 g
  have k1 : 0 ≤ mo y m ∧ mo y m ≤ 119987 := by unfold mo; omega
  have O := monthsOn_any y m d (12 * n) (by omega) (by omega) (by omega) (by omega) (by omega)
  have mb := mk_bd (mo y m + 12 * n)
  have N := numberOf_any ((mo y m + 12 * n) / 12 + 1) ((mo y m + 12 * n) % 12 + 1) (min d (mk (mo y m + 12 * n))) (by omega) (by omega) (by omega) (by omega) (by omega) (by omega)
  rw [num_on] at N
  have e1 : IntKind.i64.wrap (12 * n) = 12 * n := wrapI _ (by omega) (by omega)
  replace O := O (by omega)
  clear g g1 g2 g3 g4 g5 g6 k1 mb n0 n1 G
  generalize nu (mo y m + 12 * n) d = R at *
  generalize (mo y m + 12 * n) / 12 + 1 = Y at *
  generalize (mo y m + 12 * n) % 12 + 1 = M at *
  generalize min d (mk (mo y m + 12 * n)) = D at *
  unfold dt at *
  go_enter Tryd.func49, Tryd.ntmps49
  go_wp2_with (first
    | (go_at_call 46; refine (O _ G0).mono ?_; rintro x w1 ⟨rfl, b1⟩; have Ka1 := Ka0.below b1 Ka0.lt; have ka10 := Ka1.c0; have ka11 := Ka1.c1; have ka12 := Ka1.c2; have ka1l := Ka1.lt; have G1 := G0.grow b1; have p1 := belT pr b1)
    | (go_at_call 28; refine (N _ G1).mono ?_; rintro x w2 ⟨rfl, b2⟩; have p2 := belT p1 b2)
    | fail)
  go_ret
  exact ⟨rfl, p2⟩
/-- What Age answers, by its parts. -/
def agS (P SI UN how : Int) : Int × Int :=
  if how = 1 then (P, 0) else if how = 2 then (if SI > 0 then P + 1 else P, 0) else if how = 3 then (if UN ≤ SI then P + 1 else P, 0) else (0, 1)
set_option maxHeartbeats 3200000 in
theorem Age_walk (y m d u v e how mpn P A B C SI UN R E : Int) (w : World) (G : Gl w)
    (DF : ∀ W, Gl W → Calls Tryd.prog 47 #[dt y m d, dt u v e] W fun x w' => x = .returned (.tuple #[.int .i64 C, .int .i64 0]) ∧ Below W.heap.size W w')
    (MP : ∀ W, Gl W → Calls Tryd.prog 48 #[dt y m d, dt u v e] W fun x w' => x = .returned (.int .i64 mpn) ∧ Below W.heap.size W w')
    (NB : ∀ W, Gl W → Calls Tryd.prog 28 #[dt u v e] W fun x w' => x = .returned (.int .i64 B) ∧ Below W.heap.size W w')
    (B1 : ∀ W, Gl W → Calls Tryd.prog 49 #[dt y m d, .int .i64 P] W fun x w' => x = .returned (.int .i64 (B - SI)) ∧ Below W.heap.size W w')
    (B2 : ∀ W, Gl W → Calls Tryd.prog 49 #[dt y m d, .int .i64 (P + 1)] W fun x w' => x = .returned (.int .i64 A) ∧ Below W.heap.size W w')
    (OM : ∀ b W, Calls Tryd.prog 50 #[.int .i64 P, .bool b] W fun x w' => x = .returned (.int .i64 (if b then P + 1 else P)) ∧ w' = W)
    (e1 : mpn.tdiv 12 = P) (e2 : IntKind.i64.wrap P = P) (e3 : IntKind.i64.wrap (B - (B - SI)) = SI) (e4 : IntKind.i64.wrap (P + 1) = P + 1) (e5 : IntKind.i64.wrap (A - B) = UN) (hR : agS P SI UN how = (R, E)) :
    Calls Tryd.prog 26 #[dt y m d, dt u v e, .int .i64 how] w fun x w' => x = .returned (.tuple #[.int .i64 R, .int .i64 E]) ∧ Below w.heap.size w w' := by
  have T0 := Tb.new w y m d u v e G
  have G0 := T0.2.2.1
  obtain ⟨B', hB'⟩ : ∃ B', B - SI = B' := ⟨_, rfl⟩
  rw [hB'] at e3 B1
  have HR : Hid _ := hR
  clear hR hB' G
  unfold dt at *
  go_enter Tryd.func26, Tryd.ntmps26
  go_wp2_with (first
    | (go_at_call 47; refine (DF _ G0).mono ?_; rintro x w5 ⟨rfl, b5⟩; have T5 := T0.grow b5; have G5 := T5.2.2.1; have a50 := T5.1.c0; have a51 := T5.1.c1; have a52 := T5.1.c2; have b50 := T5.2.1.c0; have b51 := T5.2.1.c1; have b52 := T5.2.1.c2)
    | (go_at_call 48; refine (MP _ G5).mono ?_; rintro x w6 ⟨rfl, b6⟩; have T6 := T5.grow b6; have G6 := T6.2.2.1; have a60 := T6.1.c0; have a61 := T6.1.c1; have a62 := T6.1.c2; have b60 := T6.2.1.c0; have b61 := T6.2.1.c1; have b62 := T6.2.1.c2)
    | fail)
  go_cut [11] from 26 to 31 (fun x wc => x = .int .i64 SI ∧ Tb w wc y m d u v e)
  case first =>
    go_region_with (first
      | (go_at_call 28; (refine (NB _ (Gl.drew G6 _)).mono ?_); rintro x w1 ⟨rfl, b1⟩; have T1 := T6.grow (undr b1); have G1 := T1.2.2.1; have a10 := T1.1.c0; have a11 := T1.1.c1; have a12 := T1.1.c2; have b10 := T1.2.1.c0; have b11 := T1.2.1.c1; have b12 := T1.2.1.c2)
      | (go_at_call 49; first | ((refine (B1 _ G1).mono ?_); rintro x w2 ⟨rfl, b2⟩; have T2 := T1.grow b2) | ((refine (B1 _ (Gl.drew G1 _)).mono ?_); rintro x w2 ⟨rfl, b2⟩; have T2 := T1.grow (undr b2))))
    all_goals
      go_wp2_with fail
      go_meet
      case rel => exact ⟨rfl, T2⟩
  case rest =>
    obtain ⟨rfl, T3⟩ := hcut
    have a30 := T3.1.c0
    have a31 := T3.1.c1
    have a32 := T3.1.c2
    have b30 := T3.2.1.c0
    have b31 := T3.2.1.c1
    have b32 := T3.2.1.c2
    have G3 := T3.2.2.1
    go_wp2_with fail
    go_cut [12] from 32 to 38 (fun x wd => x = .int .i64 UN ∧ Tb w wd y m d u v e)
    case first =>
      go_region_with (first
      | (go_at_call 49; (refine (B2 _ (Gl.drew G3 _)).mono ?_); rintro x w1 ⟨rfl, b1⟩; have T1 := T3.grow (undr b1); have G1 := T1.2.2.1; have a10 := T1.1.c0; have a11 := T1.1.c1; have a12 := T1.1.c2; have b10 := T1.2.1.c0; have b11 := T1.2.1.c1; have b12 := T1.2.1.c2)
      | (go_at_call 28; first | ((refine (NB _ G1).mono ?_); rintro x w2 ⟨rfl, b2⟩; have T2 := T1.grow b2) | ((refine (NB _ (Gl.drew G1 _)).mono ?_); rintro x w2 ⟨rfl, b2⟩; have T2 := T1.grow (undr b2))))
      all_goals
        go_wp2_with fail
        go_meet
        case rel => exact ⟨rfl, T2⟩
    case rest =>
      obtain ⟨rfl, T4⟩ := hcut
      have hR := HR.out
      unfold agS at hR
      have OT := OM true
      have OF := OM false
      clear OM DF MP NB B1 B2
      by_cases h1 : how = 1
      · subst h1
        rw [if_pos rfl] at hR
        obtain ⟨rfl, rfl⟩ := Prod.mk.inj hR
        go_wp2_with fail
        go_ret2
        exact ⟨rfl, T4.2.2.2⟩
      rw [if_neg h1] at hR
      by_cases h2 : how = 2
      · subst h2
        rw [if_pos rfl] at hR
        by_cases c : SI > 0
        · rw [if_pos c] at hR
          have c' : decide (0 < SI) = true := decide_eq_true c
          obtain ⟨rfl, rfl⟩ := Prod.mk.inj hR
          go_wp2_with (first
            | (go_at_call 50; refine (OT _).mono ?_; rintro x w5 ⟨rfl, rfl⟩)
            | fail)
          go_ret2
          exact ⟨rfl, T4.2.2.2⟩
        · rw [if_neg c] at hR
          have c' : decide (0 < SI) = false := decide_eq_false c
          obtain ⟨rfl, rfl⟩ := Prod.mk.inj hR
          go_wp2_with (first
            | (go_at_call 50; refine (OF _).mono ?_; rintro x w5 ⟨rfl, rfl⟩)
            | fail)
          go_ret2
          exact ⟨rfl, T4.2.2.2⟩
      rw [if_neg h2] at hR
      by_cases h3 : how = 3
      · subst h3
        rw [if_pos rfl] at hR
        by_cases c : UN ≤ SI
        · rw [if_pos c] at hR
          have c' : decide (UN ≤ SI) = true := decide_eq_true c
          obtain ⟨rfl, rfl⟩ := Prod.mk.inj hR
          go_wp2_with (first
            | (go_at_call 50; refine (OT _).mono ?_; rintro x w5 ⟨rfl, rfl⟩)
            | fail)
          go_ret2
          exact ⟨rfl, T4.2.2.2⟩
        · rw [if_neg c] at hR
          have c' : decide (UN ≤ SI) = false := decide_eq_false c
          obtain ⟨rfl, rfl⟩ := Prod.mk.inj hR
          go_wp2_with (first
            | (go_at_call 50; refine (OF _).mono ?_; rintro x w5 ⟨rfl, rfl⟩)
            | fail)
          go_ret2
          exact ⟨rfl, T4.2.2.2⟩
      rw [if_neg h3] at hR
      obtain ⟨rfl, rfl⟩ := Prod.mk.inj hR
      go_wp2_with fail
      go_ret2
      exact ⟨rfl, T4.2.2.2⟩
end Go.Proofs.YthadighbhdekdaaDoor.Dy
