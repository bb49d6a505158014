import Derived.Test.YtbfamafajefapaaGreatDoorPart05
import Derived.Test.YtbfamafajefapaaGreatDoorPart03

namespace Go.Proofs.YtbfamafajefapaaGreatDoor.Dy
open Go.RowKit Tn
theorem num_on {a d : Int} : num (a / 12 + 1) (a % 12 + 1) (min d (mk a)) = nu a d := rfl
set_option maxHeartbeats 800000 in
theorem birthday_any (y m d n : Int) (g : good y m d = true) (n0 : 0 ≤ n) (n1 : mo y m + 12 * n ≤ 200000) (w : World) (G : Gl w) : Calls Tryz.prog 110 #[dt y m d, .int .i64 n] w fun x w' => x = .returned (.int .i64 (nu (mo y m + 12 * n) d)) ∧ Below w.heap.size w w' := by
  have Ka0 := Blk.new w #[.int .i64 y, .int .i64 m, .int .i64 d] 38
  have pr := bl (w := w) #[.int .i64 y, .int .i64 m, .int .i64 d] 38
  have G0 := (G).alloc (.cells #[.int .i64 y, .int .i64 m, .int .i64 d] 38)
  obtain ⟨g1, g2, g3, g4, g5, g6⟩ := good_iff.1 g
  have k1 : 0 ≤ mo y m ∧ mo y m ≤ 119987 := by unfold mo; omega
  have O := monthsOn_any y m d (12 * n) (by omega) (by omega) (by omega) (by omega) (by omega)
  have mb := mk_bd (mo y m + 12 * n)
  have N := numberOf_any ((mo y m + 12 * n) / 12 + 1) ((mo y m + 12 * n) % 12 + 1) (min d (mk (mo y m + 12 * n))) (by omega) (by omega) (by omega) (by omega) (by omega) (by omega)
  rw [num_on] at N
  have e1 : IntKind.i64.wrap (12 * n) = 12 * n := wrapI _ (by omega) (by omega)
  replace O := O (by omega)
  clear g g1 g2 g3 g4 g5 g6 k1 mb n0 n1 G
  generalize nu (mo y m + 12 * n) d = R at *
  generalize (mo y m + 12 * n) / 12 + 1 = Y at *
  generalize (mo y m + 12 * n) % 12 + 1 = M at *
  generalize min d (mk (mo y m + 12 * n)) = D at *
  unfold dt at *
  go_enter Tryz.func110, Tryz.ntmps110
  go_wp2_with (first
    | (go_at_call 108; refine (O _ G0).mono ?_; rintro x w1 ⟨rfl, b1⟩; have Ka1 := Ka0.below b1 Ka0.lt; have ka10 := Ka1.c0; have ka11 := Ka1.c1; have ka12 := Ka1.c2; have ka1l := Ka1.lt; have G1 := G0.grow b1; have p1 := belT pr b1)
    | (go_at_call 105; refine (N _ G1).mono ?_; rintro x w2 ⟨rfl, b2⟩; have p2 := belT p1 b2)
    | fail)
  go_ret
  exact ⟨rfl, p2⟩
/-- What Age answers, by its parts. -/
def agS (P SI UN how : Int) : Int × Int :=
  if how = 1 then (P, 0) else if how = 2 then (if SI > 0 then P + 1 else P, 0) else if how = 3 then (if UN ≤ SI then P + 1 else P, 0) else (0, 1)
set_option maxHeartbeats 3200000 in
theorem Age_walk (y m d u v e how mpn P A B C SI UN R E : Int) (w : World) (G : Gl w)
    (DF : ∀ W, Gl W → Calls Tryz.prog 48 #[dt y m d, dt u v e] W fun x w' => x = .returned (.tuple #[.int .i64 C, .int .i64 0]) ∧ Below W.heap.size W w')
    (MP : ∀ W, Gl W → Calls Tryz.prog 109 #[dt y m d, dt u v e] W fun x w' => x = .returned (.int .i64 mpn) ∧ Below W.heap.size W w')
    (NB : ∀ W, Gl W → Calls Tryz.prog 105 #[dt u v e] W fun x w' => x = .returned (.int .i64 B) ∧ Below W.heap.size W w')
    (B1 : ∀ W, Gl W → Calls Tryz.prog 110 #[dt y m d, .int .i64 P] W fun x w' => x = .returned (.int .i64 (B - SI)) ∧ Below W.heap.size W w')
    (B2 : ∀ W, Gl W → Calls Tryz.prog 110 #[dt y m d, .int .i64 (P + 1)] W fun x w' => x = .returned (.int .i64 A) ∧ Below W.heap.size W w')
    (OM : ∀ b W, Calls Tryz.prog 111 #[.int .i64 P, .bool b] W fun x w' => x = .returned (.int .i64 (if b then P + 1 else P)) ∧ w' = W)
    (e1 : mpn.tdiv 12 = P) (e2 : IntKind.i64.wrap P = P) (e3 : IntKind.i64.wrap (B - (B - SI)) = SI) (e4 : IntKind.i64.wrap (P + 1) = P + 1) (e5 : IntKind.i64.wrap (A - B) = UN) (hR : agS P SI UN how = (R, E)) :
    Calls Tryz.prog 45 #[dt y m d, dt u v e, .int .i64 how] w fun x w' => x = .returned (.tuple #[.int .i64 R, .int .i64 E]) ∧ Below w.heap.size w w' := by
  have T0 := Tb.new w y m d u v e G
  have G0 := T0.2.2.1
  obtain ⟨B', hB'⟩ : ∃ B', B - SI = B' := ⟨_, rfl⟩
  rw [hB'] at e3 B1
  have HR : Hid _ := hR
  clear hR hB' G
  unfold dt at *
  go_enter Tryz.func45, Tryz.ntmps45
  go_wp2_with (first
    | (go_at_call 48; refine (DF _ G0).mono ?_; rintro x w5 ⟨rfl, b5⟩; have T5 := T0.grow b5; have G5 := T5.2.2.1; have a50 := T5.1.c0; have a51 := T5.1.c1; have a52 := T5.1.c2; have b50 := T5.2.1.c0; have b51 := T5.2.1.c1; have b52 := T5.2.1.c2)
    | (go_at_call 109; refine (MP _ G5).mono ?_; rintro x w6 ⟨rfl, b6⟩; have T6 := T5.grow b6; have G6 := T6.2.2.1; have a60 := T6.1.c0; have a61 := T6.1.c1; have a62 := T6.1.c2; have b60 := T6.2.1.c0; have b61 := T6.2.1.c1; have b62 := T6.2.1.c2)
    | fail)
  go_cut [11] from 26 to 31 (fun x wc => x = .int .i64 SI ∧ Tb w wc y m d u v e)
  case first =>
    go_region_with (first
      | (go_at_call 105; (refine (NB _ (Gl.drew G6 _)).mono ?_); rintro x w1 ⟨rfl, b1⟩; have T1 := T6.grow (undr b1); have G1 := T1.2.2.1; have a10 := T1.1.c0; have a11 := T1.1.c1; have a12 := T1.1.c2; have b10 := T1.2.1.c0; have b11 := T1.2.1.c1; have b12 := T1.2.1.c2)
      | (go_at_call 110; first | ((refine (B1 _ G1).mono ?_); rintro x w2 ⟨rfl, b2⟩; have T2 := T1.grow b2) | ((refine (B1 _ (Gl.drew G1 _)).mono ?_); rintro x w2 ⟨rfl, b2⟩; have T2 := T1.grow (undr b2))))
    all_goals
      go_wp2_with fail
      go_meet
      case rel => exact ⟨rfl, T2⟩
  case rest =>
    obtain ⟨rfl, T3⟩ := hcut
    have a30 := T3.1.c0
    have a31 := T3.1.c1
    have a32 := T3.1.c2
    have b30 := T3.2.1.c0
    have b31 := T3.2.1.c1
    have b32 := T3.2.1.c2
    have G3 := T3.2.2.1
    go_wp2_with fail
    go_cut [12] from 32 to 38 (fun x wd => x = .int .i64 UN ∧ Tb w wd y m d u v e)
    case first =>
      go_region_with (first
      | (go_at_call 110; (refine (B2 _ (Gl.drew G3 _)).mono ?_); rintro x w1 ⟨rfl, b1⟩; have T1 := T3.grow (undr b1); have G1 := T1.2.2.1; have a10 := T1.1.c0; have a11 := T1.1.c1; have a12 := T1.1.c2; have b10 := T1.2.1.c0; have b11 := T1.2.1.c1; have b12 := T1.2.1.c2)
      | (go_at_call 105; first | ((refine (NB _ G1).mono ?_); rintro x w2 ⟨rfl, b2⟩; have T2 := T1.grow b2) | ((refine (NB _ (Gl.drew G1 _)).mono ?_); rintro x w2 ⟨rfl, b2⟩; have T2 := T1.grow (undr b2))))
      all_goals
        go_wp2_with fail
        go_meet
        case rel => exact ⟨rfl, T2⟩
    case rest =>
      obtain ⟨rfl, T4⟩ := hcut
      have hR := HR.out
      unfold agS at hR
      have OT := OM true
      have OF := OM false
      clear OM DF MP NB B1 B2
      by_cases h1 : how = 1
      · subst h1
        rw [if_pos rfl] at hR
        obtain ⟨rfl, rfl⟩ := Prod.mk.inj hR
        go_wp2_with fail
        go_ret2
        exact ⟨rfl, T4.2.2.2⟩
      rw [if_neg h1] at hR
      by_cases h2 : how = 2
      · subst h2
        rw [if_pos rfl] at hR
        by_cases c : SI > 0
        · rw [if_pos c] at hR
          have c' : decide (0 < SI) = true := decide_eq_true c
          obtain ⟨rfl, rfl⟩ := Prod.mk.inj hR
          go_wp2_with (first
            | (go_at_call 111; refine (OT _).mono ?_; rintro x w5 ⟨rfl, rfl⟩)
            | fail)
          go_ret2
          exact ⟨rfl, T4.2.2.2⟩
        · rw [if_neg c] at hR
          have c' : decide (0 < SI) = false := decide_eq_false c
          obtain ⟨rfl, rfl⟩ := Prod.mk.inj hR
          go_wp2_with (first
            | (go_at_call 111; refine (OF _).mono ?_; rintro x w5 ⟨rfl, rfl⟩)
            | fail)
          go_ret2
          exact ⟨rfl, T4.2.2.2⟩
      rw [if_neg h2] at hR
      by_cases h3 : how = 3
      · subst h3
        rw [if_pos rfl] at hR
        by_cases c : UN ≤ SI
        · rw [if_pos c] at hR
          have c' : decide (UN ≤ SI) = true := decide_eq_true c
          obtain ⟨rfl, rfl⟩ := Prod.mk.inj hR
          go_wp2_with (first
            | (go_at_call 111; refine (OT _).mono ?_; rintro x w5 ⟨rfl, rfl⟩)
            | fail)
          go_ret2
          exact ⟨rfl, T4.2.2.2⟩
        · rw [if_neg c] at hR
          have c' : decide (UN ≤ SI) = false := decide_eq_false c
          obtain ⟨rfl, rfl⟩ := Prod.mk.inj hR
          go_wp2_with (first
            | (go_at_call 111; refine (OF _).mono ?_; rintro x w5 ⟨rfl, rfl⟩)
            | fail)
          go_ret2
          exact ⟨rfl, T4.2.2.2⟩
      rw [if_neg h3] at hR
      obtain ⟨rfl, rfl⟩ := Prod.mk.inj hR
      go_wp2_with fail
      go_ret2
      exact ⟨rfl, T4.2.2.2⟩
end Go.Proofs.YtbfamafajefapaaGreatDoor.Dy

namespace Go.Proofs.YtbfamafajefapaaGreatDoor.Dy
open Go.RowKit Tn
theorem tw_good {y m d u v e : Int} (h : tw y m d u v e = 0) : good y m d = true ∧ good u v e = true ∧ num y m d ≤ num u v e := by
  unfold tw at h
  cases g : good y m d <;> cases k : good u v e <;> simp [g, k] at h
  exact ⟨rfl, rfl, by omega⟩
theorem mp_good {y m d u v e : Int} (h : tw y m d u v e = 0) : 0 ≤ mp (mo y m) d (mo u v) e ∧ mo y m + mp (mo y m) d (mo u v) e ≤ 119987 ∧ 0 ≤ mo y m := by
  obtain ⟨g, k, l⟩ := tw_good h
  obtain ⟨g1, g2, g3, g4, g5, g6⟩ := good_iff.1 g
  obtain ⟨h1, h2, h3, h4, h5, h6⟩ := good_iff.1 k
  rw [num_mo g3 g4, num_mo h3 h4] at l
  refine ⟨mp_0 g5 (by rw [mk_mo g3 g4]; exact g6) h5 (by rw [mk_mo h3 h4]; exact h6) l, ?_, ?_⟩
  · have := mp_le (mo y m) d (mo u v) e
    have : mo u v ≤ 119987 := by unfold mo; omega
    omega
  · unfold mo; omega
/-- What Age answers. -/
def agR (y m d u v e how : Int) : Int × Int :=
  if tw y m d u v e = 0 then agS (mp (mo y m) d (mo u v) e / 12) (agB (mo y m) d (mo u v) e (mp (mo y m) d (mo u v) e / 12)) (agU (mo y m) d (mo u v) e (mp (mo y m) d (mo u v) e / 12)) how else (0, tw y m d u v e)
theorem nu_bd {a d : Int} (h0 : 0 ≤ a) (h1 : a ≤ 200000) (d1 : 1 ≤ d) : 0 ≤ nu a d ∧ nu a d ≤ 8000000 := by
  have hb := hd_bd (show 1 ≤ a / 12 + 1 by omega)
  have cb := cu_bd (lp (a / 12 + 1)) (show 1 ≤ a % 12 + 1 by omega) (by omega)
  have sb := sz_bd (lp (a / 12 + 1))
  have mb := mk_bd a
  unfold nu mn
  have : mk a = ml (lp (a / 12 + 1)) (a % 12 + 1) := rfl
  omega
set_option maxHeartbeats 800000 in
theorem Age_any (y m d u v e how : Int) (w : World) (G : Gl w) : Calls Tryz.prog 45 #[dt y m d, dt u v e, .int .i64 how] w fun x w' => x = .returned (.tuple #[.int .i64 (agR y m d u v e how).1, .int .i64 (agR y m d u v e how).2]) ∧ Below w.heap.size w w' := by
  have DF := daysFrom_any y m d u v e
  by_cases t : tw y m d u v e = 0
  · rw [t] at DF
    obtain ⟨g, k, l⟩ := tw_good t
    obtain ⟨p0, p1, p2⟩ := mp_good t
    have MP := monthsPast_any y m d u v e g k
    obtain ⟨g1, g2, g3, g4, g5, g6⟩ := good_iff.1 g
    obtain ⟨h1, h2, h3, h4, h5, h6⟩ := good_iff.1 k
    have NB := numberOf_any u v e (by omega) (by omega) (by omega) (by omega) (by omega) (by have := ml_bd (lp u) v; omega)
    have lo := num_lo k
    have hi := num_hi k
    have nm : num u v e = mn (mo u v) + e := num_mo h3 h4
    have e0 : agR y m d u v e how = agS (mp (mo y m) d (mo u v) e / 12) (agB (mo y m) d (mo u v) e (mp (mo y m) d (mo u v) e / 12)) (agU (mo y m) d (mo u v) e (mp (mo y m) d (mo u v) e / 12)) how := by unfold agR; rw [if_pos t]
    obtain ⟨P, hP⟩ : ∃ P, mp (mo y m) d (mo u v) e / 12 = P := ⟨_, rfl⟩
    have B1 := birthday_any y m d P g (by omega) (by omega)
    have B2 := birthday_any y m d (P + 1) g (by omega) (by omega)
    have b1 := nu_bd (a := mo y m + 12 * P) (by omega) (by omega) g5
    have b2 := nu_bd (a := mo y m + 12 * (P + 1)) (by omega) (by omega) g5
    have OM := fun b => oneMore_any P b (by omega) (by omega)
    rw [hP] at e0
    have s1 : nu (mo y m + 12 * P) d = num u v e - agB (mo y m) d (mo u v) e P := by unfold agB; omega
    have s2 : nu (mo y m + 12 * (P + 1)) d - num u v e = agU (mo y m) d (mo u v) e P := by unfold agU; omega
    rw [s1] at B1
    refine Age_walk y m d u v e how _ P _ _ _ (agB (mo y m) d (mo u v) e P) (agU (mo y m) d (mo u v) e P) _ _ w G DF MP NB B1 B2 OM ?_ ?_ ?_ ?_ ?_ ?_
    · rw [Int.tdiv_eq_ediv_of_nonneg p0]; exact hP
    · exact wrapI _ (by omega) (by omega)
    · rw [wrapI _ (by omega) (by omega)]; omega
    · exact wrapI _ (by omega) (by omega)
    · rw [wrapI _ (by omega) (by omega)]; exact s2
    · exact e0.symm
  · have e0 : agR y m d u v e how = (0, tw y m d u v e) := by unfold agR; rw [if_neg t]
    rw [e0]
    have T0 := Tb.new w y m d u v e G
    have G0 := T0.2.2.1
    generalize tw y m d u v e = E at *
    generalize td y m d u v e = C at *
    have t' : (E != 0) = true := by simpa using t
    clear G e0 t
    unfold dt at *
    go_enter Tryz.func45, Tryz.ntmps45
    go_wp2_with (first
      | (go_at_call 48; refine (DF _ G0).mono ?_; rintro x w5 ⟨rfl, b5⟩; have T5 := T0.grow b5; have G5 := T5.2.2.1; have a50 := T5.1.c0; have a51 := T5.1.c1; have a52 := T5.1.c2; have b50 := T5.2.1.c0; have b51 := T5.2.1.c1; have b52 := T5.2.1.c2)
      | fail)
    go_ret2
    exact ⟨rfl, T5.2.2.2⟩
/-- What Between answers. -/
def btR (y m d u v e : Int) : Value :=
  if tw y m d u v e = 0 then .tuple #[.int .i64 (mp (mo y m) d (mo u v) e / 12), .int .i64 (mp (mo y m) d (mo u v) e % 12), .int .i64 (num u v e - nu (mo y m + mp (mo y m) d (mo u v) e) d), .int .i64 0] else .tuple #[.int .i64 0, .int .i64 0, .int .i64 0, .int .i64 (tw y m d u v e)]
end Go.Proofs.YtbfamafajefapaaGreatDoor.Dy

namespace Go.Proofs.YtbfamafajefapaaGreatDoor.Dy
open Go.RowKit Tn
/-- Easter, by the chapter's letters. -/
def eaH (y : Int) : Int := (19 * (y % 19) + y / 100 - y / 100 / 4 - (y / 100 - (y / 100 + 8) / 25 + 1) / 3 + 15) % 30
def eaL (y : Int) : Int := (32 + 2 * (y / 100 % 4) + 2 * (y % 100 / 4) - eaH y - y % 4) % 7
def eaN (y : Int) : Int := eaH y + eaL y - 7 * ((y % 19 + 11 * eaH y + 22 * eaL y) / 451) + 114
set_option maxHeartbeats 4000000 in
theorem Easter_any (y : Int) (w : World) : Calls Tryz.prog 46 #[.int .i64 y] w fun e w' => e = .returned (if yr y then .tuple #[dt y (eaN y / 31) (eaN y % 31 + 1), .int .i64 0] else .tuple #[dt 0 0 0, .int .i64 1]) ∧ Below w.heap.size w w' := by
  have Y := isYear_any y
  cases g : yr y
  · rw [g] at Y
    unfold dt
    go_enter Tryz.func46, Tryz.ntmps46
    go_wp2_with (first | (go_at_call 112; refine (Y _).mono ?_; rintro x w1 ⟨rfl, rfl⟩) | fail)
    exact bodyPost_ret (v := .tuple #[.agg #[.int .i64 0, .int .i64 0, .int .i64 0], .int .i64 1]) (by simp [results, Tryz.results46, go_sem]) rfl ⟨rfl, bl _ _⟩
  · rw [g] at Y
    obtain ⟨h1, h2⟩ := yr_iff.1 g
    rw [if_pos rfl]
    unfold dt eaN eaL eaH
    go_enter Tryz.func46, Tryz.ntmps46
    go_wp2_with (first | (go_at_call 112; refine (Y _).mono ?_; rintro x w1 ⟨rfl, rfl⟩) | fail)
    refine bodyPost_ret (v := .tuple #[.agg #[.int .i64 y, .int .i64 _, .int .i64 _], .int .i64 0]) (by simp [results, Tryz.results46, go_sem]) rfl ⟨rfl, bl _ _⟩
end Go.Proofs.YtbfamafajefapaaGreatDoor.Dy

namespace Go.Proofs.YtbfamafajefapaaGreatDoor.Dy
open Go.RowKit Tn
theorem mns_ex : mns 2024 1 31 1 = .tuple #[dt 2024 2 29, .int .i64 0] := by
  unfold mns
  rw [show good 2024 1 31 = true by decide, if_pos rfl, if_pos (by decide)]
  rw [show (mo 2024 1 + 1) / 12 + 1 = 2024 by decide, show (mo 2024 1 + 1) % 12 + 1 = 2 by decide, show min (31 : Int) (mk (mo 2024 1 + 1)) = 29 by decide]
theorem agR_ex : agR 2000 2 29 2023 2 28 1 = (23, 0) := by decide
set_option maxHeartbeats 1600000 in
theorem works_any (w : World) (G : Gl w) : Calls Tryz.prog 14 #[] w fun e w' => e = .returned (.bool true) ∧ Below w.heap.size w w' := by
  have N := Number_any 1970 1 1
  rw [show good 1970 1 1 = true by decide, if_pos rfl, show num 1970 1 1 = 719163 by decide, show er true = 0 from rfl] at N
  have M := Months_any 2024 1 31 1
  rw [mns_ex] at M
  have A := Age_any 2000 2 29 2023 2 28 1
  rw [agR_ex] at A
  have E := Easter_any 2024
  rw [show yr 2024 = true by decide, if_pos rfl, show eaN 2024 / 31 = 3 by decide, show eaN 2024 % 31 + 1 = 31 by decide] at E
  unfold dt at *
  go_enter Tryz.func14, Tryz.ntmps14
  go_wp2_with (first
    | (go_at_call 43; refine (N _ G).mono ?_; rintro x w1 ⟨rfl, b1⟩; have G1 := G.grow b1)
    | (go_at_call 44; refine (M _ G1).mono ?_; rintro x w2 ⟨rfl, b2⟩; have G2 := G1.grow b2; have p2 := belT b1 b2)
    | (go_at_call 45; refine (A _ (G2.alloc _)).mono ?_; rintro x w3 ⟨rfl, b3⟩; have X3 := (Blk.new w2 _ _).below b3 (Blk.new w2 _ _).lt; have G3 := (G2.alloc _).grow b3; have p3 := belT (belT p2 (bl _ _)) b3)
    | (go_at_call 46; refine (E _).mono ?_; rintro x w4 ⟨rfl, b4⟩; have X4 := X3.below b4 X3.lt; have x0 := X4.c0; have x1 := X4.c1; have x2 := X4.c2; have xl := X4.lt; have p4 := belT p3 b4)
    | fail)
  go_ret
  exact ⟨rfl, belT p4 (bl _ _)⟩
set_option maxHeartbeats 400000 in
theorem right_any (y m d : Int) (w : World) (G : Gl w) : Calls Tryz.prog 15 #[dt y m d] w fun e w' => e = .returned (.bool (good y m d)) ∧ Below w.heap.size w w' := by
  have pr := bl (w := w) #[.int .i64 y, .int .i64 m, .int .i64 d] 38
  have G' := G.alloc (.cells #[.int .i64 y, .int .i64 m, .int .i64 d] 38)
  have C := Check_any y m d
  cases g : good y m d
  all_goals
    rw [g] at C
    unfold dt er at *
    go_enter Tryz.func15, Tryz.ntmps15
    go_wp2_with (first
      | (go_at_call 47; refine (C _ G').mono ?_; rintro x w1 ⟨rfl, b1⟩)
      | fail)
    go_ret
    exact ⟨rfl, belT pr b1⟩
end Go.Proofs.YtbfamafajefapaaGreatDoor.Dy
