import Derived.Test.YtpmgbmafibkgnaaGreatDoorPart44
import Derived.Test.YtpmgbmafibkgnaaGreatDoorPart45
import Derived.Test.YtpmgbmafibkgnaaGreatDoorPart30
import Derived.Lib.SmallJoins

namespace Go.Proofs.YtpmgbmafibkgnaaGreatDoor.Mo
open Go.RowKit Fu Tn Go.Lib Dc

set_option maxHeartbeats 12800000 in
set_option maxRecDepth 100000 in
theorem simp_even (ad an bd bn cd cn x1 x2 z1 z2 : ByteArray) (o lo hi : Int) (ho : ¬ o > 0) (hlo : ¬ lo > 0) (hhi : ¬ hi > 0) (l2 h2 : Int) (hl2 : ¬ l2 > 0) (hh2 : ¬ h2 > 0) (w : World) (H : Gw w)
    (HW : ∀ W, Gw W → Calls Tryz.prog 4 #[] W fun x w' => x = .returned (.bool true) ∧ Below W.heap.size W w')
    (HA : ∀ W, Gw W → Calls Tryz.prog 5 #[.agg #[.string an, .string ad]] W fun x w' => x = .returned (.bool true) ∧ Below W.heap.size W w')
    (HB : ∀ W, Gw W → Calls Tryz.prog 5 #[.agg #[.string bn, .string bd]] W fun x w' => x = .returned (.bool true) ∧ Below W.heap.size W w')
    (HC : ∀ W, Gw W → Calls Tryz.prog 5 #[.agg #[.string cn, .string cd]] W fun x w' => x = .returned (.bool true) ∧ Below W.heap.size W w')
    (B1 : ∀ W, Gw W → Calls Tryz.prog 6 #[.agg #[.string an, .string ad], .agg #[.string bn, .string bd]] W fun x w' => x = .returned (.tuple #[.agg #[.string x1, .string x2], .int .i64 0]) ∧ Below W.heap.size W w')
    (O1 : ∀ W, Gw W → Calls Tryz.prog 7 #[.agg #[.string an, .string ad], .agg #[.string bn, .string bd]] W fun x w' => x = .returned (.tuple #[.int .i64 o, .int .i64 0]) ∧ Below W.heap.size W w')
    (L1 : ∀ W, Gw W → Calls Tryz.prog 7 #[.agg #[.string an, .string ad], .agg #[.string x1, .string x2]] W fun x w' => x = .returned (.tuple #[.int .i64 lo, .int .i64 0]) ∧ Below W.heap.size W w')
    (H1 : ∀ W, Gw W → Calls Tryz.prog 7 #[.agg #[.string x1, .string x2], .agg #[.string bn, .string bd]] W fun x w' => x = .returned (.tuple #[.int .i64 hi, .int .i64 0]) ∧ Below W.heap.size W w')
    (L2 : ∀ W, Gw W → Calls Tryz.prog 7 #[.agg #[.string an, .string ad], .agg #[.string cn, .string cd]] W fun x w' => x = .returned (.tuple #[.int .i64 l2, .int .i64 0]) ∧ Below W.heap.size W w')
    (H2 : ∀ W, Gw W → Calls Tryz.prog 7 #[.agg #[.string cn, .string cd], .agg #[.string bn, .string bd]] W fun x w' => x = .returned (.tuple #[.int .i64 h2, .int .i64 0]) ∧ Below W.heap.size W w')
    (N1 : ∀ W, Gw W → Calls Tryz.prog 7 #[.agg #[.string x2, .string ⟨#[49]⟩], .agg #[.string cd, .string ⟨#[49]⟩]] W fun x w' => x = .returned (.tuple #[.int .i64 0, .int .i64 0]) ∧ Below W.heap.size W w')
    (Z1 : ∀ W, Gw W → Calls Tryz.prog 8 #[.agg #[.string x1, .string x2]] W fun x w' => x = .returned (.agg #[.string z1, .string ⟨#[49]⟩]) ∧ Below W.heap.size W w')
    (Z2 : ∀ W, Gw W → Calls Tryz.prog 8 #[.agg #[.string cn, .string cd]] W fun x w' => x = .returned (.agg #[.string z2, .string ⟨#[49]⟩]) ∧ Below W.heap.size W w')
    (M1 : ∀ W, Gw W → Calls Tryz.prog 7 #[.agg #[.string z1, .string ⟨#[49]⟩], .agg #[.string z2, .string ⟨#[49]⟩]] W fun x w' => x = .returned (.tuple #[.int .i64 (-1), .int .i64 0]) ∧ Below W.heap.size W w')
    (hne : ¬ (cn = x1 ∧ cd = x2)) :
    Calls Tryz.prog 3 #[.agg #[.string an, .string ad], .agg #[.string bn, .string bd], .agg #[.string cn, .string cd]] w fun x w' => x = .returned (.bool true) ∧ Below w.heap.size w w' := by
  have T0 := R3.new w an ad bn bd cn cd H
  have ⟨f00, f01, f02, f03, f04, f05, f06⟩ := T0.cells
  have Q0 : Tk 0 := trivial
  clear H
  go_enter Tryz.func3, Tryz.ntmps3
  go_wp2_with (first
    | (go_at_call 4; (have q1 := Q0); refine (HW _ T0.gw).mono ?_; rintro x w1 ⟨rfl, b1⟩; (have a1 := b1); (have T1 := T0.grow a1); (have ⟨f10, f11, f12, f13, f14, f15, f16⟩ := T1.cells); (have Q1 : Tk 1 := trivial); clear Q0 q1 T0 f00 f01 f02 f03 f04 f05 f06 a1 b1)
    | (go_at_call 5; (have q2 := Q1); refine (HA _ T1.gw).mono ?_; rintro x w2 ⟨rfl, b2⟩; (have a2 := b2); (have T2 := T1.grow a2); (have ⟨f20, f21, f22, f23, f24, f25, f26⟩ := T2.cells); (have Q2 : Tk 2 := trivial); clear Q1 q2 T1 f10 f11 f12 f13 f14 f15 f16 a2 b2)
    | (go_at_call 5; (have q3 := Q2); refine (HB _ T2.gw).mono ?_; rintro x w3 ⟨rfl, b3⟩; (have a3 := b3); (have T3 := T2.grow a3); (have ⟨f30, f31, f32, f33, f34, f35, f36⟩ := T3.cells); (have Q3 : Tk 3 := trivial); clear Q2 q3 T2 f20 f21 f22 f23 f24 f25 f26 a3 b3)
    | (go_at_call 5; (have q4 := Q3); refine (HC _ T3.gw).mono ?_; rintro x w4 ⟨rfl, b4⟩; (have a4 := b4); (have T4 := T3.grow a4); (have ⟨f40, f41, f42, f43, f44, f45, f46⟩ := T4.cells); (have Q4 : Tk 4 := trivial); clear Q3 q4 T3 f30 f31 f32 f33 f34 f35 f36 a4 b4)
    | (go_at_call 6; (have q5 := Q4); refine (B1 _ T4.gw).mono ?_; rintro x w5 ⟨rfl, b5⟩; (have a5 := (b5.trans ((Below.refl _ _).alloc b5.size (.cells #[.string x1, .string x2] 23)))); (have T5 := T4.grow a5); (have ⟨f50, f51, f52, f53, f54, f55, f56⟩ := T5.cells); (have X5x := Blk.new w5 #[.string x1, .string x2] 23); (have ⟨g5x0, g5x1, g5xl⟩ := rcells X5x); (have Q5 : Tk 5 := trivial); clear Q4 q5 T4 f40 f41 f42 f43 f44 f45 f46 a5 b5)
    | (go_at_call 7; (have q6 := Q5); refine (O1 _ T5.gw).mono ?_; rintro x w6 ⟨rfl, b6⟩; (have a6 := b6); (have T6 := T5.grow a6); (have ⟨f60, f61, f62, f63, f64, f65, f66⟩ := T6.cells); (have X6x := X5x.below a6 X5x.lt); (have ⟨g6x0, g6x1, g6xl⟩ := rcells X6x); (have Q6 : Tk 6 := trivial); clear Q5 q6 T5 f50 f51 f52 f53 f54 f55 f56 X5x g5x0 g5x1 g5xl a6 b6)
    | (go_at_call 7; (have q7 := Q6); refine (L1 _ T6.gw).mono ?_; rintro x w7 ⟨rfl, b7⟩; (have a7 := b7); (have T7 := T6.grow a7); (have ⟨f70, f71, f72, f73, f74, f75, f76⟩ := T7.cells); (have X7x := X6x.below a7 X6x.lt); (have ⟨g7x0, g7x1, g7xl⟩ := rcells X7x); (have Q7 : Tk 7 := trivial); clear Q6 q7 T6 f60 f61 f62 f63 f64 f65 f66 X6x g6x0 g6x1 g6xl a7 b7)
    | (go_at_call 7; (have q8 := Q7); refine (H1 _ T7.gw).mono ?_; rintro x w8 ⟨rfl, b8⟩; (have a8 := b8); (have T8 := T7.grow a8); (have ⟨f80, f81, f82, f83, f84, f85, f86⟩ := T8.cells); (have X8x := X7x.below a8 X7x.lt); (have ⟨g8x0, g8x1, g8xl⟩ := rcells X8x); (have Q8 : Tk 8 := trivial); clear Q7 q8 T7 f70 f71 f72 f73 f74 f75 f76 X7x g7x0 g7x1 g7xl a8 b8)
    | (go_at_call 7; (have q9 := Q8); refine (L2 _ T8.gw).mono ?_; rintro x w9 ⟨rfl, b9⟩; (have a9 := b9); (have T9 := T8.grow a9); (have ⟨f90, f91, f92, f93, f94, f95, f96⟩ := T9.cells); (have X9x := X8x.below a9 X8x.lt); (have ⟨g9x0, g9x1, g9xl⟩ := rcells X9x); (have Q9 : Tk 9 := trivial); clear Q8 q9 T8 f80 f81 f82 f83 f84 f85 f86 X8x g8x0 g8x1 g8xl a9 b9)
    | (go_at_call 7; (have q10 := Q9); refine (H2 _ T9.gw).mono ?_; rintro x w10 ⟨rfl, b10⟩; (have a10 := b10); (have T10 := T9.grow a10); (have ⟨f100, f101, f102, f103, f104, f105, f106⟩ := T10.cells); (have X10x := X9x.below a10 X9x.lt); (have ⟨g10x0, g10x1, g10xl⟩ := rcells X10x); (have Q10 : Tk 10 := trivial); clear Q9 q10 T9 f90 f91 f92 f93 f94 f95 f96 X9x g9x0 g9x1 g9xl a10 b10)
    | (go_at_call 7; (have q11 := Q10); refine (N1 _ T10.gw).mono ?_; rintro x w11 ⟨rfl, b11⟩; (have a11 := b11); (have T11 := T10.grow a11); (have ⟨f110, f111, f112, f113, f114, f115, f116⟩ := T11.cells); (have X11x := X10x.below a11 X10x.lt); (have ⟨g11x0, g11x1, g11xl⟩ := rcells X11x); (have Q11 : Tk 11 := trivial); clear Q10 q11 T10 f100 f101 f102 f103 f104 f105 f106 X10x g10x0 g10x1 g10xl a11 b11)
    | fail)
  all_goals first
    | (exact absurd ⟨ba_ext ‹cn.toList = x1.toList›, ba_ext ‹cd.toList = x2.toList›⟩ hne)
    | (go_region_held3 (fun x => x.cell? ⟨w5.heap.size, 0, none⟩ = some (.string x1) ∧ x.cell? ⟨w5.heap.size, 1, none⟩ = some (.string x2) ∧ x.cell? ⟨w.heap.size + 1 + 1, 0, none⟩ = some (.string cn) ∧ x.cell? ⟨w.heap.size + 1 + 1, 1, none⟩ = some (.string cd)) (go_keep) (first
        | (go_at_call 7; refine (M1 _ T13.gw).mono ?_; rintro x w14 ⟨rfl, b14⟩; have b14' := bel' (bel' b12 b13) b14; have T14 := T13.grow b14; have ⟨f140, f141, f142, f143, f144, f145, f146⟩ := T14.cells; obtain ⟨g0, g1, gl⟩ := rcells (X11x.below b14' X11x.lt))
        | (go_at_call 8; (have z := b12); refine (Z2 _ T12.gw).mono ?_; rintro x w13 ⟨rfl, b13⟩; have b13' := bel' b12 b13; have T13 := T12.grow b13; have ⟨f130, f131, f132, f133, f134, f135, f136⟩ := T13.cells; obtain ⟨g0, g1, gl⟩ := rcells (X11x.below b13' X11x.lt))
        | (go_at_call 8; refine (Z1 _ (T11.gw.grow (Below.refl _ _).drew)).mono ?_; rintro x w12 ⟨rfl, b12⟩; have b12 := undrew b12; have T12 := T11.grow b12; have ⟨f120, f121, f122, f123, f124, f125, f126⟩ := T12.cells; obtain ⟨g0, g1, gl⟩ := rcells (X11x.below b12 X11x.lt))
        | fail)
       go_wp2
       go_ret
       exact ⟨rfl, T14.bel⟩)
end Go.Proofs.YtpmgbmafibkgnaaGreatDoor.Mo

namespace Go.Proofs.YtpmgbmafibkgnaaGreatDoor.Mo
open Go.RowKit Fu Tn Go.Lib Dc

theorem pcm_npos {r s : Rat} (h : r ≤ s) : ¬ pcm r s > 0 := by unfold pcm; split <;> (try split) <;> first | omega | grind
theorem simple_right (r s t : Rat) (n1 d1 n2 d2 n3 d3 : ByteArray) (g1 : n1.size ≤ 300 ∧ d1.size ≤ 300 ∧ goodE n1 d1 = 0) (g2 : n2.size ≤ 300 ∧ d2.size ≤ 300 ∧ goodE n2 d2 = 0) (g3 : n3.size ≤ 300 ∧ d3.size ≤ 300 ∧ goodE n3 d3 = 0)
    (a1 : n1 = tn r) (a2 : d1 = td r) (b1 : n2 = tn s) (b2 : d2 = td s) (c1 : n3 = tn t) (c2 : d3 = td t) (p1 : PS r 16) (p2 : PS s 16) (p3 : PS t 16) (w : World) (G : Gw w) :
    Calls Tryz.prog 3 #[wrt r, wrt s, wrt t] w fun x w' => x = .returned (.bool true) ∧ Below w.heap.size w w' := by
  have HW := fun W (g : Gw W) => works_any W g
  have HA := fun W (_ : Gw W) => small_t g1 a1 a2 W
  have HB := fun W (_ : Gw W) => small_t g2 b1 b2 W
  have HC := fun W (_ : Gw W) => small_t g3 c1 c2 W
  have O1 := fun W (_ : Gw W) => cmp_c p1 p2 (by decide) (by decide) W
  rcases (show s < r ∨ r ≤ s by grind) with gt | le
  · have B1 := fun W (_ : Gw W) => between_n gt p1 p2 (by decide) W
    rw [pcm_gt gt] at O1
    simp only [wrt_eq] at *
    exact simp_no _ _ _ _ _ _ w G HW HA HB HC B1 O1
  · have B1 := fun W g => between_c le p1 p2 (by decide) W g
    obtain ⟨i1, i2, _⟩ := bt_spec le
    have px := bt_ps le p1
    have L1 := fun W (_ : Gw W) => cmp_c p1 px (by decide) (by decide) W
    have H1 := fun W (_ : Gw W) => cmp_c px p2 (by decide) (by decide) W
    have L2 := fun W (_ : Gw W) => cmp_c p1 p3 (by decide) (by decide) W
    have H2 := fun W (_ : Gw W) => cmp_c p3 p2 (by decide) (by decide) W
    have ho := pcm_npos le
    have hlo := pcm_npos i1
    have hhi := pcm_npos i2
    rcases (show t < r ∨ r ≤ t by grind) with q1 | q1
    · rw [pcm_gt q1] at L2
      simp only [wrt_eq] at *
      exact simp_low _ _ _ _ _ _ _ _ _ _ _ ho hlo hhi _ w G HW HA HB HC B1 O1 L1 H1 L2 H2
    · have hl2 := pcm_npos q1
      rcases (show s < t ∨ t ≤ s by grind) with q2 | q2
      · rw [pcm_gt q2] at H2
        simp only [wrt_eq] at *
        exact simp_high _ _ _ _ _ _ _ _ _ _ _ ho hlo hhi _ hl2 w G HW HA HB HC B1 O1 L1 H1 L2 H2
      · have hh2 := pcm_npos q2
        by_cases e : t = bt r s
        · rw [← e] at B1 L1 H1 hlo hhi
          simp only [wrt_eq] at *
          exact simp_same _ _ _ _ _ _ _ _ _ ho hlo hhi _ _ hl2 hh2 w G HW HA HB HC B1 O1 L1 H1 L2 H2
        · have hne : ¬ (tn t = tn (bt r s) ∧ td t = td (bt r s)) := fun h => e (tx_inj h.1 h.2)
          have N1 := fun W (_ : Gw W) => cmp_c (PS.nat px.2 (by decide)) (PS.nat p3.2 (by decide)) (by decide) (by decide) W
          have Z1 := fun W (_ : Gw W) => size_c px (by decide) W
          have Z2 := fun W (_ : Gw W) => size_c p3 (by decide) W
          have M1 := fun W (_ : Gw W) => cmp_c (PS.nat px.1 (by decide)) (PS.nat p3.1 (by decide)) (by decide) (by decide) W
          simp only [wrt_nat] at N1 Z1 Z2 M1
          rw [pcm_nat] at N1 M1
          rcases less_simple le q1 q2 e with k | ⟨k1, k2⟩
          · rw [if_pos k] at N1
            simp only [wrt_eq] at *
            exact simp_less _ _ _ _ _ _ _ _ _ _ _ _ _ ho hlo hhi _ _ _ hl2 hh2 w G HW HA HB HC B1 O1 L1 H1 L2 H2 N1 Z1 Z2 M1 hne
          · rw [if_neg (by omega), if_neg (by omega)] at N1
            rw [if_pos k2] at M1
            simp only [wrt_eq] at *
            exact simp_even _ _ _ _ _ _ _ _ _ _ _ _ _ ho hlo hhi _ _ hl2 hh2 w G HW HA HB HC B1 O1 L1 H1 L2 H2 N1 Z1 Z2 M1 hne
end Go.Proofs.YtpmgbmafibkgnaaGreatDoor.Mo

namespace Go.Proofs.YtpmgbmafibkgnaaGreatDoor.Mo
open Go.RowKit Fu Tn Go.Lib Dc

set_option maxHeartbeats 3200000 in
set_option maxRecDepth 100000 in
theorem simple_not0 (an ad bn bd cn cd : ByteArray) (w : World) (G : Gw w) (Ha : ∀ W, Calls Tryz.prog 5 #[.agg #[.string an, .string ad]] W fun x w' => x = .returned (.bool false) ∧ Below W.heap.size W w') :
    Calls Tryz.prog 3 #[.agg #[.string an, .string ad], .agg #[.string bn, .string bd], .agg #[.string cn, .string cd]] w fun x w' => x = .returned (.bool true) ∧ Below w.heap.size w w' := by
  have T0 := R3.new w an ad bn bd cn cd G
  have ⟨f00, f01, f02, f03, f04, f05, f06⟩ := T0.cells
  go_enter Tryz.func3, Tryz.ntmps3
  go_wp2_with (first
    | (go_at_call 4; refine (works_any _ T0.gw).mono ?_; rintro x w1 ⟨rfl, b1⟩; (have T1 := T0.grow b1); (have ⟨f10, f11, f12, f13, f14, f15, f16⟩ := T1.cells))
    | (go_at_call 5; (have q := T1); refine (Ha _).mono ?_; rintro x w2 ⟨rfl, b2⟩; (have T2 := T1.grow b2); (have ⟨f20, f21, f22, f23, f24, f25, f26⟩ := T2.cells); clear q T1)
    | fail)
  go_ret
  exact ⟨rfl, T2.bel⟩
set_option maxHeartbeats 3200000 in
set_option maxRecDepth 100000 in
theorem simple_not1 (an ad bn bd cn cd : ByteArray) (w : World) (G : Gw w) (Ha : ∀ W, Calls Tryz.prog 5 #[.agg #[.string an, .string ad]] W fun x w' => x = .returned (.bool true) ∧ Below W.heap.size W w') (Hb : ∀ W, Calls Tryz.prog 5 #[.agg #[.string bn, .string bd]] W fun x w' => x = .returned (.bool false) ∧ Below W.heap.size W w') :
    Calls Tryz.prog 3 #[.agg #[.string an, .string ad], .agg #[.string bn, .string bd], .agg #[.string cn, .string cd]] w fun x w' => x = .returned (.bool true) ∧ Below w.heap.size w w' := by
  have T0 := R3.new w an ad bn bd cn cd G
  have ⟨f00, f01, f02, f03, f04, f05, f06⟩ := T0.cells
  go_enter Tryz.func3, Tryz.ntmps3
  go_wp2_with (first
    | (go_at_call 4; refine (works_any _ T0.gw).mono ?_; rintro x w1 ⟨rfl, b1⟩; (have T1 := T0.grow b1); (have ⟨f10, f11, f12, f13, f14, f15, f16⟩ := T1.cells))
    | (go_at_call 5; (have q := T1); refine (Ha _).mono ?_; rintro x w2 ⟨rfl, b2⟩; (have T2 := T1.grow b2); (have ⟨f20, f21, f22, f23, f24, f25, f26⟩ := T2.cells); clear q T1)
    | (go_at_call 5; (have q := T2); refine (Hb _).mono ?_; rintro x w3 ⟨rfl, b3⟩; (have T3 := T2.grow b3); (have ⟨f30, f31, f32, f33, f34, f35, f36⟩ := T3.cells); clear q T2)
    | fail)
  go_ret
  exact ⟨rfl, T3.bel⟩
set_option maxHeartbeats 3200000 in
set_option maxRecDepth 100000 in
theorem simple_not2 (an ad bn bd cn cd : ByteArray) (w : World) (G : Gw w) (Ha : ∀ W, Calls Tryz.prog 5 #[.agg #[.string an, .string ad]] W fun x w' => x = .returned (.bool true) ∧ Below W.heap.size W w') (Hb : ∀ W, Calls Tryz.prog 5 #[.agg #[.string bn, .string bd]] W fun x w' => x = .returned (.bool true) ∧ Below W.heap.size W w') (Hc : ∀ W, Calls Tryz.prog 5 #[.agg #[.string cn, .string cd]] W fun x w' => x = .returned (.bool false) ∧ Below W.heap.size W w') :
    Calls Tryz.prog 3 #[.agg #[.string an, .string ad], .agg #[.string bn, .string bd], .agg #[.string cn, .string cd]] w fun x w' => x = .returned (.bool true) ∧ Below w.heap.size w w' := by
  have T0 := R3.new w an ad bn bd cn cd G
  have ⟨f00, f01, f02, f03, f04, f05, f06⟩ := T0.cells
  go_enter Tryz.func3, Tryz.ntmps3
  go_wp2_with (first
    | (go_at_call 4; refine (works_any _ T0.gw).mono ?_; rintro x w1 ⟨rfl, b1⟩; (have T1 := T0.grow b1); (have ⟨f10, f11, f12, f13, f14, f15, f16⟩ := T1.cells))
    | (go_at_call 5; (have q := T1); refine (Ha _).mono ?_; rintro x w2 ⟨rfl, b2⟩; (have T2 := T1.grow b2); (have ⟨f20, f21, f22, f23, f24, f25, f26⟩ := T2.cells); clear q T1)
    | (go_at_call 5; (have q := T2); refine (Hb _).mono ?_; rintro x w3 ⟨rfl, b3⟩; (have T3 := T2.grow b3); (have ⟨f30, f31, f32, f33, f34, f35, f36⟩ := T3.cells); clear q T2)
    | (go_at_call 5; (have q := T3); refine (Hc _).mono ?_; rintro x w4 ⟨rfl, b4⟩; (have T4 := T3.grow b4); (have ⟨f40, f41, f42, f43, f44, f45, f46⟩ := T4.cells); clear q T3)
    | fail)
  go_ret
  exact ⟨rfl, T4.bel⟩
theorem simple_law (an ad bn bd cn cd : ByteArray) (w : World) (G : Gw w) :
    Calls Tryz.prog 3 #[.agg #[.string an, .string ad], .agg #[.string bn, .string bd], .agg #[.string cn, .string cd]] w fun x w' => x = .returned (.bool true) ∧ Below w.heap.size w w' := by
  have Ha := small_any an ad
  have Hb := small_any bn bd
  have Hc := small_any cn cd
  by_cases g1 : an.size ≤ 300 ∧ ad.size ≤ 300 ∧ goodE an ad = 0
  · rw [decide_eq_true g1] at Ha
    by_cases g2 : bn.size ≤ 300 ∧ bd.size ≤ 300 ∧ goodE bn bd = 0
    · rw [decide_eq_true g2] at Hb
      by_cases g3 : cn.size ≤ 300 ∧ cd.size ≤ 300 ∧ goodE cn cd = 0
      · obtain ⟨r, a1, a2, p1⟩ := small_r g1
        obtain ⟨s, b1, b2, p2⟩ := small_r g2
        obtain ⟨t, c1, c2, p3⟩ := small_r g3
        have := simple_right r s t an ad bn bd cn cd g1 g2 g3 a1 a2 b1 b2 c1 c2 p1 p2 p3 w G
        rw [wrt_eq, wrt_eq, wrt_eq, ← a1, ← a2, ← b1, ← b2, ← c1, ← c2] at this
        exact this
      · rw [decide_eq_false g3] at Hc
        exact simple_not2 an ad bn bd cn cd w G Ha Hb Hc
    · rw [decide_eq_false g2] at Hb
      exact simple_not1 an ad bn bd cn cd w G Ha Hb
  · rw [decide_eq_false g1] at Ha
    exact simple_not0 an ad bn bd cn cd w G Ha
end Go.Proofs.YtpmgbmafibkgnaaGreatDoor.Mo

namespace Go.Proofs.YtpmgbmafibkgnaaGreatDoor.Dy
open Mo
theorem gPow : Tryz.prog.globalNamed "internal/strconv.uint64pow10" = some 2 := by kernel_rfl
theorem gw_of {w : World} (h : Go.Lib.TabIs Tryz.prog w "internal/strconv.uint64pow10" .u64 Go.Lib.pow10Tab) : Gw w := fun _ b => Go.Joins.var_stays gPow h b (Nat.le_refl _)
end Go.Proofs.YtpmgbmafibkgnaaGreatDoor.Dy
