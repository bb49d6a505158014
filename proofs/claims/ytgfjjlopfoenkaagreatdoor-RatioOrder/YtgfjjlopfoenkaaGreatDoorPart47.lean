import Derived.Test.YtgfjjlopfoenkaaGreatDoorPart45
import Derived.Test.YtgfjjlopfoenkaaGreatDoorPart46
import Derived.Test.YtgfjjlopfoenkaaGreatDoorPart30
import Derived.Lib.SmallJoins

namespace Go.Proofs.YtgfjjlopfoenkaaGreatDoor.Mo
open Go.RowKit Fu Tn Go.Lib Dc

theorem pcm_lt {r s : Rat} (h : r < s) : pcm r s = -1 := by unfold pcm; rw [if_pos h]
theorem pcm_gt {r s : Rat} (h : s < r) : pcm r s = 1 := by unfold pcm; rw [if_neg (by grind), if_pos h]
theorem pcm_self (r : Rat) : pcm r r = 0 := by unfold pcm; rw [if_neg (by grind), if_neg (by grind)]
theorem psg_pos {r : Rat} (h : 0 < r) : psg r = 1 := by
  have : 0 < r.num := by rw [Rat.lt_iff] at h; simpa using h
  unfold psg; rw [if_neg (by omega), if_neg (by omega)]
theorem psg_neg {r : Rat} (h : r < 0) : psg r = -1 := by
  have : r.num < 0 := by rw [Rat.lt_iff] at h; simpa using h
  unfold psg; rw [if_pos this]
theorem psg_zero : psg 0 = 0 := by decide +kernel
theorem psg_bd (r : Rat) : -1 ≤ psg r ∧ psg r ≤ 1 := by unfold psg; split <;> (try split) <;> omega
theorem sB_inj {a b : List UInt8} (h : sB a = sB b) : a = b := by
  have := congrArg (fun s : ByteArray => s.data.toList) h
  simpa [sB] using this
theorem tx_inj {r s : Rat} (h1 : tn r = tn s) (h2 : td r = td s) : r = s := by
  have e1 : decide (r.num < 0) = decide (s.num < 0) := by
    have := congrArg neg h1
    unfold tn at this
    rwa [sg_neg, sg_neg] at this
  have e2 : r.num.natAbs = s.num.natAbs := by
    have := congrArg rest h1
    unfold tn at this
    rw [sg_rest, sg_rest] at this
    have := congrArg Dc.num (sB_inj this)
    rwa [dec_num, dec_num] at this
  have e3 : r.den = s.den := by
    have := congrArg Dc.num (sB_inj h2)
    rwa [dec_num, dec_num] at this
  have e4 : r.num = s.num := by
    rw [decide_eq_decide] at e1
    omega
  exact Rat.ext e4 e3
theorem cmp_c {r s : Rat} {m n : Nat} (h1 : PS r m) (h2 : PS s n) (hm : m < 80) (hn : n < 80) (W : World) : Calls Tryz.prog 16 #[wrt r, wrt s] W fun x w' => x = .returned (.tuple #[.int .i64 (pcm r s), .int .i64 0]) ∧ Below W.heap.size W w' := Cmp_r (h1.rdy (by omega)) (h2.rdy (by omega)) h1 h2 hm hn W
theorem sign_c {r : Rat} {m : Nat} (h1 : PS r m) (hm : m ≤ 200) (W : World) : Calls Tryz.prog 17 #[wrt r] W fun x w' => x = .returned (.tuple #[.int .i64 (psg r), .int .i64 0]) ∧ Below W.heap.size W w' := Sign_r (h1.rdy hm) W
theorem mul_lt_neg {r s t : Rat} (h : r < s) (ht : t < 0) : s * t < r * t := by
  have := Rat.mul_lt_mul_of_pos_right h (show 0 < -t by grind)
  grind
theorem pcm_mul {r s : Rat} (h : r < s) (t : Rat) : pcm (r * t) (s * t) = -psg t := by
  rcases (show t < 0 ∨ t = 0 ∨ 0 < t by grind) with c | c | c
  · rw [pcm_gt (mul_lt_neg h c), psg_neg c]; rfl
  · rw [c, Rat.mul_zero, Rat.mul_zero, pcm_self, psg_zero]; rfl
  · rw [pcm_lt (Rat.mul_lt_mul_of_pos_right h c), psg_pos c]
theorem pcm_mul' {r s : Rat} (h : s < r) (t : Rat) : pcm (r * t) (s * t) = psg t := by
  rcases (show t < 0 ∨ t = 0 ∨ 0 < t by grind) with c | c | c
  · rw [pcm_lt (mul_lt_neg h c), psg_neg c]
  · rw [c, Rat.mul_zero, Rat.mul_zero, pcm_self, psg_zero]
  · rw [pcm_gt (Rat.mul_lt_mul_of_pos_right h c), psg_pos c]
theorem order_right (r s t : Rat) (n1 d1 n2 d2 n3 d3 : ByteArray) (g1 : n1.size ≤ 300 ∧ d1.size ≤ 300 ∧ goodE n1 d1 = 0) (g2 : n2.size ≤ 300 ∧ d2.size ≤ 300 ∧ goodE n2 d2 = 0) (g3 : n3.size ≤ 300 ∧ d3.size ≤ 300 ∧ goodE n3 d3 = 0)
    (a1 : n1 = tn r) (a2 : d1 = td r) (b1 : n2 = tn s) (b2 : d2 = td s) (c1 : n3 = tn t) (c2 : d3 = td t) (p1 : PS r 16) (p2 : PS s 16) (p3 : PS t 16) (w : World) (G : Gw w) :
    Calls Tryz.prog 4 #[wrt r, wrt s, wrt t] w fun x w' => x = .returned (.bool true) ∧ Below w.heap.size w w' := by
  have HW := fun W (g : Gw W) => works_any W g
  have HA := fun W (_ : Gw W) => small_t g1 a1 a2 W
  have HB := fun W (_ : Gw W) => small_t g2 b1 b2 W
  have HC := fun W (_ : Gw W) => small_t g3 c1 c2 W
  have X1 := fun W (_ : Gw W) => cmp_c p1 p2 (by decide) (by decide) W
  have X2 := fun W (_ : Gw W) => cmp_c p2 p1 (by decide) (by decide) W
  have X3 := fun W (_ : Gw W) => cmp_c p2 p3 (by decide) (by decide) W
  have X4 := fun W (_ : Gw W) => cmp_c p1 p3 (by decide) (by decide) W
  have A1 := fun W g => add_c p1 p3 (by decide) (by decide) W g
  have A2 := fun W g => add_c p2 p3 (by decide) (by decide) W g
  have M1 := fun W g => mul_c p1 p3 (by decide) (by decide) W g
  have M2 := fun W g => mul_c p2 p3 (by decide) (by decide) W g
  have Y1 := fun W (_ : Gw W) => cmp_c (p1.add p3) (p2.add p3) (by decide) (by decide) W
  have Y2 := fun W (_ : Gw W) => cmp_c (p1.mul p3) (p2.mul p3) (by decide) (by decide) W
  have S1 := fun W (_ : Gw W) => sign_c p3 (by decide) W
  have D1 := fun W g => sub_c p1 p2 (by decide) (by decide) W g
  have S2 := fun W (_ : Gw W) => sign_c (p1.sub p2) (by decide) W
  obtain ⟨q1, q2⟩ := psg_bd t
  rcases (show r < s ∨ r = s ∨ s < r by grind) with h | h | h
  · rw [pcm_lt h] at X1
    rw [pcm_gt h] at X2
    rw [pcm_lt (Rat.add_lt_add_right.2 h)] at Y1
    rw [pcm_mul h] at Y2
    rw [psg_neg (show r - s < 0 by grind)] at S2
    have hne : ¬ (tn r = tn s ∧ td r = td s) := fun e => by rw [tx_inj e.1 e.2] at h; grind
    rcases (show t < s ∨ ¬ t < s by grind) with c | c
    · rw [pcm_gt c] at X3
      simp only [wrt_eq] at *
      exact order_down1 _ _ _ _ _ _ _ _ _ _ _ _ _ _ _ _ _ _ q1 q2 w G HW HA HB HC X1 X2 X3 X4 A1 A2 M1 M2 Y1 Y2 S1 D1 S2 hne
    · have z0 : pcm s t ≤ 0 := by unfold pcm; split <;> (try split) <;> first | omega | grind
      rw [pcm_lt (show r < t by grind)] at X4
      simp only [wrt_eq] at *
      exact order_down2 _ _ _ _ _ _ _ _ _ _ _ _ _ _ _ _ _ z0 _ q1 q2 w G HW HA HB HC X1 X2 X3 X4 A1 A2 M1 M2 Y1 Y2 S1 D1 S2 hne
  · subst h
    rw [pcm_self] at X1 X2 Y1 Y2
    rw [show r - r = 0 by grind, psg_zero] at S2
    rw [show r - r = 0 by grind] at D1
    rcases (show t < r ∨ r < t ∨ r = t by grind) with c | c | c
    · rw [pcm_gt c] at X3
      simp only [wrt_eq] at *
      exact order_same1 _ _ _ _ _ _ _ _ _ _ _ _ w G HW HA HB HC X1 X2 X3 X4 A1 A2 M1 M2 Y1 Y2 S1 D1 S2
    · rw [pcm_lt c] at X3 X4
      simp only [wrt_eq] at *
      exact order_same2 _ _ _ _ _ _ _ _ _ _ _ w G HW HA HB HC X1 X2 X3 X4 A1 A2 M1 M2 Y1 Y2 S1 D1 S2
    · rw [show pcm r t = 0 by rw [← c, pcm_self]] at X3 X4
      simp only [wrt_eq] at *
      exact order_same3 _ _ _ _ _ _ _ _ _ _ _ w G HW HA HB HC X1 X2 X3 X4 A1 A2 M1 M2 Y1 Y2 S1 D1 S2
  · rw [pcm_gt h] at X1
    rw [pcm_lt h] at X2
    rw [pcm_gt (Rat.add_lt_add_right.2 h)] at Y1
    rw [pcm_mul' h] at Y2
    rw [psg_pos (show 0 < r - s by grind)] at S2
    have hne : ¬ (tn r = tn s ∧ td r = td s) := fun e => by rw [tx_inj e.1 e.2] at h; grind
    simp only [wrt_eq] at *
    exact order_up _ _ _ _ _ _ _ _ _ _ _ _ _ _ _ _ _ _ _ q1 q2 w G HW HA HB HC X1 X2 X3 X4 A1 A2 M1 M2 Y1 Y2 S1 D1 S2 hne
end Go.Proofs.YtgfjjlopfoenkaaGreatDoor.Mo

namespace Go.Proofs.YtgfjjlopfoenkaaGreatDoor.Mo
open Go.RowKit Fu Tn Go.Lib Dc

set_option maxHeartbeats 3200000 in
set_option maxRecDepth 100000 in
theorem order_not0 (an ad bn bd cn cd : ByteArray) (w : World) (G : Gw w) (Ha : ∀ W, Calls Tryz.prog 8 #[.agg #[.string an, .string ad]] W fun x w' => x = .returned (.bool false) ∧ Below W.heap.size W w') :
    Calls Tryz.prog 4 #[.agg #[.string an, .string ad], .agg #[.string bn, .string bd], .agg #[.string cn, .string cd]] w fun x w' => x = .returned (.bool true) ∧ Below w.heap.size w w' := by
  have T0 := R3.new w an ad bn bd cn cd G
  have ⟨f00, f01, f02, f03, f04, f05, f06⟩ := T0.cells
  go_enter Tryz.func4, Tryz.ntmps4
  go_wp2_with (first
    | (go_at_call 7; refine (works_any _ T0.gw).mono ?_; rintro x w1 ⟨rfl, b1⟩; (have T1 := T0.grow b1); (have ⟨f10, f11, f12, f13, f14, f15, f16⟩ := T1.cells))
    | (go_at_call 8; (have q := T1); refine (Ha _).mono ?_; rintro x w2 ⟨rfl, b2⟩; (have T2 := T1.grow b2); (have ⟨f20, f21, f22, f23, f24, f25, f26⟩ := T2.cells); clear q T1)
    | fail)
  go_ret
  exact ⟨rfl, T2.bel⟩
set_option maxHeartbeats 3200000 in
set_option maxRecDepth 100000 in
theorem order_not1 (an ad bn bd cn cd : ByteArray) (w : World) (G : Gw w) (Ha : ∀ W, Calls Tryz.prog 8 #[.agg #[.string an, .string ad]] W fun x w' => x = .returned (.bool true) ∧ Below W.heap.size W w') (Hb : ∀ W, Calls Tryz.prog 8 #[.agg #[.string bn, .string bd]] W fun x w' => x = .returned (.bool false) ∧ Below W.heap.size W w') :
    Calls Tryz.prog 4 #[.agg #[.string an, .string ad], .agg #[.string bn, .string bd], .agg #[.string cn, .string cd]] w fun x w' => x = .returned (.bool true) ∧ Below w.heap.size w w' := by
  have T0 := R3.new w an ad bn bd cn cd G
  have ⟨f00, f01, f02, f03, f04, f05, f06⟩ := T0.cells
  go_enter Tryz.func4, Tryz.ntmps4
  go_wp2_with (first
    | (go_at_call 7; refine (works_any _ T0.gw).mono ?_; rintro x w1 ⟨rfl, b1⟩; (have T1 := T0.grow b1); (have ⟨f10, f11, f12, f13, f14, f15, f16⟩ := T1.cells))
    | (go_at_call 8; (have q := T1); refine (Ha _).mono ?_; rintro x w2 ⟨rfl, b2⟩; (have T2 := T1.grow b2); (have ⟨f20, f21, f22, f23, f24, f25, f26⟩ := T2.cells); clear q T1)
    | (go_at_call 8; (have q := T2); refine (Hb _).mono ?_; rintro x w3 ⟨rfl, b3⟩; (have T3 := T2.grow b3); (have ⟨f30, f31, f32, f33, f34, f35, f36⟩ := T3.cells); clear q T2)
    | fail)
  go_ret
  exact ⟨rfl, T3.bel⟩
set_option maxHeartbeats 3200000 in
set_option maxRecDepth 100000 in
theorem order_not2 (an ad bn bd cn cd : ByteArray) (w : World) (G : Gw w) (Ha : ∀ W, Calls Tryz.prog 8 #[.agg #[.string an, .string ad]] W fun x w' => x = .returned (.bool true) ∧ Below W.heap.size W w') (Hb : ∀ W, Calls Tryz.prog 8 #[.agg #[.string bn, .string bd]] W fun x w' => x = .returned (.bool true) ∧ Below W.heap.size W w') (Hc : ∀ W, Calls Tryz.prog 8 #[.agg #[.string cn, .string cd]] W fun x w' => x = .returned (.bool false) ∧ Below W.heap.size W w') :
    Calls Tryz.prog 4 #[.agg #[.string an, .string ad], .agg #[.string bn, .string bd], .agg #[.string cn, .string cd]] w fun x w' => x = .returned (.bool true) ∧ Below w.heap.size w w' := by
  have T0 := R3.new w an ad bn bd cn cd G
  have ⟨f00, f01, f02, f03, f04, f05, f06⟩ := T0.cells
  go_enter Tryz.func4, Tryz.ntmps4
  go_wp2_with (first
    | (go_at_call 7; refine (works_any _ T0.gw).mono ?_; rintro x w1 ⟨rfl, b1⟩; (have T1 := T0.grow b1); (have ⟨f10, f11, f12, f13, f14, f15, f16⟩ := T1.cells))
    | (go_at_call 8; (have q := T1); refine (Ha _).mono ?_; rintro x w2 ⟨rfl, b2⟩; (have T2 := T1.grow b2); (have ⟨f20, f21, f22, f23, f24, f25, f26⟩ := T2.cells); clear q T1)
    | (go_at_call 8; (have q := T2); refine (Hb _).mono ?_; rintro x w3 ⟨rfl, b3⟩; (have T3 := T2.grow b3); (have ⟨f30, f31, f32, f33, f34, f35, f36⟩ := T3.cells); clear q T2)
    | (go_at_call 8; (have q := T3); refine (Hc _).mono ?_; rintro x w4 ⟨rfl, b4⟩; (have T4 := T3.grow b4); (have ⟨f40, f41, f42, f43, f44, f45, f46⟩ := T4.cells); clear q T3)
    | fail)
  go_ret
  exact ⟨rfl, T4.bel⟩
theorem order_law (an ad bn bd cn cd : ByteArray) (w : World) (G : Gw w) :
    Calls Tryz.prog 4 #[.agg #[.string an, .string ad], .agg #[.string bn, .string bd], .agg #[.string cn, .string cd]] w fun x w' => x = .returned (.bool true) ∧ Below w.heap.size w w' := by
  have Ha := small_any an ad
  have Hb := small_any bn bd
  have Hc := small_any cn cd
  by_cases g1 : an.size ≤ 300 ∧ ad.size ≤ 300 ∧ goodE an ad = 0
  · rw [decide_eq_true g1] at Ha
    by_cases g2 : bn.size ≤ 300 ∧ bd.size ≤ 300 ∧ goodE bn bd = 0
    · rw [decide_eq_true g2] at Hb
      by_cases g3 : cn.size ≤ 300 ∧ cd.size ≤ 300 ∧ goodE cn cd = 0
      · obtain ⟨r, a1, a2, p1⟩ := small_r g1
        obtain ⟨s, b1, b2, p2⟩ := small_r g2
        obtain ⟨t, c1, c2, p3⟩ := small_r g3
        have := order_right r s t an ad bn bd cn cd g1 g2 g3 a1 a2 b1 b2 c1 c2 p1 p2 p3 w G
        rw [wrt_eq, wrt_eq, wrt_eq, ← a1, ← a2, ← b1, ← b2, ← c1, ← c2] at this
        exact this
      · rw [decide_eq_false g3] at Hc
        exact order_not2 an ad bn bd cn cd w G Ha Hb Hc
    · rw [decide_eq_false g2] at Hb
      exact order_not1 an ad bn bd cn cd w G Ha Hb
  · rw [decide_eq_false g1] at Ha
    exact order_not0 an ad bn bd cn cd w G Ha
end Go.Proofs.YtgfjjlopfoenkaaGreatDoor.Mo

namespace Go.Proofs.YtgfjjlopfoenkaaGreatDoor.Dy
open Mo
theorem gPow : Tryz.prog.globalNamed "internal/strconv.uint64pow10" = some 2 := by kernel_rfl
theorem gw_of {w : World} (h : Go.Lib.TabIs Tryz.prog w "internal/strconv.uint64pow10" .u64 Go.Lib.pow10Tab) : Gw w := fun _ b => Go.Joins.var_stays gPow h b (Nat.le_refl _)
end Go.Proofs.YtgfjjlopfoenkaaGreatDoor.Dy
