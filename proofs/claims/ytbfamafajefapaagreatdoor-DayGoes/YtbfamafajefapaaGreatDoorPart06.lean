import Derived.Test.YtbfamafajefapaaGreatDoorPart05
import Derived.Deep.DeepCutAuto
import Derived.Laws.BytesArg
import Derived.Lib.ItoaNum
import Derived.Lib.ParseIntB

namespace Go.Proofs.YtbfamafajefapaaGreatDoor.Dy
open Go.RowKit Tn
theorem bel' {w W w1 : World} (pr : Below w.heap.size w W) (b1 : Below W.heap.size W w1) : Below w.heap.size w w1 := pr.trans (b1.mono pr.size)
/-- How many leap years lie ahead of a year. -/
def lv (y : Int) : Int := (y - 1) / 4 - (y - 1) / 100 + (y - 1) / 400
/-- How many days ahead of a date lie in leap years. -/
def la (y m d : Int) : Int := if lp y then 366 * lv y + (cu (lp y) m + d - 1) else 366 * lv y
/-- How many days lie ahead of a date, if each month has thirty. -/
def ba (y m d : Int) : Int := 30 * mo y m + min d 30 - 1
set_option maxHeartbeats 800000 in
theorem leapDaysAhead_any (y m d : Int) (g : good y m d = true) (w : World) (G : Gl w) : Calls Tryz.prog 49 #[.agg #[.int .i64 y, .int .i64 m, .int .i64 d]] w fun e w' => e = .returned (.int .i64 (la y m d)) ∧ Below w.heap.size w w' := by
  obtain ⟨g1, g2, g3, g4, g5, g6⟩ := good_iff.1 g
  have mb := ml_bd (lp y) m
  have cb := cu_bd (lp y) g3 g4
  have sb := sz_bd (lp y)
  have LV := leapsAhead_any y g1 (by omega)
  have IL := isLeap_any y (by omega)
  have DI := dayInYear_any y m d (by omega) g3 g4 (by omega) (by omega)
  have lb : 0 ≤ lv y ∧ lv y ≤ 20000 := by unfold lv; omega
  unfold la
  have hl : Hid (lv y = lv y) := rfl
  change ∀ W, Calls _ _ _ W fun e w' => e = .returned (.int .i64 (lv y)) ∧ _ at LV
  obtain ⟨C, hC⟩ : ∃ C, cu (lp y) m + d = C := ⟨_, rfl⟩
  rw [hC] at DI ⊢
  have c1 : 0 ≤ C ∧ C ≤ 1000 := by omega
  clear g g1 g2 g3 g4 g5 g6 mb cb sb hC hl
  generalize lv y = L at *
  generalize lp y = l at *
  have K0 := Blk.new w #[.int .i64 y, .int .i64 m, .int .i64 d] 38
  have pr := bl (w := w) #[.int .i64 y, .int .i64 m, .int .i64 d] 38
  have G0 := G.alloc (.cells #[.int .i64 y, .int .i64 m, .int .i64 d] 38)
  have e1 : IntKind.i64.wrap (366 * L) = 366 * L := wrapI _ (by omega) (by omega)
  have e2 : IntKind.i64.wrap (C - 1) = C - 1 := wrapI _ (by omega) (by omega)
  have e3 : IntKind.i64.wrap (366 * L + (C - 1)) = 366 * L + (C - 1) := wrapI _ (by omega) (by omega)
  obtain ⟨lb1, lb2⟩ := lb
  obtain ⟨cb1, cb2⟩ := c1
  unfold dt at DI
  cases l
  · go_enter Tryz.func49, Tryz.ntmps49
    go_wp2_with (first
      | (go_at_call 115; refine (LV _).mono ?_; rintro e w1 ⟨rfl, hw⟩; subst w1)
      | (go_at_call 116; refine (IL _).mono ?_; rintro e w1 ⟨rfl, hw⟩; subst w1)
      | fail)
    go_ret
    exact ⟨rfl, pr⟩
  · go_enter Tryz.func49, Tryz.ntmps49
    go_wp2_with (first
      | (go_at_call 115; refine (LV _).mono ?_; rintro e w1 ⟨rfl, hw⟩; subst w1)
      | (go_at_call 116; refine (IL _).mono ?_; rintro e w1 ⟨rfl, hw⟩; subst w1)
      | (go_at_call 117; refine (DI _ G0).mono ?_; rintro e w1 ⟨rfl, b1⟩; have p1 := bel' pr b1)
      | fail)
    go_ret
    exact ⟨rfl, p1⟩
structure BD1 (W x : World) (V0 : Value) (V1 : Value) (V2 : Value) (V3 : Value) (V4 : Value) (V5 : Value) (V6 : Value) (V7 : Value) (y0 y1 y2 y3 y4 y5 y6 y7 : Bool) (t3 t4 t5 t6 t7 t8 t9 t10 : Value) : Prop where
  bel : Below W.heap.size W x
  o0 : y0 = true → t3 = V0
  o1 : y1 = true → t4 = V1
  o2 : y2 = true → t5 = V2
  o3 : y3 = true → t6 = V3
  o4 : y4 = true → t7 = V4
  o5 : y5 = true → t8 = V5
  o6 : y6 = true → t9 = V6
  o7 : y7 = true → t10 = V7
theorem BD1.grow {W x x' : World} {V0 : Value} {V1 : Value} {V2 : Value} {V3 : Value} {V4 : Value} {V5 : Value} {V6 : Value} {V7 : Value} {y0 y1 y2 y3 y4 y5 y6 y7 : Bool} {t3 t4 t5 t6 t7 t8 t9 t10 : Value} (h : BD1 W x V0 V1 V2 V3 V4 V5 V6 V7 y0 y1 y2 y3 y4 y5 y6 y7 t3 t4 t5 t6 t7 t8 t9 t10) (b : Below x.heap.size x x') : BD1 W x' V0 V1 V2 V3 V4 V5 V6 V7 y0 y1 y2 y3 y4 y5 y6 y7 t3 t4 t5 t6 t7 t8 t9 t10 where
  bel := bel' h.bel b
  o0 := h.o0
  o1 := h.o1
  o2 := h.o2
  o3 := h.o3
  o4 := h.o4
  o5 := h.o5
  o6 := h.o6
  o7 := h.o7
set_option maxHeartbeats 800000 in
theorem bank_walk (y m d k a1 a2 a3 a4 : Int) (w : World) (MA : ∀ W, Calls Tryz.prog 107 #[.agg #[.int .i64 y, .int .i64 m, .int .i64 d]] W fun e w' => e = .returned (.int .i64 k) ∧ Below W.heap.size W w') (e1 : IntKind.i64.wrap (30 * k) = a1) (e2 : min d 30 = a2) (e3 : IntKind.i64.wrap (a1 + a2) = a3) (e4 : IntKind.i64.wrap (a3 - 1) = a4) :
    Calls Tryz.prog 51 #[.agg #[.int .i64 y, .int .i64 m, .int .i64 d]] w fun e w' => e = .returned (.int .i64 a4) ∧ Below w.heap.size w w' := by
  have K0 := Blk.new w #[.int .i64 y, .int .i64 m, .int .i64 d] 38
  have pr := bl (w := w) #[.int .i64 y, .int .i64 m, .int .i64 d] 38
  go_enter Tryz.func51, Tryz.ntmps51
  go_wp2_with fail
  generalize w.alloc (.cells #[.int .i64 y, .int .i64 m, .int .i64 d] 38) = W at *
  go_cut [2] from 3 to 10 (fun x wc => x = .int .i64 a4 ∧ Below W.heap.size W wc)
  case first =>
    rename_i hm hJ
    refine wp_region_held (S := fun _ => True) (by kernel_rfl) (any_inv (fun listed a x => ∃ (y0 y1 y2 y3 y4 y5 y6 y7 : Bool) (t3 t4 t5 t6 t7 t8 t9 t10 : Value) (z2 : Value), a = ⟨#[.agg #[.int .i64 y, .int .i64 m, .int .i64 d], .pointer (some ⟨w.heap.size, 0, none⟩), z2, t3, t4, t5, t6, t7, t8, t9, t10], []⟩ ∧ ((listed = #[y0, y1, y2, y3, y4, y5, y6, y7, false] ∧ BD1 W x (.agg #[.int .i64 y, .int .i64 m, .int .i64 d]) (.int .i64 k) (.int .i64 a1) (.pointer (some ⟨w.heap.size, 2, none⟩)) (.int .i64 d) (.int .i64 a2) (.int .i64 a3) (.int .i64 a4) y0 y1 y2 y3 y4 y5 y6 y7 t3 t4 t5 t6 t7 t8 t9 t10 ∧ z2 = .int .i64 0) ∨ (listed = #[true, true, true, true, true, true, true, true, true] ∧ t10 = .int .i64 a4 ∧ z2 = .int .i64 a4 ∧ Below W.heap.size W x))) ?_ ?_ _ _ _ _ (by decide) ?_)
    · rintro listed a x i ⟨y0, y1, y2, y3, y4, y5, y6, y7, t3, t4, t5, t6, t7, t8, t9, t10, z2, rfl, h⟩ hi
      have hr : i < 9 := List.mem_range.1 (List.mem_filter.1 hi).1
      have hc := (List.mem_filter.1 hi).2
      rcases h with ⟨rfl, h⟩ | ⟨rfl, h⟩
      · rcases (show i = 0 ∨ i = 1 ∨ i = 2 ∨ i = 3 ∨ i = 4 ∨ i = 5 ∨ i = 6 ∨ i = 7 ∨ i = 8 by omega) with rfl | rfl | rfl | rfl | rfl | rfl | rfl | rfl | rfl
        · obtain ⟨h, rfl⟩ := h
          clear hc hi
          have kd0 := (K0.below h.bel K0.lt).c0
          have kd1 := (K0.below h.bel K0.lt).c1
          have kd2 := (K0.below h.bel K0.lt).c2
          refine wpOp_step rfl (fun K hK0 => ?_)
          have hK : Hid _ := hK0
          clear hK0
          rw [if_pos (by rfl)]
          go_wp2_with fail
          exact hK.out _ _ ⟨true, y1, y2, y3, y4, y5, y6, y7, .agg #[.int .i64 y, .int .i64 m, .int .i64 d], t4, t5, t6, t7, t8, t9, t10, .int .i64 0, rfl, Or.inl ⟨rfl, ⟨{ h with o0 := fun _ => rfl }, rfl⟩⟩⟩
        · obtain ⟨h, rfl⟩ := h
          have e0 : y0 = true := by
            revert hc
            cases y0 <;> simp [Region.binds]
          have r0 := h.o0 e0
          subst r0
          clear hc hi
          refine wpOp_step rfl (fun K hK0 => ?_)
          have hK : Hid _ := hK0
          clear hK0
          rw [if_pos (by rfl)]
          go_wp2_with (first | (go_at_call 107; go_must (refine (MA x).mono ?_; rintro e x2 ⟨rfl, bb⟩)) | fail)
          exact hK.out _ _ ⟨y0, true, y2, y3, y4, y5, y6, y7, _, _, t5, t6, t7, t8, t9, t10, .int .i64 0, rfl, Or.inl ⟨rfl, ⟨{ h.grow bb with o1 := fun _ => rfl }, rfl⟩⟩⟩
        · obtain ⟨h, rfl⟩ := h
          have e1 : y1 = true := by
            revert hc
            cases y1 <;> simp [Region.binds]
          have r1 := h.o1 e1
          subst r1
          clear hc hi
          have q := e1
          refine wpOp_step rfl (fun K hK0 => ?_)
          have hK : Hid _ := hK0
          clear hK0
          rw [if_pos (by rfl)]
          go_wp2_with fail
          exact hK.out _ _ ⟨y0, y1, true, y3, y4, y5, y6, y7, t3, _, .int .i64 a1, t6, t7, t8, t9, t10, .int .i64 0, rfl, Or.inl ⟨rfl, ⟨{ h with o2 := fun _ => rfl }, rfl⟩⟩⟩
        · obtain ⟨h, rfl⟩ := h
          clear hc hi
          refine wpOp_step rfl (fun K hK0 => ?_)
          have hK : Hid _ := hK0
          clear hK0
          rw [if_pos (by rfl)]
          go_wp2_with fail
          exact hK.out _ _ ⟨y0, y1, y2, true, y4, y5, y6, y7, t3, t4, t5, .pointer (some ⟨w.heap.size, 2, none⟩), t7, t8, t9, t10, .int .i64 0, rfl, Or.inl ⟨rfl, ⟨{ h with o3 := fun _ => rfl }, rfl⟩⟩⟩
        · obtain ⟨h, rfl⟩ := h
          have e3 : y3 = true := by
            revert hc
            cases y3 <;> simp [Region.binds]
          have r3 := h.o3 e3
          subst r3
          clear hc hi
          have kd := (K0.below h.bel K0.lt).c2
          refine wpOp_step rfl (fun K hK0 => ?_)
          have hK : Hid _ := hK0
          clear hK0
          rw [if_pos (by rfl)]
          go_wp2_with fail
          exact hK.out _ _ ⟨y0, y1, y2, y3, true, y5, y6, y7, t3, t4, t5, _, .int .i64 d, t8, t9, t10, .int .i64 0, rfl, Or.inl ⟨rfl, ⟨{ h with o4 := fun _ => rfl }, rfl⟩⟩⟩
        · obtain ⟨h, rfl⟩ := h
          have e4 : y4 = true := by
            revert hc
            cases y4 <;> simp [Region.binds]
          have r4 := h.o4 e4
          subst r4
          clear hc hi
          have hI := h
          clear h
          refine wpOp_step rfl (fun K hK0 => ?_)
          have hK : Hid _ := hK0
          clear hK0
          rw [if_pos (by rfl)]
          go_wp2_with fail
          all_goals exact hK.out _ _ ⟨y0, y1, y2, y3, y4, true, y6, y7, t3, t4, t5, t6, _, _, t9, t10, .int .i64 0, rfl, Or.inl ⟨rfl, ⟨{ hI with o5 := fun _ => congrArg (Value.int .i64) (by omega) }, rfl⟩⟩⟩
        · obtain ⟨h, rfl⟩ := h
          have e2 : y2 = true := by
            revert hc
            cases y2 <;> simp [Region.binds]
          have e5 : y5 = true := by
            revert hc
            cases y5 <;> simp [Region.binds]
          have r2 := h.o2 e2
          subst r2
          have r5 := h.o5 e5
          subst r5
          clear hc hi
          have q := e3
          refine wpOp_step rfl (fun K hK0 => ?_)
          have hK : Hid _ := hK0
          clear hK0
          rw [if_pos (by rfl)]
          go_wp2_with fail
          exact hK.out _ _ ⟨y0, y1, y2, y3, y4, y5, true, y7, t3, t4, _, t6, t7, _, .int .i64 a3, t10, .int .i64 0, rfl, Or.inl ⟨rfl, ⟨{ h with o6 := fun _ => rfl }, rfl⟩⟩⟩
        · obtain ⟨h, rfl⟩ := h
          have e6 : y6 = true := by
            revert hc
            cases y6 <;> simp [Region.binds]
          have r6 := h.o6 e6
          subst r6
          clear hc hi
          have q := e4
          refine wpOp_step rfl (fun K hK0 => ?_)
          have hK : Hid _ := hK0
          clear hK0
          rw [if_pos (by rfl)]
          go_wp2_with fail
          exact hK.out _ _ ⟨y0, y1, y2, y3, y4, y5, y6, true, t3, t4, t5, t6, t7, t8, _, .int .i64 a4, .int .i64 0, rfl, Or.inl ⟨rfl, ⟨{ h with o7 := fun _ => rfl }, rfl⟩⟩⟩
        · obtain ⟨h, rfl⟩ := h
          have e0 : y0 = true := by
            revert hc
            cases y0 <;> simp [Region.binds]
          have e1 : y1 = true := by
            revert hc
            cases y1 <;> simp [Region.binds]
          have e2 : y2 = true := by
            revert hc
            cases y2 <;> simp [Region.binds]
          have e3 : y3 = true := by
            revert hc
            cases y3 <;> simp [Region.binds]
          have e4 : y4 = true := by
            revert hc
            cases y4 <;> simp [Region.binds]
          have e5 : y5 = true := by
            revert hc
            cases y5 <;> simp [Region.binds]
          have e6 : y6 = true := by
            revert hc
            cases y6 <;> simp [Region.binds]
          have e7 : y7 = true := by
            revert hc
            cases y7 <;> simp [Region.binds]
          have r7 := h.o7 e7
          subst r7
          clear hc hi
          subst e0 e1 e2 e3 e4 e5 e6 e7
          have bl := h.bel
          clear h
          refine wpOp_step rfl (fun K hK0 => ?_)
          have hK : Hid _ := hK0
          clear hK0
          rw [if_pos (by rfl)]
          go_wp2_with fail
          exact hK.out _ _ ⟨true, true, true, true, true, true, true, true, t3, t4, t5, t6, t7, t8, t9, _, _, rfl, Or.inr (⟨rfl, rfl, rfl, bl⟩)⟩
      · rcases (show i = 0 ∨ i = 1 ∨ i = 2 ∨ i = 3 ∨ i = 4 ∨ i = 5 ∨ i = 6 ∨ i = 7 ∨ i = 8 by omega) with rfl | rfl | rfl | rfl | rfl | rfl | rfl | rfl | rfl <;> simp at hc
    · rintro listed a x ⟨y0, y1, y2, y3, y4, y5, y6, y7, t3, t4, t5, t6, t7, t8, t9, t10, z2, rfl, h⟩ hn
      have al := all_listed (by decide +kernel) hn
      rcases h with ⟨rfl, h⟩ | ⟨rfl, h⟩
      · have z := al 8 (by decide)
        simp at z
      · obtain ⟨rfl, rfl, bl⟩ := h
        refine hJ _ _ ?_
        go_meet
        case rel => exact ⟨rfl, bl⟩
    · exact ⟨false, false, false, false, false, false, false, false, undef, undef, undef, undef, undef, undef, undef, undef, .int .i64 0, rfl, Or.inl ⟨rfl, ⟨{ bel := (Below.refl _ _).drew, o0 := (by intro q; cases q), o1 := (by intro q; cases q), o2 := (by intro q; cases q), o3 := (by intro q; cases q), o4 := (by intro q; cases q), o5 := (by intro q; cases q), o6 := (by intro q; cases q), o7 := (by intro q; cases q) }, rfl⟩⟩⟩
  case rest =>
    obtain ⟨rfl, b2⟩ := hcut
    have p2 := bel' pr b2
    go_wp2_with fail
    go_ret
    exact ⟨rfl, p2⟩
theorem bankDaysAhead_any (y m d : Int) (g : good y m d = true) (w : World) : Calls Tryz.prog 51 #[.agg #[.int .i64 y, .int .i64 m, .int .i64 d]] w fun e w' => e = .returned (.int .i64 (ba y m d)) ∧ Below w.heap.size w w' := by
  obtain ⟨g1, g2, g3, g4, g5, g6⟩ := good_iff.1 g
  have mb := ml_bd (lp y) m
  have k1 : 0 ≤ mo y m ∧ mo y m ≤ 200000 := by unfold mo; omega
  have := bank_walk y m d (mo y m) _ _ _ _ w (fun W => monthsAhead_any y m d (by omega) (by omega) (by omega) (by omega) W) rfl rfl rfl rfl
  rw [wrapI (30 * mo y m) (by omega) (by omega), wrapI (30 * mo y m + min d 30) (by omega) (by omega), wrapI (30 * mo y m + min d 30 - 1) (by omega) (by omega)] at this
  exact this
end Go.Proofs.YtbfamafajefapaaGreatDoor.Dy

namespace Dc
open Go Go.Lib

theorem pow_le_of_pos (u : Nat) (h : 0 < u) : 10 ^ (nDigits u - 1) ≤ u := by
  induction u using Nat.strongRecOn with
  | _ u ih =>
    by_cases h1 : u < 10
    · rw [nDigits_small h1]; simp; omega
    · rw [nDigits_big h1]
      have := ih (u / 10) (by omega) (by omega)
      have p := nDigits_pos (u / 10)
      rw [show nDigits (u / 10) + 1 - 1 = nDigits (u / 10) - 1 + 1 from by omega, Nat.pow_succ]
      omega
theorem nDigits_le {u n : Nat} (hn : 0 < n) (h : u < 10 ^ n) : nDigits u ≤ n := by
  by_cases h0 : u = 0
  · subst h0; rw [nDigits_small (by decide)]; exact hn
  · have := pow_le_of_pos u (by omega)
    have l : 10 ^ (nDigits u - 1) < 10 ^ n := by omega
    have := (Nat.pow_lt_pow_iff_right (by decide : 1 < 10)).1 l
    omega
/-- The first c of N places of V. -/
def dgs (V N c : Nat) : List Int := (List.range c).map fun s => 48 + ((V / 10 ^ (N - 1 - s) % 10 : Nat) : Int)
theorem dgs_zero (V N : Nat) : dgs V N 0 = [] := rfl
theorem dgs_succ (V N c : Nat) : dgs V N (c + 1) = dgs V N c ++ [48 + ((V / 10 ^ (N - 1 - c) % 10 : Nat) : Int)] := by
  simp [dgs, List.range_succ]
theorem dgs_length (V N c : Nat) : (dgs V N c).length = c := by simp [dgs]
theorem dgs_at (V N c i : Nat) (h : i < c) : (dgs V N c).getD i 0 = 48 + ((V / 10 ^ (N - 1 - i) % 10 : Nat) : Int) := by
  simp [dgs, List.getD_eq_getElem?_getD, h]
theorem top_digit (V : Nat) (h : 0 < V) : V / 10 ^ (nDigits V - 1) % 10 ≠ 0 := by
  have a := pow_le_of_pos V h
  have b := lt_pow_nDigits V
  have p := nDigits_pos V
  rw [show nDigits V = nDigits V - 1 + 1 from by omega, Nat.pow_succ] at b
  have q : 0 < 10 ^ (nDigits V - 1) := Nat.pow_pos (by decide)
  generalize 10 ^ (nDigits V - 1) = t at *
  have h1 : 1 ≤ V / t := (Nat.le_div_iff_mul_le q).2 (by omega)
  have h2 : V / t < 10 := (Nat.div_lt_iff_lt_mul q).2 (by omega)
  omega
theorem high_digit (V j : Nat) (h : nDigits V ≤ j) : V / 10 ^ j = 0 := by
  rw [Nat.div_eq_zero_iff]
  right
  exact Nat.lt_of_lt_of_le (lt_pow_nDigits V) (Nat.pow_le_pow_right (by decide) h)
theorem dgs_str (V N : Nat) (h : nDigits V ≤ N) : strOfNums ((dgs V N N).drop (N - nDigits V)) = ⟨(decDigits V).toArray⟩ := by
  unfold strOfNums
  congr 2
  rw [decDigits_eq]
  apply List.ext_getElem
  · simp [dgs_length]; omega
  · intro i h1 h2
    simp [dgs, dg] at h1 h2 ⊢
    rw [show N - 1 - (N - nDigits V + i) = nDigits V - 1 - i from by omega]
    have : (48 + (V : Int) / 10 ^ (nDigits V - 1 - i) % 10).toNat = 48 + V / 10 ^ (nDigits V - 1 - i) % 10 := by
      have : ((V / 10 ^ (nDigits V - 1 - i) % 10 : Nat) : Int) = (V : Int) / 10 ^ (nDigits V - 1 - i) % 10 := by simp
      omega
    rw [this]
    simp
/-- One digit of a part of nine. -/
theorem part_digit (A t : Nat) (h : t ≤ 8) : (A % 1000000000) / (100000000 / 10 ^ t) % 10 = A / 10 ^ (8 - t) % 10 := by
  have e : (100000000 : Nat) / 10 ^ t = 10 ^ (8 - t) := by
    rw [show (100000000 : Nat) = 10 ^ 8 from rfl, Nat.pow_div h (by decide)]
  rw [e, show (1000000000 : Nat) = 10 ^ (8 - t) * 10 ^ (t + 1) from by rw [← Nat.pow_add, show 8 - t + (t + 1) = 9 from by omega], Nat.mod_mul_right_div_self]
  rw [Nat.mod_mod_of_dvd]
  exact ⟨10 ^ t, by rw [Nat.pow_succ, Nat.mul_comm]⟩
theorem unit_next (t : Nat) : (100000000 : Nat) / 10 ^ t / 10 = 100000000 / 10 ^ (t + 1) := by
  rw [Nat.div_div_eq_div_mul, Nat.pow_succ]
theorem unit_pos {t : Nat} (h : t ≤ 8) : 0 < (100000000 : Nat) / 10 ^ t := by
  rw [show (100000000 : Nat) = 10 ^ 8 from rfl, Nat.pow_div h (by decide)]
  exact Nat.pow_pos (by decide)
theorem unit_end : (100000000 : Nat) / 10 ^ 9 = 0 := by decide
theorem unit_le (t : Nat) : (100000000 : Nat) / 10 ^ t ≤ 100000000 := Nat.div_le_self _ _
theorem place (V i t m : Nat) (hi : i < m) (ht : t ≤ 8) : (V / 10 ^ (9 * i) % 1000000000) / (100000000 / 10 ^ t) % 10 = V / 10 ^ (9 * m - 1 - (9 * (m - 1 - i) + t)) % 10 := by
  rw [part_digit _ _ ht, Nat.div_div_eq_div_mul, ← Nat.pow_add]
  congr 3
  omega
/-- The number of a row of digits. -/
def num : List UInt8 → Nat := List.foldl (fun a c => 10 * a + (c.toNat - 48)) 0
theorem num_append (a b : List UInt8) : num (a ++ b) = num a * 10 ^ b.length + num b := by
  unfold num
  rw [List.foldl_append]
  generalize List.foldl (fun a c => 10 * a + (UInt8.toNat c - 48)) 0 a = x
  induction b generalizing x with
  | nil => simp
  | cons c b ih =>
    rw [List.foldl_cons, ih, List.foldl_cons, ih (10 * 0 + (c.toNat - 48)), List.length_cons, Nat.pow_succ]
    grind
theorem num_single (c : UInt8) : num [c] = c.toNat - 48 := by simp [num]
end Dc

namespace Dc
open Go Go.Lib
/-- A byte that is a decimal digit. -/
def Dg (b : UInt8) : Prop := 48 ≤ b.toNat ∧ b.toNat ≤ 57
theorem num_take (l : List UInt8) (k : Nat) (h : k < l.length) : num (l.take (k + 1)) = num (l.take k) * 10 + ((l[k]).toNat - 48) := by
  rw [List.take_add_one, num_append]
  simp [List.getElem?_eq_getElem h, num_single]
theorem num_lt_take (l : List UInt8) (h : ∀ c ∈ l, Dg c) (k : Nat) (hk : k ≤ l.length) : num (l.take k) < 10 ^ k := by
  induction k with
  | zero => simp [num]
  | succ k ih =>
    have a := ih (by omega)
    have b := h l[k] (List.getElem_mem _)
    unfold Dg at b
    rw [num_take l k (by omega), Nat.pow_succ]
    omega
theorem num_lt (l : List UInt8) (h : ∀ c ∈ l, Dg c) : num l < 10 ^ l.length := by
  have := num_lt_take l h l.length (Nat.le_refl _)
  rwa [List.take_length] at this
theorem at_list (s : ByteArray) (k : Nat) (h : k < s.size) : s[k] = s.data.toList[k]'(by simpa using h) := rfl
theorem num_cons (c : UInt8) (r : List UInt8) : num (c :: r) = (c.toNat - 48) * 10 ^ r.length + num r := by
  have := num_append [c] r
  rw [num_single] at this
  exact this
/-- strconv.ParseUint of at most nineteen digits. -/
theorem parse19 (l : List UInt8) (h : ∀ c ∈ l, Dg c) (acc k : Nat) (ha : acc < 10 ^ k) (hk : k + l.length ≤ 19) : Go.Lib.parseUintM (2 ^ 64 - 1) acc l = .ok (acc * 10 ^ l.length + num l) := by
  induction l generalizing acc k with
  | nil => simp [Go.Lib.parseUintM, num]
  | cons c r ih =>
    have hc := h c (by simp)
    unfold Dg at hc
    rw [List.length_cons] at hk
    have p : 10 ^ k ≤ 10 ^ 18 := Nat.pow_le_pow_right (by decide) (by omega)
    have e18 : (10 : Nat) ^ 18 = 1000000000000000000 := by decide
    have e64 : (2 : Nat) ^ 64 - 1 = 18446744073709551615 := by decide
    have step := ih (fun c hc => h c (by simp [hc])) (acc * 10 + (c.toNat - 48)) (k + 1) (by rw [Nat.pow_succ]; omega) (by omega)
    rw [Go.Lib.parseUintM, if_pos hc, if_neg (by omega), if_neg (by rw [e64]; omega), step, num_cons, List.length_cons, Nat.pow_succ]
    congr 1
    grind
theorem parse19B (l : List UInt8) (h : ∀ c ∈ l, Dg c) (ne : l ≠ []) (hk : l.length ≤ 19) : Go.Lib.parseUintB 64 l = .ok (num l) := by
  unfold Go.Lib.parseUintB
  rw [if_neg ne, parse19 l h 0 0 (by decide) (by omega)]
  simp
end Dc

namespace Dc
/-- The byte at a place, or 256 behind the end. -/
def bt (s : ByteArray) (i : Nat) : Nat := if h : i < s.size then s[i].toNat else 256
theorem bt_in {s : ByteArray} {i : Nat} (h : i < s.size) : bt s i = s[i].toNat := by simp [bt, h]
theorem bt_out {s : ByteArray} {i : Nat} (h : s.size ≤ i) : bt s i = 256 := by simp [bt, Nat.not_lt.2 h]
theorem bt_lt {s : ByteArray} {i : Nat} (h : i < s.size) : bt s i < 256 := by rw [bt_in h]; exact UInt8.toNat_lt _
theorem lt_of_bt {s : ByteArray} {i : Nat} (h : bt s i ≠ 256) : i < s.size := by
  by_cases c : i < s.size
  · exact c
  · exact absurd (bt_out (by omega)) h
theorem ex_size (s : ByteArray) (a : Nat) : (s.extract a s.size).size = s.size - a := by rw [ByteArray.size_extract]; omega
theorem bt_ex (s : ByteArray) (a k : Nat) : bt (s.extract a s.size) k = bt s (a + k) := by
  by_cases h : a + k < s.size
  · rw [bt_in h, bt_in (by rw [ex_size]; omega), ByteArray.getElem_extract]
  · rw [bt_out (s := s) (by omega), bt_out (by rw [ex_size]; omega)]
/-- Does a digit stand there? -/
def dgt (s : ByteArray) (i : Nat) : Bool := decide (48 ≤ bt s i ∧ bt s i ≤ 57)
theorem dgt_lt {s : ByteArray} {i : Nat} (h : dgt s i = true) : i < s.size := lt_of_bt (by simp [dgt] at h; omega)
theorem dgt_ex (s : ByteArray) (a k : Nat) : dgt (s.extract a s.size) k = dgt s (a + k) := by simp [dgt, bt_ex]
def run (s : ByteArray) (i : Nat) : Nat → Nat
  | 0 => 0
  | f + 1 => if dgt s i = true then run s (i + 1) f + 1 else 0
theorem run_spec (s : ByteArray) (f i : Nat) (h : s.size ≤ i + f) : (∀ j, j < run s i f → dgt s (i + j) = true) ∧ dgt s (i + run s i f) = false := by
  induction f generalizing i with
  | zero =>
    refine ⟨fun j hj => by simp [run] at hj, ?_⟩
    simp only [run, Nat.add_zero, dgt, bt_out (show s.size ≤ i by omega)]
    decide
  | succ f ih =>
    by_cases c : dgt s i = true
    · obtain ⟨a, b⟩ := ih (i + 1) (by omega)
      simp only [run, c, if_true]
      refine ⟨fun j hj => ?_, by rw [← b]; congr 1; omega⟩
      rcases j with _ | j
      · exact c
      · have := a j (by omega)
        rw [← this]; congr 1; omega
    · have c' : dgt s i = false := by simpa using c
      simp [run, c']
/-- How many digits stand from a place on. -/
def nd (s : ByteArray) (i : Nat) : Nat := run s i (s.size - i)
theorem nd_spec (s : ByteArray) (i : Nat) : (∀ j, j < nd s i → dgt s (i + j) = true) ∧ dgt s (i + nd s i) = false := run_spec s _ i (by omega)
theorem nd_eq {s : ByteArray} {i k : Nat} (h1 : ∀ j, j < k → dgt s (i + j) = true) (h2 : dgt s (i + k) = false) : k = nd s i := by
  obtain ⟨a, b⟩ := nd_spec s i
  rcases Nat.lt_trichotomy k (nd s i) with c | c | c
  · have := a k c; rw [this] at h2; cases h2
  · exact c
  · have := h1 _ c; rw [this] at b; cases b
theorem nd_ex (s : ByteArray) (a : Nat) : nd (s.extract a s.size) 0 = nd s a := by
  apply nd_eq
  · intro j hj
    have := (nd_spec (s.extract a s.size) 0).1 j hj
    rwa [Nat.zero_add, dgt_ex] at this
  · have := (nd_spec (s.extract a s.size) 0).2
    rwa [Nat.zero_add, dgt_ex] at this
/-- The sign, where the pounds begin, and where they end. -/
def neg (s : ByteArray) : Bool := decide (bt s 0 = 45)
def fr (s : ByteArray) : Nat := if neg s then 1 else 0
def rest (s : ByteArray) : ByteArray := if neg s then s.extract 1 s.size else s
def tw (s : ByteArray) : Nat := if bt s (fr s) = 48 then fr s + 1 else fr s + nd s (fr s)
theorem ex_all (s : ByteArray) : s.extract 0 s.size = s := by
  apply ByteArray.ext
  simp
theorem rest_ex (s : ByteArray) : rest s = s.extract (fr s) s.size := by
  unfold rest fr
  split
  · rfl
  · rw [ex_all]
theorem fr_le (s : ByteArray) : fr s ≤ s.size := by
  unfold fr
  split
  · rename_i h
    have : bt s 0 = 45 := by simpa [neg] using h
    have := lt_of_bt (s := s) (i := 0) (by omega)
    omega
  · omega
theorem tw_le (s : ByteArray) : tw s ≤ s.size := by
  unfold tw
  split
  · rename_i h
    have := lt_of_bt (s := s) (i := fr s) (by omega)
    omega
  · have a := (nd_spec s (fr s)).1
    have b := fr_le s
    by_cases c : nd s (fr s) = 0
    · omega
    · have := dgt_lt (a (nd s (fr s) - 1) (by omega))
      omega
theorem fr_tw (s : ByteArray) : fr s ≤ tw s := by unfold tw; split <;> omega
theorem tw_dgt (s : ByteArray) (j : Nat) (h1 : fr s ≤ j) (h2 : j < tw s) : dgt s j = true := by
  unfold tw at h2
  split at h2
  · rename_i h
    have : j = fr s := by omega
    rw [this, dgt, h]
    decide
  · have := (nd_spec s (fr s)).1 (j - fr s) (by omega)
    rwa [show fr s + (j - fr s) = j from by omega] at this
/-- Is it -0.00? -/
def nought (s : ByteArray) : Bool := neg s && decide (tw s = fr s + 1) && decide (bt s (fr s) = 48) && decide (bt s (tw s + 1) = 48) && decide (bt s (tw s + 2) = 48)
/-- How far a text is an amount's, and whether it is one. -/
def beg (s : ByteArray) : Nat × Bool :=
  if tw s = fr s ∨ bt s (tw s) ≠ 46 then (tw s, false)
  else if dgt s (tw s + 1) = false then (tw s + 1, false)
  else if dgt s (tw s + 2) = false ∨ nought s = true then (tw s + 2, false)
  else (tw s + 3, decide (tw s + 3 = s.size))
/-- Its digits. -/
def digs (s : ByteArray) : List UInt8 := ((s.data.toList.drop (fr s)).take (tw s - fr s)) ++ s.data.toList.drop (tw s + 1)
/-- What a text is read as: the amount, the place, the error. -/
def readS (s : ByteArray) : Int × Int × Int :=
  if 65536 < s.size then (0, 0, 3)
  else if (beg s).2 = false then (0, ((beg s).1 : Int), 2)
  else if num (digs s) ≤ 1000000000000000 then ((if neg s then -(num (digs s) : Int) else (num (digs s) : Int)), 0, 0) else (0, 0, 6)
end Dc
