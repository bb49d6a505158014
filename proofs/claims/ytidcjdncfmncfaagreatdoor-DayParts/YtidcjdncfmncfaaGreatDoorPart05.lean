import Derived.Test.YtidcjdncfmncfaaGreatDoorPart03
import Derived.Test.YtidcjdncfmncfaaGreatDoorPart04
import Derived.Deep.DeepCutAuto

namespace Go.Proofs.YtidcjdncfmncfaaGreatDoor.Dy
open Go.RowKit Tn
theorem bel' {w W w1 : World} (pr : Below w.heap.size w W) (b1 : Below W.heap.size W w1) : Below w.heap.size w w1 := pr.trans (b1.mono pr.size)
/-- How many leap years lie ahead of a year. -/
def lv (y : Int) : Int := (y - 1) / 4 - (y - 1) / 100 + (y - 1) / 400
/-- How many days ahead of a date lie in leap years. -/
def la (y m d : Int) : Int := if lp y then 366 * lv y + (cu (lp y) m + d - 1) else 366 * lv y
/-- How many days lie ahead of a date, if each month has thirty. -/
def ba (y m d : Int) : Int := 30 * mo y m + min d 30 - 1
set_option maxHeartbeats 800000 in
theorem leapDaysAhead_any (y m d : Int) (g : good y m d = true) (w : World) (G : Gl w) : Calls Tryz.prog 39 #[.agg #[.int .i64 y, .int .i64 m, .int .i64 d]] w fun e w' => e = .returned (.int .i64 (la y m d)) ∧ Below w.heap.size w w' := by
  obtain ⟨g1, g2, g3, g4, g5, g6⟩ := good_iff.1 g
  have mb := ml_bd (lp y) m
  have cb := cu_bd (lp y) g3 g4
  have sb := sz_bd (lp y)
  have LV := leapsAhead_any y g1 (by omega)
  have IL := isLeap_any y (by omega)
  have DI := dayInYear_any y m d (by omega) g3 g4 (by omega) (by omega)
  have lb : 0 ≤ lv y ∧ lv y ≤ 20000 := by unfold lv; omega
  unfold la
  have hl : Hid (lv y = lv y) := rfl
  change ∀ W, Calls _ _ _ W fun e w' => e = .returned (.int .i64 (lv y)) ∧ _ at LV
  obtain ⟨C, hC⟩ : ∃ C, cu (lp y) m + d = C := ⟨_, rfl⟩
  rw [hC] at DI ⊢
  have c1 : 0 ≤ C ∧ C ≤ 1000 := by omega
  clear g g1 g2 g3 g4 g5 g6 mb cb sb hC hl
  generalize lv y = L at *
  generalize lp y = l at *
  have K0 := Blk.new w #[.int .i64 y, .int .i64 m, .int .i64 d] 38
  have pr := bl (w := w) #[.int .i64 y, .int .i64 m, .int .i64 d] 38
  have G0 := G.alloc (.cells #[.int .i64 y, .int .i64 m, .int .i64 d] 38)
  have e1 : IntKind.i64.wrap (366 * L) = 366 * L := wrapI _ (by omega) (by omega)
  have e2 : IntKind.i64.wrap (C - 1) = C - 1 := wrapI _ (by omega) (by omega)
  have e3 : IntKind.i64.wrap (366 * L + (C - 1)) = 366 * L + (C - 1) := wrapI _ (by omega) (by omega)
  obtain ⟨lb1, lb2⟩ := lb
  obtain ⟨cb1, cb2⟩ := c1
  unfold dt at DI
  cases l
  · go_enter Tryz.func39, Tryz.ntmps39
    go_wp2_with (first
      | (go_at_call 97; refine (LV _).mono ?_; rintro e w1 ⟨rfl, hw⟩; subst w1)
      | (go_at_call 98; refine (IL _).mono ?_; rintro e w1 ⟨rfl, hw⟩; subst w1)
      | fail)
    go_ret
    exact ⟨rfl, pr⟩
  · go_enter Tryz.func39, Tryz.ntmps39
    go_wp2_with (first
      | (go_at_call 97; refine (LV _).mono ?_; rintro e w1 ⟨rfl, hw⟩; subst w1)
      | (go_at_call 98; refine (IL _).mono ?_; rintro e w1 ⟨rfl, hw⟩; subst w1)
      | (go_at_call 99; refine (DI _ G0).mono ?_; rintro e w1 ⟨rfl, b1⟩; have p1 := bel' pr b1)
      | fail)
    go_ret
    exact ⟨rfl, p1⟩
structure BD1 (W x : World) (V0 : Value) (V1 : Value) (V2 : Value) (V3 : Value) (V4 : Value) (V5 : Value) (V6 : Value) (V7 : Value) (y0 y1 y2 y3 y4 y5 y6 y7 : Bool) (t3 t4 t5 t6 t7 t8 t9 t10 : Value) : Prop where
  bel : Below W.heap.size W x
  o0 : y0 = true → t3 = V0
  o1 : y1 = true → t4 = V1
  o2 : y2 = true → t5 = V2
  o3 : y3 = true → t6 = V3
  o4 : y4 = true → t7 = V4
  o5 : y5 = true → t8 = V5
  o6 : y6 = true → t9 = V6
  o7 : y7 = true → t10 = V7
theorem BD1.grow {W x x' : World} {V0 : Value} {V1 : Value} {V2 : Value} {V3 : Value} {V4 : Value} {V5 : Value} {V6 : Value} {V7 : Value} {y0 y1 y2 y3 y4 y5 y6 y7 : Bool} {t3 t4 t5 t6 t7 t8 t9 t10 : Value} (h : BD1 W x V0 V1 V2 V3 V4 V5 V6 V7 y0 y1 y2 y3 y4 y5 y6 y7 t3 t4 t5 t6 t7 t8 t9 t10) (b : Below x.heap.size x x') : BD1 W x' V0 V1 V2 V3 V4 V5 V6 V7 y0 y1 y2 y3 y4 y5 y6 y7 t3 t4 t5 t6 t7 t8 t9 t10 where
  bel := bel' h.bel b
  o0 := h.o0
  o1 := h.o1
  o2 := h.o2
  o3 := h.o3
  o4 := h.o4
  o5 := h.o5
  o6 := h.o6
  o7 := h.o7
set_option maxHeartbeats 800000 in
theorem bank_walk (y m d k a1 a2 a3 a4 : Int) (w : World) (MA : ∀ W, Calls Tryz.prog 100 #[.agg #[.int .i64 y, .int .i64 m, .int .i64 d]] W fun e w' => e = .returned (.int .i64 k) ∧ Below W.heap.size W w') (e1 : IntKind.i64.wrap (30 * k) = a1) (e2 : min d 30 = a2) (e3 : IntKind.i64.wrap (a1 + a2) = a3) (e4 : IntKind.i64.wrap (a3 - 1) = a4) :
    Calls Tryz.prog 41 #[.agg #[.int .i64 y, .int .i64 m, .int .i64 d]] w fun e w' => e = .returned (.int .i64 a4) ∧ Below w.heap.size w w' := by
  have K0 := Blk.new w #[.int .i64 y, .int .i64 m, .int .i64 d] 38
  have pr := bl (w := w) #[.int .i64 y, .int .i64 m, .int .i64 d] 38
  go_enter Tryz.func41, Tryz.ntmps41
  go_wp2_with fail
  generalize w.alloc (.cells #[.int .i64 y, .int .i64 m, .int .i64 d] 38) = W at *
  go_cut [2] from 3 to 10 (fun x wc => x = .int .i64 a4 ∧ Below W.heap.size W wc)
  case first =>
    rename_i hm hJ
    refine wp_region_held (S := fun _ => True) (by kernel_rfl) (any_inv (fun listed a x => ∃ (y0 y1 y2 y3 y4 y5 y6 y7 : Bool) (t3 t4 t5 t6 t7 t8 t9 t10 : Value) (z2 : Value), a = ⟨#[.agg #[.int .i64 y, .int .i64 m, .int .i64 d], .pointer (some ⟨w.heap.size, 0, none⟩), z2, t3, t4, t5, t6, t7, t8, t9, t10], []⟩ ∧ ((listed = #[y0, y1, y2, y3, y4, y5, y6, y7, false] ∧ BD1 W x (.agg #[.int .i64 y, .int .i64 m, .int .i64 d]) (.int .i64 k) (.int .i64 a1) (.pointer (some ⟨w.heap.size, 2, none⟩)) (.int .i64 d) (.int .i64 a2) (.int .i64 a3) (.int .i64 a4) y0 y1 y2 y3 y4 y5 y6 y7 t3 t4 t5 t6 t7 t8 t9 t10 ∧ z2 = .int .i64 0) ∨ (listed = #[true, true, true, true, true, true, true, true, true] ∧ t10 = .int .i64 a4 ∧ z2 = .int .i64 a4 ∧ Below W.heap.size W x))) ?_ ?_ _ _ _ _ (by decide) ?_)
    · rintro listed a x i ⟨y0, y1, y2, y3, y4, y5, y6, y7, t3, t4, t5, t6, t7, t8, t9, t10, z2, rfl, h⟩ hi
      have hr : i < 9 := List.mem_range.1 (List.mem_filter.1 hi).1
      have hc := (List.mem_filter.1 hi).2
      rcases h with ⟨rfl, h⟩ | ⟨rfl, h⟩
      · rcases (show i = 0 ∨ i = 1 ∨ i = 2 ∨ i = 3 ∨ i = 4 ∨ i = 5 ∨ i = 6 ∨ i = 7 ∨ i = 8 by omega) with rfl | rfl | rfl | rfl | rfl | rfl | rfl | rfl | rfl
        · obtain ⟨h, rfl⟩ := h
          clear hc hi
          have kd0 := (K0.below h.bel K0.lt).c0
          have kd1 := (K0.below h.bel K0.lt).c1
          have kd2 := (K0.below h.bel K0.lt).c2
          refine wpOp_step rfl (fun K hK0 => ?_)
          have hK : Hid _ := hK0
          clear hK0
          rw [if_pos (by rfl)]
          go_wp2_with fail
          exact hK.out _ _ ⟨true, y1, y2, y3, y4, y5, y6, y7, .agg #[.int .i64 y, .int .i64 m, .int .i64 d], t4, t5, t6, t7, t8, t9, t10, .int .i64 0, rfl, Or.inl ⟨rfl, ⟨{ h with o0 := fun _ => rfl }, rfl⟩⟩⟩
        · obtain ⟨h, rfl⟩ := h
          have e0 : y0 = true := by
            revert hc
            cases y0 <;> simp [Region.binds]
          have r0 := h.o0 e0
          subst r0
          clear hc hi
          refine wpOp_step rfl (fun K hK0 => ?_)
          have hK : Hid _ := hK0
          clear hK0
          rw [if_pos (by rfl)]
          go_wp2_with (first | (go_at_call 100; go_must (refine (MA x).mono ?_; rintro e x2 ⟨rfl, bb⟩)) | fail)
          exact hK.out _ _ ⟨y0, true, y2, y3, y4, y5, y6, y7, _, _, t5, t6, t7, t8, t9, t10, .int .i64 0, rfl, Or.inl ⟨rfl, ⟨{ h.grow bb with o1 := fun _ => rfl }, rfl⟩⟩⟩
        · obtain ⟨h, rfl⟩ := h
          have e1 : y1 = true := by
            revert hc
            cases y1 <;> simp [Region.binds]
          have r1 := h.o1 e1
          subst r1
          clear hc hi
          have q := e1
          refine wpOp_step rfl (fun K hK0 => ?_)
          have hK : Hid _ := hK0
          clear hK0
          rw [if_pos (by rfl)]
          go_wp2_with fail
          exact hK.out _ _ ⟨y0, y1, true, y3, y4, y5, y6, y7, t3, _, .int .i64 a1, t6, t7, t8, t9, t10, .int .i64 0, rfl, Or.inl ⟨rfl, ⟨{ h with o2 := fun _ => rfl }, rfl⟩⟩⟩
        · obtain ⟨h, rfl⟩ := h
          clear hc hi
          refine wpOp_step rfl (fun K hK0 => ?_)
          have hK : Hid _ := hK0
          clear hK0
          rw [if_pos (by rfl)]
          go_wp2_with fail
          exact hK.out _ _ ⟨y0, y1, y2, true, y4, y5, y6, y7, t3, t4, t5, .pointer (some ⟨w.heap.size, 2, none⟩), t7, t8, t9, t10, .int .i64 0, rfl, Or.inl ⟨rfl, ⟨{ h with o3 := fun _ => rfl }, rfl⟩⟩⟩
        · obtain ⟨h, rfl⟩ := h
          have e3 : y3 = true := by
            revert hc
            cases y3 <;> simp [Region.binds]
          have r3 := h.o3 e3
          subst r3
          clear hc hi
          have kd := (K0.below h.bel K0.lt).c2
          refine wpOp_step rfl (fun K hK0 => ?_)
          have hK : Hid _ := hK0
          clear hK0
          rw [if_pos (by rfl)]
          go_wp2_with fail
          exact hK.out _ _ ⟨y0, y1, y2, y3, true, y5, y6, y7, t3, t4, t5, _, .int .i64 d, t8, t9, t10, .int .i64 0, rfl, Or.inl ⟨rfl, ⟨{ h with o4 := fun _ => rfl }, rfl⟩⟩⟩
        · obtain ⟨h, rfl⟩ := h
          have e4 : y4 = true := by
            revert hc
            cases y4 <;> simp [Region.binds]
          have r4 := h.o4 e4
          subst r4
          clear hc hi
          have hI := h
          clear h
          refine wpOp_step rfl (fun K hK0 => ?_)
          have hK : Hid _ := hK0
          clear hK0
          rw [if_pos (by rfl)]
          go_wp2_with fail
          all_goals exact hK.out _ _ ⟨y0, y1, y2, y3, y4, true, y6, y7, t3, t4, t5, t6, _, _, t9, t10, .int .i64 0, rfl, Or.inl ⟨rfl, ⟨{ hI with o5 := fun _ => congrArg (Value.int .i64) (by omega) }, rfl⟩⟩⟩
        · obtain ⟨h, rfl⟩ := h
          have e2 : y2 = true := by
            revert hc
            cases y2 <;> simp [Region.binds]
          have e5 : y5 = true := by
            revert hc
            cases y5 <;> simp [Region.binds]
          have r2 := h.o2 e2
          subst r2
          have r5 := h.o5 e5
          subst r5
          clear hc hi
          have q := e3
          refine wpOp_step rfl (fun K hK0 => ?_)
          have hK : Hid _ := hK0
          clear hK0
          rw [if_pos (by rfl)]
          go_wp2_with fail
          exact hK.out _ _ ⟨y0, y1, y2, y3, y4, y5, true, y7, t3, t4, _, t6, t7, _, .int .i64 a3, t10, .int .i64 0, rfl, Or.inl ⟨rfl, ⟨{ h with o6 := fun _ => rfl }, rfl⟩⟩⟩
        · obtain ⟨h, rfl⟩ := h
          have e6 : y6 = true := by
            revert hc
            cases y6 <;> simp [Region.binds]
          have r6 := h.o6 e6
          subst r6
          clear hc hi
          have q := e4
          refine wpOp_step rfl (fun K hK0 => ?_)
          have hK : Hid _ := hK0
          clear hK0
          rw [if_pos (by rfl)]
          go_wp2_with fail
          exact hK.out _ _ ⟨y0, y1, y2, y3, y4, y5, y6, true, t3, t4, t5, t6, t7, t8, _, .int .i64 a4, .int .i64 0, rfl, Or.inl ⟨rfl, ⟨{ h with o7 := fun _ => rfl }, rfl⟩⟩⟩
        · obtain ⟨h, rfl⟩ := h
          have e0 : y0 = true := by
            revert hc
            cases y0 <;> simp [Region.binds]
          have e1 : y1 = true := by
            revert hc
            cases y1 <;> simp [Region.binds]
          have e2 : y2 = true := by
            revert hc
            cases y2 <;> simp [Region.binds]
          have e3 : y3 = true := by
            revert hc
            cases y3 <;> simp [Region.binds]
          have e4 : y4 = true := by
            revert hc
            cases y4 <;> simp [Region.binds]
          have e5 : y5 = true := by
            revert hc
            cases y5 <;> simp [Region.binds]
          have e6 : y6 = true := by
            revert hc
            cases y6 <;> simp [Region.binds]
          have e7 : y7 = true := by
            revert hc
            cases y7 <;> simp [Region.binds]
          have r7 := h.o7 e7
          subst r7
          clear hc hi
          subst e0 e1 e2 e3 e4 e5 e6 e7
          have bl := h.bel
          clear h
          refine wpOp_step rfl (fun K hK0 => ?_)
          have hK : Hid _ := hK0
          clear hK0
          rw [if_pos (by rfl)]
          go_wp2_with fail
          exact hK.out _ _ ⟨true, true, true, true, true, true, true, true, t3, t4, t5, t6, t7, t8, t9, _, _, rfl, Or.inr (⟨rfl, rfl, rfl, bl⟩)⟩
      · rcases (show i = 0 ∨ i = 1 ∨ i = 2 ∨ i = 3 ∨ i = 4 ∨ i = 5 ∨ i = 6 ∨ i = 7 ∨ i = 8 by omega) with rfl | rfl | rfl | rfl | rfl | rfl | rfl | rfl | rfl <;> simp at hc
    · rintro listed a x ⟨y0, y1, y2, y3, y4, y5, y6, y7, t3, t4, t5, t6, t7, t8, t9, t10, z2, rfl, h⟩ hn
      have al := all_listed (by decide +kernel) hn
      rcases h with ⟨rfl, h⟩ | ⟨rfl, h⟩
      · have z := al 8 (by decide)
        simp at z
      · obtain ⟨rfl, rfl, bl⟩ := h
        refine hJ _ _ ?_
        go_meet
        case rel => exact ⟨rfl, bl⟩
    · exact ⟨false, false, false, false, false, false, false, false, undef, undef, undef, undef, undef, undef, undef, undef, .int .i64 0, rfl, Or.inl ⟨rfl, ⟨{ bel := (Below.refl _ _).drew, o0 := (by intro q; cases q), o1 := (by intro q; cases q), o2 := (by intro q; cases q), o3 := (by intro q; cases q), o4 := (by intro q; cases q), o5 := (by intro q; cases q), o6 := (by intro q; cases q), o7 := (by intro q; cases q) }, rfl⟩⟩⟩
  case rest =>
    obtain ⟨rfl, b2⟩ := hcut
    have p2 := bel' pr b2
    go_wp2_with fail
    go_ret
    exact ⟨rfl, p2⟩
theorem bankDaysAhead_any (y m d : Int) (g : good y m d = true) (w : World) : Calls Tryz.prog 41 #[.agg #[.int .i64 y, .int .i64 m, .int .i64 d]] w fun e w' => e = .returned (.int .i64 (ba y m d)) ∧ Below w.heap.size w w' := by
  obtain ⟨g1, g2, g3, g4, g5, g6⟩ := good_iff.1 g
  have mb := ml_bd (lp y) m
  have k1 : 0 ≤ mo y m ∧ mo y m ≤ 200000 := by unfold mo; omega
  have := bank_walk y m d (mo y m) _ _ _ _ w (fun W => monthsAhead_any y m d (by omega) (by omega) (by omega) (by omega) W) rfl rfl rfl rfl
  rw [wrapI (30 * mo y m) (by omega) (by omega), wrapI (30 * mo y m + min d 30) (by omega) (by omega), wrapI (30 * mo y m + min d 30 - 1) (by omega) (by omega)] at this
  exact this
end Go.Proofs.YtidcjdncfmncfaaGreatDoor.Dy
