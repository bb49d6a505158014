import Derived.Test.YtejfnplhimfchaaGreatDoorPart21

namespace Go.Proofs.YtejfnplhimfchaaGreatDoor.Mo
open Go.RowKit Dc Tn

/-- An operation that nothing asks for. -/
theorem wpOp_skip {P : Program} {ops : Array Oper} {Q : Exit → Act → World → Prop} {i : Nat} {o : Oper} {K : Act → World → Prop} {a : Act} {w : World} (ho : ops[i]? = some o) (hw : Region.wanted o (yielded ops a.tmps) = false) (h : K (a.put o.dst undef) w) : wpOp P ops Q i K a w := by
  refine wpOp_step ho (fun K' hK => ?_)
  rw [if_neg (by simp [hw])]
  exact hK _ _ h
theorem Rb.skip {W : World} {n m : Nat} {a b c : Value} (h : Rb W n a b c) (ne : n ≠ m) (v : Value) : Rb (W.setCell ⟨m, 0, none⟩ v) n a b c := by
  have k : Wr m 0 1 W (W.setCell ⟨m, 0, none⟩ v) := (Wr.refl m 0 1 W).setCell 0 (by omega) v
  obtain ⟨t, K⟩ := h.bk
  have K2 := K.wr k ne
  exact ⟨K2.at 0, K2.at 1, K2.at 2, K2.free 0, K2.free 1, K2.free 2, t, K2⟩
/-- A size of X by Y, rounded. -/
def rndA (g : Bool) (X Y k : Int) : Int := if X % Y ≠ 0 ∧ awB g (decide (X / Y % 2 = 1)) (cmp3 (X % Y * 2) Y) k = true then X / Y + 1 else X / Y
set_option maxHeartbeats 1600000 in
set_option maxRecDepth 100000 in
theorem Round_any (g : Bool) (v1 v2 : Value) (xs ys : List Int) (k : Int) (w : World) (h1 : Rd w v1 xs) (h2 : Rd w v2 ys) (n1 : Nm xs) (n2 : Nm ys) (hy : 0 < val ys) (lx : xs.length ≤ 1000000) (ly : ys.length ≤ 1000000) (k1 : 1 ≤ k) (k6 : k ≤ 6) :
    Calls Tryz.prog 22 #[.agg #[.bool g, v1, v2], .int .i64 k] w fun e w' => ∃ r1 r2 zs us, e = .returned (.agg #[.bool (g && !decide (val zs = 0)), r1, r2]) ∧ Rd w' r1 zs ∧ Nm zs ∧ val zs = rndA g (val xs) (val ys) k ∧ Rd w' r2 us ∧ Nm us ∧ val us = 1 ∧ Below w.heap.size w w' := by
  have H1 : Hid (Rd w v1 xs) := h1
  have H2 : Hid (Rd w v2 ys) := h2
  obtain ⟨a1, m1, c1, rfl⟩ := h1.shape
  obtain ⟨a2, m2, c2, rfl⟩ := h2.shape
  clear h1 h2
  have K0 := Rb.new w (.bool g) (.slice a1 m1 c1) (.slice a2 m2 c2) 50
  replace K0 := K0.alloc (.cells #[.bool false, .slice none 0 0, .slice none 0 0] 50)
  have K1 := Rb.new (w.alloc (.cells #[.bool g, .slice a1 m1 c1, .slice a2 m2 c2] 50)) (.bool false) (.slice none 0 0) (.slice none 0 0) 50
  have pr : Below w.heap.size w ((w.alloc (.cells #[.bool g, .slice a1 m1 c1, .slice a2 m2 c2] 50)).alloc (.cells #[.bool false, .slice none 0 0, .slice none 0 0] 50)) := ((Below.refl _ _).alloc (Nat.le_refl _) _).alloc (by simp) _
  simp only [World.size_alloc] at K1
  go_enter Tryz.func22, Tryz.ntmps22
  go_wp2_with (first
    | (go_at_call 52; go_must (refine (DivMod_any _ _ xs ys _ (H1.out.grow pr) (H2.out.grow pr) n1 n2 hy (by omega)).mono ?_; rintro e w1 ⟨r1, r2, zs, rs, rfl, hr1, hn1, hr2, hn2, hv1, hv2, b1⟩; obtain ⟨a3, m3, c3, rfl⟩ := hr1.shape; obtain ⟨a4, m4, c4, rfl⟩ := hr2.shape))
    | fail)
  have J1 := (Bx.new w1 (.slice a3 m3 c3) 48).alloc (.cells #[.slice a4 m4 c4] 48)
  have J2 := Bx.new (w1.alloc (.cells #[.slice a3 m3 c3] 48)) (.slice a4 m4 c4) 48
  simp only [World.size_alloc] at J2
  have ba : Below w1.heap.size w1 ((w1.alloc (.cells #[.slice a3 m3 c3] 48)).alloc (.cells #[.slice a4 m4 c4] 48)) := ((Below.refl _ _).alloc (Nat.le_refl _) _).alloc (by simp) _
  have ls := L.lt_of_cell (K1.grow b1).c0
  replace K0 := (K0.grow b1).grow ba
  replace K1 := (K1.grow b1).grow ba
  have ps := (bel' pr b1).size
  replace pr := bel' (bel' pr b1) ba
  have R3 : Hid (Rd _ (.slice a3 m3 c3) zs) := hr1.grow ba
  have R4 : Hid (Rd _ (.slice a4 m4 c4) rs) := hr2.grow ba
  have V1 : Hid (val zs = val xs / val ys) := hv1
  have V2 : Hid (val rs = val xs % val ys) := hv2
  clear hr1 hr2 hv1 hv2 b1 ba
  generalize (w1.alloc (.cells #[.slice a3 m3 c3] 48)).alloc (.cells #[.slice a4 m4 c4] 48) = W at *
  have x0 := val_nonneg H1.out.1
  have l4 : rs.length ≤ 1000000 := Nat.le_trans (len_mono H2.out.1 R4.out.1 hn2 (by rw [V2.out]; exact Int.le_of_lt (Int.emod_lt_of_pos _ hy))) ly
  have l3 : zs.length ≤ 1000000 := Nat.le_trans (len_mono H1.out.1 R3.out.1 hn1 (by rw [V1.out]; exact Int.ediv_le_self _ x0)) lx
  obtain ⟨q, hq⟩ : ∃ q, decide (val rs = 0) = q := ⟨_, rfl⟩
  obtain ⟨od, hod⟩ : ∃ q, decide (val zs % 2 = 1) = q := ⟨_, rfl⟩
  obtain ⟨cm, hcm⟩ : ∃ q, cmp3 (val rs * 2) (val ys) = q := ⟨_, rfl⟩
  obtain ⟨aw, haw⟩ : ∃ q, awB g od cm k = q := ⟨_, rfl⟩
  have cm3 : cm = -1 ∨ cm = 0 ∨ cm = 1 := by rw [← hcm]; unfold cmp3; split <;> (try split) <;> simp
  have HR : Hid ((if (!q && aw) = true then val zs + 1 else val zs) = rndA g (val xs) (val ys) k) := by
    show _ = _
    unfold rndA
    rw [← V1.out, ← V2.out, hod, hcm, haw, ← hq]
    by_cases hz : val rs = 0 <;> cases aw <;> simp [hz]
  have Z : ∀ x, Below W.heap.size W x → Calls Tryz.prog 51 #[.agg #[.slice a4 m4 c4]] x fun e w' => e = .returned (.bool q) ∧ Below x.heap.size x w' := fun x b => by have := IsZero_any (.slice a4 m4 c4) rs x (R4.out.grow b) hn2; rw [hq] at this; exact this
  have D : ∀ x, Below W.heap.size W x → Calls Tryz.prog 54 #[.agg #[.slice a3 m3 c3]] x fun e w' => e = .returned (.bool od) ∧ Below x.heap.size x w' := fun x b => by have := IsOdd_any (.slice a3 m3 c3) zs x (R3.out.grow b); rw [hod] at this; exact this
  have S : ∀ x, Below W.heap.size W x → Calls Tryz.prog 55 #[.agg #[.slice a4 m4 c4], .int .i64 1] x fun e w' => ∃ a l c ts, e = .returned (.agg #[.slice a l c]) ∧ Rd w' (.slice a l c) ts ∧ Nm ts ∧ val ts = val rs * 2 ∧ ts.length ≤ 1000001 ∧ Below x.heap.size x w' := fun x b => by
    refine (ShiftLeft_one (.slice a4 m4 c4) rs x (R4.out.grow b) hn2 (by omega)).mono ?_
    rintro e w' ⟨r, ts, rfl, hr, hn, hv, hl, bb⟩
    obtain ⟨a, l, c, rfl⟩ := hr.shape
    exact ⟨a, l, c, ts, rfl, hr, hn, hv, by omega, bb⟩
  have C : ∀ x a l c ts, Below W.heap.size W x → Rd x (.slice a l c) ts → Nm ts → val ts = val rs * 2 → ts.length ≤ 1000001 → Calls Tryz.prog 44 #[.agg #[.slice a l c], .agg #[.slice a2 m2 c2]] x fun e w' => e = .returned (.int .i64 cm) ∧ Below x.heap.size x w' := fun x a l c ts b hr hn hv hl => by
    have := Cmp_any (.slice a l c) (.slice a2 m2 c2) ts ys x hr ((H2.out.grow pr).grow b) hn n2 (by omega)
    rw [hv, hcm] at this
    exact this
  have AW : ∀ x, Calls Tryz.prog 53 #[.bool g, .bool od, .int .i64 cm, .int .i64 k] x fun e w' => e = .returned (.bool aw) ∧ w' = x := fun x => by rw [← haw]; exact IsAway_any g od cm k x k1 k6 cm3
  have A1 : ∀ x, Below W.heap.size W x → Calls Tryz.prog 45 #[.int .u64 1] x fun e w' => ∃ a l c ts, e = .returned (.agg #[.slice a l c]) ∧ Rd w' (.slice a l c) ts ∧ Nm ts ∧ val ts = 1 ∧ Below x.heap.size x w' := fun x b => by
    refine (Of_any 1 x (by decide) (by decide)).mono ?_
    rintro e w' ⟨r, ts, rfl, hr, hn, hv, bb⟩
    obtain ⟨a, l, c, rfl⟩ := hr.shape
    exact ⟨a, l, c, ts, rfl, hr, hn, hv, bb⟩
  clear hq hod hcm haw cm3
  go_cut [30] (fun c wc => c = .bool (!q && aw) ∧ Below W.heap.size W wc)
  case first =>
    have e5 := J1.1
    have e6 := J2.1
    have e0 := K0.c0
    have e2 := K0.c2
    cases q
    · go_region_held3 (fun x => x.cell? ⟨w1.heap.size, 0, none⟩ = some (.slice a3 m3 c3) ∧ x.cell? ⟨w1.heap.size + 1, 0, none⟩ = some (.slice a4 m4 c4) ∧ x.cell? ⟨w.heap.size, 0, none⟩ = some (.bool g) ∧ x.cell? ⟨w.heap.size, 2, none⟩ = some (.slice a2 m2 c2)) (go_keep) (first
        | (go_at_call 51; refine (Z _ (Below.refl _ _).drew).mono ?_; rintro e x1 ⟨rfl, b1⟩; have b1 := undrew b1; have p5 := (J1.below b1).1; have p6 := (J2.below b1).1; have p0 := (K0.grow b1).c0; have p2 := (K0.grow b1).c2)
        | (go_at_call 54; refine (D _ b1).mono ?_; rintro e x2 ⟨rfl, b2⟩; have b2 := bel' b1 b2; have p5 := (J1.below b2).1; have p6 := (J2.below b2).1; have p0 := (K0.grow b2).c0; have p2 := (K0.grow b2).c2)
        | (go_at_call 55; refine (S _ b2).mono ?_; rintro e x3 ⟨sa, sl, sc, ts, rfl, hs, hsn, hsv, hsl, b3⟩; have b3 := bel' b2 b3; have p5 := (J1.below b3).1; have p6 := (J2.below b3).1; have p0 := (K0.grow b3).c0; have p2 := (K0.grow b3).c2)
        | (go_at_call 44; refine (C _ _ _ _ ts b3 hs hsn hsv hsl).mono ?_; rintro e x4 ⟨rfl, b4⟩; have b4 := bel' b3 b4; have p5 := (J1.below b4).1; have p6 := (J2.below b4).1; have p0 := (K0.grow b4).c0; have p2 := (K0.grow b4).c2)
        | (go_at_call 53; refine (AW _).mono ?_; rintro e x5 ⟨rfl, rfl⟩)
        | fail)
      all_goals
        go_wp2_with fail
        go_meet
        case rel => exact ⟨rfl, b4⟩
    · rename_i hm hJ
      refine wp_region_held (S := fun _ => True) (by kernel_rfl) (any_inv (fun listed a x => ∃ (y0 y1 y2 y3 y4 y5 y6 y7 y8 y9 y10 y11 y12 y13 y14 y15 : Bool) (t15 t16 t17 t18 t30 : Value), a = ⟨#[.agg #[.bool g, .slice a1 m1 c1, .slice a2 m2 c2], .int .i64 k, .pointer (some ⟨w.heap.size, 0, none⟩), undef, .pointer (some ⟨w.heap.size + 1, 0, none⟩), .pointer (some ⟨w1.heap.size, 0, none⟩), .pointer (some ⟨w1.heap.size + 1, 0, none⟩), .tuple #[.agg #[.slice a3 m3 c3], .agg #[.slice a4 m4 c4]], .pointer (some ⟨w.heap.size, 1, none⟩), .agg #[.slice a1 m1 c1], .pointer (some ⟨w.heap.size, 2, none⟩), .agg #[.slice a2 m2 c2], .tuple #[.agg #[.slice a3 m3 c3], .agg #[.slice a4 m4 c4]], .agg #[.slice a3 m3 c3], .agg #[.slice a4 m4 c4], t15, t16, t17, t18, undef, undef, undef, undef, undef, undef, undef, undef, undef, undef, undef, t30, undef, undef, undef, undef, undef, undef, undef], []⟩ ∧ listed = #[y0, y1, y2, y3, y4, y5, y6, y7, y8, y9, y10, y11, y12, y13, y14, y15] ∧ Below W.heap.size W x ∧ (y0 = true → t15 = .agg #[.slice a4 m4 c4]) ∧ (y1 = true → t16 = .bool true) ∧ (y2 = true → t17 = .bool false) ∧ (y3 = true → t18 = .bool false) ∧ (y15 = true → t30 = .bool false)) ?_ ?_ _ _ _ _ (by decide) ?_)
      · rintro listed a x i ⟨y0, y1, y2, y3, y4, y5, y6, y7, y8, y9, y10, y11, y12, y13, y14, y15, t15, t16, t17, t18, t30, rfl, rfl, bel, h0, h1, h2, h3, h15⟩ hi
        have hr : i < 16 := List.mem_range.1 (List.mem_filter.1 hi).1
        have hc := (List.mem_filter.1 hi).2
        rcases (show i = 0 ∨ i = 1 ∨ i = 2 ∨ i = 3 ∨ i = 4 ∨ i = 5 ∨ i = 6 ∨ i = 7 ∨ i = 8 ∨ i = 9 ∨ i = 10 ∨ i = 11 ∨ i = 12 ∨ i = 13 ∨ i = 14 ∨ i = 15 by omega) with rfl | rfl | rfl | rfl | rfl | rfl | rfl | rfl | rfl | rfl | rfl | rfl | rfl | rfl | rfl | rfl
        · -- operation 0
          clear hc hi
          have e6 := (J2.below bel).1
          refine wpOp_step rfl (fun K hK0 => ?_)
          have hK : Hid _ := hK0
          clear hK0
          rw [if_pos (by rfl)]
          go_wp2_with fail
          exact hK.out _ _ ⟨true, y1, y2, y3, y4, y5, y6, y7, y8, y9, y10, y11, y12, y13, y14, y15, _, t16, t17, t18, t30, rfl, rfl, bel, (fun _ => rfl), h1, h2, h3, h15⟩
        · -- operation 1
          have e0 : y0 = true := by
            revert hc
            cases y0 <;> simp [Region.binds]
          have r0 := h0 e0
          subst r0
          clear hc hi
          refine wpOp_step rfl (fun K hK0 => ?_)
          have hK : Hid _ := hK0
          clear hK0
          rw [if_pos (by rfl)]
          go_wp2_with (first | (go_at_call 51; go_must (refine (Z _ bel).mono ?_; rintro e x2 ⟨rfl, bb⟩)) | fail)
          exact hK.out _ _ ⟨y0, true, y2, y3, y4, y5, y6, y7, y8, y9, y10, y11, y12, y13, y14, y15, _, _, t17, t18, t30, rfl, rfl, (bel' bel bb), (fun _ => rfl), (fun _ => rfl), h2, h3, h15⟩
        · -- operation 2
          have e1 : y1 = true := by
            revert hc
            cases y1 <;> simp [Region.binds]
          have r1 := h1 e1
          subst r1
          clear hc hi
          refine wpOp_step rfl (fun K hK0 => ?_)
          have hK : Hid _ := hK0
          clear hK0
          rw [if_pos (by rfl)]
          go_wp2_with fail
          exact hK.out _ _ ⟨y0, y1, true, y3, y4, y5, y6, y7, y8, y9, y10, y11, y12, y13, y14, y15, t15, _, _, t18, t30, rfl, rfl, bel, h0, (fun _ => rfl), (fun _ => rfl), h3, h15⟩
        · -- operation 3
          have e2 : y2 = true := by
            revert hc
            cases y2 <;> simp [Region.binds]
          have r2 := h2 e2
          subst r2
          clear hc hi
          refine wpOp_step rfl (fun K hK0 => ?_)
          have hK : Hid _ := hK0
          clear hK0
          rw [if_pos (by rfl)]
          go_wp2_with fail
          exact hK.out _ _ ⟨y0, y1, y2, true, y4, y5, y6, y7, y8, y9, y10, y11, y12, y13, y14, y15, t15, t16, _, _, t30, rfl, rfl, bel, h0, h1, (fun _ => rfl), (fun _ => rfl), h15⟩
        · -- operation 4
          have e3 : y3 = true := by
            revert hc
            cases y3 <;> simp [Region.binds]
          have r3 := h3 e3
          subst r3
          clear hc hi
          exact wpOp_skip rfl rfl ⟨y0, y1, y2, y3, true, y5, y6, y7, y8, y9, y10, y11, y12, y13, y14, y15, t15, t16, t17, _, t30, rfl, rfl, bel, h0, h1, h2, (fun _ => rfl), h15⟩
        · -- operation 5
          have e3 : y3 = true := by
            revert hc
            cases y3 <;> simp [Region.binds]
          have r3 := h3 e3
          subst r3
          clear hc hi
          exact wpOp_skip rfl rfl ⟨y0, y1, y2, y3, y4, true, y6, y7, y8, y9, y10, y11, y12, y13, y14, y15, t15, t16, t17, _, t30, rfl, rfl, bel, h0, h1, h2, (fun _ => rfl), h15⟩
        · -- operation 6
          have e3 : y3 = true := by
            revert hc
            cases y3 <;> simp [Region.binds]
          have r3 := h3 e3
          subst r3
          clear hc hi
          exact wpOp_skip rfl rfl ⟨y0, y1, y2, y3, y4, y5, true, y7, y8, y9, y10, y11, y12, y13, y14, y15, t15, t16, t17, _, t30, rfl, rfl, bel, h0, h1, h2, (fun _ => rfl), h15⟩
        · -- operation 7
          have e3 : y3 = true := by
            revert hc
            cases y3 <;> simp [Region.binds]
          have r3 := h3 e3
          subst r3
          clear hc hi
          exact wpOp_skip rfl rfl ⟨y0, y1, y2, y3, y4, y5, y6, true, y8, y9, y10, y11, y12, y13, y14, y15, t15, t16, t17, _, t30, rfl, rfl, bel, h0, h1, h2, (fun _ => rfl), h15⟩
        · -- operation 8
          have e3 : y3 = true := by
            revert hc
            cases y3 <;> simp [Region.binds]
          have r3 := h3 e3
          subst r3
          clear hc hi
          exact wpOp_skip rfl rfl ⟨y0, y1, y2, y3, y4, y5, y6, y7, true, y9, y10, y11, y12, y13, y14, y15, t15, t16, t17, _, t30, rfl, rfl, bel, h0, h1, h2, (fun _ => rfl), h15⟩
        · -- operation 9
          have e3 : y3 = true := by
            revert hc
            cases y3 <;> simp [Region.binds]
          have r3 := h3 e3
          subst r3
          clear hc hi
          exact wpOp_skip rfl rfl ⟨y0, y1, y2, y3, y4, y5, y6, y7, y8, true, y10, y11, y12, y13, y14, y15, t15, t16, t17, _, t30, rfl, rfl, bel, h0, h1, h2, (fun _ => rfl), h15⟩
        · -- operation 10
          have e3 : y3 = true := by
            revert hc
            cases y3 <;> simp [Region.binds]
          have r3 := h3 e3
          subst r3
          clear hc hi
          exact wpOp_skip rfl rfl ⟨y0, y1, y2, y3, y4, y5, y6, y7, y8, y9, true, y11, y12, y13, y14, y15, t15, t16, t17, _, t30, rfl, rfl, bel, h0, h1, h2, (fun _ => rfl), h15⟩
        · -- operation 11
          have e3 : y3 = true := by
            revert hc
            cases y3 <;> simp [Region.binds]
          have r3 := h3 e3
          subst r3
          clear hc hi
          exact wpOp_skip rfl rfl ⟨y0, y1, y2, y3, y4, y5, y6, y7, y8, y9, y10, true, y12, y13, y14, y15, t15, t16, t17, _, t30, rfl, rfl, bel, h0, h1, h2, (fun _ => rfl), h15⟩
        · -- operation 12
          have e3 : y3 = true := by
            revert hc
            cases y3 <;> simp [Region.binds]
          have r3 := h3 e3
          subst r3
          clear hc hi
          exact wpOp_skip rfl rfl ⟨y0, y1, y2, y3, y4, y5, y6, y7, y8, y9, y10, y11, true, y13, y14, y15, t15, t16, t17, _, t30, rfl, rfl, bel, h0, h1, h2, (fun _ => rfl), h15⟩
        · -- operation 13
          have e3 : y3 = true := by
            revert hc
            cases y3 <;> simp [Region.binds]
          have r3 := h3 e3
          subst r3
          clear hc hi
          exact wpOp_skip rfl rfl ⟨y0, y1, y2, y3, y4, y5, y6, y7, y8, y9, y10, y11, y12, true, y14, y15, t15, t16, t17, _, t30, rfl, rfl, bel, h0, h1, h2, (fun _ => rfl), h15⟩
        · -- operation 14
          have e3 : y3 = true := by
            revert hc
            cases y3 <;> simp [Region.binds]
          have r3 := h3 e3
          subst r3
          clear hc hi
          exact wpOp_skip rfl rfl ⟨y0, y1, y2, y3, y4, y5, y6, y7, y8, y9, y10, y11, y12, y13, true, y15, t15, t16, t17, _, t30, rfl, rfl, bel, h0, h1, h2, (fun _ => rfl), h15⟩
        · -- operation 15
          have e3 : y3 = true := by
            revert hc
            cases y3 <;> simp [Region.binds]
          have r3 := h3 e3
          subst r3
          clear hc hi
          refine wpOp_step rfl (fun K hK0 => ?_)
          have hK : Hid _ := hK0
          clear hK0
          rw [if_pos (by rfl)]
          go_wp2_with fail
          exact hK.out _ _ ⟨y0, y1, y2, y3, y4, y5, y6, y7, y8, y9, y10, y11, y12, y13, y14, true, t15, t16, t17, _, _, rfl, rfl, bel, h0, h1, h2, (fun _ => rfl), (fun _ => rfl)⟩
      · rintro listed a x ⟨y0, y1, y2, y3, y4, y5, y6, y7, y8, y9, y10, y11, y12, y13, y14, y15, t15, t16, t17, t18, t30, rfl, rfl, bel, h0, h1, h2, h3, h15⟩ hn
        have al := all_listed (by decide +kernel) hn
        have z := al 15 (by decide)
        have z : y15 = true := z
        have r := h15 z
        subst r
        refine hm _ _ ?_
        go_meet
        case rel => exact ⟨rfl, bel⟩
      · exact ⟨false, false, false, false, false, false, false, false, false, false, false, false, false, false, false, false, undef, undef, undef, undef, undef, rfl, rfl, (Below.refl _ _).drew, (by intro q; cases q), (by intro q; cases q), (by intro q; cases q), (by intro q; cases q), (by intro q; cases q)⟩
  case rest =>
    obtain ⟨rfl, b⟩ := hcut
    generalize (!q && aw) = t at HR
    replace J1 := J1.below b
    replace K0 := K0.grow b
    replace K1 := K1.grow b
    have e5 := J1.1
    have f5 := J1.2
    have e0 := K0.c0
    cases t
    · have OW : ∀ x, Below W.heap.size W x → Calls Tryz.prog 48 #[.bool g, .agg #[.slice a3 m3 c3]] x fun e w' => ∃ a l c us, e = .returned (.agg #[.bool (g && !decide (val zs = 0)), .slice a3 m3 c3, .slice a l c]) ∧ Rd w' (.slice a3 m3 c3) zs ∧ Rd w' (.slice a l c) us ∧ Nm us ∧ val us = 1 ∧ Below x.heap.size x w' := fun x b => by
        refine (OfWhole_any g (.slice a3 m3 c3) zs x (R3.out.grow b) hn1).mono ?_
        rintro e w' ⟨r, us, rfl, o1, o2, o3, o4, o5⟩
        obtain ⟨a, l, c, rfl⟩ := o2.shape
        exact ⟨a, l, c, us, rfl, o1, o2, o3, o4, o5⟩
      obtain ⟨gz, hgz⟩ : ∃ z, (g && !decide (val zs = 0)) = z := ⟨_, rfl⟩
      rw [hgz] at OW
      have HG : Hid ((g && !decide (val zs = 0)) = gz) := hgz
      clear hgz
      go_wp2_with (first
        | (go_at_call 48; go_must (refine (OW _ b).mono ?_; rintro e x6 ⟨a6, m6, c6, us, rfl, o1, o2, o3, o4, o5⟩; have R := K1.grow o5; have r0 := R.c0; have r1 := R.c1; have r2 := R.c2; have s0 := R.f0; have s1 := R.f1; have s2 := R.f2; have O4 : Hid (val us = 1) := o4; clear o4))
        | fail)
      obtain ⟨F0, F1, F2⟩ := R.put (.bool gz) (.slice a3 m3 c3) (.slice a6 m6 c6)
      exact bodyPost_ret (v := .agg #[.bool gz, .slice a3 m3 c3, .slice a6 m6 c6]) (by simp [results, Tryz.results22, go_sem, F0, F1, F2]) rfl ⟨_, _, zs, us, by rw [HG.out], Rd.putF o1 R, hn1, by simpa using HR.out, Rd.putF o2 R, o3, O4.out, bset3 (bel' (bel' pr b) o5) (by omega)⟩
    · have ADD : ∀ x a l c ts, Below W.heap.size W x → Rd x (.slice a l c) ts → Nm ts → val ts = 1 → Calls Tryz.prog 56 #[.agg #[.slice a3 m3 c3], .agg #[.slice a l c]] x fun e w' => ∃ a l c us, e = .returned (.agg #[.slice a l c]) ∧ Rd w' (.slice a l c) us ∧ Nm us ∧ val us = val zs + 1 ∧ Below x.heap.size x w' := fun x a l c ts bx hr hn hv => by
        have lt : ts.length ≤ 1 := len_mono (A := [1]) (Wd.cons (by decide) (by decide) Wd.nil) hr.1 hn (by rw [hv]; decide)
        refine (Add_any (.slice a3 m3 c3) (.slice a l c) zs ts x (R3.out.grow bx) hr (by omega) (by omega)).mono ?_
        rintro e w' ⟨r, us, rfl, o1, o2, o3, o4⟩
        obtain ⟨a, l, c, rfl⟩ := o1.shape
        exact ⟨a, l, c, us, rfl, o1, o2, by rw [o3, hv], o4⟩
      clear Z D S C AW
      go_wp2_with fail
      go_region_with (first
        | (go_at_call 45; refine (A1 _ b.drew).mono ?_; rintro e x1 ⟨a7, l7, c7, ts, rfl, t1, t2, t3, b1⟩; have b1 := undrew b1; have p5 := (J1.below b1).1)
        | (go_at_call 56; refine (ADD _ _ _ _ ts (bel' b b1) t1 t2 t3).mono ?_; rintro e x2 ⟨a8, l8, c8, us, rfl, o1, o2, o3, b2⟩; have b2 := bel' b1 b2; have J2 := J1.below b2; have p5 := J2.1; have p6 := J2.2)
        | fail)
      all_goals
        have JX := (J2.set (.slice a8 l8 c8)).1
        have K0X := (K0.grow b2).skip (m := w1.heap.size) (by omega) (.slice a8 l8 c8)
        have K1X := (K1.grow b2).skip (m := w1.heap.size) (by omega) (.slice a8 l8 c8)
        have RX : Rd (x2.setCell ⟨w1.heap.size, 0, none⟩ (.slice a8 l8 c8)) (.slice a8 l8 c8) us := o1.box J2
        have pX := below_put (bel' (bel' pr b) b2) ps (.slice a8 l8 c8)
        have O3 : Hid (val us = val zs + 1) := o3
        have xz := K0X.c0
        clear e5 f5 e0 p5 p6 J1 J2 K0 K1 b1 b2 t1 t3 o1 o3
        generalize x2.setCell ⟨w1.heap.size, 0, none⟩ (.slice a8 l8 c8) = X at *
        have OW : Calls Tryz.prog 48 #[.bool g, .agg #[.slice a8 l8 c8]] X fun e w' => ∃ a l c vs, e = .returned (.agg #[.bool (g && !decide (val us = 0)), .slice a8 l8 c8, .slice a l c]) ∧ Rd w' (.slice a8 l8 c8) us ∧ Rd w' (.slice a l c) vs ∧ Nm vs ∧ val vs = 1 ∧ Below X.heap.size X w' := by
          refine (OfWhole_any g (.slice a8 l8 c8) us X RX o2).mono ?_
          rintro e w' ⟨r, vs, rfl, o1, o2, o3, o4, o5⟩
          obtain ⟨a, l, c, rfl⟩ := o2.shape
          exact ⟨a, l, c, vs, rfl, o1, o2, o3, o4, o5⟩
        obtain ⟨gz, hgz⟩ : ∃ z, (g && !decide (val us = 0)) = z := ⟨_, rfl⟩
        rw [hgz] at OW
        have HG : Hid ((g && !decide (val us = 0)) = gz) := hgz
        clear hgz
        go_wp2_with (first
          | (go_at_call 48; go_must (refine OW.mono ?_; rintro e x6 ⟨a6, m6, c6, vs, rfl, o1, o2', o3, o4, o5⟩; have R := K1X.grow o5; have r0 := R.c0; have r1 := R.c1; have r2 := R.c2; have s0 := R.f0; have s1 := R.f1; have s2 := R.f2; have O4 : Hid (val vs = 1) := o4; clear o4))
          | fail)
        obtain ⟨F0, F1, F2⟩ := R.put (.bool gz) (.slice a8 l8 c8) (.slice a6 m6 c6)
        exact bodyPost_ret (v := .agg #[.bool gz, .slice a8 l8 c8, .slice a6 m6 c6]) (by simp [results, Tryz.results22, go_sem, F0, F1, F2]) rfl ⟨_, _, us, vs, by rw [HG.out], Rd.putF o1 R, o2, by rw [O3.out]; simpa using HR.out, Rd.putF o2' R, o3, O4.out, bset3 (bel' pX o5) (by omega)⟩
end Go.Proofs.YtejfnplhimfchaaGreatDoor.Mo
