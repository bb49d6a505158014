import Derived.Test.YtfalncbcomlelaaGreatDoorLong2
import Derived.Test.YtfalncbcomlelaaGreatDoorMul3
namespace Go.Proofs.YtfalncbcomlelaaGreatDoor
open Go.RowKit Tn

/-- Two results go into their cells. -/
theorem two_boxes {w8 : World} {n : Nat} {a1 a2 : Option Addr} {l1 k1 l2 k2 : Nat} (u1 u2 : Value) (C2 : Bx w8 n (.slice a1 l1 k1)) (C3 : Bx w8 (n + 1) (.slice a2 l2 k2)) :
    ((w8.setCell ⟨n, 0, none⟩ u1).setCell ⟨n + 1, 0, none⟩ u2).cell? ⟨n, 0, none⟩ = some u1 ∧ ((w8.setCell ⟨n, 0, none⟩ u1).setCell ⟨n + 1, 0, none⟩ u2).cell? ⟨n + 1, 0, none⟩ = some u2 ∧
    (∀ v xs, Rd w8 v xs → Rd ((w8.setCell ⟨n, 0, none⟩ u1).setCell ⟨n + 1, 0, none⟩ u2) v xs) ∧ (∀ B w, B ≤ n → Below B w w8 → Below B w ((w8.setCell ⟨n, 0, none⟩ u1).setCell ⟨n + 1, 0, none⟩ u2)) := by
  have Wa : Wr n 0 1 w8 (w8.setCell ⟨n, 0, none⟩ u1) := (Wr.refl _ _ _ _).setCell 0 (by omega) _
  have C3a := C3.wr Wa (by omega)
  refine ⟨?_, World.cell?_setCell_same _ _ _ C3a.1, fun v xs h => (h.box C2).box C3a, fun B w hB h => below_put (below_put h hB _) (by omega) _⟩
  rw [World.cell?_setCell_other _ _ _ _ (by simp), World.cell?_setCell_same _ _ _ C2.1]

theorem cmp3_ge {x y : Int} (h : y ≤ x) : 0 ≤ cmp3 x y := by
  unfold cmp3; rw [if_neg (by omega)]; split <;> omega
theorem Rd.at {w : World} {a : Option Addr} {l c : Nat} {xs : List Int} (h : Rd w (.slice a l c) xs) : 0 < xs.length → ∃ b o, a = some ⟨b, o, none⟩ ∧ Cells w b o xs := by
  obtain ⟨_, a', c', e, _, _, g⟩ := h
  simp only [Value.slice.injEq] at e
  obtain ⟨rfl, _, _⟩ := e
  exact g
/-- (Nat).divideLong. -/
theorem divLong_any (v1 v2 : Value) (xs ys : List Int) (w : World) (h1 : Rd w v1 xs) (h2 : Rd w v2 ys) (n2 : Nm ys) (hl : 2 ≤ ys.length) (hle : ys.length ≤ xs.length) (hL : xs.length ≤ 274877906944) :
    Calls Tryz.prog 127 #[.agg #[v1], .agg #[v2]] w fun e w' => ∃ r1 r2 zs rs, e = .returned (.tuple #[.agg #[r1], .agg #[r2]]) ∧ Rd w' r1 zs ∧ Nm zs ∧ Rd w' r2 rs ∧ Nm rs ∧ val xs = val zs * val ys + val rs ∧ val rs < val ys ∧ Fresh w.heap.size w' r2 ∧ Below w.heap.size w w' := by
  obtain ⟨wx, a1, c1, rfl, _, _, g1⟩ := h1
  obtain ⟨wy, a2, c2, rfl, _, _, g2⟩ := h2
  obtain ⟨b, o, rfl, hc⟩ := g2 (by omega)
  obtain ⟨m, hm⟩ : ∃ m, ys.length = m + 2 := ⟨ys.length - 2, by omega⟩
  have ht := nm_top wy n2 (by omega)
  rw [hm] at ht ⊢
  exact divLong_all a1 b o c1 c2 xs ys m w wx wy hm ht hle hL g1 hc

set_option maxRecDepth 100000 in
set_option maxHeartbeats 800000 in
theorem divmod_lt (v1 v2 : Value) (a1 a2 : Option Addr) (c1 c2 : Nat) (xs ys : List Int) (w : World) (e1 : v1 = .slice a1 xs.length c1) (e2 : v2 = .slice a2 ys.length c2) (h1 : Rd w v1 xs) (h2 : Rd w v2 ys) (n1 : Nm xs) (n2 : Nm ys) (hlt : val xs < val ys) (hL : xs.length ≤ 274877906944) :
    Calls Tryz.prog 99 #[.agg #[v1], .agg #[v2]] w fun e w' => ∃ r1 r2 zs rs, e = .returned (.tuple #[.agg #[r1], .agg #[r2]]) ∧ Rd w' r1 zs ∧ Nm zs ∧ Rd w' r2 rs ∧ Nm rs ∧ val xs = val zs * val ys + val rs ∧ val rs < val ys ∧ Below w.heap.size w w' := by
  have H1 : Hid (Rd w v1 xs) := h1
  have H2 : Hid (Rd w v2 ys) := h2
  have HC : Hid (cmp3 (val xs) (val ys) = -1) := cmp3_lt hlt
  have HT : Hid (val xs < val ys) := hlt
  clear h1 h2 hlt
  subst e1 e2
  have pr : Below w.heap.size w ((((w.alloc (.cells #[.slice a1 xs.length c1] 56)).alloc (.cells #[.slice a2 ys.length c2] 56)).alloc (.cells #[.slice none 0 0] 56)).alloc (.cells #[.slice none 0 0] 56)) := ((((Below.refl _ _).alloc (Nat.le_refl _) _).alloc (by simp) _).alloc (by simp; omega) _).alloc (by simp; omega) _
  go_enter Tryz.func99, Tryz.ntmps99
  go_wp2_with (go_at_call 61; refine (Cmp_any _ _ xs ys _ (H1.out.grow pr) (H2.out.grow pr) n1 n2 (by omega)).mono ?_; rintro e w1 ⟨rfl, hb⟩; rw [HC.out]; have X0 := ((((Bx.new w _ _).alloc _).alloc _).alloc _).below hb; have X2 := ((Bx.new _ _ _).alloc _).below hb; have X3 := (Bx.new _ _ _).below hb; simp only [World.size_alloc] at X2 X3; have x0 := X0.1; have x2 := X2.1; have x2' := X2.2; have x3 := X3.1; have x3' := X3.2)
  go_region
  all_goals
    have T := two_boxes (.slice none 0 0) (.slice a1 xs.length c1) X2 X3
    have f1 := T.1
    have f2 := T.2.1
    have rd : Rd w1 (.slice a1 xs.length c1) xs := (H1.out.grow pr).grow hb
    have prZ := T.2.2.2 w.heap.size w (by omega) (pr.trans (hb.mono pr.size))
    go_wp2
    refine bodyPost_ret (v := .tuple #[.agg #[.slice none 0 0], .agg #[.slice a1 xs.length c1]]) (by simp [results, Tryz.results99, go_sem, f1, f2]) rfl ⟨_, _, [], xs, rfl, (T.2.2.1 _ _ (Rd.nil _)).drew, Nm.nil, (T.2.2.1 _ _ rd).drew, n1, by simp [val], HT.out, prZ.drew⟩
set_option maxRecDepth 100000 in
set_option maxHeartbeats 800000 in
theorem divmod_long (v1 v2 : Value) (a1 a2 : Option Addr) (c1 c2 : Nat) (xs ys : List Int) (w : World) (e1 : v1 = .slice a1 xs.length c1) (e2 : v2 = .slice a2 ys.length c2) (h1 : Rd w v1 xs) (h2 : Rd w v2 ys) (n1 : Nm xs) (n2 : Nm ys) (hge : val ys ≤ val xs) (hl : 2 ≤ ys.length) (hL : xs.length ≤ 274877906944) :
    Calls Tryz.prog 99 #[.agg #[v1], .agg #[v2]] w fun e w' => ∃ r1 r2 zs rs, e = .returned (.tuple #[.agg #[r1], .agg #[r2]]) ∧ Rd w' r1 zs ∧ Nm zs ∧ Rd w' r2 rs ∧ Nm rs ∧ val xs = val zs * val ys + val rs ∧ val rs < val ys ∧ Fresh w.heap.size w' r2 ∧ Below w.heap.size w w' := by
  have H1 : Hid (Rd w v1 xs) := h1
  have H2 : Hid (Rd w v2 ys) := h2
  have hc := cmp3_ge hge
  have hle : ys.length ≤ xs.length := by
    by_cases h : ys.length ≤ xs.length
    · exact h
    · have := val_lt_of_length h1.1 h2.1 n2 (by omega); omega
  clear h1 h2 hge
  subst e1 e2
  have hne : ((ys.length : Int) == 1) = false := by rw [beq_eq_false_iff_ne]; omega
  have pr : Below w.heap.size w ((((w.alloc (.cells #[.slice a1 xs.length c1] 56)).alloc (.cells #[.slice a2 ys.length c2] 56)).alloc (.cells #[.slice none 0 0] 56)).alloc (.cells #[.slice none 0 0] 56)) := ((((Below.refl _ _).alloc (Nat.le_refl _) _).alloc (by simp) _).alloc (by simp; omega) _).alloc (by simp; omega) _
  go_enter Tryz.func99, Tryz.ntmps99
  go_wp2_with (first
    | (go_at_call 61; refine (Cmp_any _ _ xs ys _ (H1.out.grow pr) (H2.out.grow pr) n1 n2 (by omega)).mono ?_; rintro e w1 ⟨rfl, hb⟩; have X0 := ((((Bx.new w _ _).alloc _).alloc _).alloc _).below hb; have X1 := (((Bx.new _ _ _).alloc _).alloc _).below hb; have X2 := ((Bx.new _ _ _).alloc _).below hb; have X3 := (Bx.new _ _ _).below hb; simp only [World.size_alloc] at X1 X2 X3; have x0 := X0.1; have x1 := X1.1)
    | (go_at_call 127; refine (divLong_any _ _ xs ys _ ((H1.out.grow pr).grow hb) ((H2.out.grow pr).grow hb) n2 hl hle hL).mono ?_; rintro e w2 ⟨r1, r2, zs, rs, rfl, hr1, hn1, hr2, hn2, hv, hlt, hfr, hb2⟩; obtain ⟨p1, p2, p3, rfl⟩ := hr1.shape; obtain ⟨p4, p5, p6, rfl⟩ := hr2.shape; have HV : Hid _ := hv; clear hv; have Y2 := X2.below hb2; have Y3 := X3.below hb2; have y2 := Y2.1; have y2' := Y2.2; have y3 := Y3.1; have y3' := Y3.2))
  have T := two_boxes (.slice p1 p2 p3) (.slice p4 p5 p6) Y2 Y3
  have f1 := T.1
  have f2 := T.2.1
  have p7 := pr.trans (hb.mono pr.size)
  have prZ := T.2.2.2 w.heap.size w (by omega) (p7.trans (hb2.mono p7.size))
  refine bodyPost_ret (v := .tuple #[.agg #[.slice p1 p2 p3], .agg #[.slice p4 p5 p6]]) (by simp [results, Tryz.results99, go_sem, f1, f2]) rfl ⟨_, _, zs, rs, rfl, T.2.2.1 _ _ hr1, hn1, T.2.2.1 _ _ hr2, hn2, HV.out, hlt, (hfr.mono p7.size).put.put, prZ⟩

set_option maxRecDepth 100000 in
set_option maxHeartbeats 800000 in
theorem divmod_word (v1 : Value) (a1 : Option Addr) (c1 c2 yb yo : Nat) (d : Int) (xs : List Int) (w : World) (e1 : v1 = .slice a1 xs.length c1) (h1 : Rd w v1 xs) (h2 : Rd w (.slice (some ⟨yb, yo, none⟩) 1 c2) [d]) (hcd : w.cell? ⟨yb, yo, none⟩ = some (.int .u64 d)) (n1 : Nm xs) (d0 : 0 < d) (d1 : d < 18446744073709551616) (hge : d ≤ val xs) (hL : xs.length ≤ 274877906944) :
    Calls Tryz.prog 99 #[.agg #[v1], .agg #[.slice (some ⟨yb, yo, none⟩) 1 c2]] w fun e w' => ∃ r1 r2 zs rs, e = .returned (.tuple #[.agg #[r1], .agg #[r2]]) ∧ Rd w' r1 zs ∧ Nm zs ∧ Rd w' r2 rs ∧ Nm rs ∧ val xs = val zs * d + val rs ∧ val rs < d ∧ Below w.heap.size w w' := by
  have H1 : Hid (Rd w v1 xs) := h1
  have H2 : Hid (Rd w (.slice (some ⟨yb, yo, none⟩) 1 c2) [d]) := h2
  have n2 : Nm [d] := Or.inr (by simp; omega)
  have vd : Hid (val [d] = d) := by show _ = _; simp [val]
  have hc := cmp3_ge (x := val xs) (y := val [d]) (by rw [vd.out]; exact hge)
  have hw := h1.1
  have ly := lt_of_cell hcd
  clear h1 h2
  subst e1
  have pr : Below w.heap.size w ((((w.alloc (.cells #[.slice a1 xs.length c1] 56)).alloc (.cells #[.slice (some ⟨yb, yo, none⟩) 1 c2] 56)).alloc (.cells #[.slice none 0 0] 56)).alloc (.cells #[.slice none 0 0] 56)) := ((((Below.refl _ _).alloc (Nat.le_refl _) _).alloc (by simp) _).alloc (by simp; omega) _).alloc (by simp; omega) _
  go_enter Tryz.func99, Tryz.ntmps99
  go_wp2_with (first
    | (go_at_call 61; refine (Cmp_any _ _ xs [d] _ (H1.out.grow pr) (H2.out.grow pr) n1 n2 (by omega)).mono ?_; rintro e w1 ⟨rfl, hb⟩; have X0 := ((((Bx.new w _ _).alloc _).alloc _).alloc _).below hb; have X1 := (((Bx.new _ _ _).alloc _).alloc _).below hb; have X2 := ((Bx.new _ _ _).alloc _).below hb; have X3 := (Bx.new _ _ _).below hb; simp only [World.size_alloc] at X1 X2 X3; have x0 := X0.1; have x1 := X1.1; have q1 := pr.trans (hb.mono pr.size))
    | (at_make; refine wpList_make_words rfl _ _ rfl xs.length _ _ rfl rfl rfl rfl (by omega) ?_; intro w2 k1 k2 k3 k4; have Y0 := X0.below k3; have Y1 := X1.below k3; have Y2 := X2.below k3; have Y3 := X3.below k3; have y0 := Y0.1; have q2 := q1.trans (k3.mono q1.size); have rdx := H1.out.grow q2; have g1 : w.heap.size + 1 + 1 + 1 < w1.heap.size := X3.lt)
    | ((with_reducible refine at_copy ?_); refine wpList_copy_words rfl _ _ rfl (List.replicate xs.length 0) xs _ 0 _ a1 _ _ _ rfl rfl (by simp) rfl (by simp) k1 k2 rdx.at ?_; intro w3 k5 k6; rw [List.drop_of_length_le (by simp), List.append_nil] at k5; have Z1 := Y1.wr k6 (by omega); have Z2 := Y2.wr k6 (by omega); have Z3 := Y3.wr k6 (by omega); have z1 := Z1.1; have q3 := q2.trans (k6.below (B := w.heap.size) (by omega) (by omega)); have zd := (q3.cell (p := ⟨yb, yo, none⟩) ly).trans hcd)
    | fail)
  have O3 := k2.wr k6
  have g3 : w1.heap.size < w3.heap.size := by have := k6.size; omega
  refine (divWord_any _ 0 _ _ xs d w3 rfl hw d0 d1 (by omega) k5 (O3.free _ _)).mono ?_
  rintro e w4 ⟨S', r, rfl, r0, r1, hSl, hSw, hSv, hSc, hSr⟩
  have V2 := Z2.wr hSr (by omega); have V3 := Z3.wr hSr (by omega)
  have q4 := q3.trans (hSr.below (B := w.heap.size) (by omega) (by omega))
  have HSl : Hid (S'.length = xs.length) := hSl
  have HSv : Hid (val S' * d + r = val xs) := hSv
  clear hSl hSv x0 x1 y0 z1 zd k5 k6 k1 k2
  go_wp2_with (first
    | (go_at_call 85; refine (trim_rd _ _ _ S' w4 HSl.out.symm hSw (by rw [HSl.out]; exact Nat.le_refl _) (by omega) (fun _ => ⟨_, _, rfl, hSc⟩)).mono ?_; rintro e w5 ⟨n, zs, rfl, -, hrd, hnm, hvz, hbl⟩; have HVZ : Hid (val zs = val S') := hvz; clear hvz; have U2 := V2.below hbl; have U3 := V3.below hbl; have q5 := q4.trans (hbl.mono q4.size))
    | (go_at_call 59; refine (Of_any r _ r0 (by omega)).mono ?_; rintro e w6 ⟨r2, rs, rfl, hrd2, hnm2, hvr, hbl2⟩; obtain ⟨p4, p5, p6, rfl⟩ := hrd2.shape; have HVR : Hid (val rs = r) := hvr; clear hvr; have T2 := U2.below hbl2; have T3 := U3.below hbl2; have t2 := T2.1; have t2' := T2.2; have t3 := T3.1; have t3' := T3.2; have q6 := q5.trans (hbl2.mono q5.size))
    | fail)
  have T := two_boxes (.slice (some ⟨w1.heap.size, 0, none⟩) n xs.length) (.slice p4 p5 p6) T2 T3
  have f1 := T.1
  have f2 := T.2.1
  have prZ := T.2.2.2 w.heap.size w (by omega) q6
  refine bodyPost_ret (v := .tuple #[.agg #[.slice (some ⟨w1.heap.size, 0, none⟩) n xs.length], .agg #[.slice p4 p5 p6]]) (by simp [results, Tryz.results99, go_sem, f1, f2]) rfl ⟨_, _, zs, rs, rfl, T.2.2.1 _ _ (hrd.grow hbl2), hnm, T.2.2.1 _ _ hrd2, hnm2, by rw [HVZ.out, HVR.out]; exact HSv.out.symm, by rw [HVR.out]; exact r1, prZ⟩

/-- (Nat).DivMod, of two numbers, the second one not nought. -/
theorem DivMod_any (v1 v2 : Value) (xs ys : List Int) (w : World) (h1 : Rd w v1 xs) (h2 : Rd w v2 ys) (n1 : Nm xs) (n2 : Nm ys) (hy : 0 < val ys) (hL : xs.length ≤ 274877906944) :
    Calls Tryz.prog 99 #[.agg #[v1], .agg #[v2]] w fun e w' => ∃ r1 r2 zs rs, e = .returned (.tuple #[.agg #[r1], .agg #[r2]]) ∧ Rd w' r1 zs ∧ Nm zs ∧ Rd w' r2 rs ∧ Nm rs ∧ val zs = val xs / val ys ∧ val rs = val xs % val ys ∧ Below w.heap.size w w' := by
  have fin : Calls Tryz.prog 99 #[.agg #[v1], .agg #[v2]] w fun e w' => ∃ r1 r2 zs rs, e = .returned (.tuple #[.agg #[r1], .agg #[r2]]) ∧ Rd w' r1 zs ∧ Nm zs ∧ Rd w' r2 rs ∧ Nm rs ∧ val xs = val zs * val ys + val rs ∧ val rs < val ys ∧ Below w.heap.size w w' := by
    obtain ⟨_, a1, c1, e1, _, _, _⟩ := id h1
    obtain ⟨wy, a2, c2, e2, _, _, g2⟩ := id h2
    by_cases h : val xs < val ys
    · exact divmod_lt v1 v2 a1 a2 c1 c2 xs ys w e1 e2 h1 h2 n1 n2 h hL
    · by_cases hl : ys.length = 1
      · obtain ⟨b, o, rfl, hc⟩ := g2 (by omega)
        obtain ⟨d, rfl⟩ : ∃ d, ys = [d] := List.length_eq_one_iff.1 hl
        have hv : val [d] = d := by simp [val]
        rw [hv] at h hy ⊢
        have hcd := hc 0 (by simp)
        subst e2
        exact divmod_word v1 a1 c1 c2 b o d xs w e1 h1 h2 (by simpa [nth] using hcd) n1 hy (wy.head).2 (by omega) hL
      · have hl2 : 2 ≤ ys.length := by
          by_cases h0 : ys.length = 0
          · have := List.eq_nil_of_length_eq_zero h0; subst this; simp [val] at hy
          · omega
        refine (divmod_long v1 v2 a1 a2 c1 c2 xs ys w e1 e2 h1 h2 n1 n2 (by omega) hl2 hL).mono ?_
        rintro e w' ⟨r1, r2, zs, rs, he, a, b, c, d, hv, hlt, _, hb⟩
        exact ⟨r1, r2, zs, rs, he, a, b, c, d, hv, hlt, hb⟩
  refine fin.mono ?_
  rintro e w' ⟨r1, r2, zs, rs, he, a, b, c, d, hv, hlt, hb⟩
  refine ⟨r1, r2, zs, rs, he, a, b, c, d, ?_, ?_, hb⟩
  · rw [hv, Int.add_comm, Int.add_mul_ediv_right _ _ (by omega), Int.ediv_eq_zero_of_lt (val_nonneg c.1) hlt]; omega
  · rw [hv, Int.add_comm, Int.add_mul_emod_self_right, Int.emod_eq_of_lt (val_nonneg c.1) hlt]
end Go.Proofs.YtfalncbcomlelaaGreatDoor
