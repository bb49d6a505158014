import Derived.Test.YtfalncbcomlelaaGreatDoorGcd6
namespace Go.Proofs.YtfalncbcomlelaaGreatDoor
open Go.RowKit Tn

theorem Bx.blocks {w w' : World} {n : Nat} {v : Value} (h : Bx w n v) (k : w'.heap[n]? = w.heap[n]?) : Bx w' n v :=
  ⟨(World.cell?_of_block (a := ⟨n, 0, none⟩) k).trans h.1, (World.frozen?_of_block (a := ⟨n, 0, none⟩) k).trans h.2, by obtain ⟨t, e⟩ := h.3; exact ⟨t, k.trans e⟩⟩
theorem mod_uniq {v u P k : Int} (h : v = u + P * k) (v0 : 0 ≤ v) (v1 : v < P) (u0 : 0 ≤ u) (u1 : u < P) : v = u := by
  have hk : k = 0 := by
    by_cases c : k = 0
    · exact c
    · rcases Int.lt_or_gt_of_ne c with c | c
      · have := Int.mul_le_mul_of_nonneg_left (show k ≤ -1 by omega) (show 0 ≤ P by omega); omega
      · have := Int.mul_le_mul_of_nonneg_left (show 1 ≤ k by omega) (show 0 ≤ P by omega); omega
  rw [hk] at h; omega

set_option maxRecDepth 100000 in
set_option maxHeartbeats 3200000 in
theorem apply_all (base gx gy cx cy : Nat) (X Y : List Int) (x0 y0 x1 y1 : Int) (t : Bool) (w : World) (hX : Wd X) (hY : Wd Y) (nX : Nm X) (l1 : 0 < X.length) (l2 : Y.length ≤ X.length) (l3 : X.length ≤ Y.length + 1) (hL : X.length ≤ 274877906944) (hne : gx ≠ gy) (bx : base ≤ gx) (by_ : base ≤ gy)
    (Ox : OwnN w gx cx) (Oy : OwnN w gy cy) (kx : X.length ≤ cx) (ky : Y.length ≤ cy) (kx' : cx ≤ 9223372036854775807) (ky' : cy ≤ 9223372036854775807) (cX : Cells w gx 0 X) (cY : Cells w gy 0 Y)
    (p0 : 0 ≤ x0 ∧ x0 < 18446744073709551616) (q0 : 0 ≤ y0 ∧ y0 < 18446744073709551616) (p1 : 0 ≤ x1 ∧ x1 < 18446744073709551616) (q1 : 0 ≤ y1 ∧ y1 < 18446744073709551616) (A B : Int) (hA : sg t * (x0 * val X - y0 * val Y) = A) (hB : sg t * (y1 * val Y - x1 * val X) = B) (B0 : 0 ≤ B) (BA : B ≤ A) (AX : A ≤ val X) :
    Calls Tryz.prog 100 #[.agg #[.int .u64 x0, .int .u64 y0, .int .u64 x1, .int .u64 y1, .bool t], .slice (some ⟨gx, 0, none⟩) X.length cx, .slice (some ⟨gy, 0, none⟩) Y.length cy] w fun e w' => ∃ g1 g2 n1 n2 k1 k2 zs rs, e = .returned (.tuple #[.agg #[.slice (some ⟨g1, 0, none⟩) n1 k1], .agg #[.slice (some ⟨g2, 0, none⟩) n2 k2]]) ∧ g1 ≠ g2 ∧ base ≤ g1 ∧ base ≤ g2 ∧ OwnN w' g1 k1 ∧ OwnN w' g2 k2 ∧ Rd w' (.slice (some ⟨g1, 0, none⟩) n1 k1) zs ∧ Nm zs ∧ Rd w' (.slice (some ⟨g2, 0, none⟩) n2 k2) rs ∧ Nm rs ∧ val zs = A ∧ val rs = B ∧ Below base w w' := by
  have lx := Ox.own.lt
  have ly := Oy.own.lt
  have HAB : Hid _ := And.intro hA hB
  clear hA hB
  go_enter Tryz.func100, Tryz.ntmps100
  go_upto_if 12 with fail
  have S0 : Blk (((w.alloc (.cells #[.int .u64 x0, .int .u64 y0, .int .u64 x1, .int .u64 y1, .bool t] 130)).alloc (.cells #[.slice none 0 0] 56)).alloc (.cells #[.slice none 0 0] 56)) w.heap.size #[.int .u64 x0, .int .u64 y0, .int .u64 x1, .int .u64 y1, .bool t] 130 := ((Blk.new _ _ _).alloc _).alloc _
  have S1 := (Bx.new (w.alloc (.cells #[.int .u64 x0, .int .u64 y0, .int .u64 x1, .int .u64 y1, .bool t] 130)) (.slice none 0 0) 56).alloc (.cells #[.slice none 0 0] 56)
  have S2 := Bx.new ((w.alloc (.cells #[.int .u64 x0, .int .u64 y0, .int .u64 x1, .int .u64 y1, .bool t] 130)).alloc (.cells #[.slice none 0 0] 56)) (.slice none 0 0) 56
  have pr : Below w.heap.size w (((w.alloc (.cells #[.int .u64 x0, .int .u64 y0, .int .u64 x1, .int .u64 y1, .bool t] 130)).alloc (.cells #[.slice none 0 0] 56)).alloc (.cells #[.slice none 0 0] 56)) := (((Below.refl _ _).alloc (Nat.le_refl _) _).alloc (by simp) _).alloc (by simp; omega) _
  simp only [World.size_alloc] at S1 S2
  have Ox0 := Ox.grow pr; have Oy0 := Oy.grow pr; have cX0 := cX.grow pr; have cY0 := cY.grow pr
  have zsz : w.heap.size < (((w.alloc (.cells #[.int .u64 x0, .int .u64 y0, .int .u64 x1, .int .u64 y1, .bool t] 130)).alloc (.cells #[.slice none 0 0] 56)).alloc (.cells #[.slice none 0 0] 56)).heap.size := by simp only [World.size_alloc]; omega
  have pb : Below base w (((w.alloc (.cells #[.int .u64 x0, .int .u64 y0, .int .u64 x1, .int .u64 y1, .bool t] 130)).alloc (.cells #[.slice none 0 0] 56)).alloc (.cells #[.slice none 0 0] 56)) := pr.mono (by omega)
  generalize ((w.alloc (.cells #[.int .u64 x0, .int .u64 y0, .int .u64 x1, .int .u64 y1, .bool t] 130)).alloc (.cells #[.slice none 0 0] 56)).alloc (.cells #[.slice none 0 0] 56) = w0 at *
  go_cut [2] (fun z wc => ∃ g c V, z = .slice (some ⟨g, 0, none⟩) X.length c ∧ V.length = X.length ∧ Wd V ∧ val V = val Y ∧ Cells wc g 0 V ∧ OwnN wc g c ∧ X.length ≤ c ∧ c ≤ 9223372036854775807 ∧ gx ≠ g ∧ base ≤ g ∧ Cells wc gx 0 X ∧ OwnN wc gx cx ∧ Blk wc w.heap.size #[.int .u64 x0, .int .u64 y0, .int .u64 x1, .int .u64 y1, .bool t] 130 ∧ Bx wc (w.heap.size + 1) (.slice none 0 0) ∧ Bx wc (w.heap.size + 1 + 1) (.slice none 0 0) ∧ Below base w wc)
  case first =>
    by_cases hl : Y.length < X.length
    · have el : X.length = Y.length + 1 := by omega
      have EL : Hid (X.length = Y.length + 1) := el
      clear el
      go_wp2_with (at_builtin; go_must (refine wpList_push0 rfl _ _ rfl gy cy Y.length Y rfl rfl (Oy0.grow ((Below.refl _ _).alloc (Nat.le_refl _) _)) ky' ky (by omega) (cY0.grow ((Below.refl _ _).alloc (Nat.le_refl _) _)) w0.heap.size 1 rfl (by simp) base by_ (by simp; have := pb.size; omega) ?_; intro g' cap' w1 d1 d2 d3 d4 d5 d6))
      have gb : ∀ k, k < w0.heap.size → k ≠ gy → w1.heap[k]? = w0.heap[k]? := fun k hk hn => (d6.block k (by simp; omega) (by simp; omega)).trans (heap_alloc_old _ _ hk)
      have lx0 := Ox0.own.lt
      have Ox1 : OwnN w1 gx cx := by obtain ⟨c, e, z⟩ := Ox0; exact ⟨c, (gb gx lx0 hne).trans e, z⟩
      have cX1 : Cells w1 gx 0 X := fun i hi => (World.cell?_of_block (a := ⟨gx, 0 + i, none⟩) (gb gx lx0 hne)).trans (cX0 i hi)
      have S01 : Blk w1 w.heap.size #[.int .u64 x0, .int .u64 y0, .int .u64 x1, .int .u64 y1, .bool t] 130 := (gb _ S0.lt (by omega)).trans S0
      have S11 : Bx w1 (w.heap.size + 1) (.slice none 0 0) := S1.blocks (gb _ S1.lt (by omega))
      have S21 : Bx w1 (w.heap.size + 1 + 1) (.slice none 0 0) := S2.blocks (gb _ S2.lt (by omega))
      have hgx : gx ≠ g' := by
        rintro rfl
        have a1 := cX1 Y.length (by have := EL.out; omega)
        have a2 := d1 Y.length (by simp)
        rw [a1] at a2
        simp only [nth_pad_last, Option.some.injEq, Value.int.injEq, true_and] at a2
        have a3 := nm_top hX nX l1
        rw [EL.out, Nat.add_sub_cancel] at a3
        omega
      have pb1 : Below base w w1 := (pb.alloc (by have := pb.size; omega) _).grown d6 (by simp; have := pb.size; omega) (fun k e => by simp at e; omega)
      go_meet
      case rel => exact ⟨g', cap', Y ++ [0], by rw [EL.out], by simp; exact EL.out.symm, hY.append (Wd.cons (by omega) (by omega) Wd.nil), val_pad Y, d1, d2, by have := EL.out; omega, d3, hgx, d5, cX1, Ox1, S01, S11, S21, pb1⟩
    · have el : Y.length = X.length := by omega
      go_wp2
      go_meet
      case rel => exact ⟨gy, cy, Y, by rw [el], el, hY, rfl, cY0, Oy0, by omega, ky', hne, by_, cX0, Ox0, S0, S1, S2, pb⟩
  case rest =>
    obtain ⟨g, c, V, rfl, vl, vw, vv, cV, Ov, c2, c3, hg, c4, cX2, Ox2, Q0, Q1, Q2, pc⟩ := hcut
    have hV : Hid (val V = val Y) := vv
    have lb : base ≤ w.heap.size := by omega
    have n1 := Q1.ne cV (by omega)
    have n2 := Q2.ne cV (by omega)
    have s0 : wc.cell? ⟨w.heap.size, 0, none⟩ = some (.int .u64 x0) := Q0.at 0
    have s1 : wc.cell? ⟨w.heap.size, 1, none⟩ = some (.int .u64 y0) := Q0.at 1
    have s2 : wc.cell? ⟨w.heap.size, 2, none⟩ = some (.int .u64 x1) := Q0.at 2
    have s3 : wc.cell? ⟨w.heap.size, 3, none⟩ = some (.int .u64 y1) := Q0.at 3
    have s4 : wc.cell? ⟨w.heap.size, 4, none⟩ = some (.bool t) := Q0.at 4
    clear vv
    cases t
    · have HA : Hid (x0 * val X - y0 * val V = A ∧ y1 * val V - x1 * val X = B) := by
        have h1 := HAB.out.1; have h2 := HAB.out.2
        simp only [sg] at h1 h2
        refine ⟨?_, ?_⟩ <;> (rw [hV.out]; simp at h1 h2; omega)
      go_wp2_with fail
      refine (mix_any gx g X.length X.length cx c X V x0 y0 x1 y1 wc rfl rfl vl hX vw p0 q0 p1 q1 (by omega) cX2 cV Ox2.own Ov.own hg).mono ?_
      rintro e w2 ⟨P, R, rfl, lP, lR, wP, wR, eP, eR, cP, cR, hw⟩
      have xl := val_lt hX
      have vP : Hid (val P = A) := by
        obtain ⟨k, ek⟩ := eP
        rw [HA.out.1] at ek
        have h1 := val_lt wP; rw [lP] at h1
        exact mod_uniq ek (val_nonneg wP) h1 (by omega) (by omega)
      have vR : Hid (val R = B) := by
        obtain ⟨k, ek⟩ := eR
        rw [HA.out.2] at ek
        have h1 := val_lt wR; rw [lR] at h1
        exact mod_uniq ek (val_nonneg wR) h1 (by omega) (by omega)
      have HlP : Hid (P.length = X.length) := lP
      have HlR : Hid (R.length = X.length) := lR
      have OA := hw.own _ _ Ox2
      have OB := hw.own _ _ Ov
      have D1 := Q1.wr2 hw (by omega) n1
      have D2 := Q2.wr2 hw (by omega) n2
      have q2 := pc.trans (hw.below bx c4 (by have := pc.size; omega))
      clear eP eR lP lR s0 s1 s2 s3 s4
      go_wp2_with (first
        | (go_at_call_of 85 gx; refine (trim_rd _ _ _ P w2 HlP.out.symm wP (by rw [HlP.out]; exact kx) kx' (fun _ => ⟨_, _, rfl, cP⟩)).mono ?_; rintro e w3 ⟨m1, zs, rfl, -, r1, nz, vz, b1⟩; have VZ : Hid _ := vz; clear vz; have E1 := D1.below b1; have E2 := D2.below b1)
        | (go_at_call_of 85 g; refine (trim_rd _ _ _ R w3 HlR.out.symm wR (by rw [HlR.out]; exact c2) c3 (fun _ => ⟨_, _, rfl, cR.grow b1⟩)).mono ?_; rintro e w4 ⟨m2, rs, rfl, -, r2, nr, vr, b2⟩; have VR : Hid _ := vr; clear vr; have F1 := E1.below b2; have F2 := E2.below b2; have f1 := F1.1; have f1' := F1.2; have f2 := F2.1; have f2' := F2.2)
        | fail)
      have T := two_boxes (.slice (some ⟨gx, 0, none⟩) m1 cx) (.slice (some ⟨g, 0, none⟩) m2 c) F1 F2
      have t1 := T.1
      have t2 := T.2.1
      have q3 := q2.trans (b1.mono (by have := q2.size; omega))
      have q4 := q3.trans (b2.mono (by have := q3.size; omega))
      refine bodyPost_ret (v := .tuple #[.agg #[.slice (some ⟨gx, 0, none⟩) m1 cx], .agg #[.slice (some ⟨g, 0, none⟩) m2 c]]) (by simp [results, Tryz.results100, go_sem, t1, t2]) rfl ⟨gx, g, m1, m2, cx, c, zs, rs, rfl, hg, bx, c4, ((OA.grow b1).grow b2).put.put, ((OB.grow b1).grow b2).put.put, T.2.2.1 _ _ (r1.grow b2), nz, T.2.2.1 _ _ r2, nr, VZ.out.trans vP.out, VR.out.trans vR.out, T.2.2.2 base w (by omega) q4⟩
    · have HA : Hid (y0 * val V - x0 * val X = A ∧ x1 * val X - y1 * val V = B) := by
        have h1 := HAB.out.1; have h2 := HAB.out.2
        simp only [sg] at h1 h2
        refine ⟨?_, ?_⟩ <;> (rw [hV.out]; simp at h1 h2; omega)
      go_wp2_with fail
      refine (mix_any g gx X.length X.length c cx V X y0 x0 y1 x1 wc vl.symm vl.symm vl.symm vw hX q0 p0 q1 p1 (by omega) cV cX2 Ov.own Ox2.own (Ne.symm hg)).mono ?_
      rintro e w2 ⟨P, R, rfl, lP, lR, wP, wR, eP, eR, cP, cR, hw⟩
      rw [vl] at lP lR eP eR
      have xl := val_lt hX
      have vP : Hid (val P = A) := by
        obtain ⟨k, ek⟩ := eP
        rw [HA.out.1] at ek
        have h1 := val_lt wP; rw [lP] at h1
        exact mod_uniq ek (val_nonneg wP) h1 (by omega) (by omega)
      have vR : Hid (val R = B) := by
        obtain ⟨k, ek⟩ := eR
        rw [HA.out.2] at ek
        have h1 := val_lt wR; rw [lR] at h1
        exact mod_uniq ek (val_nonneg wR) h1 (by omega) (by omega)
      have HlP : Hid (P.length = X.length) := lP
      have HlR : Hid (R.length = X.length) := lR
      have OA := hw.own _ _ Ov
      have OB := hw.own _ _ Ox2
      have D1 := Q1.wr2 hw n1 (by omega)
      have D2 := Q2.wr2 hw n2 (by omega)
      have q2 := pc.trans (hw.below c4 bx (by have := pc.size; omega))
      clear eP eR lP lR s0 s1 s2 s3 s4
      go_wp2_with (first
        | (go_at_call_of 85 g; refine (trim_rd _ _ _ P w2 HlP.out.symm wP (by rw [HlP.out]; exact c2) c3 (fun _ => ⟨_, _, rfl, cP⟩)).mono ?_; rintro e w3 ⟨m1, zs, rfl, -, r1, nz, vz, b1⟩; have VZ : Hid _ := vz; clear vz; have E1 := D1.below b1; have E2 := D2.below b1)
        | (go_at_call_of 85 gx; refine (trim_rd _ _ _ R w3 HlR.out.symm wR (by rw [HlR.out]; exact kx) kx' (fun _ => ⟨_, _, rfl, cR.grow b1⟩)).mono ?_; rintro e w4 ⟨m2, rs, rfl, -, r2, nr, vr, b2⟩; have VR : Hid _ := vr; clear vr; have F1 := E1.below b2; have F2 := E2.below b2; have f1 := F1.1; have f1' := F1.2; have f2 := F2.1; have f2' := F2.2)
        | fail)
      have T := two_boxes (.slice (some ⟨g, 0, none⟩) m1 c) (.slice (some ⟨gx, 0, none⟩) m2 cx) F1 F2
      have t1 := T.1
      have t2 := T.2.1
      have q3 := q2.trans (b1.mono (by have := q2.size; omega))
      have q4 := q3.trans (b2.mono (by have := q3.size; omega))
      refine bodyPost_ret (v := .tuple #[.agg #[.slice (some ⟨g, 0, none⟩) m1 c], .agg #[.slice (some ⟨gx, 0, none⟩) m2 cx]]) (by simp [results, Tryz.results100, go_sem, t1, t2]) rfl ⟨g, gx, m1, m2, c, cx, zs, rs, rfl, Ne.symm hg, c4, bx, ((OA.grow b1).grow b2).put.put, ((OB.grow b1).grow b2).put.put, T.2.2.1 _ _ (r1.grow b2), nz, T.2.2.1 _ _ r2, nr, VZ.out.trans vP.out, VR.out.trans vR.out, T.2.2.2 base w (by omega) q4⟩
end Go.Proofs.YtfalncbcomlelaaGreatDoor
