import Derived.Test.YtmopfnhjooopkaaGreatDoorPart22
import Derived.Deep.RegionHeld3
import Derived.Laws.Strings
import Derived.Test.YtmopfnhjooopkaaGreatDoorPart02

namespace Go.Proofs.YtmopfnhjooopkaaGreatDoor
open Go.RowKit Tn

theorem Bx.blocks {w w' : World} {n : Nat} {v : Value} (h : Bx w n v) (k : w'.heap[n]? = w.heap[n]?) : Bx w' n v :=
  ⟨(World.cell?_of_block (a := ⟨n, 0, none⟩) k).trans h.1, (World.frozen?_of_block (a := ⟨n, 0, none⟩) k).trans h.2, by obtain ⟨t, e⟩ := h.3; exact ⟨t, k.trans e⟩⟩
theorem mod_uniq {v u P k : Int} (h : v = u + P * k) (v0 : 0 ≤ v) (v1 : v < P) (u0 : 0 ≤ u) (u1 : u < P) : v = u := by
  have hk : k = 0 := by
    by_cases c : k = 0
    · exact c
    · rcases Int.lt_or_gt_of_ne c with c | c
      · have := Int.mul_le_mul_of_nonneg_left (show k ≤ -1 by omega) (show 0 ≤ P by omega); omega
      · have := Int.mul_le_mul_of_nonneg_left (show 1 ≤ k by omega) (show 0 ≤ P by omega); omega
  rw [hk] at h; omega

set_option maxRecDepth 100000 in
set_option maxHeartbeats 3200000 in
theorem apply_all (base gx gy cx cy : Nat) (X Y : List Int) (x0 y0 x1 y1 : Int) (t : Bool) (w : World) (hX : Wd X) (hY : Wd Y) (nX : Nm X) (l1 : 0 < X.length) (l2 : Y.length ≤ X.length) (l3 : X.length ≤ Y.length + 1) (hL : X.length ≤ 274877906944) (hne : gx ≠ gy) (bx : base ≤ gx) (by_ : base ≤ gy)
    (Ox : OwnN w gx cx) (Oy : OwnN w gy cy) (kx : X.length ≤ cx) (ky : Y.length ≤ cy) (kx' : cx ≤ 9223372036854775807) (ky' : cy ≤ 9223372036854775807) (cX : Cells w gx 0 X) (cY : Cells w gy 0 Y)
    (p0 : 0 ≤ x0 ∧ x0 < 18446744073709551616) (q0 : 0 ≤ y0 ∧ y0 < 18446744073709551616) (p1 : 0 ≤ x1 ∧ x1 < 18446744073709551616) (q1 : 0 ≤ y1 ∧ y1 < 18446744073709551616) (A B : Int) (hA : sg t * (x0 * val X - y0 * val Y) = A) (hB : sg t * (y1 * val Y - x1 * val X) = B) (B0 : 0 ≤ B) (BA : B ≤ A) (AX : A ≤ val X) :
    Calls Tryz.prog 147 #[.agg #[.int .u64 x0, .int .u64 y0, .int .u64 x1, .int .u64 y1, .bool t], .slice (some ⟨gx, 0, none⟩) X.length cx, .slice (some ⟨gy, 0, none⟩) Y.length cy] w fun e w' => ∃ g1 g2 n1 n2 k1 k2 zs rs, e = .returned (.tuple #[.agg #[.slice (some ⟨g1, 0, none⟩) n1 k1], .agg #[.slice (some ⟨g2, 0, none⟩) n2 k2]]) ∧ g1 ≠ g2 ∧ base ≤ g1 ∧ base ≤ g2 ∧ OwnN w' g1 k1 ∧ OwnN w' g2 k2 ∧ Rd w' (.slice (some ⟨g1, 0, none⟩) n1 k1) zs ∧ Nm zs ∧ Rd w' (.slice (some ⟨g2, 0, none⟩) n2 k2) rs ∧ Nm rs ∧ val zs = A ∧ val rs = B ∧ Below base w w' := by
  have lx := Ox.own.lt
  have ly := Oy.own.lt
  have HAB : Hid _ := And.intro hA hB
  clear hA hB
  go_enter Tryz.func147, Tryz.ntmps147
  go_upto_if 12 with fail
  have S0 : Blk (((w.alloc (.cells #[.int .u64 x0, .int .u64 y0, .int .u64 x1, .int .u64 y1, .bool t] 160)).alloc (.cells #[.slice none 0 0] 55)).alloc (.cells #[.slice none 0 0] 55)) w.heap.size #[.int .u64 x0, .int .u64 y0, .int .u64 x1, .int .u64 y1, .bool t] 160 := ((Blk.new _ _ _).alloc _).alloc _
  have S1 := (Bx.new (w.alloc (.cells #[.int .u64 x0, .int .u64 y0, .int .u64 x1, .int .u64 y1, .bool t] 160)) (.slice none 0 0) 55).alloc (.cells #[.slice none 0 0] 55)
  have S2 := Bx.new ((w.alloc (.cells #[.int .u64 x0, .int .u64 y0, .int .u64 x1, .int .u64 y1, .bool t] 160)).alloc (.cells #[.slice none 0 0] 55)) (.slice none 0 0) 55
  have pr : Below w.heap.size w (((w.alloc (.cells #[.int .u64 x0, .int .u64 y0, .int .u64 x1, .int .u64 y1, .bool t] 160)).alloc (.cells #[.slice none 0 0] 55)).alloc (.cells #[.slice none 0 0] 55)) := (((Below.refl _ _).alloc (Nat.le_refl _) _).alloc (by simp) _).alloc (by simp; omega) _
  simp only [World.size_alloc] at S1 S2
  have Ox0 := Ox.grow pr; have Oy0 := Oy.grow pr; have cX0 := cX.grow pr; have cY0 := cY.grow pr
  have zsz : w.heap.size < (((w.alloc (.cells #[.int .u64 x0, .int .u64 y0, .int .u64 x1, .int .u64 y1, .bool t] 160)).alloc (.cells #[.slice none 0 0] 55)).alloc (.cells #[.slice none 0 0] 55)).heap.size := by simp only [World.size_alloc]; omega
  have pb : Below base w (((w.alloc (.cells #[.int .u64 x0, .int .u64 y0, .int .u64 x1, .int .u64 y1, .bool t] 160)).alloc (.cells #[.slice none 0 0] 55)).alloc (.cells #[.slice none 0 0] 55)) := pr.mono (by omega)
  generalize ((w.alloc (.cells #[.int .u64 x0, .int .u64 y0, .int .u64 x1, .int .u64 y1, .bool t] 160)).alloc (.cells #[.slice none 0 0] 55)).alloc (.cells #[.slice none 0 0] 55) = w0 at *
  go_cut [2] (fun z wc => ∃ g c V, z = .slice (some ⟨g, 0, none⟩) X.length c ∧ V.length = X.length ∧ Wd V ∧ val V = val Y ∧ Cells wc g 0 V ∧ OwnN wc g c ∧ X.length ≤ c ∧ c ≤ 9223372036854775807 ∧ gx ≠ g ∧ base ≤ g ∧ Cells wc gx 0 X ∧ OwnN wc gx cx ∧ Blk wc w.heap.size #[.int .u64 x0, .int .u64 y0, .int .u64 x1, .int .u64 y1, .bool t] 160 ∧ Bx wc (w.heap.size + 1) (.slice none 0 0) ∧ Bx wc (w.heap.size + 1 + 1) (.slice none 0 0) ∧ Below base w wc)
  case first =>
    by_cases hl : Y.length < X.length
    · have el : X.length = Y.length + 1 := by omega
      have EL : Hid (X.length = Y.length + 1) := el
      clear el
      go_wp2_with (at_builtin; go_must (refine wpList_push0 rfl _ _ rfl gy cy Y.length Y rfl rfl (Oy0.grow ((Below.refl _ _).alloc (Nat.le_refl _) _)) ky' ky (by omega) (cY0.grow ((Below.refl _ _).alloc (Nat.le_refl _) _)) w0.heap.size 1 rfl (by simp) base by_ (by simp; have := pb.size; omega) ?_; intro g' cap' w1 d1 d2 d3 d4 d5 d6))
      have gb : ∀ k, k < w0.heap.size → k ≠ gy → w1.heap[k]? = w0.heap[k]? := fun k hk hn => (d6.block k (by simp; omega) (by simp; omega)).trans (heap_alloc_old _ _ hk)
      have lx0 := Ox0.own.lt
      have Ox1 : OwnN w1 gx cx := by obtain ⟨c, e, z⟩ := Ox0; exact ⟨c, (gb gx lx0 hne).trans e, z⟩
      have cX1 : Cells w1 gx 0 X := fun i hi => (World.cell?_of_block (a := ⟨gx, 0 + i, none⟩) (gb gx lx0 hne)).trans (cX0 i hi)
      have S01 : Blk w1 w.heap.size #[.int .u64 x0, .int .u64 y0, .int .u64 x1, .int .u64 y1, .bool t] 160 := (gb _ S0.lt (by omega)).trans S0
      have S11 : Bx w1 (w.heap.size + 1) (.slice none 0 0) := S1.blocks (gb _ S1.lt (by omega))
      have S21 : Bx w1 (w.heap.size + 1 + 1) (.slice none 0 0) := S2.blocks (gb _ S2.lt (by omega))
      have hgx : gx ≠ g' := by
        rintro rfl
        have a1 := cX1 Y.length (by have := EL.out; omega)
        have a2 := d1 Y.length (by simp)
        rw [a1] at a2
        simp only [nth_pad_last, Option.some.injEq, Value.int.injEq, true_and] at a2
        have a3 := nm_top hX nX l1
        rw [EL.out, Nat.add_sub_cancel] at a3
        omega
      have pb1 : Below base w w1 := (pb.alloc (by have := pb.size; omega) _).grown d6 (by simp; have := pb.size; omega) (fun k e => by simp at e; omega)
      go_meet
      case rel => exact ⟨g', cap', Y ++ [0], by rw [EL.out], by simp; exact EL.out.symm, hY.append (Wd.cons (by omega) (by omega) Wd.nil), val_pad Y, d1, d2, by have := EL.out; omega, d3, hgx, d5, cX1, Ox1, S01, S11, S21, pb1⟩
    · have el : Y.length = X.length := by omega
      go_wp2
      go_meet
      case rel => exact ⟨gy, cy, Y, by rw [el], el, hY, rfl, cY0, Oy0, by omega, ky', hne, by_, cX0, Ox0, S0, S1, S2, pb⟩
  case rest =>
    obtain ⟨g, c, V, rfl, vl, vw, vv, cV, Ov, c2, c3, hg, c4, cX2, Ox2, Q0, Q1, Q2, pc⟩ := hcut
    have hV : Hid (val V = val Y) := vv
    have lb : base ≤ w.heap.size := by omega
    have n1 := Q1.ne cV (by omega)
    have n2 := Q2.ne cV (by omega)
    have s0 : wc.cell? ⟨w.heap.size, 0, none⟩ = some (.int .u64 x0) := Q0.at 0
    have s1 : wc.cell? ⟨w.heap.size, 1, none⟩ = some (.int .u64 y0) := Q0.at 1
    have s2 : wc.cell? ⟨w.heap.size, 2, none⟩ = some (.int .u64 x1) := Q0.at 2
    have s3 : wc.cell? ⟨w.heap.size, 3, none⟩ = some (.int .u64 y1) := Q0.at 3
    have s4 : wc.cell? ⟨w.heap.size, 4, none⟩ = some (.bool t) := Q0.at 4
    clear vv
    cases t
    · have HA : Hid (x0 * val X - y0 * val V = A ∧ y1 * val V - x1 * val X = B) := by
        have h1 := HAB.out.1; have h2 := HAB.out.2
        simp only [sg] at h1 h2
        refine ⟨?_, ?_⟩ <;> (rw [hV.out]; simp at h1 h2; omega)
      go_wp2_with fail
      refine (mix_any gx g X.length X.length cx c X V x0 y0 x1 y1 wc rfl rfl vl hX vw p0 q0 p1 q1 (by omega) cX2 cV Ox2.own Ov.own hg).mono ?_
      rintro e w2 ⟨P, R, rfl, lP, lR, wP, wR, eP, eR, cP, cR, hw⟩
      have xl := val_lt hX
      have vP : Hid (val P = A) := by
        obtain ⟨k, ek⟩ := eP
        rw [HA.out.1] at ek
        have h1 := val_lt wP; rw [lP] at h1
        exact mod_uniq ek (val_nonneg wP) h1 (by omega) (by omega)
      have vR : Hid (val R = B) := by
        obtain ⟨k, ek⟩ := eR
        rw [HA.out.2] at ek
        have h1 := val_lt wR; rw [lR] at h1
        exact mod_uniq ek (val_nonneg wR) h1 (by omega) (by omega)
      have HlP : Hid (P.length = X.length) := lP
      have HlR : Hid (R.length = X.length) := lR
      have OA := hw.own _ _ Ox2
      have OB := hw.own _ _ Ov
      have D1 := Q1.wr2 hw (by omega) n1
      have D2 := Q2.wr2 hw (by omega) n2
      have q2 := pc.trans (hw.below bx c4 (by have := pc.size; omega))
      clear eP eR lP lR s0 s1 s2 s3 s4
      go_wp2_with (first
        | (go_at_call_of 114 gx; refine (trim_rd _ _ _ P w2 HlP.out.symm wP (by rw [HlP.out]; exact kx) kx' (fun _ => ⟨_, _, rfl, cP⟩)).mono ?_; rintro e w3 ⟨m1, zs, rfl, -, r1, nz, vz, b1⟩; have VZ : Hid _ := vz; clear vz; have E1 := D1.below b1; have E2 := D2.below b1)
        | (go_at_call_of 114 g; refine (trim_rd _ _ _ R w3 HlR.out.symm wR (by rw [HlR.out]; exact c2) c3 (fun _ => ⟨_, _, rfl, cR.grow b1⟩)).mono ?_; rintro e w4 ⟨m2, rs, rfl, -, r2, nr, vr, b2⟩; have VR : Hid _ := vr; clear vr; have F1 := E1.below b2; have F2 := E2.below b2; have f1 := F1.1; have f1' := F1.2; have f2 := F2.1; have f2' := F2.2)
        | fail)
      have T := two_boxes (.slice (some ⟨gx, 0, none⟩) m1 cx) (.slice (some ⟨g, 0, none⟩) m2 c) F1 F2
      have t1 := T.1
      have t2 := T.2.1
      have q3 := q2.trans (b1.mono (by have := q2.size; omega))
      have q4 := q3.trans (b2.mono (by have := q3.size; omega))
      refine bodyPost_ret (v := .tuple #[.agg #[.slice (some ⟨gx, 0, none⟩) m1 cx], .agg #[.slice (some ⟨g, 0, none⟩) m2 c]]) (by simp [results, Tryz.results147, go_sem, t1, t2]) rfl ⟨gx, g, m1, m2, cx, c, zs, rs, rfl, hg, bx, c4, ((OA.grow b1).grow b2).put.put, ((OB.grow b1).grow b2).put.put, T.2.2.1 _ _ (r1.grow b2), nz, T.2.2.1 _ _ r2, nr, VZ.out.trans vP.out, VR.out.trans vR.out, T.2.2.2 base w (by omega) q4⟩
    · have HA : Hid (y0 * val V - x0 * val X = A ∧ x1 * val X - y1 * val V = B) := by
        have h1 := HAB.out.1; have h2 := HAB.out.2
        simp only [sg] at h1 h2
        refine ⟨?_, ?_⟩ <;> (rw [hV.out]; simp at h1 h2; omega)
      go_wp2_with fail
      refine (mix_any g gx X.length X.length c cx V X y0 x0 y1 x1 wc vl.symm vl.symm vl.symm vw hX q0 p0 q1 p1 (by omega) cV cX2 Ov.own Ox2.own (Ne.symm hg)).mono ?_
      rintro e w2 ⟨P, R, rfl, lP, lR, wP, wR, eP, eR, cP, cR, hw⟩
      rw [vl] at lP lR eP eR
      have xl := val_lt hX
      have vP : Hid (val P = A) := by
        obtain ⟨k, ek⟩ := eP
        rw [HA.out.1] at ek
        have h1 := val_lt wP; rw [lP] at h1
        exact mod_uniq ek (val_nonneg wP) h1 (by omega) (by omega)
      have vR : Hid (val R = B) := by
        obtain ⟨k, ek⟩ := eR
        rw [HA.out.2] at ek
        have h1 := val_lt wR; rw [lR] at h1
        exact mod_uniq ek (val_nonneg wR) h1 (by omega) (by omega)
      have HlP : Hid (P.length = X.length) := lP
      have HlR : Hid (R.length = X.length) := lR
      have OA := hw.own _ _ Ov
      have OB := hw.own _ _ Ox2
      have D1 := Q1.wr2 hw n1 (by omega)
      have D2 := Q2.wr2 hw n2 (by omega)
      have q2 := pc.trans (hw.below c4 bx (by have := pc.size; omega))
      clear eP eR lP lR s0 s1 s2 s3 s4
      go_wp2_with (first
        | (go_at_call_of 114 g; refine (trim_rd _ _ _ P w2 HlP.out.symm wP (by rw [HlP.out]; exact c2) c3 (fun _ => ⟨_, _, rfl, cP⟩)).mono ?_; rintro e w3 ⟨m1, zs, rfl, -, r1, nz, vz, b1⟩; have VZ : Hid _ := vz; clear vz; have E1 := D1.below b1; have E2 := D2.below b1)
        | (go_at_call_of 114 gx; refine (trim_rd _ _ _ R w3 HlR.out.symm wR (by rw [HlR.out]; exact kx) kx' (fun _ => ⟨_, _, rfl, cR.grow b1⟩)).mono ?_; rintro e w4 ⟨m2, rs, rfl, -, r2, nr, vr, b2⟩; have VR : Hid _ := vr; clear vr; have F1 := E1.below b2; have F2 := E2.below b2; have f1 := F1.1; have f1' := F1.2; have f2 := F2.1; have f2' := F2.2)
        | fail)
      have T := two_boxes (.slice (some ⟨g, 0, none⟩) m1 c) (.slice (some ⟨gx, 0, none⟩) m2 cx) F1 F2
      have t1 := T.1
      have t2 := T.2.1
      have q3 := q2.trans (b1.mono (by have := q2.size; omega))
      have q4 := q3.trans (b2.mono (by have := q3.size; omega))
      refine bodyPost_ret (v := .tuple #[.agg #[.slice (some ⟨g, 0, none⟩) m1 c], .agg #[.slice (some ⟨gx, 0, none⟩) m2 cx]]) (by simp [results, Tryz.results147, go_sem, t1, t2]) rfl ⟨g, gx, m1, m2, c, cx, zs, rs, rfl, Ne.symm hg, c4, bx, ((OA.grow b1).grow b2).put.put, ((OB.grow b1).grow b2).put.put, T.2.2.1 _ _ (r1.grow b2), nz, T.2.2.1 _ _ r2, nr, VZ.out.trans vP.out, VR.out.trans vR.out, T.2.2.2 base w (by omega) q4⟩
end Go.Proofs.YtmopfnhjooopkaaGreatDoor

namespace Go.Proofs.YtmopfnhjooopkaaGreatDoor
open Go.RowKit Tn

theorem Bx.under {B : Nat} {w w' : World} {n : Nat} {v : Value} (h : Bx w n v) (k : Below B w w') (hn : n < B) : Bx w' n v := h.blocks (k.block n hn)
theorem Bx.set {w : World} {n : Nat} {v : Value} (h : Bx w n v) (u : Value) : Bx (w.setCell ⟨n, 0, none⟩ u) n u := by
  have hl := h.lt
  obtain ⟨t, e⟩ := h.3
  have e2 : (w.setCell ⟨n, 0, none⟩ u).heap[n]? = some (.cells #[u] t (0, 0)) := by
    have hl' : w.heap[n] = .cells #[v] t (0, 0) := by rw [Array.getElem?_eq_getElem hl] at e; exact Option.some.inj e
    simp [World.setCell, hl, Array.getElem_modify, hl']
  refine ⟨World.cell?_setCell_same _ _ _ h.1, ?_, t, e2⟩
  have := h.2
  simp only [World.frozen?, e, e2] at this ⊢
  exact this
/-- Two variables are written at once. -/
theorem put2 {W : World} {n : Nat} {a1 a2 : Option Addr} {l1 k1 l2 k2 : Nat} (b0 : Bx W n (.slice a1 l1 k1)) (b1 : Bx W (n + 1) (.slice a2 l2 k2)) (b2 : Bx W (n + 1 + 1) (.slice none 0 0)) (u1 u2 : Value) :
    Bx ((W.setCell ⟨n, 0, none⟩ u1).setCell ⟨n + 1, 0, none⟩ u2) n u1 ∧ Bx ((W.setCell ⟨n, 0, none⟩ u1).setCell ⟨n + 1, 0, none⟩ u2) (n + 1) u2 ∧ Bx ((W.setCell ⟨n, 0, none⟩ u1).setCell ⟨n + 1, 0, none⟩ u2) (n + 1 + 1) (.slice none 0 0) ∧ (∀ v xs, Rd W v xs → Rd ((W.setCell ⟨n, 0, none⟩ u1).setCell ⟨n + 1, 0, none⟩ u2) v xs) ∧ (∀ B w, B ≤ n → Below B w W → Below B w ((W.setCell ⟨n, 0, none⟩ u1).setCell ⟨n + 1, 0, none⟩ u2)) ∧ (∀ g k, OwnN W g k → OwnN ((W.setCell ⟨n, 0, none⟩ u1).setCell ⟨n + 1, 0, none⟩ u2) g k) := by
  have T := two_boxes u1 u2 b0 b1
  have Wa : Wr n 0 1 W (W.setCell ⟨n, 0, none⟩ u1) := (Wr.refl _ _ _ _).setCell 0 (by omega) _
  have Wb : Wr (n + 1) 0 1 (W.setCell ⟨n, 0, none⟩ u1) ((W.setCell ⟨n, 0, none⟩ u1).setCell ⟨n + 1, 0, none⟩ u2) := (Wr.refl _ _ _ _).setCell 0 (by omega) _
  exact ⟨(b0.set u1).wr Wb (by omega), (b1.wr Wa (by omega)).set u2, (b2.wr Wa (by omega)).wr Wb (by omega), T.2.2.1, T.2.2.2, fun g k h => (h.wr Wa).wr Wb⟩

/-- Two rows of the call's own, apart. -/
def Two (w : World) (n : Nat) (u v : Value) : Prop := ∃ g1 g2 l1 l2 c1 c2, u = .slice (some ⟨g1, 0, none⟩) l1 c1 ∧ v = .slice (some ⟨g2, 0, none⟩) l2 c2 ∧ g1 ≠ g2 ∧ n + 1 + 1 + 1 ≤ g1 ∧ n + 1 + 1 + 1 ≤ g2 ∧ OwnN w g1 c1 ∧ OwnN w g2 c2
/-- Where GCD stands: its three variables, the two numbers, their divisor. -/
def St (n : Nat) (G : Nat) (L : Nat) (own : Bool) (w wr : World) : Prop := ∃ a1 l1 c1 a2 l2 c2 A B, Bx wr n (.slice a1 l1 c1) ∧ Bx wr (n + 1) (.slice a2 l2 c2) ∧ Bx wr (n + 1 + 1) (.slice none 0 0) ∧ Rd wr (.slice a1 l1 c1) A ∧ Rd wr (.slice a2 l2 c2) B ∧ Nm A ∧ Nm B ∧ val B ≤ val A ∧ Int.gcd (val A) (val B) = G ∧ A.length ≤ L ∧ (own = true → 1 < l2 → Two wr n (.slice a1 l1 c1) (.slice a2 l2 c2)) ∧ Below n w wr

def cellNum (w : World) (p : Addr) : Int := match w.cell? p with | some (.int _ x) => x | _ => 0
def rowNum (w : World) : Value → Nat
  | .slice (some p) l _ => (val ((List.range l).map fun i => cellNum w ⟨p.block, p.off + i, none⟩)).toNat
  | _ => 0
def boxNum (n : Nat) (w : World) : Nat := match w.cell? ⟨n, 0, none⟩ with | some v => rowNum w v | none => 0
theorem rowNum_rd {w : World} {v : Value} {xs : List Int} (h : Rd w v xs) : rowNum w v = (val xs).toNat := by
  obtain ⟨_, a, c, rfl, _, _, g⟩ := h
  by_cases h0 : xs = []
  · subst h0; cases a <;> simp [rowNum, val]
  · obtain ⟨b, o, rfl, hc⟩ := g (List.length_pos_iff.2 h0)
    simp only [rowNum]
    congr 2
    apply List.ext_getElem?
    intro i
    by_cases hi : i < xs.length
    · have := hc i hi
      simp [List.getElem?_map, List.getElem?_range hi, cellNum, this, nth, List.getD_eq_getElem?_getD, List.getElem?_eq_getElem hi]
    · rw [List.getElem?_eq_none (by simp; omega), List.getElem?_eq_none (by omega)]
theorem boxNum_rd {n : Nat} {w : World} {v : Value} {xs : List Int} (b : Bx w n v) (h : Rd w v xs) : boxNum n w = (val xs).toNat := by
  unfold boxNum; rw [b.1]; exact rowNum_rd h
theorem len_mono {A B : List Int} (hA : Wd A) (hB : Wd B) (nB : Nm B) (h : val B ≤ val A) : B.length ≤ A.length := by
  by_cases c : B.length ≤ A.length
  · exact c
  · have := val_lt_of_length hA hB nB (by omega); omega
theorem St.drew {n G L : Nat} {o : Bool} {w wr : World} (h : St n G L o w wr) : St n G L o w wr.drew := by
  obtain ⟨a1, l1, c1, a2, l2, c2, A, B, b0, b1, b2, r1, r2, n1, n2, v, g, l, t, b⟩ := h
  exact ⟨a1, l1, c1, a2, l2, c2, A, B, b0.drew, b1.drew, b2.drew, r1.drew, r2.drew, n1, n2, v, g, l, t, b.drew⟩
theorem gcd_of_div {a b z r : Int} (h : a = z * b + r) : Int.gcd b r = Int.gcd a b := by
  have e : r = a - z * b := by omega
  rw [e]; exact gcd_step a b z
theorem low_word {rs : List Int} (h : Wd rs) (n : Nm rs) (hv : val rs < 18446744073709551616) : nth rs 0 = val rs := by
  match rs, h, n, hv with
  | [], _, _, _ => simp [nth, val]
  | [x], _, _, _ => simp [nth, val]
  | x :: y :: t, h, n, hv =>
    have := val_low h n (by simp)
    have h3 := pw_mono (show 1 ≤ (x :: y :: t).length - 1 by simp)
    have : pw 1 = 18446744073709551616 := rfl
    omega
theorem gcd_word {d y : Int} (d0 : 0 < d) (d1 : d < 18446744073709551616) : (Int.gcd d y : Int) < 18446744073709551616 := by
  have h := Int.gcd_dvd_left (a := d) (b := y)
  have := Int.le_of_dvd d0 h
  omega
theorem gcd_nought {a : Int} (h : 0 ≤ a) : a = (Int.gcd a 0 : Int) := by
  rw [Int.gcd_zero_right]; omega
end Go.Proofs.YtmopfnhjooopkaaGreatDoor

namespace Go.Proofs.YtmopfnhjooopkaaGreatDoor
open Go.RowKit Tn

set_option maxRecDepth 100000 in
set_option maxHeartbeats 800000 in
/-- ratio.by. -/
theorem by_any (v1 v2 : Value) (xs ys : List Int) (w : World) (h1 : Rd w v1 xs) (h2 : Rd w v2 ys) (n1 : Nm xs) (n2 : Nm ys) (hy : 0 < val ys) (lx : xs.length ≤ 274877906944) :
    Calls Tryz.prog 92 #[.agg #[v1], .agg #[v2]] w fun e w' => ∃ r zs, e = .returned (.agg #[r]) ∧ Rd w' r zs ∧ Nm zs ∧ val zs = val xs / val ys ∧ Below w.heap.size w w' := by
  have H1 : Hid (Rd w v1 xs) := h1
  have H2 : Hid (Rd w v2 ys) := h2
  obtain ⟨a1, m1, c1, rfl⟩ := h1.shape
  obtain ⟨a2, m2, c2, rfl⟩ := h2.shape
  clear h1 h2
  have pr : Below w.heap.size w (((w.alloc (.cells #[.slice a1 m1 c1] 55)).alloc (.cells #[.slice a2 m2 c2] 55)).alloc (.cells #[.slice none 0 0] 55)) := (((Below.refl _ _).alloc (Nat.le_refl _) _).alloc (by simp) _).alloc (by simp; omega) _
  go_enter Tryz.func92, Tryz.ntmps92
  go_wp2_with fail
  refine (IsOne_any _ ys _ (H2.out.grow pr) n2).mono ?_
  rintro e w1 ⟨rfl, hb⟩
  have X0 := (((Bx.new w (.slice a1 m1 c1) 55).alloc (.cells #[.slice a2 m2 c2] 55)).alloc (.cells #[.slice none 0 0] 55)).below hb
  have X1 := ((Bx.new (w.alloc (.cells #[.slice a1 m1 c1] 55)) (.slice a2 m2 c2) 55).alloc (.cells #[.slice none 0 0] 55)).below hb
  have X2 := (Bx.new ((w.alloc (.cells #[.slice a1 m1 c1] 55)).alloc (.cells #[.slice a2 m2 c2] 55)) (.slice none 0 0) 55).below hb
  simp only [World.size_alloc] at X1 X2
  have p1 := pr.trans (hb.mono pr.size)
  have x0 := X0.1; have x1 := X1.1; have x2 := X2.1; have x2' := X2.2
  by_cases h : val ys = 1
  · have hd : decide (val ys = 1) = true := decide_eq_true h
    have HV : Hid (val xs = val xs / val ys) := by show _ = _; rw [h]; simp
    rw [hd]
    clear h hd
    have S2 := (X2.set (.slice a1 m1 c1)).1
    go_wp2
    refine bodyPost_ret (v := .agg #[.slice a1 m1 c1]) (by simp [results, Tryz.results92, go_sem, S2]) rfl ⟨_, xs, rfl, (H1.out.grow p1).box X2, n1, HV.out, below_put p1 (by omega) _⟩
  · have hd : decide (val ys = 1) = false := decide_eq_false h
    rw [hd]
    clear h hd
    go_wp2_with (go_at_call 106; go_must (refine (DivMod_any _ _ xs ys _ (H1.out.grow p1) (H2.out.grow p1) n1 n2 hy (by omega)).mono ?_; rintro e w2 ⟨r1, r2, zs, rs, rfl, hr1, hn1, hr2, -, hv1, -, hb2⟩; obtain ⟨q1, q2, q3, rfl⟩ := hr1.shape; obtain ⟨q4, q5, q6, rfl⟩ := hr2.shape; have HV : Hid _ := hv1; clear hv1; have Y2 := ((X2.below hb2).alloc (.cells #[.slice q1 q2 q3] 55)).alloc (.cells #[.slice q4 q5 q6] 55); have y2 := Y2.1; have y2' := Y2.2))
    have S2 := (Y2.set (.slice q1 q2 q3)).1
    have pa : Below w2.heap.size w2 ((w2.alloc (.cells #[.slice q1 q2 q3] 55)).alloc (.cells #[.slice q4 q5 q6] 55)) := ((Below.refl w2.heap.size w2).alloc (Nat.le_refl _) _).alloc (by simp) _
    have p2 := p1.trans (hb2.mono p1.size)
    have p3 := p2.trans (pa.mono p2.size)
    refine bodyPost_ret (v := .agg #[.slice q1 q2 q3]) (by simp [results, Tryz.results92, go_sem, S2]) rfl ⟨_, zs, rfl, (hr1.grow pa).box Y2, hn1, HV.out, below_put p3 (by omega) _⟩

end Go.Proofs.YtmopfnhjooopkaaGreatDoor

namespace Go.Proofs.YtmopfnhjooopkaaGreatDoor
open Go.RowKit Tn

theorem mul_len {xs ys zs : List Int} (hx : Wd xs) (hy : Wd ys) (hz : Wd zs) (nz : Nm zs) (h : val zs = val xs * val ys) : zs.length ≤ xs.length + ys.length := by
  by_cases c : zs.length ≤ xs.length + ys.length
  · exact c
  · have h0 : zs ≠ [] := by rintro rfl; simp at c
    have h1 := val_low hz nz h0
    have h2 := pw_mono (show xs.length + ys.length ≤ zs.length - 1 by omega)
    rw [pw_add] at h2
    have h3 := Int.mul_le_mul_of_nonneg_right (Int.le_of_lt (val_lt hx)) (val_nonneg hy)
    have h4 := Int.mul_lt_mul_of_pos_left (val_lt hy) (pw_pos xs.length)
    omega

end Go.Proofs.YtmopfnhjooopkaaGreatDoor

namespace Go.Proofs.YtmopfnhjooopkaaGreatDoor
open Go.RowKit Tn

end Go.Proofs.YtmopfnhjooopkaaGreatDoor

namespace Go.Proofs.YtmopfnhjooopkaaGreatDoor
open Go.RowKit Tn

/-- A byte that is a decimal digit. -/
def Dg (b : UInt8) : Prop := 48 ≤ (b.toNat : Int) ∧ (b.toNat : Int) ≤ 57
theorem empty_iff (s : ByteArray) : s.toList.isEmpty = decide (s.size = 0) := by
  rw [ByteArray.toList_eq, Bool.eq_iff_iff, List.isEmpty_iff, decide_eq_true_iff, ← List.length_eq_zero_iff, Array.length_toList]
  rfl

end Go.Proofs.YtmopfnhjooopkaaGreatDoor

namespace Go.Proofs.YtmopfnhjooopkaaGreatDoor
open Go.RowKit Tn

end Go.Proofs.YtmopfnhjooopkaaGreatDoor

namespace Go.Proofs.YtmopfnhjooopkaaGreatDoor
open Go.RowKit Tn

end Go.Proofs.YtmopfnhjooopkaaGreatDoor

namespace Go.Proofs.YtmopfnhjooopkaaGreatDoor.Mo
open Go.RowKit Dc

end Go.Proofs.YtmopfnhjooopkaaGreatDoor.Mo

namespace Go.Proofs.YtmopfnhjooopkaaGreatDoor
open Go.RowKit Tn

set_option maxRecDepth 100000 in
set_option maxHeartbeats 3200000 in
/-- (Nat).GCD. -/
theorem GCD_any (v1 v2 : Value) (xs ys : List Int) (w : World) (h1 : Rd w v1 xs) (h2 : Rd w v2 ys) (n1 : Nm xs) (n2 : Nm ys) (lx : xs.length ≤ 274877906944) (ly : ys.length ≤ 274877906944) :
    Calls Tryz.prog 91 #[.agg #[v1], .agg #[v2]] w fun e w' => ∃ r zs, e = .returned (.agg #[r]) ∧ Rd w' r zs ∧ Nm zs ∧ val zs = Int.gcd (val xs) (val ys) ∧ Below w.heap.size w w' := by
  have H1 : Hid (Rd w v1 xs) := h1
  have H2 : Hid (Rd w v2 ys) := h2
  obtain ⟨a1, m1, c1, rfl⟩ := h1.shape
  obtain ⟨a2, m2, c2, rfl⟩ := h2.shape
  clear h1 h2
  have pr : Below w.heap.size w (((w.alloc (.cells #[.slice a1 m1 c1] 55)).alloc (.cells #[.slice a2 m2 c2] 55)).alloc (.cells #[.slice none 0 0] 55)) := (((Below.refl _ _).alloc (Nat.le_refl _) _).alloc (by simp) _).alloc (by simp; omega) _
  go_enter Tryz.func91, Tryz.ntmps91
  go_upto_if 13 with (go_at_call 77; refine (Cmp_any _ _ xs ys _ (H1.out.grow pr) (H2.out.grow pr) n1 n2 (by omega)).mono ?_; rintro e w1 ⟨rfl, hb⟩; have X0 := (((Bx.new w _ _).alloc _).alloc _).below hb; have X1 := ((Bx.new _ _ _).alloc _).below hb; have X2 := (Bx.new _ _ _).below hb; simp only [World.size_alloc] at X1 X2)
  have p1 := pr.trans (hb.mono pr.size)
  have r1 : Hid (Rd w1 (.slice a1 m1 c1) xs) := H1.out.grow p1
  have r2 : Hid (Rd w1 (.slice a2 m2 c2) ys) := H2.out.grow p1
  go_cut [] (fun wc => St w.heap.size (Int.gcd (val xs) (val ys)) 274877906944 false w wc)
  case first =>
    have x0 := X0.1; have x0' := X0.2; have x1 := X1.1; have x1' := X1.2
    by_cases c : val xs < val ys
    · have hc : cmp3 (val xs) (val ys) < 0 := by rw [cmp3_lt c]; omega
      have C : Hid (val xs < val ys) := c
      clear c
      go_wp2
      go_meet
      case rel =>
        have P := put2 X0 X1 X2 (.slice a2 m2 c2) (.slice a1 m1 c1)
        exact ⟨_, _, _, _, _, _, ys, xs, P.1, P.2.1, P.2.2.1, P.2.2.2.1 _ _ r2.out, P.2.2.2.1 _ _ r1.out, n2, n1, Int.le_of_lt C.out, Int.gcd_comm _ _, ly, fun h => by simp at h, P.2.2.2.2.1 _ _ (Nat.le_refl _) p1⟩
    · have hc : 0 ≤ cmp3 (val xs) (val ys) := cmp3_ge (by omega)
      have C : Hid (val ys ≤ val xs) := by show _ ≤ _; omega
      clear c
      go_wp2
      go_meet
      case rel => exact ⟨_, _, _, _, _, _, xs, ys, X0, X1, X2, r1.out, r2.out, n1, n2, C.out, rfl, lx, fun h => by simp at h, p1⟩
  case rest =>
    generalize hGG : Int.gcd (val xs) (val ys) = G at *
    have HG : Hid (Int.gcd (val xs) (val ys) = G) := hGG
    clear hGG
    clear r1 r2 X0 X1 X2 p1 hb pr H1 H2
    have hcut' : St w.heap.size G 274877906944 false w wc := hcut
    clear hcut
    obtain ⟨a1, l1, c1, a2, l2, c2, A, B, Y0, Y1, Y2, rA, rB, nA, nB, vAB, hG, lA, -, pb⟩ := hcut'
    have lAB := len_mono rA.1 rB.1 nB vAB
    have Q : Hid (Int.gcd (val A) (val B) = G ∧ val B ≤ val A) := ⟨hG, vAB⟩
    have RA : Hid (Rd wc (.slice a1 l1 c1) A) := rA
    have RB : Hid (Rd wc (.slice a2 l2 c2) B) := rB
    obtain ⟨wA, _, _, e, _, _, gA⟩ := rA
    simp only [Value.slice.injEq] at e
    obtain ⟨rfl, rfl, rfl⟩ := e
    obtain ⟨wB, _, _, e, _, _, gB⟩ := rB
    simp only [Value.slice.injEq] at e
    obtain ⟨rfl, rfl, rfl⟩ := e
    have GA : Hid (0 < A.length → ∃ b o, a1 = some ⟨b, o, none⟩ ∧ Cells wc b o A) := gA
    have GB : Hid (0 < B.length → ∃ b o, a2 = some ⟨b, o, none⟩ ∧ Cells wc b o B) := gB
    clear hG vAB gA gB
    have y0 := Y0.1; have y1 := Y1.1
    go_upto_if 19 with fail
    go_cut [] (fun wd => St w.heap.size G 274877906944 true w wd)
    case first =>
      by_cases hl : 1 < B.length
      · go_upto_region 4 with fail
        go_region_with (first
          | (go_at_call_of 145 c1; go_must (refine (copied_all a1 c1 A _ (by omega) (fun l => by obtain ⟨b, o, e, q⟩ := GA.out l; exact ⟨b, o, e, q.drew⟩)).mono ?_; rintro e w2 ⟨g1, rfl, f1, f2, O1, C1, b1⟩; have V1 := Y1.drew.below b1; have v1 := V1.1))
          | (go_at_call_of 145 c2; go_must (refine (copied_all a2 c2 B _ (by omega) (fun l => by obtain ⟨b, o, e, q⟩ := GB.out l; exact ⟨b, o, e, q.drew.grow b1⟩)).mono ?_; rintro e w3 ⟨g2, rfl, f3, f4, O2, C2, b2⟩; have Z0 := (Y0.drew.below b1).below b2; have Z1 := V1.below b2; have Z2 := (Y2.drew.below b1).below b2; have z0 := Z0.1; have z0' := Z0.2; have z1 := Z1.1; have z1' := Z1.2))
          | fail)
        all_goals
          go_wp2_with fail
          go_meet
          case rel =>
            have P := put2 Z0 Z1 Z2 (.slice (some ⟨g1, 0, none⟩) A.length A.length) (.slice (some ⟨g2, 0, none⟩) B.length B.length)
            have ds : wc.drew.heap.size = wc.heap.size := rfl
            have yl := Y2.lt
            have q2 := (pb.drew.trans (b1.mono (by have := pb.size; omega))).trans (b2.mono (by have := pb.size; have := b1.size; omega))
            exact ⟨_, _, _, _, _, _, A, B, P.1, P.2.1, P.2.2.1, P.2.2.2.1 _ _ ⟨wA, _, _, rfl, Nat.le_refl _, by unfold maxLen; omega, fun _ => ⟨_, _, rfl, C1.grow b2⟩⟩, P.2.2.2.1 _ _ ⟨wB, _, _, rfl, Nat.le_refl _, by unfold maxLen; omega, fun _ => ⟨_, _, rfl, C2⟩⟩, nA, nB, Q.out.2, Q.out.1, lA, fun _ _ => ⟨g1, g2, _, _, _, _, rfl, rfl, by omega, by omega, by omega, P.2.2.2.2.2 _ _ (O1.grow b2), P.2.2.2.2.2 _ _ O2⟩, P.2.2.2.2.1 _ _ (Nat.le_refl _) q2⟩
      · go_wp2_with fail
        go_meet
        case rel => exact ⟨_, _, _, _, _, _, A, B, Y0, Y1, Y2, RA.out, RB.out, nA, nB, Q.out.2, Q.out.1, lA, fun _ h => absurd h hl, pb⟩
    case rest =>
      clear y0 y1 Y0 Y1 Y2 RA RB GA GB Q
      go_wp2_with fail
      go_loopw [] (fun wr => St w.heap.size G 274877906944 true w wr) (fun wr => boxNum (w.heap.size + 1) wr)
      case atStart => exact hcut
      case round =>
        clear hcut pb wA wB nA nB lA lAB
        obtain ⟨a1, l1, c1, a2, l2, c2, A, B, Y0, Y1, Y2, rA, rB, nA, nB, vAB, hG, lA, two, pb⟩ := hrel
        have lAB := len_mono rA.1 rB.1 nB vAB
        have MB : Hid _ := boxNum_rd Y1 rB
        have Q : Hid (Int.gcd (val A) (val B) = G ∧ val B ≤ val A) := ⟨hG, vAB⟩
        have RA : Hid (Rd wr (.slice a1 l1 c1) A) := rA
        have RB : Hid (Rd wr (.slice a2 l2 c2) B) := rB
        obtain ⟨wA, _, _, e, kA, kA', gA⟩ := rA
        simp only [Value.slice.injEq] at e
        obtain ⟨rfl, rfl, rfl⟩ := e
        obtain ⟨wB, _, _, e, kB, kB', gB⟩ := rB
        simp only [Value.slice.injEq] at e
        obtain ⟨rfl, rfl, rfl⟩ := e
        have y0 := Y0.1; have y1 := Y1.1
        by_cases hl : 1 < B.length
        · obtain ⟨g1, g2, _, _, _, _, e1, e2, hne, hg1, hg2, O1, O2⟩ := two rfl hl
          simp only [Value.slice.injEq] at e1 e2
          obtain ⟨rfl, rfl, rfl⟩ := e1
          obtain ⟨rfl, rfl, rfl⟩ := e2
          obtain ⟨_, _, e, cA⟩ := gA (by omega)
          simp only [Option.some.injEq, Addr.mk.injEq] at e
          obtain ⟨rfl, rfl, _⟩ := e
          obtain ⟨_, _, e, cB⟩ := gB (by omega)
          simp only [Option.some.injEq, Addr.mk.injEq] at e
          obtain ⟨rfl, rfl, _⟩ := e
          clear hG vAB two gA gB
          go_wp2_with fail
          refine (foresee_any g1 0 g2 0 c1 c2 A.length B.length A B wr rfl rfl wA wB nA (by omega) lAB Q.out.2 (by omega) cA cB).mono ?_
          rintro e w1 ⟨⟨x0, y0', x1, y1', t, rfl, hs, hb⟩, hfar⟩
          have Z0 := Y0.below hb; have Z1 := Y1.below hb; have Z2 := Y2.below hb
          have V0 := Z0.alloc (.cells #[.int .u64 x0, .int .u64 y0', .int .u64 x1, .int .u64 y1', .bool t] 160)
          have V1 := Z1.alloc (.cells #[.int .u64 x0, .int .u64 y0', .int .u64 x1, .int .u64 y1', .bool t] 160)
          have V2 := Z2.alloc (.cells #[.int .u64 x0, .int .u64 y0', .int .u64 x1, .int .u64 y1', .bool t] 160)
          have v0 := V0.1; have v1 := V1.1; have v0' := V0.2; have v1' := V1.2
          have pv : Below wr.heap.size wr (w1.alloc (.cells #[.int .u64 x0, .int .u64 y0', .int .u64 x1, .int .u64 y1', .bool t] 160)) := hb.alloc hb.size _
          by_cases hz : x1 = 0
          · subst hz
            clear hs hfar y0 y1
            go_wp2_with (go_at_call 106; go_must (refine (divmod_long _ _ (some ⟨g1, 0, none⟩) (some ⟨g2, 0, none⟩) c1 c2 A B _ rfl rfl (RA.out.grow pv) (RB.out.grow pv) nA nB Q.out.2 (by omega) (by omega)).mono ?_; rintro e w2 ⟨r1, r2, zs, rs, rfl, hr1, hn1, hr2, hn2, hv, hlt, hfr, hb2⟩; obtain ⟨q1, q2, q3, rfl⟩ := hr1.shape; obtain ⟨q4, q5, q6, rfl⟩ := hr2.shape; have HV : Hid _ := hv; clear hv; have U0 := V0.below hb2; have U1 := V1.below hb2; have U2 := V2.below hb2; have S0 := (U0.alloc (.cells #[.slice q1 q2 q3] 55)).alloc (.cells #[.slice q4 q5 q6] 55); have S1 := (U1.alloc (.cells #[.slice q1 q2 q3] 55)).alloc (.cells #[.slice q4 q5 q6] 55); have S2 := (U2.alloc (.cells #[.slice q1 q2 q3] 55)).alloc (.cells #[.slice q4 q5 q6] 55); have S7 := Bx.new (w2.alloc (.cells #[.slice q1 q2 q3] 55)) (.slice q4 q5 q6) 55; simp only [World.size_alloc] at S7; have s0 := S0.1; have s0' := S0.2; have s1 := S1.1; have s1' := S1.2; have s7 := S7.1))
            have pw2 := hb2.alloc hb2.size (.cells #[.slice q1 q2 q3] 55) |>.alloc (by simp; have := hb2.size; simp at this; omega) (.cells #[.slice q4 q5 q6] 55)
            have P := put2 S0 S1 S2 (.slice (some ⟨g2, 0, none⟩) B.length c2) (.slice q4 q5 q6)
            have RB2 : Hid _ := P.2.2.2.1 _ _ ((RB.out.grow pv).grow pw2)
            have RR2 : Hid _ := P.2.2.2.1 _ _ (hr2.grow (((Below.refl w2.heap.size w2).alloc (Nat.le_refl _) (.cells #[.slice q1 q2 q3] 55)).alloc (by simp) (.cells #[.slice q4 q5 q6] 55)))
            have M2 : Hid _ := boxNum_rd P.2.1.drew (Rd.drew RR2.out)
            have NX : Hid _ := St.drew (show St w.heap.size G 274877906944 true w _ from ⟨_, _, _, _, _, _, B, rs, P.1, P.2.1, P.2.2.1, RB2.out, RR2.out, nB, hn2, Int.le_of_lt hlt, (gcd_of_div HV.out).trans Q.out.1, by omega, fun _ _ => by
              obtain ⟨g, l, k, e, hg, ho, -⟩ := hfr
              have ol := O2.own.lt
              have yl := Y2.lt
              have ps := pv.size
              exact ⟨g2, g, _, _, _, _, rfl, e, by omega, hg2, by omega, P.2.2.2.2.2 _ _ ((O2.grow pv).grow pw2), P.2.2.2.2.2 _ _ (ho.grow (((Below.refl w2.heap.size w2).alloc (Nat.le_refl _) (.cells #[.slice q1 q2 q3] 55)).alloc (by simp) (.cells #[.slice q4 q5 q6] 55)))⟩, P.2.2.2.2.1 _ _ (Nat.le_refl _) ((pb.trans (pv.mono pb.size)).trans (pw2.mono (by have := pb.size; have := pv.size; omega)))⟩)
            have ul := U2.lt
            have m7 : (((w2.alloc (.cells #[.slice q1 q2 q3] 55)).alloc (.cells #[.slice q4 q5 q6] 55)).setCell ⟨w.heap.size, 0, none⟩ (.slice (some ⟨g2, 0, none⟩) B.length c2)).cell? ⟨w2.heap.size + 1, 0, none⟩ = some (.slice q4 q5 q6) := (World.cell?_setCell_other _ _ _ _ (by simp)).trans s7
            go_region
            all_goals
              go_wp2
              go_roundw
              case rel => exact NX.out
              case measure => rw [MB.out, M2.out]; have := val_nonneg hr2.1; omega
          · rcases hs with hs | ⟨p0, q0, p1, q1, B0, BA, AX, BB, GG⟩
            · exact absurd hs hz
            · have l3 : A.length ≤ B.length + 1 := by
                by_cases c : A.length ≤ B.length + 1
                · exact c
                · obtain ⟨_, _, _, _, e⟩ := hfar (by omega); simp at e; exact absurd e.2.2.1 hz
              have F : Hid _ := And.intro BB GG
              have F2 : Hid _ := And.intro B0 (And.intro BA AX)
              have hz' : (x1 == 0) = false := by rw [beq_eq_false_iff_ne]; exact hz
              clear hfar BB GG B0 BA AX y0 y1
              go_wp2_with (go_at_call 147; go_must (refine (apply_all (w.heap.size + 1 + 1 + 1) g1 g2 c1 c2 A B x0 y0' x1 y1' t _ wA wB nA (by omega) lAB l3 (by omega) hne hg1 hg2 (O1.grow pv) (O2.grow pv) kA kB kA' kB' (cA.grow pv) (cB.grow pv) p0 q0 p1 q1 _ _ rfl rfl F2.out.1 F2.out.2.1 F2.out.2.2).mono ?_; rintro e w2 ⟨h1, h2, m1, m2, k1, k2, zs, rs, rfl, hne2, i1, i2, O3, O4, hr1, hn1, hr2, hn2, hv1, hv2, hb2⟩; have HV : Hid _ := And.intro hv1 hv2; clear hv1 hv2; have U0 := V0.under hb2 (by omega); have U1 := V1.under hb2 (by omega); have U2 := V2.under hb2 (by omega); have s0 := U0.1; have s0' := U0.2; have s1 := U1.1; have s1' := U1.2))
              have P := put2 U0 U1 U2 (.slice (some ⟨h1, 0, none⟩) m1 k1) (.slice (some ⟨h2, 0, none⟩) m2 k2)
              have M2 : Hid _ := boxNum_rd P.2.1 (P.2.2.2.1 _ _ hr2)
              have le1 : val rs ≤ val zs := by rw [HV.out.1, HV.out.2]; exact F2.out.2.1
              have le2 : val zs ≤ val A := by rw [HV.out.1]; exact F2.out.2.2
              have lt1 : val rs < val B := by rw [HV.out.2]; exact F.out.1
              have NX : Hid (St w.heap.size G 274877906944 true w _) := ⟨_, _, _, _, _, _, zs, rs, P.1, P.2.1, P.2.2.1, P.2.2.2.1 _ _ hr1, P.2.2.2.1 _ _ hr2, hn1, hn2, le1, by rw [HV.out.1, HV.out.2]; exact F.out.2.trans Q.out.1, by have := len_mono wA hr1.1 hn1 le2; omega, fun _ _ => ⟨h1, h2, _, _, _, _, rfl, rfl, hne2, i1, i2, P.2.2.2.2.2 _ _ O3, P.2.2.2.2.2 _ _ O4⟩, P.2.2.2.2.1 _ _ (Nat.le_refl _) ((pb.trans (pv.mono pb.size)).trans (hb2.mono (by omega)))⟩
              go_roundw
              case rel => exact NX.out
              case measure => rw [MB.out, M2.out]; have := val_nonneg hr2.1; omega
        · clear two hG vAB
          have VA := val_nonneg wA
          by_cases h0 : B.length = 0
          · have := List.eq_nil_of_length_eq_zero h0
            subst this
            clear gA gB
            go_wp2_with fail
            refine (iszero_len a2 _ c2 _).mono ?_
            rintro e w1 ⟨rfl, hb⟩
            have Z0 := Y0.below hb; have Z2 := Y2.below hb
            have z0 := Z0.1; have z2 := Z2.1; have z2' := Z2.2
            have S2 := (Z2.set (.slice a1 A.length c1)).1
            have G0 : Hid (val A = (G : Int)) := by have := Q.out.1; simp only [val] at this; rw [← this]; exact gcd_nought VA
            go_wp2
            refine bodyPost_ret (v := .agg #[.slice a1 A.length c1]) (by simp [results, Tryz.results91, go_sem, S2]) rfl ⟨_, A, rfl, (RA.out.grow hb).box Z2, nA, by rw [HG.out]; exact G0.out, below_put (pb.trans (hb.mono pb.size)) (by omega) _⟩
          · obtain ⟨d, rfl⟩ : ∃ d, B = [d] := List.length_eq_one_iff.1 (by omega)
            obtain ⟨bb, bo, rfl, cB⟩ := gB (by simp)
            have cd : wr.cell? ⟨bb, bo, none⟩ = some (.int .u64 d) := by have := cB 0 (by simp); simpa [nth] using this
            have bl := lt_of_cell cd
            have d0 : 0 < d := by have := nm_top wB nB (by simp); simpa [nth] using this
            have d1 : d < 18446744073709551616 := wB.head.2
            have vd : val [d] = d := by simp [val]
            clear gA gB cB h0
            go_wp2_with fail
            refine (iszero_len (some ⟨bb, bo, none⟩) _ c2 _).mono ?_
            rintro e w1 ⟨rfl, hb⟩
            have Z0 := Y0.below hb; have Z1 := Y1.below hb; have Z2 := Y2.below hb
            have z0 := Z0.1; have z1 := Z1.1
            clear y0 y1
            have VD : Hid _ := vd
            clear vd
            go_wp2_with (go_at_call 106; go_must (refine (DivMod_any _ _ A [d] _ (RA.out.grow hb) (RB.out.grow hb) nA nB (by rw [VD.out]; exact d0) (by omega)).mono ?_; rintro e w2 ⟨r1, r2, zs, rs, rfl, hr1, hn1, hr2, hn2, hv1, hv2, hb2⟩; obtain ⟨q1, q2, q3, rfl⟩ := hr1.shape; obtain ⟨q4, q5, q6, rfl⟩ := hr2.shape; have HV : Hid _ := And.intro hv1 hv2; clear hv1 hv2))
            have S1 := ((Z1.below hb2).alloc (.cells #[.slice q1 q2 q3] 55)).alloc (.cells #[.slice q4 q5 q6] 55)
            have S2 := ((Z2.below hb2).alloc (.cells #[.slice q1 q2 q3] 55)).alloc (.cells #[.slice q4 q5 q6] 55)
            have S9 := Bx.new (w2.alloc (.cells #[.slice q1 q2 q3] 55)) (.slice q4 q5 q6) 55
            simp only [World.size_alloc] at S9
            have pa : Below w2.heap.size w2 ((w2.alloc (.cells #[.slice q1 q2 q3] 55)).alloc (.cells #[.slice q4 q5 q6] 55)) := ((Below.refl w2.heap.size w2).alloc (Nat.le_refl _) _).alloc (by simp) _
            have RR := hr2.grow pa
            have pc := (hb.trans (hb2.mono hb.size)).trans (pa.mono (by have := hb.size; have := hb2.size; omega))
            have c0 := (pc.cell (p := ⟨bb, bo, none⟩) bl).trans cd
            have pd := pb.trans (pc.mono pb.size)
            have ny := nth_bd hr2.1 0
            have gw := gcd_word (y := nth rs 0) d0 d1
            have FG : Hid ((Int.gcd d (nth rs 0) : Int) = G) := by
              have e2 := HV.out.2
              rw [VD.out] at e2
              have lt : val rs < d := by rw [e2]; exact Int.emod_lt_of_pos _ d0
              have q := Q.out.1
              rw [VD.out] at q
              show _ = _
              rw [low_word hr2.1 hn2 (by omega), e2, gcd_rec, q]
            have HRR : Hid _ := RR
            clear RR HV pa pc
            generalize (w2.alloc (.cells #[.slice q1 q2 q3] 55)).alloc (.cells #[.slice q4 q5 q6] 55) = W at *
            have bW := lt_of_cell c0
            have s1 := S1.1; have s2 := S2.1; have s2' := S2.2; have s9 := S9.1
            go_region_with (first
              | (go_at_call 117; go_must (refine (lowest_any _ rs _ (Rd.drew HRR.out) hn2).mono ?_; rintro e w3 ⟨rfl, b3⟩; have T1 := S1.drew.below b3; have t1 := T1.1; have T2 := S2.drew.below b3; have c3 := (b3.cell (p := ⟨bb, bo, none⟩) bW).trans c0))
              | (go_at_call 148; go_must (refine (commonWord_any d (nth rs 0) _ (by omega) d1 ny.1 ny.2).mono ?_; rintro e w4 ⟨rfl, k, rfl⟩))
              | (go_at_call 54; go_must (refine (Of_any (Int.gcd d (nth rs 0)) _ (by omega) gw).mono ?_; rintro e w5 ⟨r, us, rfl, hr, hn, hv, b5⟩; obtain ⟨u1, u2, u3, rfl⟩ := hr.shape; have HU : Hid _ := hv; clear hv; have R2 := (T2.below (below_drewN (Below.refl _ _) k)).below b5; have r2 := R2.1; have r2' := R2.2))
              | fail)
            all_goals
              have E2 := (R2.set (.slice u1 u2 u3)).1
              have ds : W.drew.heap.size = W.heap.size := rfl
              have p3 := pd.drew.trans (b3.mono (by have := pd.size; omega))
              have p4 := below_drewN p3 k
              have p5 := p4.trans (b5.mono p4.size)
              go_wp2
              refine bodyPost_ret (v := .agg #[.slice u1 u2 u3]) (by simp [results, Tryz.results91, go_sem, E2]) rfl ⟨_, us, rfl, hr.box R2, hn, by rw [HG.out]; exact HU.out.trans FG.out, below_put p5 (by omega) _⟩
end Go.Proofs.YtmopfnhjooopkaaGreatDoor
