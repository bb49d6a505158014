import Derived.Test.YtebilgnmnambnaaGreatDoorPart18
import Derived.Test.YtebilgnmnambnaaGreatDoorPart04
import Derived.Test.YtebilgnmnambnaaGreatDoorPart16

namespace Go.Proofs.YtebilgnmnambnaaGreatDoor
open Go.RowKit Tn
set_option maxHeartbeats 3200000 in
set_option maxRecDepth 100000 in
theorem divLong_all (a1 : Option Addr) (yb yo : Nat) (c1 c2 : Nat) (xs ys : List Int) (m : Nat) (w : World) (hx : Wd xs) (hy : Wd ys) (hm : ys.length = m + 2) (ht : 0 < nth ys (m + 1)) (hle : ys.length ≤ xs.length) (hL : xs.length ≤ 274877906944) (h1 : 0 < xs.length → ∃ b o, a1 = some ⟨b, o, none⟩ ∧ Cells w b o xs) (h2 : Cells w yb yo ys) :
    Calls Tryz.prog 163 #[.agg #[.slice a1 xs.length c1], .agg #[.slice (some ⟨yb, yo, none⟩) (m + 2) c2]] w fun e w' => ∃ r1 r2 zs rs, e = .returned (.tuple #[.agg #[r1], .agg #[r2]]) ∧ Rd w' r1 zs ∧ Nm zs ∧ Rd w' r2 rs ∧ Nm rs ∧ val xs = val zs * val ys + val rs ∧ val rs < val ys ∧ Fresh w.heap.size w' r2 ∧ Below w.heap.size w w' := by
  have lb := h2.lt (by omega)
  obtain ⟨L, hLx⟩ : ∃ L, xs.length = L + (m + 1) := ⟨xs.length - (m + 1), by omega⟩
  have HLx : Hid (xs.length = L + (m + 1)) := hLx
  have L1 : L + (m + 1) ≤ xs.length := by omega
  have L2 : xs.length ≤ L + (m + 1) := by omega
  clear hLx
  have hs : Hid (∀ w', Below w.heap.size w w' → ∀ g, w.heap.size ≤ g → 0 < xs.length → ∃ b o, a1 = some ⟨b, o, none⟩ ∧ b ≠ g ∧ Cells w' b o xs) := fun w' h g hg l => by obtain ⟨b, o, e, c⟩ := h1 l; exact ⟨b, o, e, by have := c.lt l; omega, c.grow h⟩
  have hs2 : Hid (∀ w', Below w.heap.size w w' → Cells w' yb yo ys) := fun w' h => h2.grow h
  have ty := nth_bd hy (m + 1)
  obtain ⟨s, hS⟩ : ∃ s : Nat, (s : Int) = 64 - (Lib.bitLen (nth ys (m + 1)).toNat : Int) := ⟨64 - Lib.bitLen (nth ys (m + 1)).toNat, by have := bitLen_bd _ ht ty.2; omega⟩
  obtain ⟨s1, n1, n2⟩ := norm_bd _ s ht ty.2 hS
  have N12 : Hid (9223372036854775808 ≤ nth ys (m + 1) * 2 ^ s ∧ nth ys (m + 1) * 2 ^ s < 18446744073709551616) := ⟨n1, n2⟩
  have HS : Hid ((64 - (Lib.bitLen (nth ys (m + 1)).toNat : Int)) = (s : Int)) := hS.symm
  have HM : Hid (ys.length = m + 2) := hm
  have hle' : m + 2 ≤ xs.length := by omega
  have k0 : ∀ o1 o2 o3 o4, ((((w.alloc o1).alloc o2).alloc o3).alloc o4).cell? ⟨yb, yo + (m + 1), none⟩ = some (.int .u64 (nth ys (m + 1))) := fun o1 o2 o3 o4 => (h2.grow ((((Below.refl _ _).alloc (Nat.le_refl _) o1).alloc (by simp) o2).alloc (by simp; omega) o3 |>.alloc (by simp; omega) o4)).at (i := m + 1) (by omega)
  clear h1 h2 hS n1 n2 hle hm
  go_enter Tryz.func163, Tryz.ntmps163
  go_wp2_with (first
    | (go_at_call 161; refine (Tryz.bits_LeadingZeros64 _ _ ty.1 (by omega)).mono ?_; rintro e w' ⟨rfl, hw'⟩; have hw2 := hw'.symm; subst hw2; rw [HS.out])
    | (at_make; refine wpList_make_words rfl _ _ rfl (m + 3) _ _ rfl rfl (by simp; omega) (by simp; omega) (by omega) ?_; intro w1 k1 k2 k3 k4; have X0 := ((((Bx.new w _ _).alloc _).alloc _).alloc _).below k3; have X1 := (((Bx.new _ _ _).alloc _).alloc _).below k3; have X2 := ((Bx.new _ _ _).alloc _).below k3; have X3 := (Bx.new _ _ _).below k3; simp only [World.size_alloc] at X1 X2 X3 k1 k2 k3 k4; have q0 := below_alloc4 k3; clear k3; have x0 := X0.1; have x1 := X1.1)
    | fail)
  refine (shiftInto_any _ 0 _ _ (List.replicate (m + 3) 0) (some ⟨yb, yo, none⟩) _ _ ys s w1 (by simp) HM.out.symm (Wd.zeros _) hy (by simp; rw [HM.out]) s1 (by simp; omega) k1 k2 (fun _ => ⟨_, _, rfl, by omega, hs2.out w1 q0⟩)).mono ?_
  rintro e w2 ⟨V, rfl, hVl, hVw, hVv, hVc, hVr⟩
  have NW : Hid _ := norm_words (m := m + 1) hy hVw HM.out (by omega) hVv N12.out.1 N12.out.2 s1
  have q2 := q0.trans (hVr.below (B := w.heap.size) (by omega) (by omega))
  have Y0 := X0.wr hVr (by omega); have Y2 := X2.wr hVr (by omega); have Y3 := X3.wr hVr (by omega)
  have cD : Cells w2 (w.heap.size + 1 + 1 + 1 + 1) 0 (V.take (m + 2)) := hVc.take _
  have DL : Hid ((V.take (m + 2)).length = m + 2) := by show _ = _; rw [List.length_take, hVl, HM.out]; omega
  have DW := hVw.take (m + 2)
  have g1 : w.heap.size + 1 + 1 + 1 + 1 < w2.heap.size := by have := hVr.size; omega
  generalize hDD : V.take (m + 2) = D at *
  clear hDD hVl hVw hVv hVc hVr X0 X1 X2 X3 x0 x1 k1 k2 k4 q0 k0
  have y0 := Y0.1
  go_wp2_with (first
    | (at_make; refine wpList_make_wordsN rfl _ _ rfl (xs.length + 1) _ _ rfl rfl (by simp) (by simp) (by omega) ?_; intro w3 k1 k2 k3 k4; have Z0 := Y0.below k3; have Z2 := Y2.below k3; have Z3 := Y3.below k3; have z0 := Z0.1; have q3 := q2.trans (k3.mono (by omega)); have cD3 := cD.grow k3; clear k3 y0)
    | fail)
  refine (shiftInto_any _ 0 _ _ (List.replicate (xs.length + 1) 0) a1 _ _ xs s w3 (by simp) rfl (Wd.zeros _) hx (by simp) s1 (by simp; omega) k1 k2.own (hs.out w3 q3 _ (by omega))).mono ?_
  rintro e w4 ⟨X, rfl, hXl, hXw, hXv, hXc, hXr⟩
  have q4 := q3.trans (hXr.below (B := w.heap.size) (by omega) (by omega))
  have V2 := Z2.wr hXr (by omega); have V3 := Z3.wr hXr (by omega)
  have cD4 := cD3.other hXr (by omega)
  have O4 := k2.wr hXr
  have g2 : w2.heap.size < w4.heap.size := by have := hXr.size; omega
  generalize hg2 : w2.heap.size = gR at *
  clear hg2 k1 k2 k4 Y0 Y2 Y3 Z0 Z2 Z3 z0 cD cD3 q2 q3 hXr
  go_wp2_with (first
    | (at_make; refine wpList_make_words rfl _ _ rfl L _ _ rfl rfl (by omega) (by omega) (by omega) ?_; intro w5 k1 k2 k3 k4; have U2 := V2.below k3; have U3 := V3.below k3; have q5 := q4.trans (k3.mono (by omega)); have cD5 := cD4.grow k3; have cX5 := hXc.grow k3; have O5 := O4.grow k3; clear k3)
    | fail)
  have LF : Hid (Long X (List.replicate L 0) D (val xs * 2 ^ s) L) := Long.first (n := m + 2) hx hXw hXl (by have := HLx.out; omega) DL.out (by omega) hXv s1 (by rw [NW.out.1]; exact NW.out.2.2)
  generalize hgQ : w4.heap.size = gQ at *
  clear hgQ V2 V3 cD4 hXc O4 q4 hXw hXv hXl
  go_loopw [48] (fun i wr => ∃ (k : Nat) (X Q : List Int), k ≤ L ∧ i = .int .i64 k ∧ Q.length = L ∧ Long X Q D (val xs * 2 ^ s) (L - k) ∧ Cells wr gR 0 X ∧ Cells wr gQ 0 Q ∧ Cells wr (w.heap.size + 1 + 1 + 1 + 1) 0 D ∧ OwnN wr gR (xs.length + 1) ∧ Own wr gQ ∧ Bx wr (w.heap.size + 1 + 1) (.slice none 0 0) ∧ Bx wr (w.heap.size + 1 + 1 + 1) (.slice none 0 0) ∧ Below w.heap.size w wr ∧ w5.heap.size ≤ wr.heap.size) (fun i _ => L - (intOf i).toNat)
  case atStart => exact ⟨0, X, List.replicate L 0, Nat.zero_le _, rfl, by simp, LF.out, cX5, k1, cD5, O5, k2, U2, U3, q5, Nat.le_refl _⟩
  case round =>
    clear LF cX5 k1 cD5 O5 k2 U2 U3 q5
    obtain ⟨k, X, Q, hk, rfl, hQl, hLg, cX, cQ, cD, OX, OQ, B2, B3, pr, hz⟩ := hrel
    have HQl : Hid (Q.length = L) := hQl
    clear hQl
    by_cases hlt : k < L
    · obtain ⟨j, hj⟩ : ∃ j, L - k = j + 1 := ⟨L - k - 1, by omega⟩
      have hj1 : ((L : Int) - 1 - (k : Int)) = (j : Int) := by omega
      have hj2 : j < L := by omega
      rw [hj] at hLg
      have HJ : Hid (L - (k + 1) = j) := by show _ = _; omega
      clear hj
      have XL : Hid (X.length = L + (m + 2)) := by have := hLg.lenX; rw [HQl.out, DL.out] at this; exact this
      have sg := hLg.seg DW
      rw [DL.out] at sg
      have SG : Hid _ := sg
      have w1' : IntKind.i64.wrap ((j : Int) + ((m : Int) + 2)) = (j : Int) + ((m : Int) + 2) := IntWalk.i64_in _ (by omega)
      have w2' : IntKind.i64.wrap ((j : Int) + ((m : Int) + 2) + 1) = (j : Int) + ((m : Int) + 2) + 1 := IntWalk.i64_in _ (by omega)
      have hsl1 := slice_lh gR 0 (xs.length + 1) (xs.length + 1) (j : Int) ((j : Int) + ((m : Int) + 2) + 1) j (m + 3) rfl (by omega) (by omega) (by omega)
      rw [Nat.zero_add] at hsl1
      have hsl2 := slice_h (w.heap.size + 1 + 1 + 1 + 1) 0 (m + 3) (m + 3) ((m : Int) + 2) (m + 2) (by omega) (by omega)
      have cS : Hid (Cells wr gR j ((X.drop j).take (m + 3))) := by have := (cX.drop j).take (m + 3); rwa [Nat.zero_add] at this
      have SL : Hid (((X.drop j).take (m + 3)).length = m + 3) := by show _ = _; rw [List.length_take, List.length_drop, XL.out]; omega
      have k0 : wr.cell? ⟨gQ, j, none⟩ = some (.int .u64 (nth Q j)) := by have := cQ j (by rw [HQl.out]; exact hj2); rw [Nat.zero_add] at this; exact this
      clear sg
      go_upto_region 12 with fail
      go_region_with (go_at_call 198; refine (divStep_any gR j _ _ ((X.drop j).take (m + 3)) (w.heap.size + 1 + 1 + 1 + 1) 0 _ D m _ DL.out rfl SL.out ((hLg.wX.drop j).take _) DW NW.out.2.1 (by rw [SG.out.1]; exact SG.out.2) (by omega) (by omega) cS.out.drew OX.own.drew (by omega) cD.drew).mono ?_; rintro e w6 ⟨q, R', rfl, q0, q1, hRl, hRw, hRz, hRs, hRlt, hRc, hRr⟩; have hRr2 := hRr.undrew; have cQ6 := cQ.other hRr2 (by omega); have e5 := cQ6 j (by rw [HQl.out]; exact hj2); rw [Nat.zero_add] at e5; have e6 := (OQ.wr hRr2).free 0 L j hj2; rw [Nat.zero_add] at e6)
      all_goals
        have LN : Hid (Long (spl X j (m + 3) R') (Q.set j q) D (val xs * 2 ^ s) j) := by
          have := hLg.next (S' := R') DW (hRl.trans (by rw [DL.out])) hRw q0 q1 (by rw [DL.out]; exact hRs) hRlt
          rw [DL.out] at this; exact this
        have CX : Hid (Cells w6 gR 0 (spl X j (m + 3) R')) := cX.spl (by have := XL.out; omega) hRl hRr2 hRc
        have cD6 := cD.other hRr2 (by omega)
        have B26 := B2.wr hRr2 (by omega)
        have B36 := B3.wr hRr2 (by omega)
        have pr6 := pr.trans (hRr2.below (B := w.heap.size) (by omega) (by omega))
        have OX6 := OX.wr hRr2
        have OQ6 := OQ.wr hRr2
        have hz6 := hRr2.size
        clear hRs hRc hRr hRr2
        go_wp2_with fail
        go_roundw
        case rel =>
          have WQ : Wr gQ 0 L w6 (w6.setCell ⟨gQ, j, none⟩ (.int .u64 q)) := (Wr.refl _ _ _ _).setCell j (by omega) _
          refine ⟨k + 1, spl X j (m + 3) R', Q.set j q, by omega, by go_num, by rw [List.length_set]; exact HQl.out, by rw [HJ.out]; exact LN.out, CX.out.other WQ (by omega), by have := cQ6.set j (by rw [HQl.out]; exact hj2) q; rwa [Nat.zero_add] at this, cD6.other WQ (by omega), OX6.wr WQ, OQ6.wr WQ, B26.wr WQ (by omega), B36.wr WQ (by omega), pr6.trans (WQ.below (by omega) (by omega)), by have := WQ.size; omega⟩
        case measure => simp [intOf]; omega
    · have ek : L - k = 0 := by omega
      rw [ek] at hLg
      have XL : Hid (X.length = L + (m + 2)) := by have := hLg.lenX; rw [HQl.out, DL.out] at this; exact this
      have hsl := slice_h gR 0 (xs.length + 1) (xs.length + 1) ((m : Int) + 2) (m + 2) (by omega) (by omega)
      have TL : Hid ((X.take (m + 2)).length = m + 2) := by show _ = _; rw [List.length_take, XL.out]; omega
      have DN : Hid _ := hLg.done (ys := ys) DW NW.out.1
      go_wp2_with fail
      refine (shiftDown_any gR 0 _ _ (X.take (m + 2)) s wr TL.out.symm (hLg.wX.take _) s1 (by have := TL.out; omega) (cX.take _) OX.own).mono ?_
      rintro e w6 ⟨Rm, rfl, hRl, hRw, hRv, hRc, hRr⟩
      rw [TL.out] at hRl hRr
      have cQ6 := cQ.other hRr (by omega)
      have B26 := B2.wr hRr (by omega)
      have B36 := B3.wr hRr (by omega)
      have OX6 := OX.wr hRr
      have pr6 := pr.trans (hRr.below (B := w.heap.size) (by omega) (by omega))
      have RV : Hid (val Rm = val xs - val Q * val ys ∧ val xs - val Q * val ys < val ys) := by
        have := DN.out
        rw [DL.out] at this
        exact ⟨hRv.trans this.1, this.2.2⟩
      have HRl : Hid (Rm.length = m + 2) := hRl
      clear hRl hRv hRr DN cX cQ cD B2 B3 pr
      go_upto_region 15 with fail
      go_region_with (first
        | (go_at_call_of 123 gQ; refine (trim_rd (some ⟨gQ, 0, none⟩) _ _ Q _ HQl.out.symm hLg.wQ (by rw [HQl.out]; exact Nat.le_refl _) (by omega) (fun _ => ⟨_, _, rfl, cQ6.drew⟩)).mono ?_; rintro e w7 ⟨n1, zs, rfl, -, hrd1, hnm1, hv1, hb1⟩; have HV1 : Hid (val zs = val Q) := hv1; clear hv1)
        | (go_at_call_of 123 gR; refine (trim_rd (some ⟨gR, 0, none⟩) _ _ Rm _ HRl.out.symm hRw (by rw [HRl.out]; omega) (by omega) (fun _ => ⟨_, _, rfl, hRc.drew.grow hb1⟩)).mono ?_; rintro e w8 ⟨n2, rs, rfl, -, hrd2, hnm2, hv2, hb2⟩; have HV2 : Hid (val rs = val Rm) := hv2; clear hv2; have C2 := (B26.drew.below hb1).below hb2; have C3 := (B36.drew.below hb1).below hb2; have c2 := C2.1; have c2' := C2.2; have c3 := C3.1; have c3' := C3.2))
      have rd1 := hrd1.grow hb2
      have Wa : Wr (w.heap.size + 1 + 1) 0 1 w8 (w8.setCell ⟨w.heap.size + 1 + 1, 0, none⟩ (.slice (some ⟨gQ, 0, none⟩) n1 L)) := (Wr.refl _ _ _ _).setCell 0 (by omega) _
      have C3a := C3.wr Wa (by omega)
      have f1 : ((w8.setCell ⟨w.heap.size + 1 + 1, 0, none⟩ (.slice (some ⟨gQ, 0, none⟩) n1 L)).setCell ⟨w.heap.size + 1 + 1 + 1, 0, none⟩ (.slice (some ⟨gR, 0, none⟩) n2 (xs.length + 1))).cell? ⟨w.heap.size + 1 + 1, 0, none⟩ = some (.slice (some ⟨gQ, 0, none⟩) n1 L) := by
        rw [World.cell?_setCell_other _ _ _ _ (by simp), World.cell?_setCell_same _ _ _ c2]
      have f2 : ((w8.setCell ⟨w.heap.size + 1 + 1, 0, none⟩ (.slice (some ⟨gQ, 0, none⟩) n1 L)).setCell ⟨w.heap.size + 1 + 1 + 1, 0, none⟩ (.slice (some ⟨gR, 0, none⟩) n2 (xs.length + 1))).cell? ⟨w.heap.size + 1 + 1 + 1, 0, none⟩ = some (.slice (some ⟨gR, 0, none⟩) n2 (xs.length + 1)) :=
        World.cell?_setCell_same _ _ _ C3a.1
      have hds : w6.drew.heap.size = w6.heap.size := rfl
      have prZ := below_put (below_put (pr6.trans ((below_undrew hb1).mono (by have := pr6.size; omega)) |>.trans (hb2.mono (by have := pr6.size; have := hb1.size; omega))) (show w.heap.size ≤ w.heap.size + 1 + 1 by omega) (.slice (some ⟨gQ, 0, none⟩) n1 L)) (show w.heap.size ≤ w.heap.size + 1 + 1 + 1 by omega) (.slice (some ⟨gR, 0, none⟩) n2 (xs.length + 1))
      go_wp2
      refine bodyPost_ret (v := .tuple #[.agg #[.slice (some ⟨gQ, 0, none⟩) n1 L], .agg #[.slice (some ⟨gR, 0, none⟩) n2 (xs.length + 1)]]) (by simp [results, Tryz.results163, go_sem, f1, f2]) rfl ⟨_, _, zs, rs, rfl, (rd1.box C2).box C3a, hnm1, (hrd2.box C2).box C3a, hnm2, by rw [HV1.out, HV2.out, RV.out.1]; omega, by rw [HV2.out, RV.out.1]; exact RV.out.2, ⟨gR, n2, xs.length + 1, rfl, by omega, ((OX6.drew.grow hb1).grow hb2).put.put, by omega⟩, prZ⟩
end Go.Proofs.YtebilgnmnambnaaGreatDoor

namespace Go.Proofs.YtebilgnmnambnaaGreatDoor
open Go.RowKit Tn
theorem two_boxes {w8 : World} {n : Nat} {a1 a2 : Option Addr} {l1 k1 l2 k2 : Nat} (u1 u2 : Value) (C2 : Bx w8 n (.slice a1 l1 k1)) (C3 : Bx w8 (n + 1) (.slice a2 l2 k2)) :
    ((w8.setCell ⟨n, 0, none⟩ u1).setCell ⟨n + 1, 0, none⟩ u2).cell? ⟨n, 0, none⟩ = some u1 ∧ ((w8.setCell ⟨n, 0, none⟩ u1).setCell ⟨n + 1, 0, none⟩ u2).cell? ⟨n + 1, 0, none⟩ = some u2 ∧
    (∀ v xs, Rd w8 v xs → Rd ((w8.setCell ⟨n, 0, none⟩ u1).setCell ⟨n + 1, 0, none⟩ u2) v xs) ∧ (∀ B w, B ≤ n → Below B w w8 → Below B w ((w8.setCell ⟨n, 0, none⟩ u1).setCell ⟨n + 1, 0, none⟩ u2)) := by
  have Wa : Wr n 0 1 w8 (w8.setCell ⟨n, 0, none⟩ u1) := (Wr.refl _ _ _ _).setCell 0 (by omega) _
  have C3a := C3.wr Wa (by omega)
  refine ⟨?_, World.cell?_setCell_same _ _ _ C3a.1, fun v xs h => (h.box C2).box C3a, fun B w hB h => below_put (below_put h hB _) (by omega) _⟩
  rw [World.cell?_setCell_other _ _ _ _ (by simp), World.cell?_setCell_same _ _ _ C2.1]
theorem cmp3_ge {x y : Int} (h : y ≤ x) : 0 ≤ cmp3 x y := by
  unfold cmp3; rw [if_neg (by omega)]; split <;> omega
theorem Rd.at {w : World} {a : Option Addr} {l c : Nat} {xs : List Int} (h : Rd w (.slice a l c) xs) : 0 < xs.length → ∃ b o, a = some ⟨b, o, none⟩ ∧ Cells w b o xs := by
  obtain ⟨_, a', c', e, _, _, g⟩ := h
  simp only [Value.slice.injEq] at e
  obtain ⟨rfl, _, _⟩ := e
  exact g
theorem divLong_any (v1 v2 : Value) (xs ys : List Int) (w : World) (h1 : Rd w v1 xs) (h2 : Rd w v2 ys) (n2 : Nm ys) (hl : 2 ≤ ys.length) (hle : ys.length ≤ xs.length) (hL : xs.length ≤ 274877906944) :
    Calls Tryz.prog 163 #[.agg #[v1], .agg #[v2]] w fun e w' => ∃ r1 r2 zs rs, e = .returned (.tuple #[.agg #[r1], .agg #[r2]]) ∧ Rd w' r1 zs ∧ Nm zs ∧ Rd w' r2 rs ∧ Nm rs ∧ val xs = val zs * val ys + val rs ∧ val rs < val ys ∧ Fresh w.heap.size w' r2 ∧ Below w.heap.size w w' := by
  obtain ⟨wx, a1, c1, rfl, _, _, g1⟩ := h1
  obtain ⟨wy, a2, c2, rfl, _, _, g2⟩ := h2
  obtain ⟨b, o, rfl, hc⟩ := g2 (by omega)
  obtain ⟨m, hm⟩ : ∃ m, ys.length = m + 2 := ⟨ys.length - 2, by omega⟩
  have ht := nm_top wy n2 (by omega)
  rw [hm] at ht ⊢
  exact divLong_all a1 b o c1 c2 xs ys m w wx wy hm ht hle hL g1 hc
set_option maxRecDepth 100000 in
set_option maxHeartbeats 800000 in
theorem divmod_lt (v1 v2 : Value) (a1 a2 : Option Addr) (c1 c2 : Nat) (xs ys : List Int) (w : World) (e1 : v1 = .slice a1 xs.length c1) (e2 : v2 = .slice a2 ys.length c2) (h1 : Rd w v1 xs) (h2 : Rd w v2 ys) (n1 : Nm xs) (n2 : Nm ys) (hlt : val xs < val ys) (hL : xs.length ≤ 274877906944) :
    Calls Tryz.prog 115 #[.agg #[v1], .agg #[v2]] w fun e w' => ∃ r1 r2 zs rs, e = .returned (.tuple #[.agg #[r1], .agg #[r2]]) ∧ Rd w' r1 zs ∧ Nm zs ∧ Rd w' r2 rs ∧ Nm rs ∧ val xs = val zs * val ys + val rs ∧ val rs < val ys ∧ Below w.heap.size w w' := by
  have H1 : Hid (Rd w v1 xs) := h1
  have H2 : Hid (Rd w v2 ys) := h2
  have HC : Hid (cmp3 (val xs) (val ys) = -1) := cmp3_lt hlt
  have HT : Hid (val xs < val ys) := hlt
  clear h1 h2 hlt
  subst e1 e2
  have pr : Below w.heap.size w ((((w.alloc (.cells #[.slice a1 xs.length c1] 65)).alloc (.cells #[.slice a2 ys.length c2] 65)).alloc (.cells #[.slice none 0 0] 65)).alloc (.cells #[.slice none 0 0] 65)) := ((((Below.refl _ _).alloc (Nat.le_refl _) _).alloc (by simp) _).alloc (by simp; omega) _).alloc (by simp; omega) _
  go_enter Tryz.func115, Tryz.ntmps115
  go_wp2_with (go_at_call 86; refine (Cmp_any _ _ xs ys _ (H1.out.grow pr) (H2.out.grow pr) n1 n2 (by omega)).mono ?_; rintro e w1 ⟨rfl, hb⟩; rw [HC.out]; have X0 := ((((Bx.new w _ _).alloc _).alloc _).alloc _).below hb; have X2 := ((Bx.new _ _ _).alloc _).below hb; have X3 := (Bx.new _ _ _).below hb; simp only [World.size_alloc] at X2 X3; have x0 := X0.1; have x2 := X2.1; have x2' := X2.2; have x3 := X3.1; have x3' := X3.2)
  go_region
  all_goals
    have T := two_boxes (.slice none 0 0) (.slice a1 xs.length c1) X2 X3
    have f1 := T.1
    have f2 := T.2.1
    have rd : Rd w1 (.slice a1 xs.length c1) xs := (H1.out.grow pr).grow hb
    have prZ := T.2.2.2 w.heap.size w (by omega) (pr.trans (hb.mono pr.size))
    go_wp2
    refine bodyPost_ret (v := .tuple #[.agg #[.slice none 0 0], .agg #[.slice a1 xs.length c1]]) (by simp [results, Tryz.results115, go_sem, f1, f2]) rfl ⟨_, _, [], xs, rfl, (T.2.2.1 _ _ (Rd.nil _)).drew, Nm.nil, (T.2.2.1 _ _ rd).drew, n1, by simp [val], HT.out, prZ.drew⟩
set_option maxRecDepth 100000 in
set_option maxHeartbeats 800000 in
theorem divmod_long (v1 v2 : Value) (a1 a2 : Option Addr) (c1 c2 : Nat) (xs ys : List Int) (w : World) (e1 : v1 = .slice a1 xs.length c1) (e2 : v2 = .slice a2 ys.length c2) (h1 : Rd w v1 xs) (h2 : Rd w v2 ys) (n1 : Nm xs) (n2 : Nm ys) (hge : val ys ≤ val xs) (hl : 2 ≤ ys.length) (hL : xs.length ≤ 274877906944) :
    Calls Tryz.prog 115 #[.agg #[v1], .agg #[v2]] w fun e w' => ∃ r1 r2 zs rs, e = .returned (.tuple #[.agg #[r1], .agg #[r2]]) ∧ Rd w' r1 zs ∧ Nm zs ∧ Rd w' r2 rs ∧ Nm rs ∧ val xs = val zs * val ys + val rs ∧ val rs < val ys ∧ Fresh w.heap.size w' r2 ∧ Below w.heap.size w w' := by
  have H1 : Hid (Rd w v1 xs) := h1
  have H2 : Hid (Rd w v2 ys) := h2
  have hc := cmp3_ge hge
  have hle : ys.length ≤ xs.length := by
    by_cases h : ys.length ≤ xs.length
    · exact h
    · have := val_lt_of_length h1.1 h2.1 n2 (by omega); omega
  clear h1 h2 hge
  subst e1 e2
  have hne : ((ys.length : Int) == 1) = false := by rw [beq_eq_false_iff_ne]; omega
  have pr : Below w.heap.size w ((((w.alloc (.cells #[.slice a1 xs.length c1] 65)).alloc (.cells #[.slice a2 ys.length c2] 65)).alloc (.cells #[.slice none 0 0] 65)).alloc (.cells #[.slice none 0 0] 65)) := ((((Below.refl _ _).alloc (Nat.le_refl _) _).alloc (by simp) _).alloc (by simp; omega) _).alloc (by simp; omega) _
  go_enter Tryz.func115, Tryz.ntmps115
  go_wp2_with (first
    | (go_at_call 86; refine (Cmp_any _ _ xs ys _ (H1.out.grow pr) (H2.out.grow pr) n1 n2 (by omega)).mono ?_; rintro e w1 ⟨rfl, hb⟩; have X0 := ((((Bx.new w _ _).alloc _).alloc _).alloc _).below hb; have X1 := (((Bx.new _ _ _).alloc _).alloc _).below hb; have X2 := ((Bx.new _ _ _).alloc _).below hb; have X3 := (Bx.new _ _ _).below hb; simp only [World.size_alloc] at X1 X2 X3; have x0 := X0.1; have x1 := X1.1)
    | (go_at_call 163; refine (divLong_any _ _ xs ys _ ((H1.out.grow pr).grow hb) ((H2.out.grow pr).grow hb) n2 hl hle hL).mono ?_; rintro e w2 ⟨r1, r2, zs, rs, rfl, hr1, hn1, hr2, hn2, hv, hlt, hfr, hb2⟩; obtain ⟨p1, p2, p3, rfl⟩ := hr1.shape; obtain ⟨p4, p5, p6, rfl⟩ := hr2.shape; have HV : Hid _ := hv; clear hv; have Y2 := X2.below hb2; have Y3 := X3.below hb2; have y2 := Y2.1; have y2' := Y2.2; have y3 := Y3.1; have y3' := Y3.2))
  have T := two_boxes (.slice p1 p2 p3) (.slice p4 p5 p6) Y2 Y3
  have f1 := T.1
  have f2 := T.2.1
  have p7 := pr.trans (hb.mono pr.size)
  have prZ := T.2.2.2 w.heap.size w (by omega) (p7.trans (hb2.mono p7.size))
  refine bodyPost_ret (v := .tuple #[.agg #[.slice p1 p2 p3], .agg #[.slice p4 p5 p6]]) (by simp [results, Tryz.results115, go_sem, f1, f2]) rfl ⟨_, _, zs, rs, rfl, T.2.2.1 _ _ hr1, hn1, T.2.2.1 _ _ hr2, hn2, HV.out, hlt, (hfr.mono p7.size).put.put, prZ⟩
set_option maxRecDepth 100000 in
set_option maxHeartbeats 800000 in
theorem divmod_word (v1 : Value) (a1 : Option Addr) (c1 c2 yb yo : Nat) (d : Int) (xs : List Int) (w : World) (e1 : v1 = .slice a1 xs.length c1) (h1 : Rd w v1 xs) (h2 : Rd w (.slice (some ⟨yb, yo, none⟩) 1 c2) [d]) (hcd : w.cell? ⟨yb, yo, none⟩ = some (.int .u64 d)) (n1 : Nm xs) (d0 : 0 < d) (d1 : d < 18446744073709551616) (hge : d ≤ val xs) (hL : xs.length ≤ 274877906944) :
    Calls Tryz.prog 115 #[.agg #[v1], .agg #[.slice (some ⟨yb, yo, none⟩) 1 c2]] w fun e w' => ∃ r1 r2 zs rs, e = .returned (.tuple #[.agg #[r1], .agg #[r2]]) ∧ Rd w' r1 zs ∧ Nm zs ∧ Rd w' r2 rs ∧ Nm rs ∧ val xs = val zs * d + val rs ∧ val rs < d ∧ Below w.heap.size w w' := by
  have H1 : Hid (Rd w v1 xs) := h1
  have H2 : Hid (Rd w (.slice (some ⟨yb, yo, none⟩) 1 c2) [d]) := h2
  have n2 : Nm [d] := Or.inr (by simp; omega)
  have vd : Hid (val [d] = d) := by show _ = _; simp [val]
  have hc := cmp3_ge (x := val xs) (y := val [d]) (by rw [vd.out]; exact hge)
  have hw := h1.1
  have ly := lt_of_cell hcd
  clear h1 h2
  subst e1
  have pr : Below w.heap.size w ((((w.alloc (.cells #[.slice a1 xs.length c1] 65)).alloc (.cells #[.slice (some ⟨yb, yo, none⟩) 1 c2] 65)).alloc (.cells #[.slice none 0 0] 65)).alloc (.cells #[.slice none 0 0] 65)) := ((((Below.refl _ _).alloc (Nat.le_refl _) _).alloc (by simp) _).alloc (by simp; omega) _).alloc (by simp; omega) _
  go_enter Tryz.func115, Tryz.ntmps115
  go_wp2_with (first
    | (go_at_call 86; refine (Cmp_any _ _ xs [d] _ (H1.out.grow pr) (H2.out.grow pr) n1 n2 (by omega)).mono ?_; rintro e w1 ⟨rfl, hb⟩; have X0 := ((((Bx.new w _ _).alloc _).alloc _).alloc _).below hb; have X1 := (((Bx.new _ _ _).alloc _).alloc _).below hb; have X2 := ((Bx.new _ _ _).alloc _).below hb; have X3 := (Bx.new _ _ _).below hb; simp only [World.size_alloc] at X1 X2 X3; have x0 := X0.1; have x1 := X1.1; have q1 := pr.trans (hb.mono pr.size))
    | (at_make; refine wpList_make_words rfl _ _ rfl xs.length _ _ rfl rfl rfl rfl (by omega) ?_; intro w2 k1 k2 k3 k4; have Y0 := X0.below k3; have Y1 := X1.below k3; have Y2 := X2.below k3; have Y3 := X3.below k3; have y0 := Y0.1; have q2 := q1.trans (k3.mono q1.size); have rdx := H1.out.grow q2; have g1 : w.heap.size + 1 + 1 + 1 < w1.heap.size := X3.lt)
    | ((with_reducible refine at_copy ?_); refine wpList_copy_words rfl _ _ rfl (List.replicate xs.length 0) xs _ 0 _ a1 _ _ _ rfl rfl (by simp) rfl (by simp) k1 k2 rdx.at ?_; intro w3 k5 k6; rw [List.drop_of_length_le (by simp), List.append_nil] at k5; have Z1 := Y1.wr k6 (by omega); have Z2 := Y2.wr k6 (by omega); have Z3 := Y3.wr k6 (by omega); have z1 := Z1.1; have q3 := q2.trans (k6.below (B := w.heap.size) (by omega) (by omega)); have zd := (q3.cell (p := ⟨yb, yo, none⟩) ly).trans hcd)
    | fail)
  have O3 := k2.wr k6
  have g3 : w1.heap.size < w3.heap.size := by have := k6.size; omega
  refine (divWord_any _ 0 _ _ xs d w3 rfl hw d0 d1 (by omega) k5 (O3.free _ _)).mono ?_
  rintro e w4 ⟨S', r, rfl, r0, r1, hSl, hSw, hSv, hSc, hSr⟩
  have V2 := Z2.wr hSr (by omega); have V3 := Z3.wr hSr (by omega)
  have q4 := q3.trans (hSr.below (B := w.heap.size) (by omega) (by omega))
  have HSl : Hid (S'.length = xs.length) := hSl
  have HSv : Hid (val S' * d + r = val xs) := hSv
  clear hSl hSv x0 x1 y0 z1 zd k5 k6 k1 k2
  go_wp2_with (first
    | (go_at_call 123; refine (trim_rd _ _ _ S' w4 HSl.out.symm hSw (by rw [HSl.out]; exact Nat.le_refl _) (by omega) (fun _ => ⟨_, _, rfl, hSc⟩)).mono ?_; rintro e w5 ⟨n, zs, rfl, -, hrd, hnm, hvz, hbl⟩; have HVZ : Hid (val zs = val S') := hvz; clear hvz; have U2 := V2.below hbl; have U3 := V3.below hbl; have q5 := q4.trans (hbl.mono q4.size))
    | (go_at_call 65; refine (Of_any r _ r0 (by omega)).mono ?_; rintro e w6 ⟨r2, rs, rfl, hrd2, hnm2, hvr, hbl2⟩; obtain ⟨p4, p5, p6, rfl⟩ := hrd2.shape; have HVR : Hid (val rs = r) := hvr; clear hvr; have T2 := U2.below hbl2; have T3 := U3.below hbl2; have t2 := T2.1; have t2' := T2.2; have t3 := T3.1; have t3' := T3.2; have q6 := q5.trans (hbl2.mono q5.size))
    | fail)
  have T := two_boxes (.slice (some ⟨w1.heap.size, 0, none⟩) n xs.length) (.slice p4 p5 p6) T2 T3
  have f1 := T.1
  have f2 := T.2.1
  have prZ := T.2.2.2 w.heap.size w (by omega) q6
  refine bodyPost_ret (v := .tuple #[.agg #[.slice (some ⟨w1.heap.size, 0, none⟩) n xs.length], .agg #[.slice p4 p5 p6]]) (by simp [results, Tryz.results115, go_sem, f1, f2]) rfl ⟨_, _, zs, rs, rfl, T.2.2.1 _ _ (hrd.grow hbl2), hnm, T.2.2.1 _ _ hrd2, hnm2, by rw [HVZ.out, HVR.out]; exact HSv.out.symm, by rw [HVR.out]; exact r1, prZ⟩
theorem DivMod_any (v1 v2 : Value) (xs ys : List Int) (w : World) (h1 : Rd w v1 xs) (h2 : Rd w v2 ys) (n1 : Nm xs) (n2 : Nm ys) (hy : 0 < val ys) (hL : xs.length ≤ 274877906944) :
    Calls Tryz.prog 115 #[.agg #[v1], .agg #[v2]] w fun e w' => ∃ r1 r2 zs rs, e = .returned (.tuple #[.agg #[r1], .agg #[r2]]) ∧ Rd w' r1 zs ∧ Nm zs ∧ Rd w' r2 rs ∧ Nm rs ∧ val zs = val xs / val ys ∧ val rs = val xs % val ys ∧ Below w.heap.size w w' := by
  have fin : Calls Tryz.prog 115 #[.agg #[v1], .agg #[v2]] w fun e w' => ∃ r1 r2 zs rs, e = .returned (.tuple #[.agg #[r1], .agg #[r2]]) ∧ Rd w' r1 zs ∧ Nm zs ∧ Rd w' r2 rs ∧ Nm rs ∧ val xs = val zs * val ys + val rs ∧ val rs < val ys ∧ Below w.heap.size w w' := by
    obtain ⟨_, a1, c1, e1, _, _, _⟩ := id h1
    obtain ⟨wy, a2, c2, e2, _, _, g2⟩ := id h2
    by_cases h : val xs < val ys
    · exact divmod_lt v1 v2 a1 a2 c1 c2 xs ys w e1 e2 h1 h2 n1 n2 h hL
    · by_cases hl : ys.length = 1
      · obtain ⟨b, o, rfl, hc⟩ := g2 (by omega)
        obtain ⟨d, rfl⟩ : ∃ d, ys = [d] := List.length_eq_one_iff.1 hl
        have hv : val [d] = d := by simp [val]
        rw [hv] at h hy ⊢
        have hcd := hc 0 (by simp)
        subst e2
        exact divmod_word v1 a1 c1 c2 b o d xs w e1 h1 h2 (by simpa [nth] using hcd) n1 hy (wy.head).2 (by omega) hL
      · have hl2 : 2 ≤ ys.length := by
          by_cases h0 : ys.length = 0
          · have := List.eq_nil_of_length_eq_zero h0; subst this; simp [val] at hy
          · omega
        refine (divmod_long v1 v2 a1 a2 c1 c2 xs ys w e1 e2 h1 h2 n1 n2 (by omega) hl2 hL).mono ?_
        rintro e w' ⟨r1, r2, zs, rs, he, a, b, c, d, hv, hlt, _, hb⟩
        exact ⟨r1, r2, zs, rs, he, a, b, c, d, hv, hlt, hb⟩
  refine fin.mono ?_
  rintro e w' ⟨r1, r2, zs, rs, he, a, b, c, d, hv, hlt, hb⟩
  refine ⟨r1, r2, zs, rs, he, a, b, c, d, ?_, ?_, hb⟩
  · rw [hv, Int.add_comm, Int.add_mul_ediv_right _ _ (by omega), Int.ediv_eq_zero_of_lt (val_nonneg c.1) hlt]; omega
  · rw [hv, Int.add_comm, Int.add_mul_emod_self_right, Int.emod_eq_of_lt (val_nonneg c.1) hlt]
end Go.Proofs.YtebilgnmnambnaaGreatDoor
