import Derived.Test.YtebilgnmnambnaaGreatDoorPart11
import Derived.Test.YtebilgnmnambnaaGreatDoorPart10
import Derived.Test.YtebilgnmnambnaaGreatDoorPart07

namespace Go.Proofs.YtebilgnmnambnaaGreatDoor.L
open Go.RowKit Tl
theorem quo_le {a q b r : Int} (h : a = q * b + r) (r0 : 0 ≤ r) (q0 : 0 ≤ q) (b0 : 0 < b) : q ≤ a := le_of_quo h r0 q0 b0
theorem emod_of {a q b r : Int} (h : a = q * b + r) (r0 : 0 ≤ r) (r1 : r < b) (b0 : 0 < b) : a / b = q ∧ a % b = r := by
 have h1 : a / b = q := by
  rw [h, Int.add_comm, Int.add_mul_ediv_right _ _ (by omega), Int.ediv_eq_zero_of_lt r0 r1]; omega
 refine ⟨h1, ?_⟩
 have := Int.mul_ediv_add_emod a b
 rw [h1, Int.mul_comm] at this
 omega
theorem rest_none {xs : List Int} (h : Wd xs) (n : Nm xs) (v : val xs = 0) : xs.length = 0 := by
 rw [val_eq_zero h n] at v
 rw [v]; rfl
theorem Of_q (n : Int) (w : World) (n0 : -9223372036854775808 ≤ n) (n1 : n < 9223372036854775808) :
  Calls Tryz.prog 36 #[.int .i64 n] w fun e w' => ∃ v, e = .returned v ∧ IsQ w' v (n : Rat) ∧ Below w.heap.size w w' := by
 have num : ((n : Rat)).num = n := rfl
 have den : ((n : Rat)).den = 1 := rfl
 by_cases c : n < 0
 ·refine (Of_neg n c n0 w).mono ?_
  rintro e w' ⟨u1, u2, ns, rfl, h1, m1, v1, h2, b⟩
  obtain ⟨a, c1, rfl⟩ := rd_form h1
  obtain ⟨a', c2, rfl⟩ := rd_form h2
  exact ⟨_, rfl, ⟨ns, [1], _, _, _, _, by rw [num, decide_eq_true c], h1, m1, by rw [v1, num]; omega, h2, nm_one, by rw [val_one, den]; rfl⟩, b⟩
 ·refine (Of_pos n (by omega) n1 w).mono ?_
  rintro e w' ⟨u1, u2, ns, rfl, h1, m1, v1, h2, b⟩
  obtain ⟨a, c1, rfl⟩ := rd_form h1
  obtain ⟨a', c2, rfl⟩ := rd_form h2
  exact ⟨_, rfl, ⟨ns, [1], _, _, _, _, by rw [num, decide_eq_false c], h1, m1, by rw [v1, num]; omega, h2, nm_one, by rw [val_one, den]; rfl⟩, b⟩
theorem rest_some {xs : List Int} (v : val xs ≠ 0) : ((xs.length : Int) == 0) = false := by
 rw [beq_eq_false_iff_ne]
 intro k
 have : xs = [] := List.eq_nil_of_length_eq_zero (by omega)
 rw [this] at v
 exact v rfl
set_option maxHeartbeats 6400000 in
set_option maxRecDepth 100000 in
theorem qfloor_pos (p1 p2 : Option Addr) (c1 c2 : Nat) (A B : List Int) (w : World) (h1 : Rd w (.slice p1 A.length c1) A) (h2 : Rd w (.slice p2 B.length c2) B) (n1 : Nm A) (n2 : Nm B) (l1 : A.length ≤ 100000000) (l2 : B.length ≤ 100000000) (b0 : 0 < val B) :
  Calls Tryz.prog 89 #[.agg #[.bool false, .slice p1 A.length c1, .slice p2 B.length c2]] w fun e w' => ∃ u u1 v X, e = .returned (.tuple #[.agg #[.bool false, u, u1], v]) ∧ Rd w' u X ∧ Nm X ∧ val X = val A / val B ∧ Rd w' u1 [1] ∧ IsQ w' v (mkRat (val A % val B) (val B).toNat) ∧ Below w.heap.size w w' := by
 have hAw := h1.1
 have hBw := h2.1
 have BW := h2.1
 go_enter Tryz.func89, Tryz.ntmps89
 go_upto_region 1 with fail
 have K1x : Blk (((w.alloc (.cells #[.bool false, .slice p1 A.length c1, .slice p2 B.length c2] 56)).alloc (.cells #[.bool false, .slice none 0 0, .slice none 0 0] 56)).alloc (.cells #[.bool false, .slice none 0 0, .slice none 0 0] 56)) w.heap.size #[.bool false, .slice p1 A.length c1, .slice p2 B.length c2] 56 := ((Blk.new w _ _).alloc _).alloc _
 have K2x : Blk (((w.alloc (.cells #[.bool false, .slice p1 A.length c1, .slice p2 B.length c2] 56)).alloc (.cells #[.bool false, .slice none 0 0, .slice none 0 0] 56)).alloc (.cells #[.bool false, .slice none 0 0, .slice none 0 0] 56)) (w.heap.size + 1) #[.bool false, .slice none 0 0, .slice none 0 0] 56 := (blk_at (by simp)).alloc _
 have K3x : Blk (((w.alloc (.cells #[.bool false, .slice p1 A.length c1, .slice p2 B.length c2] 56)).alloc (.cells #[.bool false, .slice none 0 0, .slice none 0 0] 56)).alloc (.cells #[.bool false, .slice none 0 0, .slice none 0 0] 56)) (w.heap.size + 1 + 1) #[.bool false, .slice none 0 0, .slice none 0 0] 56 := blk_at (by simp)
 have prx : Below w.heap.size w (((w.alloc (.cells #[.bool false, .slice p1 A.length c1, .slice p2 B.length c2] 56)).alloc (.cells #[.bool false, .slice none 0 0, .slice none 0 0] 56)).alloc (.cells #[.bool false, .slice none 0 0, .slice none 0 0] 56)) := (((Below.refl _ _).alloc (Nat.le_refl _) _).alloc (by simp) _).alloc (by simp; omega) _
 have h1x := h1.grow prx
 have h2x := h2.grow prx
 clear h1 h2
 generalize (((w.alloc (.cells #[.bool false, .slice p1 A.length c1, .slice p2 B.length c2] 56)).alloc (.cells #[.bool false, .slice none 0 0, .slice none 0 0] 56)).alloc (.cells #[.bool false, .slice none 0 0, .slice none 0 0] 56)) = W at *
 have k1c0x : W.cell? ⟨w.heap.size, 0, none⟩ = some (.bool false) := K1x.at 0
 have k1c1x : W.cell? ⟨w.heap.size, 1, none⟩ = some (.slice p1 A.length c1) := K1x.at 1
 have k1c2x : W.cell? ⟨w.heap.size, 2, none⟩ = some (.slice p2 B.length c2) := K1x.at 2
 go_wp2_with (first
  | (go_at_call 142; ((with_reducible refine (DivMod_any (.slice p1 A.length c1) (.slice p2 B.length c2) A B _ ?hr1 ?hr2 n1 n2 (by omega) b0).mono ?_)); (case hr1 => exact (by repeat (first | with_reducible exact h1x | with_reducible refine rd_drew ?_ | with_reducible refine rd_alloc ?_))); (case hr2 => exact (by repeat (first | with_reducible exact h2x | with_reducible refine rd_drew ?_ | with_reducible refine rd_alloc ?_))); (rintro e w1 ⟨u', v', X, Y, rfl, hX, nX, hY, nY, eq', y0, y1, bd⟩; have eq : Hid (val A = val X * val B + val Y) := eq'; clear eq'; obtain ⟨pu, cu, rfl⟩ := rd_form hX; obtain ⟨pv, cv, rfl⟩ := rd_form hY; have huy := hX; have hvy := hY; have lX : X.length ≤ A.length := len_mono hAw hX.1 nX (quo_le eq.out y0 (val_nonneg hX.1) b0); have lY : Y.length ≤ B.length := len_mono hBw hY.1 nY (Int.le_of_lt y1); have K1y : Blk w1 w.heap.size #[.bool false, .slice p1 A.length c1, .slice p2 B.length c2] 56 := blk_keep bd (by repeat (first | with_reducible exact K1x | with_reducible refine blk_drew ?_ | with_reducible refine Blk.alloc ?_ _)); have K2y : Blk w1 (w.heap.size + 1) #[.bool false, .slice none 0 0, .slice none 0 0] 56 := blk_keep bd (by repeat (first | with_reducible exact K2x | with_reducible refine blk_drew ?_ | with_reducible refine Blk.alloc ?_ _)); have K3y : Blk w1 (w.heap.size + 1 + 1) #[.bool false, .slice none 0 0, .slice none 0 0] 56 := blk_keep bd (by repeat (first | with_reducible exact K3x | with_reducible refine blk_drew ?_ | with_reducible refine Blk.alloc ?_ _)); have pry : Below w.heap.size w w1 := bel (by repeat (first | with_reducible exact prx | with_reducible refine bel_drw ?_ | with_reducible refine bel_alloc ?_)) bd; have h2y : Rd w1 (.slice p2 B.length c2) B := Rd.grow (by repeat (first | with_reducible exact h2x | with_reducible refine rd_drew ?_ | with_reducible refine rd_alloc ?_)) bd; have k1c0y : w1.cell? ⟨w.heap.size, 0, none⟩ = some (.bool false) := K1y.at 0; have k1c1y : w1.cell? ⟨w.heap.size, 1, none⟩ = some (.slice p1 A.length c1) := K1y.at 1; have k1c2y : w1.cell? ⟨w.heap.size, 2, none⟩ = some (.slice p2 B.length c2) := K1y.at 2; have K1z := K1y.alloc (.cells #[.int .i64 1] 3); have h1w : (w1.alloc (.cells #[.int .i64 1] 3)).cell? ⟨w.heap.size, 2, none⟩ = some (.slice p2 B.length c2) := K1z.at 2))
  | (go_at_call 80; ((with_reducible refine (Make_q false (.slice pv Y.length cv) (.slice p2 B.length c2) Y B 100000000 _ ?hr1 ?hr2 nY n2 (by omega) l2 (by decide) b0).mono ?_)); (case hr1 => exact (by repeat (first | with_reducible exact hvy | with_reducible refine rd_drew ?_ | with_reducible refine rd_alloc ?_))); (case hr2 => exact (by repeat (first | with_reducible exact h2y | with_reducible refine rd_drew ?_ | with_reducible refine rd_alloc ?_))); (rintro e w2 ⟨q, rfl, hq, bm⟩; have pr2 : Below w.heap.size w w2 := bel (by repeat (first | with_reducible exact pry | with_reducible refine bel_drw ?_ | with_reducible refine bel_alloc ?_)) bm; have K2z : Blk w2 (w.heap.size + 1) #[.bool false, .slice none 0 0, .slice none 0 0] 56 := blk_keep bm (by repeat (first | with_reducible exact K2y | with_reducible refine blk_drew ?_ | with_reducible refine Blk.alloc ?_ _)); have K3z : Blk w2 (w.heap.size + 1 + 1) #[.bool false, .slice none 0 0, .slice none 0 0] 56 := blk_keep bm (by repeat (first | with_reducible exact K3y | with_reducible refine blk_drew ?_ | with_reducible refine Blk.alloc ?_ _)); have hu2 : Rd w2 (.slice pu X.length cu) X := Rd.grow (by repeat (first | with_reducible exact huy | with_reducible refine rd_drew ?_ | with_reducible refine rd_alloc ?_)) bm; have ho : Rd w2 (.slice (some ⟨w1.heap.size, 0, none⟩) 1 1) [1] := Rd.grow (rd_one (cell_at rfl) (by decide) (by decide)) bm; have em := emod_of eq.out y0 y1 b0; rw [show sgI false (val Y) = val A % val B from em.2.symm] at hq; have EM : Hid (val A / val B = val X) := em.1; clear em; obtain ⟨N, M, p7, p8, c7, c8, rfl, hN, nN, vN', hM, nM, vM'⟩ := hq; have vN : Hid _ := vN'; have vM : Hid _ := vM'; clear vN' vM'; have r2c0z : w2.cell? ⟨w.heap.size + 1, 0, none⟩ = some (.bool false) := K2z.at 0; have r2f0z := K2z.free 0; have r2c1z : w2.cell? ⟨w.heap.size + 1, 1, none⟩ = some (.slice none 0 0) := K2z.at 1; have r2f1z := K2z.free 1; have r2c2z : w2.cell? ⟨w.heap.size + 1, 2, none⟩ = some (.slice none 0 0) := K2z.at 2; have r2f2z := K2z.free 2; have r3c0z : w2.cell? ⟨w.heap.size + 1 + 1, 0, none⟩ = some (.bool false) := K3z.at 0; have r3f0z := K3z.free 0; have r3c1z : w2.cell? ⟨w.heap.size + 1 + 1, 1, none⟩ = some (.slice none 0 0) := K3z.at 1; have r3f1z := K3z.free 1; have r3c2z : w2.cell? ⟨w.heap.size + 1 + 1, 2, none⟩ = some (.slice none 0 0) := K3z.at 2; have r3f2z := K3z.free 2))
  | fail)
 obtain ⟨F0, F1, F2, FB⟩ := put3 (.bool false) (.slice pu X.length cu) (.slice (some ⟨w1.heap.size, 0, none⟩) 1 1) r2c0z r2c1z r2c2z
 have K3w : Blk (((w2.setCell ⟨w.heap.size + 1, 0, none⟩ (.bool false)).setCell ⟨w.heap.size + 1, 1, none⟩ (.slice pu X.length cu)).setCell ⟨w.heap.size + 1, 2, none⟩ (.slice (some ⟨w1.heap.size, 0, none⟩) 1 1)) (w.heap.size + 1 + 1) #[.bool false, .slice none 0 0, .slice none 0 0] 56 := blk_other3 (by omega) K3z
 obtain ⟨G0, G1, G2, GB⟩ := put3 (w1 := (((w2.setCell ⟨w.heap.size + 1, 0, none⟩ (.bool false)).setCell ⟨w.heap.size + 1, 1, none⟩ (.slice pu X.length cu)).setCell ⟨w.heap.size + 1, 2, none⟩ (.slice (some ⟨w1.heap.size, 0, none⟩) 1 1))) (.bool _) (.slice p7 N.length c7) (.slice p8 M.length c8) (K3w.at 0) (K3w.at 1) (K3w.at 2)
 have H0 := fun (x y z : Value) => set3_other (x := x) (y := y) (z := z) (show w.heap.size + 1 ≠ w.heap.size + 1 + 1 by omega) F0
 have H1 := fun (x y z : Value) => set3_other (x := x) (y := y) (z := z) (show w.heap.size + 1 ≠ w.heap.size + 1 + 1 by omega) F1
 have H2 := fun (x y z : Value) => set3_other (x := x) (y := y) (z := z) (show w.heap.size + 1 ≠ w.heap.size + 1 + 1 by omega) F2
 exact bodyPost_ret (v := .tuple #[.agg #[.bool false, .slice pu X.length cu, .slice (some ⟨w1.heap.size, 0, none⟩) 1 1], .agg #[.bool _, .slice p7 N.length c7, .slice p8 M.length c8]]) (by simp [results, Tryz.results89, go_sem, G0, G1, G2, H0, H1, H2]) rfl ⟨_, _, _, X, rfl, (hu2.putQ K2z).putQ K3w, nX, EM.out.symm, (ho.putQ K2z).putQ K3w, ⟨N, M, _, _, _, _, rfl, (hN.putQ K2z).putQ K3w, nN, vN.out, (hM.putQ K2z).putQ K3w, nM, vM.out⟩, GB _ _ (by omega) (FB _ _ (by omega) pr2)⟩
set_option maxHeartbeats 6400000 in
set_option maxRecDepth 100000 in
theorem qfloor_whole (p1 p2 : Option Addr) (c1 c2 : Nat) (A B : List Int) (w : World) (h1 : Rd w (.slice p1 A.length c1) A) (h2 : Rd w (.slice p2 B.length c2) B) (n1 : Nm A) (n2 : Nm B) (l1 : A.length ≤ 100000000) (b0 : 0 < val B) (rz : Hid (val A % val B = 0)) :
  Calls Tryz.prog 89 #[.agg #[.bool true, .slice p1 A.length c1, .slice p2 B.length c2]] w fun e w' => ∃ u u1 v X, e = .returned (.tuple #[.agg #[.bool (decide (0 < X.length)), u, u1], v]) ∧ Rd w' u X ∧ Nm X ∧ val X = val A / val B ∧ Rd w' u1 [1] ∧ IsQ w' v 0 ∧ Below w.heap.size w w' := by
 have hAw := h1.1
 have hBw := h2.1
 have BW := h2.1
 go_enter Tryz.func89, Tryz.ntmps89
 go_upto_region 1 with fail
 have K1x : Blk (((w.alloc (.cells #[.bool true, .slice p1 A.length c1, .slice p2 B.length c2] 56)).alloc (.cells #[.bool false, .slice none 0 0, .slice none 0 0] 56)).alloc (.cells #[.bool false, .slice none 0 0, .slice none 0 0] 56)) w.heap.size #[.bool true, .slice p1 A.length c1, .slice p2 B.length c2] 56 := ((Blk.new w _ _).alloc _).alloc _
 have K2x : Blk (((w.alloc (.cells #[.bool true, .slice p1 A.length c1, .slice p2 B.length c2] 56)).alloc (.cells #[.bool false, .slice none 0 0, .slice none 0 0] 56)).alloc (.cells #[.bool false, .slice none 0 0, .slice none 0 0] 56)) (w.heap.size + 1) #[.bool false, .slice none 0 0, .slice none 0 0] 56 := (blk_at (by simp)).alloc _
 have K3x : Blk (((w.alloc (.cells #[.bool true, .slice p1 A.length c1, .slice p2 B.length c2] 56)).alloc (.cells #[.bool false, .slice none 0 0, .slice none 0 0] 56)).alloc (.cells #[.bool false, .slice none 0 0, .slice none 0 0] 56)) (w.heap.size + 1 + 1) #[.bool false, .slice none 0 0, .slice none 0 0] 56 := blk_at (by simp)
 have prx : Below w.heap.size w (((w.alloc (.cells #[.bool true, .slice p1 A.length c1, .slice p2 B.length c2] 56)).alloc (.cells #[.bool false, .slice none 0 0, .slice none 0 0] 56)).alloc (.cells #[.bool false, .slice none 0 0, .slice none 0 0] 56)) := (((Below.refl _ _).alloc (Nat.le_refl _) _).alloc (by simp) _).alloc (by simp; omega) _
 have h1x := h1.grow prx
 have h2x := h2.grow prx
 clear h1 h2
 generalize (((w.alloc (.cells #[.bool true, .slice p1 A.length c1, .slice p2 B.length c2] 56)).alloc (.cells #[.bool false, .slice none 0 0, .slice none 0 0] 56)).alloc (.cells #[.bool false, .slice none 0 0, .slice none 0 0] 56)) = W at *
 have k1c0x : W.cell? ⟨w.heap.size, 0, none⟩ = some (.bool true) := K1x.at 0
 have k1c1x : W.cell? ⟨w.heap.size, 1, none⟩ = some (.slice p1 A.length c1) := K1x.at 1
 have k1c2x : W.cell? ⟨w.heap.size, 2, none⟩ = some (.slice p2 B.length c2) := K1x.at 2
 go_wp2_with (first
  | (go_at_call 142; ((with_reducible refine (DivMod_any (.slice p1 A.length c1) (.slice p2 B.length c2) A B _ ?hr1 ?hr2 n1 n2 (by omega) b0).mono ?_)); (case hr1 => exact (by repeat (first | with_reducible exact h1x | with_reducible refine rd_drew ?_ | with_reducible refine rd_alloc ?_))); (case hr2 => exact (by repeat (first | with_reducible exact h2x | with_reducible refine rd_drew ?_ | with_reducible refine rd_alloc ?_))); (rintro e w1 ⟨u', v', X, Y, rfl, hX, nX, hY, nY, eq', y0, y1, bd⟩; have eq : Hid (val A = val X * val B + val Y) := eq'; clear eq'; obtain ⟨pu, cu, rfl⟩ := rd_form hX; obtain ⟨pv, cv, rfl⟩ := rd_form hY; have huy := hX; have hvy := hY; have lX : X.length ≤ A.length := len_mono hAw hX.1 nX (quo_le eq.out y0 (val_nonneg hX.1) b0); have lY : Y.length ≤ B.length := len_mono hBw hY.1 nY (Int.le_of_lt y1); have K1y : Blk w1 w.heap.size #[.bool true, .slice p1 A.length c1, .slice p2 B.length c2] 56 := blk_keep bd (by repeat (first | with_reducible exact K1x | with_reducible refine blk_drew ?_ | with_reducible refine Blk.alloc ?_ _)); have K2y : Blk w1 (w.heap.size + 1) #[.bool false, .slice none 0 0, .slice none 0 0] 56 := blk_keep bd (by repeat (first | with_reducible exact K2x | with_reducible refine blk_drew ?_ | with_reducible refine Blk.alloc ?_ _)); have K3y : Blk w1 (w.heap.size + 1 + 1) #[.bool false, .slice none 0 0, .slice none 0 0] 56 := blk_keep bd (by repeat (first | with_reducible exact K3x | with_reducible refine blk_drew ?_ | with_reducible refine Blk.alloc ?_ _)); have pry : Below w.heap.size w w1 := bel (by repeat (first | with_reducible exact prx | with_reducible refine bel_drw ?_ | with_reducible refine bel_alloc ?_)) bd; have h2y : Rd w1 (.slice p2 B.length c2) B := Rd.grow (by repeat (first | with_reducible exact h2x | with_reducible refine rd_drew ?_ | with_reducible refine rd_alloc ?_)) bd; have k1c0y : w1.cell? ⟨w.heap.size, 0, none⟩ = some (.bool true) := K1y.at 0; have k1c1y : w1.cell? ⟨w.heap.size, 1, none⟩ = some (.slice p1 A.length c1) := K1y.at 1; have k1c2y : w1.cell? ⟨w.heap.size, 2, none⟩ = some (.slice p2 B.length c2) := K1y.at 2; have zY : Y.length = 0 := rest_none hY.1 nY (by rw [← (emod_of eq.out y0 y1 b0).2]; exact rz.out); have zY2 : ((Y.length : Int) == 0) = true := (by rw [zY]; rfl)))
  | (go_at_call 36; ((with_reducible refine (Of_q 0 _ (by decide) (by decide)).mono ?_)); (rintro e w2 ⟨q, rfl, hq, bm⟩; have pr2 : Below w.heap.size w w2 := bel (by repeat (first | with_reducible exact pry | with_reducible refine bel_drw ?_ | with_reducible refine bel_alloc ?_)) bm; have K2z : Blk w2 (w.heap.size + 1) #[.bool false, .slice none 0 0, .slice none 0 0] 56 := blk_keep bm (by repeat (first | with_reducible exact K2y | with_reducible refine blk_drew ?_ | with_reducible refine Blk.alloc ?_ _)); have K3z : Blk w2 (w.heap.size + 1 + 1) #[.bool false, .slice none 0 0, .slice none 0 0] 56 := blk_keep bm (by repeat (first | with_reducible exact K3y | with_reducible refine blk_drew ?_ | with_reducible refine Blk.alloc ?_ _)); have hu2 : Rd w2 (.slice pu X.length cu) X := Rd.grow (by repeat (first | with_reducible exact huy | with_reducible refine rd_drew ?_ | with_reducible refine rd_alloc ?_)) bm; have ho : Rd w2 (.slice (some ⟨w1.heap.size, 0, none⟩) 1 1) [1] := Rd.grow (rd_one (cell_at rfl) (by decide) (by decide)) bm; have EM : Hid (val A / val B = val X) := (emod_of eq.out y0 y1 b0).1; rw [show (((0 : Int) : Rat)) = 0 from rfl] at hq; obtain ⟨N, M, p7, p8, c7, c8, rfl, hN, nN, vN', hM, nM, vM'⟩ := hq; have vN : Hid _ := vN'; have vM : Hid _ := vM'; clear vN' vM'; have r2c0z : w2.cell? ⟨w.heap.size + 1, 0, none⟩ = some (.bool false) := K2z.at 0; have r2f0z := K2z.free 0; have r2c1z : w2.cell? ⟨w.heap.size + 1, 1, none⟩ = some (.slice none 0 0) := K2z.at 1; have r2f1z := K2z.free 1; have r2c2z : w2.cell? ⟨w.heap.size + 1, 2, none⟩ = some (.slice none 0 0) := K2z.at 2; have r2f2z := K2z.free 2; have r3c0z : w2.cell? ⟨w.heap.size + 1 + 1, 0, none⟩ = some (.bool false) := K3z.at 0; have r3f0z := K3z.free 0; have r3c1z : w2.cell? ⟨w.heap.size + 1 + 1, 1, none⟩ = some (.slice none 0 0) := K3z.at 1; have r3f1z := K3z.free 1; have r3c2z : w2.cell? ⟨w.heap.size + 1 + 1, 2, none⟩ = some (.slice none 0 0) := K3z.at 2; have r3f2z := K3z.free 2))
  | fail)
 obtain ⟨F0, F1, F2, FB⟩ := put3 (.bool (decide (0 < X.length))) (.slice pu X.length cu) (.slice (some ⟨w1.heap.size, 0, none⟩) 1 1) r2c0z r2c1z r2c2z
 have K3w : Blk (((w2.setCell ⟨w.heap.size + 1, 0, none⟩ (.bool (decide (0 < X.length)))).setCell ⟨w.heap.size + 1, 1, none⟩ (.slice pu X.length cu)).setCell ⟨w.heap.size + 1, 2, none⟩ (.slice (some ⟨w1.heap.size, 0, none⟩) 1 1)) (w.heap.size + 1 + 1) #[.bool false, .slice none 0 0, .slice none 0 0] 56 := blk_other3 (by omega) K3z
 obtain ⟨G0, G1, G2, GB⟩ := put3 (w1 := (((w2.setCell ⟨w.heap.size + 1, 0, none⟩ (.bool (decide (0 < X.length)))).setCell ⟨w.heap.size + 1, 1, none⟩ (.slice pu X.length cu)).setCell ⟨w.heap.size + 1, 2, none⟩ (.slice (some ⟨w1.heap.size, 0, none⟩) 1 1))) (.bool false) (.slice p7 N.length c7) (.slice p8 M.length c8) (K3w.at 0) (K3w.at 1) (K3w.at 2)
 have H0 := fun (x y z : Value) => set3_other (x := x) (y := y) (z := z) (show w.heap.size + 1 ≠ w.heap.size + 1 + 1 by omega) F0
 have H1 := fun (x y z : Value) => set3_other (x := x) (y := y) (z := z) (show w.heap.size + 1 ≠ w.heap.size + 1 + 1 by omega) F1
 have H2 := fun (x y z : Value) => set3_other (x := x) (y := y) (z := z) (show w.heap.size + 1 ≠ w.heap.size + 1 + 1 by omega) F2
 exact bodyPost_ret (v := .tuple #[.agg #[.bool (decide (0 < X.length)), .slice pu X.length cu, .slice (some ⟨w1.heap.size, 0, none⟩) 1 1], .agg #[.bool false, .slice p7 N.length c7, .slice p8 M.length c8]]) (by simp [results, Tryz.results89, go_sem, G0, G1, G2, H0, H1, H2]) rfl ⟨_, _, _, X, rfl, (hu2.putQ K2z).putQ K3w, nX, EM.out.symm, (ho.putQ K2z).putQ K3w, ⟨N, M, _, _, _, _, rfl, (hN.putQ K2z).putQ K3w, nN, vN.out, (hM.putQ K2z).putQ K3w, nM, vM.out⟩, GB _ _ (by omega) (FB _ _ (by omega) pr2)⟩
end Go.Proofs.YtebilgnmnambnaaGreatDoor.L

namespace Go.Proofs.YtebilgnmnambnaaGreatDoor.L
open Go.RowKit Tl
set_option maxHeartbeats 6400000 in
set_option maxRecDepth 100000 in
theorem qfloor_part (p1 p2 : Option Addr) (c1 c2 : Nat) (A B : List Int) (w : World) (h1 : Rd w (.slice p1 A.length c1) A) (h2 : Rd w (.slice p2 B.length c2) B) (n1 : Nm A) (n2 : Nm B) (l1 : A.length ≤ 100000000) (l2 : B.length ≤ 100000000) (b0 : 0 < val B) (rz : Hid (val A % val B ≠ 0)) :
  Calls Tryz.prog 89 #[.agg #[.bool true, .slice p1 A.length c1, .slice p2 B.length c2]] w fun e w' => ∃ u u1 v X, e = .returned (.tuple #[.agg #[.bool true, u, u1], v]) ∧ Rd w' u X ∧ Nm X ∧ val X = val A / val B + 1 ∧ Rd w' u1 [1] ∧ IsQ w' v (mkRat (val B - val A % val B) (val B).toNat) ∧ Below w.heap.size w w' := by
 have hAw := h1.1
 have hBw := h2.1
 have BW := h2.1
 go_enter Tryz.func89, Tryz.ntmps89
 go_upto_region 1 with fail
 have K1x : Blk (((w.alloc (.cells #[.bool true, .slice p1 A.length c1, .slice p2 B.length c2] 56)).alloc (.cells #[.bool false, .slice none 0 0, .slice none 0 0] 56)).alloc (.cells #[.bool false, .slice none 0 0, .slice none 0 0] 56)) w.heap.size #[.bool true, .slice p1 A.length c1, .slice p2 B.length c2] 56 := ((Blk.new w _ _).alloc _).alloc _
 have K2x : Blk (((w.alloc (.cells #[.bool true, .slice p1 A.length c1, .slice p2 B.length c2] 56)).alloc (.cells #[.bool false, .slice none 0 0, .slice none 0 0] 56)).alloc (.cells #[.bool false, .slice none 0 0, .slice none 0 0] 56)) (w.heap.size + 1) #[.bool false, .slice none 0 0, .slice none 0 0] 56 := (blk_at (by simp)).alloc _
 have K3x : Blk (((w.alloc (.cells #[.bool true, .slice p1 A.length c1, .slice p2 B.length c2] 56)).alloc (.cells #[.bool false, .slice none 0 0, .slice none 0 0] 56)).alloc (.cells #[.bool false, .slice none 0 0, .slice none 0 0] 56)) (w.heap.size + 1 + 1) #[.bool false, .slice none 0 0, .slice none 0 0] 56 := blk_at (by simp)
 have prx : Below w.heap.size w (((w.alloc (.cells #[.bool true, .slice p1 A.length c1, .slice p2 B.length c2] 56)).alloc (.cells #[.bool false, .slice none 0 0, .slice none 0 0] 56)).alloc (.cells #[.bool false, .slice none 0 0, .slice none 0 0] 56)) := (((Below.refl _ _).alloc (Nat.le_refl _) _).alloc (by simp) _).alloc (by simp; omega) _
 have h1x := h1.grow prx
 have h2x := h2.grow prx
 clear h1 h2
 generalize (((w.alloc (.cells #[.bool true, .slice p1 A.length c1, .slice p2 B.length c2] 56)).alloc (.cells #[.bool false, .slice none 0 0, .slice none 0 0] 56)).alloc (.cells #[.bool false, .slice none 0 0, .slice none 0 0] 56)) = W at *
 have k1c0x : W.cell? ⟨w.heap.size, 0, none⟩ = some (.bool true) := K1x.at 0
 have k1c1x : W.cell? ⟨w.heap.size, 1, none⟩ = some (.slice p1 A.length c1) := K1x.at 1
 have k1c2x : W.cell? ⟨w.heap.size, 2, none⟩ = some (.slice p2 B.length c2) := K1x.at 2
 go_upto_region 6 with (first
  | (go_at_call 142; ((with_reducible refine (DivMod_any (.slice p1 A.length c1) (.slice p2 B.length c2) A B _ ?hr1 ?hr2 n1 n2 (by omega) b0).mono ?_)); (case hr1 => exact (by repeat (first | with_reducible exact h1x | with_reducible refine rd_drew ?_ | with_reducible refine rd_alloc ?_))); (case hr2 => exact (by repeat (first | with_reducible exact h2x | with_reducible refine rd_drew ?_ | with_reducible refine rd_alloc ?_))); (rintro e w1 ⟨u', v', X, Y, rfl, hX, nX, hY, nY, eq', y0, y1, bd⟩; have eq : Hid (val A = val X * val B + val Y) := eq'; clear eq'; obtain ⟨pu, cu, rfl⟩ := rd_form hX; obtain ⟨pv, cv, rfl⟩ := rd_form hY; have huy := hX; have hvy := hY; have lX : X.length ≤ A.length := len_mono hAw hX.1 nX (quo_le eq.out y0 (val_nonneg hX.1) b0); have lY : Y.length ≤ B.length := len_mono hBw hY.1 nY (Int.le_of_lt y1); have K1y : Blk w1 w.heap.size #[.bool true, .slice p1 A.length c1, .slice p2 B.length c2] 56 := blk_keep bd (by repeat (first | with_reducible exact K1x | with_reducible refine blk_drew ?_ | with_reducible refine Blk.alloc ?_ _)); have K2y : Blk w1 (w.heap.size + 1) #[.bool false, .slice none 0 0, .slice none 0 0] 56 := blk_keep bd (by repeat (first | with_reducible exact K2x | with_reducible refine blk_drew ?_ | with_reducible refine Blk.alloc ?_ _)); have K3y : Blk w1 (w.heap.size + 1 + 1) #[.bool false, .slice none 0 0, .slice none 0 0] 56 := blk_keep bd (by repeat (first | with_reducible exact K3x | with_reducible refine blk_drew ?_ | with_reducible refine Blk.alloc ?_ _)); have pry : Below w.heap.size w w1 := bel (by repeat (first | with_reducible exact prx | with_reducible refine bel_drw ?_ | with_reducible refine bel_alloc ?_)) bd; have h2y : Rd w1 (.slice p2 B.length c2) B := Rd.grow (by repeat (first | with_reducible exact h2x | with_reducible refine rd_drew ?_ | with_reducible refine rd_alloc ?_)) bd; have k1c0y : w1.cell? ⟨w.heap.size, 0, none⟩ = some (.bool true) := K1y.at 0; have k1c1y : w1.cell? ⟨w.heap.size, 1, none⟩ = some (.slice p1 A.length c1) := K1y.at 1; have k1c2y : w1.cell? ⟨w.heap.size, 2, none⟩ = some (.slice p2 B.length c2) := K1y.at 2; have zY2 : ((Y.length : Int) == 0) = false := rest_some (by rw [← (emod_of eq.out y0 y1 b0).2]; exact rz.out)))
  | fail)
 have EM : Hid (val A / val B = val X ∧ val A % val B = val Y) := emod_of eq.out y0 y1 b0
 have h1w : Wd [1] := h1_wd
 have LB : Y.length ≤ B.length := lY
 have YB : val Y ≤ val B := Int.le_of_lt y1
 have lXA : X.length ≤ 100000000 := by omega
 have lYA : Y.length ≤ 100000000 := by omega
 have nq1 : w.heap.size ≠ w.heap.size + 1 := by omega
 have nq2 : w.heap.size ≠ w.heap.size + 1 + 1 := by omega
 have lo : ([1] : List Int).length ≤ 100000000 := by decide
 go_region_held3 (fun x => x.cell? ⟨w.heap.size, 2, none⟩ = some (.slice p2 B.length c2)) (first | ((try dsimp only); (repeat (first | with_reducible exact c2m | with_reducible exact c2k | with_reducible exact c2z | with_reducible exact k1c2y | with_reducible refine cell_drew ?_ | with_reducible refine cell_alloc ?_ | with_reducible refine set3_other nq1 ?_ | with_reducible refine set3_other nq2 ?_)); done) | go_keep) (first
  | (go_at_call 79; ((with_reducible refine (Add_any (.slice pu X.length cu) _ X [1] _ ?hr1 ?hr2 (by omega) (by decide)).mono ?_)); (case hr1 => exact (by repeat (first | with_reducible exact huy | with_reducible refine rd_drew ?_ | with_reducible refine rd_alloc ?_))); (case hr2 => exact rd_one (by repeat (first | ((with_reducible refine cell_at ?_); (first | rfl | (simp; done))) | with_reducible refine cell_drew ?_ | with_reducible refine cell_alloc ?_)) (by decide) (by decide)); (rintro e w3 ⟨s', Q, rfl, hQ, nQ, vQ', bs⟩; have vQ : Hid (val Q = val X + val [1]) := vQ'; clear vQ'; obtain ⟨ps, cs, rfl⟩ := rd_form hQ; have c2z : w3.cell? ⟨w.heap.size, 2, none⟩ = some (.slice p2 B.length c2) := keep_cell bs (by repeat (first | with_reducible exact k1c2y | with_reducible refine cell_drew ?_ | with_reducible refine cell_alloc ?_)); have K1z : Blk w3 w.heap.size #[.bool true, .slice p1 A.length c1, .slice p2 B.length c2] 56 := blk_keep bs (by repeat (first | with_reducible exact K1y | with_reducible refine blk_drew ?_ | with_reducible refine Blk.alloc ?_ _)); have K2z : Blk w3 (w.heap.size + 1) #[.bool false, .slice none 0 0, .slice none 0 0] 56 := blk_keep bs (by repeat (first | with_reducible exact K2y | with_reducible refine blk_drew ?_ | with_reducible refine Blk.alloc ?_ _)); have K3z : Blk w3 (w.heap.size + 1 + 1) #[.bool false, .slice none 0 0, .slice none 0 0] 56 := blk_keep bs (by repeat (first | with_reducible exact K3y | with_reducible refine blk_drew ?_ | with_reducible refine Blk.alloc ?_ _)); have prz : Below w.heap.size w w3 := bel (by repeat (first | with_reducible exact pry | with_reducible refine bel_drw ?_ | with_reducible refine bel_alloc ?_)) bs; have h2z : Rd w3 (.slice p2 B.length c2) B := Rd.grow (by repeat (first | with_reducible exact h2y | with_reducible refine rd_drew ?_ | with_reducible refine rd_alloc ?_)) bs; have huz : Rd w3 (.slice pu X.length cu) X := Rd.grow (by repeat (first | with_reducible exact huy | with_reducible refine rd_drew ?_ | with_reducible refine rd_alloc ?_)) bs; have hvz : Rd w3 (.slice pv Y.length cv) Y := Rd.grow (by repeat (first | with_reducible exact hvy | with_reducible refine rd_drew ?_ | with_reducible refine rd_alloc ?_)) bs))
  | (go_at_call 101; ((with_reducible refine (Sub_any (.slice p2 B.length c2) (.slice pv Y.length cv) B Y _ ?hr1 ?hr2 (by omega) LB YB).mono ?_)); (case hr1 => exact (by repeat (first | with_reducible exact h2z | with_reducible refine rd_drew ?_ | with_reducible refine rd_alloc ?_))); (case hr2 => exact (by repeat (first | with_reducible exact hvz | with_reducible refine rd_drew ?_ | with_reducible refine rd_alloc ?_))); (rintro e w4 ⟨t', T, rfl, hT, nT, vT', bt⟩; have vT : Hid (val T = val B - val Y) := vT'; clear vT'; have lT : T.length ≤ 100000000 := sub_len hBw hY.1 hT.1 nT vT.out l2; obtain ⟨pt, ct, rfl⟩ := rd_form hT; have c2k : w4.cell? ⟨w.heap.size, 2, none⟩ = some (.slice p2 B.length c2) := keep_cell bt (by repeat (first | with_reducible exact c2z | with_reducible refine cell_drew ?_ | with_reducible refine cell_alloc ?_)); have hQk : Rd w4 (.slice ps Q.length cs) Q := Rd.grow (by repeat (first | with_reducible exact hQ | with_reducible refine rd_drew ?_ | with_reducible refine rd_alloc ?_)) bt; have K1k : Blk w4 w.heap.size #[.bool true, .slice p1 A.length c1, .slice p2 B.length c2] 56 := blk_keep bt (by repeat (first | with_reducible exact K1z | with_reducible refine blk_drew ?_ | with_reducible refine Blk.alloc ?_ _)); have K2k : Blk w4 (w.heap.size + 1) #[.bool false, .slice none 0 0, .slice none 0 0] 56 := blk_keep bt (by repeat (first | with_reducible exact K2z | with_reducible refine blk_drew ?_ | with_reducible refine Blk.alloc ?_ _)); have K3k : Blk w4 (w.heap.size + 1 + 1) #[.bool false, .slice none 0 0, .slice none 0 0] 56 := blk_keep bt (by repeat (first | with_reducible exact K3z | with_reducible refine blk_drew ?_ | with_reducible refine Blk.alloc ?_ _)); have prk : Below w.heap.size w w4 := bel (by repeat (first | with_reducible exact prz | with_reducible refine bel_drw ?_ | with_reducible refine bel_alloc ?_)) bt; have h2k : Rd w4 (.slice p2 B.length c2) B := Rd.grow (by repeat (first | with_reducible exact h2z | with_reducible refine rd_drew ?_ | with_reducible refine rd_alloc ?_)) bt))
  | (go_at_call 80; ((with_reducible refine (Make_q false (.slice pt T.length ct) (.slice p2 B.length c2) T B 100000000 _ ?hr1 ?hr2 nT n2 lT l2 (by decide) b0).mono ?_)); (case hr1 => exact (by repeat (first | with_reducible exact hT | with_reducible refine rd_drew ?_ | with_reducible refine rd_alloc ?_))); (case hr2 => exact (by repeat (first | with_reducible exact h2k | with_reducible refine rd_drew ?_ | with_reducible refine rd_alloc ?_))); (rintro e w2 ⟨q, rfl, hq, bm⟩; rw [show sgI false (val T) = val B - val A % val B from (by rw [EM.out.2]; exact vT.out)] at hq; have c2m : w2.cell? ⟨w.heap.size, 2, none⟩ = some (.slice p2 B.length c2) := keep_cell bm (by repeat (first | with_reducible exact c2k | with_reducible refine cell_drew ?_ | with_reducible refine cell_alloc ?_)); have pr2 : Below w.heap.size w w2 := bel (by repeat (first | with_reducible exact prk | with_reducible refine bel_drw ?_ | with_reducible refine bel_alloc ?_)) bm; have K2z2 : Blk w2 (w.heap.size + 1) #[.bool false, .slice none 0 0, .slice none 0 0] 56 := blk_keep bm (by repeat (first | with_reducible exact K2k | with_reducible refine blk_drew ?_ | with_reducible refine Blk.alloc ?_ _)); have K3z2 : Blk w2 (w.heap.size + 1 + 1) #[.bool false, .slice none 0 0, .slice none 0 0] 56 := blk_keep bm (by repeat (first | with_reducible exact K3k | with_reducible refine blk_drew ?_ | with_reducible refine Blk.alloc ?_ _)); have hu2 : Rd w2 (.slice ps Q.length cs) Q := Rd.grow (by repeat (first | with_reducible exact hQk | with_reducible refine rd_drew ?_ | with_reducible refine rd_alloc ?_)) bm;  obtain ⟨N, M, p7, p8, c7, c8, rfl, hN, nN, vN', hM, nM, vM'⟩ := hq; have vN : Hid _ := vN'; have vM : Hid _ := vM'; clear vN' vM'; have r2c0z2 : w2.cell? ⟨w.heap.size + 1, 0, none⟩ = some (.bool false) := K2z2.at 0; have r2f0z2 := K2z2.free 0; have r2c1z2 : w2.cell? ⟨w.heap.size + 1, 1, none⟩ = some (.slice none 0 0) := K2z2.at 1; have r2f1z2 := K2z2.free 1; have r2c2z2 : w2.cell? ⟨w.heap.size + 1, 2, none⟩ = some (.slice none 0 0) := K2z2.at 2; have r2f2z2 := K2z2.free 2; have r3c0z2 : w2.cell? ⟨w.heap.size + 1 + 1, 0, none⟩ = some (.bool false) := K3z2.at 0; have r3f0z2 := K3z2.free 0; have r3c1z2 : w2.cell? ⟨w.heap.size + 1 + 1, 1, none⟩ = some (.slice none 0 0) := K3z2.at 1; have r3f1z2 := K3z2.free 1; have r3c2z2 : w2.cell? ⟨w.heap.size + 1 + 1, 2, none⟩ = some (.slice none 0 0) := K3z2.at 2; have r3f2z2 := K3z2.free 2; have K2n := K2z2.alloc (.cells #[.int .i64 1] 3); have K3n := K3z2.alloc (.cells #[.int .i64 1] 3); have r2c0n : (w2.alloc (.cells #[.int .i64 1] 3)).cell? ⟨w.heap.size + 1, 0, none⟩ = some (.bool false) := K2n.at 0; have r2f0n := K2n.free 0; have r2c1n : (w2.alloc (.cells #[.int .i64 1] 3)).cell? ⟨w.heap.size + 1, 1, none⟩ = some (.slice none 0 0) := K2n.at 1; have r2f1n := K2n.free 1; have r2c2n : (w2.alloc (.cells #[.int .i64 1] 3)).cell? ⟨w.heap.size + 1, 2, none⟩ = some (.slice none 0 0) := K2n.at 2; have r2f2n := K2n.free 2; have r3c0n : (w2.alloc (.cells #[.int .i64 1] 3)).cell? ⟨w.heap.size + 1 + 1, 0, none⟩ = some (.bool false) := K3n.at 0; have r3f0n := K3n.free 0; have r3c1n : (w2.alloc (.cells #[.int .i64 1] 3)).cell? ⟨w.heap.size + 1 + 1, 1, none⟩ = some (.slice none 0 0) := K3n.at 1; have r3f1n := K3n.free 1; have r3c2n : (w2.alloc (.cells #[.int .i64 1] 3)).cell? ⟨w.heap.size + 1 + 1, 2, none⟩ = some (.slice none 0 0) := K3n.at 2; have r3f2n := K3n.free 2))
  | fail)
 ·go_wp2_with fail
  have ho : Rd w2 (.slice (some ⟨w3.heap.size, 0, none⟩) 1 1) [1] := rd_one (by repeat (first | ((with_reducible refine cell_at ?_); (first | rfl | (simp; done))) | with_reducible refine cell_drew ?_ | with_reducible refine cell_alloc ?_ | with_reducible refine keep_cell bm ?_ | with_reducible refine keep_cell bt ?_ | with_reducible refine keep_cell bs ?_)) (by decide) (by decide)
  obtain ⟨F0, F1, F2, FB⟩ := put3 (.bool true) (.slice ps Q.length cs) (.slice (some ⟨w3.heap.size, 0, none⟩) 1 1) r2c0z2 r2c1z2 r2c2z2
  have K3w : Blk (((w2.setCell ⟨w.heap.size + 1, 0, none⟩ (.bool true)).setCell ⟨w.heap.size + 1, 1, none⟩ (.slice ps Q.length cs)).setCell ⟨w.heap.size + 1, 2, none⟩ (.slice (some ⟨w3.heap.size, 0, none⟩) 1 1)) (w.heap.size + 1 + 1) #[.bool false, .slice none 0 0, .slice none 0 0] 56 := blk_other3 (by omega) K3z2
  obtain ⟨G0, G1, G2, GB⟩ := put3 (w1 := (((w2.setCell ⟨w.heap.size + 1, 0, none⟩ (.bool true)).setCell ⟨w.heap.size + 1, 1, none⟩ (.slice ps Q.length cs)).setCell ⟨w.heap.size + 1, 2, none⟩ (.slice (some ⟨w3.heap.size, 0, none⟩) 1 1))) (.bool _) (.slice p7 N.length c7) (.slice p8 M.length c8) (K3w.at 0) (K3w.at 1) (K3w.at 2)
  have H0 := fun (x y z : Value) => set3_other (x := x) (y := y) (z := z) (show w.heap.size + 1 ≠ w.heap.size + 1 + 1 by omega) F0
  have H1 := fun (x y z : Value) => set3_other (x := x) (y := y) (z := z) (show w.heap.size + 1 ≠ w.heap.size + 1 + 1 by omega) F1
  have H2 := fun (x y z : Value) => set3_other (x := x) (y := y) (z := z) (show w.heap.size + 1 ≠ w.heap.size + 1 + 1 by omega) F2
  exact bodyPost_ret (v := .tuple #[.agg #[.bool true, .slice ps Q.length cs, .slice (some ⟨w3.heap.size, 0, none⟩) 1 1], .agg #[.bool _, .slice p7 N.length c7, .slice p8 M.length c8]]) (by simp [results, Tryz.results89, go_sem, G0, G1, G2, H0, H1, H2]) rfl ⟨_, _, _, Q, rfl, (hu2.putQ K2z2).putQ K3w, nQ, by rw [vQ.out, EM.out.1, val_one], (ho.putQ K2z2).putQ K3w, ⟨N, M, _, _, _, _, rfl, (hN.putQ K2z2).putQ K3w, nN, vN.out, (hM.putQ K2z2).putQ K3w, nM, vM.out⟩, GB _ _ (by omega) (FB _ _ (by omega) pr2)⟩
 ·go_wp2_with fail
  have ho : Rd w2 (.slice (some ⟨w4.heap.size, 0, none⟩) 1 1) [1] := rd_one (by repeat (first | ((with_reducible refine cell_at ?_); (first | rfl | (simp; done))) | with_reducible refine cell_drew ?_ | with_reducible refine cell_alloc ?_ | with_reducible refine keep_cell bm ?_ | with_reducible refine keep_cell bt ?_ | with_reducible refine keep_cell bs ?_)) (by decide) (by decide)
  obtain ⟨F0, F1, F2, FB⟩ := put3 (.bool true) (.slice ps Q.length cs) (.slice (some ⟨w4.heap.size, 0, none⟩) 1 1) r2c0z2 r2c1z2 r2c2z2
  have K3w : Blk (((w2.setCell ⟨w.heap.size + 1, 0, none⟩ (.bool true)).setCell ⟨w.heap.size + 1, 1, none⟩ (.slice ps Q.length cs)).setCell ⟨w.heap.size + 1, 2, none⟩ (.slice (some ⟨w4.heap.size, 0, none⟩) 1 1)) (w.heap.size + 1 + 1) #[.bool false, .slice none 0 0, .slice none 0 0] 56 := blk_other3 (by omega) K3z2
  obtain ⟨G0, G1, G2, GB⟩ := put3 (w1 := (((w2.setCell ⟨w.heap.size + 1, 0, none⟩ (.bool true)).setCell ⟨w.heap.size + 1, 1, none⟩ (.slice ps Q.length cs)).setCell ⟨w.heap.size + 1, 2, none⟩ (.slice (some ⟨w4.heap.size, 0, none⟩) 1 1))) (.bool _) (.slice p7 N.length c7) (.slice p8 M.length c8) (K3w.at 0) (K3w.at 1) (K3w.at 2)
  have H0 := fun (x y z : Value) => set3_other (x := x) (y := y) (z := z) (show w.heap.size + 1 ≠ w.heap.size + 1 + 1 by omega) F0
  have H1 := fun (x y z : Value) => set3_other (x := x) (y := y) (z := z) (show w.heap.size + 1 ≠ w.heap.size + 1 + 1 by omega) F1
  have H2 := fun (x y z : Value) => set3_other (x := x) (y := y) (z := z) (show w.heap.size + 1 ≠ w.heap.size + 1 + 1 by omega) F2
  exact bodyPost_ret (v := .tuple #[.agg #[.bool true, .slice ps Q.length cs, .slice (some ⟨w4.heap.size, 0, none⟩) 1 1], .agg #[.bool _, .slice p7 N.length c7, .slice p8 M.length c8]]) (by simp [results, Tryz.results89, go_sem, G0, G1, G2, H0, H1, H2]) rfl ⟨_, _, _, Q, rfl, (hu2.putQ K2z2).putQ K3w, nQ, by rw [vQ.out, EM.out.1, val_one], (ho.putQ K2z2).putQ K3w, ⟨N, M, _, _, _, _, rfl, (hN.putQ K2z2).putQ K3w, nN, vN.out, (hM.putQ K2z2).putQ K3w, nM, vM.out⟩, GB _ _ (by omega) (FB _ _ (by omega) pr2)⟩
 ·go_wp2_with fail
  have ho : Rd (w2.alloc (.cells #[.int .i64 1] 3)) (.slice (some ⟨w2.heap.size, 0, none⟩) 1 1) [1] := rd_one (by repeat (first | ((with_reducible refine cell_at ?_); (first | rfl | (simp; done))) | with_reducible refine cell_drew ?_ | with_reducible refine cell_alloc ?_ | with_reducible refine keep_cell bm ?_ | with_reducible refine keep_cell bt ?_ | with_reducible refine keep_cell bs ?_)) (by decide) (by decide)
  obtain ⟨F0, F1, F2, FB⟩ := put3 (.bool true) (.slice ps Q.length cs) (.slice (some ⟨w2.heap.size, 0, none⟩) 1 1) r2c0n r2c1n r2c2n
  have K3w : Blk ((((w2.alloc (.cells #[.int .i64 1] 3)).setCell ⟨w.heap.size + 1, 0, none⟩ (.bool true)).setCell ⟨w.heap.size + 1, 1, none⟩ (.slice ps Q.length cs)).setCell ⟨w.heap.size + 1, 2, none⟩ (.slice (some ⟨w2.heap.size, 0, none⟩) 1 1)) (w.heap.size + 1 + 1) #[.bool false, .slice none 0 0, .slice none 0 0] 56 := blk_other3 (by omega) K3n
  obtain ⟨G0, G1, G2, GB⟩ := put3 (w1 := ((((w2.alloc (.cells #[.int .i64 1] 3)).setCell ⟨w.heap.size + 1, 0, none⟩ (.bool true)).setCell ⟨w.heap.size + 1, 1, none⟩ (.slice ps Q.length cs)).setCell ⟨w.heap.size + 1, 2, none⟩ (.slice (some ⟨w2.heap.size, 0, none⟩) 1 1))) (.bool _) (.slice p7 N.length c7) (.slice p8 M.length c8) (K3w.at 0) (K3w.at 1) (K3w.at 2)
  have H0 := fun (x y z : Value) => set3_other (x := x) (y := y) (z := z) (show w.heap.size + 1 ≠ w.heap.size + 1 + 1 by omega) F0
  have H1 := fun (x y z : Value) => set3_other (x := x) (y := y) (z := z) (show w.heap.size + 1 ≠ w.heap.size + 1 + 1 by omega) F1
  have H2 := fun (x y z : Value) => set3_other (x := x) (y := y) (z := z) (show w.heap.size + 1 ≠ w.heap.size + 1 + 1 by omega) F2
  exact bodyPost_ret (v := .tuple #[.agg #[.bool true, .slice ps Q.length cs, .slice (some ⟨w2.heap.size, 0, none⟩) 1 1], .agg #[.bool _, .slice p7 N.length c7, .slice p8 M.length c8]]) (by simp [results, Tryz.results89, go_sem, G0, G1, G2, H0, H1, H2]) rfl ⟨_, _, _, Q, rfl, ((rd_alloc hu2).putQ K2n).putQ K3w, nQ, by rw [vQ.out, EM.out.1, val_one], (ho.putQ K2n).putQ K3w, ⟨N, M, _, _, _, _, rfl, ((rd_alloc hN).putQ K2n).putQ K3w, nN, vN.out, ((rd_alloc hM).putQ K2n).putQ K3w, nM, vM.out⟩, GB _ _ (by omega) (FB _ _ (by omega) (bel_alloc pr2))⟩
 ·go_wp2_with fail
  have ho : Rd w2 (.slice (some ⟨w1.heap.size + 1, 0, none⟩) 1 1) [1] := rd_one (by repeat (first | ((with_reducible refine cell_at ?_); (first | rfl | (simp; done))) | with_reducible refine cell_drew ?_ | with_reducible refine cell_alloc ?_ | with_reducible refine keep_cell bm ?_ | with_reducible refine keep_cell bt ?_ | with_reducible refine keep_cell bs ?_)) (by decide) (by decide)
  obtain ⟨F0, F1, F2, FB⟩ := put3 (.bool true) (.slice ps Q.length cs) (.slice (some ⟨w1.heap.size + 1, 0, none⟩) 1 1) r2c0z2 r2c1z2 r2c2z2
  have K3w : Blk (((w2.setCell ⟨w.heap.size + 1, 0, none⟩ (.bool true)).setCell ⟨w.heap.size + 1, 1, none⟩ (.slice ps Q.length cs)).setCell ⟨w.heap.size + 1, 2, none⟩ (.slice (some ⟨w1.heap.size + 1, 0, none⟩) 1 1)) (w.heap.size + 1 + 1) #[.bool false, .slice none 0 0, .slice none 0 0] 56 := blk_other3 (by omega) K3z2
  obtain ⟨G0, G1, G2, GB⟩ := put3 (w1 := (((w2.setCell ⟨w.heap.size + 1, 0, none⟩ (.bool true)).setCell ⟨w.heap.size + 1, 1, none⟩ (.slice ps Q.length cs)).setCell ⟨w.heap.size + 1, 2, none⟩ (.slice (some ⟨w1.heap.size + 1, 0, none⟩) 1 1))) (.bool _) (.slice p7 N.length c7) (.slice p8 M.length c8) (K3w.at 0) (K3w.at 1) (K3w.at 2)
  have H0 := fun (x y z : Value) => set3_other (x := x) (y := y) (z := z) (show w.heap.size + 1 ≠ w.heap.size + 1 + 1 by omega) F0
  have H1 := fun (x y z : Value) => set3_other (x := x) (y := y) (z := z) (show w.heap.size + 1 ≠ w.heap.size + 1 + 1 by omega) F1
  have H2 := fun (x y z : Value) => set3_other (x := x) (y := y) (z := z) (show w.heap.size + 1 ≠ w.heap.size + 1 + 1 by omega) F2
  exact bodyPost_ret (v := .tuple #[.agg #[.bool true, .slice ps Q.length cs, .slice (some ⟨w1.heap.size + 1, 0, none⟩) 1 1], .agg #[.bool _, .slice p7 N.length c7, .slice p8 M.length c8]]) (by simp [results, Tryz.results89, go_sem, G0, G1, G2, H0, H1, H2]) rfl ⟨_, _, _, Q, rfl, (hu2.putQ K2z2).putQ K3w, nQ, by rw [vQ.out, EM.out.1, val_one], (ho.putQ K2z2).putQ K3w, ⟨N, M, _, _, _, _, rfl, (hN.putQ K2z2).putQ K3w, nN, vN.out, (hM.putQ K2z2).putQ K3w, nM, vM.out⟩, GB _ _ (by omega) (FB _ _ (by omega) pr2)⟩
 ·go_wp2_with fail
  have ho : Rd w2 (.slice (some ⟨w1.heap.size, 0, none⟩) 1 1) [1] := rd_one (by repeat (first | ((with_reducible refine cell_at ?_); (first | rfl | (simp; done))) | with_reducible refine cell_drew ?_ | with_reducible refine cell_alloc ?_ | with_reducible refine keep_cell bm ?_ | with_reducible refine keep_cell bt ?_ | with_reducible refine keep_cell bs ?_)) (by decide) (by decide)
  obtain ⟨F0, F1, F2, FB⟩ := put3 (.bool true) (.slice ps Q.length cs) (.slice (some ⟨w1.heap.size, 0, none⟩) 1 1) r2c0z2 r2c1z2 r2c2z2
  have K3w : Blk (((w2.setCell ⟨w.heap.size + 1, 0, none⟩ (.bool true)).setCell ⟨w.heap.size + 1, 1, none⟩ (.slice ps Q.length cs)).setCell ⟨w.heap.size + 1, 2, none⟩ (.slice (some ⟨w1.heap.size, 0, none⟩) 1 1)) (w.heap.size + 1 + 1) #[.bool false, .slice none 0 0, .slice none 0 0] 56 := blk_other3 (by omega) K3z2
  obtain ⟨G0, G1, G2, GB⟩ := put3 (w1 := (((w2.setCell ⟨w.heap.size + 1, 0, none⟩ (.bool true)).setCell ⟨w.heap.size + 1, 1, none⟩ (.slice ps Q.length cs)).setCell ⟨w.heap.size + 1, 2, none⟩ (.slice (some ⟨w1.heap.size, 0, none⟩) 1 1))) (.bool _) (.slice p7 N.length c7) (.slice p8 M.length c8) (K3w.at 0) (K3w.at 1) (K3w.at 2)
  have H0 := fun (x y z : Value) => set3_other (x := x) (y := y) (z := z) (show w.heap.size + 1 ≠ w.heap.size + 1 + 1 by omega) F0
  have H1 := fun (x y z : Value) => set3_other (x := x) (y := y) (z := z) (show w.heap.size + 1 ≠ w.heap.size + 1 + 1 by omega) F1
  have H2 := fun (x y z : Value) => set3_other (x := x) (y := y) (z := z) (show w.heap.size + 1 ≠ w.heap.size + 1 + 1 by omega) F2
  exact bodyPost_ret (v := .tuple #[.agg #[.bool true, .slice ps Q.length cs, .slice (some ⟨w1.heap.size, 0, none⟩) 1 1], .agg #[.bool _, .slice p7 N.length c7, .slice p8 M.length c8]]) (by simp [results, Tryz.results89, go_sem, G0, G1, G2, H0, H1, H2]) rfl ⟨_, _, _, Q, rfl, (hu2.putQ K2z2).putQ K3w, nQ, by rw [vQ.out, EM.out.1, val_one], (ho.putQ K2z2).putQ K3w, ⟨N, M, _, _, _, _, rfl, (hN.putQ K2z2).putQ K3w, nN, vN.out, (hM.putQ K2z2).putQ K3w, nM, vM.out⟩, GB _ _ (by omega) (FB _ _ (by omega) pr2)⟩
end Go.Proofs.YtebilgnmnambnaaGreatDoor.L

namespace Go.Proofs.YtebilgnmnambnaaGreatDoor.L
open Go.RowKit Tl
theorem sub_rat (r : Rat) (f : Int) : r - (f : Rat) = mkRat (r.num - f * r.den) r.den := by
 rw [Rat.sub_def']
 have n : (f : Rat).num = f := rfl
 have d : (f : Rat).den = 1 := rfl
 rw [n, d]
 simp
theorem isq_int {w : World} {f : Int} {g : Bool} {u u1 : Value} {X : List Int} (hg : g = decide (f < 0)) (h : Rd w u X) (n : Nm X) (v : val X = (f.natAbs : Int)) (h1 : Rd w u1 [1]) : IsQ w (.agg #[.bool g, u, u1]) (f : Rat) := by
 obtain ⟨a, c, rfl⟩ := rd_form h
 obtain ⟨a', c', rfl⟩ := rd_form h1
 exact ⟨X, [1], a, a', c, c', by rw [hg]; rfl, h, n, v, h1, nm_one, by rw [val_one]; rfl⟩
theorem QFloor_any (a : Value) (r : Rat) (K : Nat) (w : World) (ha : IsQ w a r) (hr : QS r K) (hK : K ≤ 100000000) :
  Calls Tryz.prog 89 #[a] w fun e w' => ∃ u v, e = .returned (.tuple #[u, v]) ∧ IsQ w' u (r.floor : Rat) ∧ IsQ w' v (r - (r.floor : Rat)) ∧ Below w.heap.size w w' := by
 obtain ⟨A, B, p1, p2, c1, c2, rfl, h1, n1, v1, h2, n2, v2⟩ := ha
 have l1 : A.length ≤ K := len_of_lt h1.1 n1 (by rw [v1]; exact hr.1)
 have l2 : B.length ≤ K := len_of_lt h2.1 n2 (by rw [v2]; exact hr.2)
 have dr := den_pos' r
 have b0 : 0 < val B := by rw [v2]; exact dr
 have tn : (val B).toNat = r.den := by rw [v2]; omega
 by_cases c : r.num < 0
 ·rw [decide_eq_true c]
  have ev := Int.mul_ediv_add_emod (r.num.natAbs : Int) (r.den : Int)
  have m0 := Int.emod_nonneg (r.num.natAbs : Int) (show (r.den : Int) ≠ 0 by omega)
  have m1 := Int.emod_lt_of_pos (r.num.natAbs : Int) dr
  have q0 : 0 ≤ (r.num.natAbs : Int) / (r.den : Int) := Int.ediv_nonneg (by omega) (by omega)
  by_cases z : val A % val B = 0
  ·refine (qfloor_whole p1 p2 c1 c2 A B w h1 h2 n1 n2 (by omega) b0 z).mono ?_
   rintro e w' ⟨u, u1, v, X, rfl, hX, nX, vX, ho, hv, hb⟩
   rw [v1, v2] at vX z
   have fl : r.floor = -((r.num.natAbs : Int) / (r.den : Int)) := by
    rw [Rat.floor_def]
    refine (emod_of (q := -((r.num.natAbs : Int) / (r.den : Int))) (r := 0) ?_ (Int.le_refl _) dr dr).1
    rw [z] at ev
    rw [Int.neg_mul, Int.mul_comm]; omega
   have qp : 0 < (r.num.natAbs : Int) / (r.den : Int) := by
    by_cases k : (r.num.natAbs : Int) / (r.den : Int) = 0
    ·rw [k, z] at ev; simp at ev; omega
    ·omega
   have hg : decide (0 < X.length) = decide (r.floor < 0) := by
    have : 0 < X.length := by
     by_cases k : 0 < X.length
     ·exact k
     ·have : X = [] := List.eq_nil_of_length_eq_zero (by omega)
      rw [this, val_nil] at vX; omega
    rw [decide_eq_true this, decide_eq_true (by omega)]
   have rest : r - (r.floor : Rat) = 0 := by
    rw [sub_rat, fl, show r.num - -((r.num.natAbs : Int) / (r.den : Int)) * r.den = 0 from by rw [Int.neg_mul, Int.mul_comm]; omega, Rat.zero_mkRat]
   rw [rest]
   exact ⟨_, v, rfl, isq_int hg hX nX (by rw [vX, fl]; omega) ho, hv, hb⟩
  ·refine (qfloor_part p1 p2 c1 c2 A B w h1 h2 n1 n2 (by omega) (by omega) b0 z).mono ?_
   rintro e w' ⟨u, u1, v, X, rfl, hX, nX, vX, ho, hv, hb⟩
   rw [v1, v2] at vX z hv
   have fl : r.floor = -((r.num.natAbs : Int) / (r.den : Int) + 1) := by
    rw [Rat.floor_def]
    refine (emod_of (q := -((r.num.natAbs : Int) / (r.den : Int) + 1)) (r := (r.den : Int) - (r.num.natAbs : Int) % (r.den : Int)) ?_ (by omega) (by omega) dr).1
    rw [Int.neg_mul, Int.add_mul, Int.one_mul, Int.mul_comm]; omega
   have rest : r - (r.floor : Rat) = mkRat ((r.den : Int) - (r.num.natAbs : Int) % (r.den : Int)) (r.den : Int).toNat := by
    rw [sub_rat, fl, show r.num - -((r.num.natAbs : Int) / (r.den : Int) + 1) * r.den = (r.den : Int) - (r.num.natAbs : Int) % (r.den : Int) from by rw [Int.neg_mul, Int.add_mul, Int.one_mul, Int.mul_comm]; omega]
    rfl
   rw [rest]
   exact ⟨_, v, rfl, isq_int (by rw [decide_eq_true (by omega)]) hX nX (by rw [vX, fl]; omega) ho, hv, hb⟩
 ·rw [decide_eq_false c]
  refine (qfloor_pos p1 p2 c1 c2 A B w h1 h2 n1 n2 (by omega) (by omega) b0).mono ?_
  rintro e w' ⟨u, u1, v, X, rfl, hX, nX, vX, ho, hv, hb⟩
  rw [v1, v2, show (r.num.natAbs : Int) = r.num from by omega] at vX hv
  have fl : r.floor = r.num / (r.den : Int) := Rat.floor_def r
  have q0 : 0 ≤ r.num / (r.den : Int) := Int.ediv_nonneg (by omega) (by omega)
  have rest : r - (r.floor : Rat) = mkRat (r.num % (r.den : Int)) (r.den : Int).toNat := by
   rw [sub_rat, fl, show r.num - r.num / (r.den : Int) * r.den = r.num % (r.den : Int) from by have := Int.mul_ediv_add_emod r.num (r.den : Int); rw [Int.mul_comm] at this; omega]
   rfl
  rw [rest]
  exact ⟨_, v, rfl, isq_int (by rw [decide_eq_false (by omega)]) hX nX (by rw [vX, fl]; omega) ho, hv, hb⟩
set_option maxHeartbeats 1600000 in
set_option maxRecDepth 100000 in
theorem frac_raw (w : World) :
  Calls Tryz.prog 45 #[.int .i64 1, .int .i64 2] w fun e w' => ∃ v, e = .returned v ∧ IsQ w' v (mkRat 1 2) ∧ Below w.heap.size w w' := by
 have O1 : ∀ w, Calls Tryz.prog 36 #[.int .i64 1] w fun e w' => ∃ a1 a2 c1 c2 ns, e = .returned (.agg #[.bool false, .slice a1 ns.length c1, .slice a2 1 c2]) ∧ Rd w' (.slice a1 ns.length c1) ns ∧ Nm ns ∧ val ns = 1 ∧ Below w.heap.size w w' := fun w => (Of_pos 1 (by decide) (by decide) w).mono (fun e w' ⟨u1, u2, ns, he, h1, n1, v1, h2, b⟩ => by
  obtain ⟨a, c, rfl⟩ := rd_form h1
  obtain ⟨a', c', rfl⟩ := rd_form h2
  exact ⟨a, a', c, c', ns, he, h1, n1, v1, b⟩)
 have O2 : ∀ w, Calls Tryz.prog 36 #[.int .i64 2] w fun e w' => ∃ a1 a2 c1 c2 ns, e = .returned (.agg #[.bool false, .slice a1 ns.length c1, .slice a2 1 c2]) ∧ Rd w' (.slice a1 ns.length c1) ns ∧ Nm ns ∧ val ns = 2 ∧ Below w.heap.size w w' := fun w => (Of_pos 2 (by decide) (by decide) w).mono (fun e w' ⟨u1, u2, ns, he, h1, n1, v1, h2, b⟩ => by
  obtain ⟨a, c, rfl⟩ := rd_form h1
  obtain ⟨a', c', rfl⟩ := rd_form h2
  exact ⟨a, a', c, c', ns, he, h1, n1, v1, b⟩)
 have K0 := Blk.new w #[.bool false, .slice none 0 0, .slice none 0 0] 56
 have pr : Below w.heap.size w (w.alloc (.cells #[.bool false, .slice none 0 0, .slice none 0 0] 56)) := (Below.refl _ _).alloc (Nat.le_refl _) _
 go_enter Tryz.func45, Tryz.ntmps45
 go_wp2_with (first
  | (go_at_call 36; (with_reducible refine (O1 _).mono ?_); (rintro e w1 ⟨a1, a2, c1, c2, xs, rfl, h1, n1, v1, b1⟩; replace K0 := K0.below b1 K0.lt; replace pr := bel pr b1; have V1 : Hid (val xs = 1) := v1; have L1 : xs.length ≤ 3 := (len_of_lt (K := 3) h1.1 n1 (by rw [v1]; decide)); clear v1 b1))
  | (go_at_call 36; (with_reducible refine (O2 _).mono ?_); (rintro e w2 ⟨a3, a4, c3, c4, ys, rfl, h2, n2, v2, b2⟩; replace K0 := ((K0.below b2 K0.lt).alloc (.cells #[.bool false, .slice a1 xs.length c1, .slice a2 1 c2] 56)).alloc (.cells #[.bool false, .slice a3 ys.length c3, .slice a4 1 c4] 56); replace pr := bel_alloc (ob := (.cells #[.bool false, .slice a3 ys.length c3, .slice a4 1 c4] 56)) (bel_alloc (ob := (.cells #[.bool false, .slice a1 xs.length c1, .slice a2 1 c2] 56)) (bel pr b2)); replace h1 := rd_alloc (ob := (.cells #[.bool false, .slice a3 ys.length c3, .slice a4 1 c4] 56)) (rd_alloc (ob := (.cells #[.bool false, .slice a1 xs.length c1, .slice a2 1 c2] 56)) (h1.grow b2)); replace h2 := rd_alloc (ob := (.cells #[.bool false, .slice a3 ys.length c3, .slice a4 1 c4] 56)) (rd_alloc (ob := (.cells #[.bool false, .slice a1 xs.length c1, .slice a2 1 c2] 56)) h2); have V2 : Hid (val ys = 2) := v2; have L2 : ys.length ≤ 3 := (len_of_lt (K := 3) h2.1 n2 (by rw [v2]; decide)); clear v2 b2))
  | (go_at_call 80; ((with_reducible refine (Make_q false (.slice a1 xs.length c1) (.slice a3 ys.length c3) xs ys 3 _ h1 h2 n1 n2 L1 L2 (by decide) (by rw [V2.out]; decide)).mono ?_)); (rintro e w3 ⟨v, rfl, hv, b3⟩; rw [V1.out, V2.out, show sgI false 1 = 1 from rfl, show (2 : Int).toNat = 2 from rfl] at hv; replace K0 := K0.below b3 K0.lt; replace pr := bel pr b3; obtain ⟨N, M, p7, p8, c7, c8, rfl, hN, nN, vN', hM, nM, vM'⟩ := hv; have vN : Hid _ := vN'; have vM : Hid _ := vM'; clear vN' vM' b3; have e0 : w3.cell? ⟨w.heap.size, 0, none⟩ = some (.bool false) := K0.at 0; have e1 : w3.cell? ⟨w.heap.size, 1, none⟩ = some (.slice none 0 0) := K0.at 1; have e2 : w3.cell? ⟨w.heap.size, 2, none⟩ = some (.slice none 0 0) := K0.at 2; have z0 := K0.free 0; have z1 := K0.free 1; have z2 := K0.free 2))
  | fail)
 obtain ⟨F0, F1, F2, FB⟩ := put3 (.bool _) (.slice p7 N.length c7) (.slice p8 M.length c8) e0 e1 e2
 exact bodyPost_ret (v := .agg #[.bool _, .slice p7 N.length c7, .slice p8 M.length c8]) (by simp [results, Tryz.results45, go_sem, F0, F1, F2]) rfl ⟨_, rfl, ⟨N, M, _, _, _, _, rfl, hN.putQ K0, nN, vN.out, hM.putQ K0, nM, vM.out⟩, FB _ _ (Nat.le_refl _) pr⟩
end Go.Proofs.YtebilgnmnambnaaGreatDoor.L

namespace Go.Proofs.YtebilgnmnambnaaGreatDoor.L
open Go.RowKit Tl
theorem isq_sign {w : World} {r : Rat} {g : Bool} {p1 p2 : Option Addr} {m1 c1 m2 c2 : Nat} (h : IsQ w (.agg #[.bool g, .slice p1 m1 c1, .slice p2 m2 c2]) r) : sg3 g m1 = 0 ↔ r = 0 := by
 obtain ⟨ns, ds, a1, a2, c1, c2, e, h1, n1, v1, _⟩ := h
 simp only [Value.agg.injEq, Array.mk.injEq, List.cons.injEq, Value.bool.injEq, Value.slice.injEq] at e
 obtain ⟨rfl, ⟨rfl, rfl, rfl⟩, _⟩ := e
 rw [sg3_num h1.1 n1 v1, ← Rat.num_eq_zero]
 by_cases k : r.num < 0
 ·rw [if_pos k]; omega
 ·rw [if_neg k]; split <;> omega
theorem IsQ.put3 {w1 : World} {b : Nat} {v x y z : Value} {r : Rat} {g : Bool} {a1 a2 : Option Addr} {n1 c1 n2 c2 : Nat} {t : TypeId} (h : IsQ w1 v r) (K : Blk w1 b #[.bool g, .slice a1 n1 c1, .slice a2 n2 c2] t) : IsQ (((w1.setCell ⟨b, 0, none⟩ x).setCell ⟨b, 1, none⟩ y).setCell ⟨b, 2, none⟩ z) v r := by
 obtain ⟨ns, ds, a1, a2, c1, c2, e, h1, n1, v1, h2, n2, v2⟩ := h
 exact ⟨ns, ds, a1, a2, c1, c2, e, h1.putQ K, n1, v1, h2.putQ K, n2, v2⟩
theorem half_qs {K : Nat} : QS (mkRat 1 2) (K + 2) := by
 have n : (mkRat 1 2).num = 1 := by decide
 have d : (mkRat 1 2).den = 2 := by decide
 have p := pw_mono (show 1 ≤ K + 2 by omega)
 have e : pw 1 = 1073741824 := by decide
 exact ⟨by rw [n]; show (1 : Int) < _; omega, by rw [d]; show (2 : Int) < _; omega⟩
theorem one_qs {K : Nat} : QS ((1 : Int) : Rat) (K + 2) := by
 have p := pw_mono (show 1 ≤ K + 2 by omega)
 have e : pw 1 = 1073741824 := by decide
 exact ⟨by show (1 : Int) < _; omega, by show (1 : Int) < _; omega⟩
theorem even_q {w : World} {f : Int} {g od : Bool} {p1 p2 : Option Addr} {m1 c1 m2 c2 : Nat} (h : IsQ w (.agg #[.bool g, .slice p1 m1 c1, .slice p2 m2 c2]) (f : Rat)) (ho : od = decide ((f.natAbs : Int) % 2 = 0)) :
  Calls Tryz.prog 136 #[.slice p1 m1 c1] w fun e w' => e = .returned (.bool od) ∧ Below w.heap.size w w' := by
 obtain ⟨ns, ds, a1, a2, c1, c2, e, h1, n1, v1, _⟩ := h
 simp only [Value.agg.injEq, Array.mk.injEq, List.cons.injEq, Value.bool.injEq, Value.slice.injEq] at e
 obtain ⟨_, ⟨rfl, rfl, rfl⟩, _⟩ := e
 have v1 : val ns = (f.natAbs : Int) := v1
 rw [ho, ← v1]
 exact (Even_any _ ns w h1).mono (fun e w' k => ⟨k.1, by rw [k.2]; exact Below.refl _ _⟩)
set_option maxHeartbeats 3200000 in
set_option maxRecDepth 100000 in
theorem qround_zero (g : Bool) (p1 p2 : Option Addr) (m1 c1 m2 c2 : Nat) (r : Rat) (K : Nat) (way : Int) (w : World) (ha : IsQ w (.agg #[.bool g, .slice p1 m1 c1, .slice p2 m2 c2]) r) (hQ : QS r K) (hK : K ≤ 100000) (hz : Hid (r - (r.floor : Rat) = 0)) :
  Calls Tryz.prog 71 #[.agg #[.bool g, .slice p1 m1 c1, .slice p2 m2 c2], .int .i64 way] w fun e w' => ∃ v, e = .returned v ∧ IsQ w' v (r.floor : Rat) ∧ Below w.heap.size w w' := by
 go_enter Tryz.func71, Tryz.ntmps71
 have K1 : Blk ((w.alloc (.cells #[.bool g, .slice p1 m1 c1, .slice p2 m2 c2] 56)).alloc (.cells #[.bool false, .slice none 0 0, .slice none 0 0] 56)) w.heap.size #[.bool g, .slice p1 m1 c1, .slice p2 m2 c2] 56 := (Blk.new w _ _).alloc _
 have K2 : Blk ((w.alloc (.cells #[.bool g, .slice p1 m1 c1, .slice p2 m2 c2] 56)).alloc (.cells #[.bool false, .slice none 0 0, .slice none 0 0] 56)) (w.heap.size + 1) #[.bool false, .slice none 0 0, .slice none 0 0] 56 := blk_at (by simp)
 have pr : Below w.heap.size w ((w.alloc (.cells #[.bool g, .slice p1 m1 c1, .slice p2 m2 c2] 56)).alloc (.cells #[.bool false, .slice none 0 0, .slice none 0 0] 56)) := ((Below.refl _ _).alloc (Nat.le_refl _) _).alloc (by simp) _
 go_wp2_with (first
  | (go_at_call 89; ((with_reducible refine (QFloor_any (.agg #[.bool g, .slice p1 m1 c1, .slice p2 m2 c2]) r K _ (ha.grow pr) hQ (by omega)).mono ?_)); (rintro e w1 ⟨u, v, rfl, hl, hr, b1⟩; have nq2 : w1.heap.size ≠ w.heap.size + 1 := (by have h9 := (K2.below b1 K2.lt).lt; omega); obtain ⟨gl, p3, m3, c3, p4, m4, c4, rfl, GL⟩ := isq_form hl; obtain ⟨gr, p5, m5, c5, p6, m6, c6, rfl, GR⟩ := isq_form hr; replace K1 := ((K1.below b1 K1.lt).alloc (.cells #[.bool gl, .slice p3 m3 c3, .slice p4 m4 c4] 56)).alloc (.cells #[.bool gr, .slice p5 m5 c5, .slice p6 m6 c6] 56); replace K2 := ((K2.below b1 K2.lt).alloc (.cells #[.bool gl, .slice p3 m3 c3, .slice p4 m4 c4] 56)).alloc (.cells #[.bool gr, .slice p5 m5 c5, .slice p6 m6 c6] 56); replace pr := bel_alloc (ob := (.cells #[.bool gr, .slice p5 m5 c5, .slice p6 m6 c6] 56)) (bel_alloc (ob := (.cells #[.bool gl, .slice p3 m3 c3, .slice p4 m4 c4] 56)) (bel pr b1)); clear b1; have K3 : Blk ((w1.alloc (.cells #[.bool gl, .slice p3 m3 c3, .slice p4 m4 c4] 56)).alloc (.cells #[.bool gr, .slice p5 m5 c5, .slice p6 m6 c6] 56)) w1.heap.size #[.bool gl, .slice p3 m3 c3, .slice p4 m4 c4] 56 := (Blk.new w1 _ _).alloc _; have K4 : Blk ((w1.alloc (.cells #[.bool gl, .slice p3 m3 c3, .slice p4 m4 c4] 56)).alloc (.cells #[.bool gr, .slice p5 m5 c5, .slice p6 m6 c6] 56)) (w1.heap.size + 1) #[.bool gr, .slice p5 m5 c5, .slice p6 m6 c6] 56 := blk_at (by simp); have HS : Hid _ := isq_sign hr; replace hl := IsQ.alloc (ob := (.cells #[.bool gr, .slice p5 m5 c5, .slice p6 m6 c6] 56)) (IsQ.alloc (ob := (.cells #[.bool gl, .slice p3 m3 c3, .slice p4 m4 c4] 56)) hl); replace hr := IsQ.alloc (ob := (.cells #[.bool gr, .slice p5 m5 c5, .slice p6 m6 c6] 56)) (IsQ.alloc (ob := (.cells #[.bool gl, .slice p3 m3 c3, .slice p4 m4 c4] 56)) hr); have ka0 : ((w1.alloc (.cells #[.bool gl, .slice p3 m3 c3, .slice p4 m4 c4] 56)).alloc (.cells #[.bool gr, .slice p5 m5 c5, .slice p6 m6 c6] 56)).cell? ⟨w.heap.size, 0, none⟩ = some (.bool g) := K1.at 0; have ka1 : ((w1.alloc (.cells #[.bool gl, .slice p3 m3 c3, .slice p4 m4 c4] 56)).alloc (.cells #[.bool gr, .slice p5 m5 c5, .slice p6 m6 c6] 56)).cell? ⟨w.heap.size, 1, none⟩ = some (.slice p1 m1 c1) := K1.at 1; have ka2 : ((w1.alloc (.cells #[.bool gl, .slice p3 m3 c3, .slice p4 m4 c4] 56)).alloc (.cells #[.bool gr, .slice p5 m5 c5, .slice p6 m6 c6] 56)).cell? ⟨w.heap.size, 2, none⟩ = some (.slice p2 m2 c2) := K1.at 2; have kl0 : ((w1.alloc (.cells #[.bool gl, .slice p3 m3 c3, .slice p4 m4 c4] 56)).alloc (.cells #[.bool gr, .slice p5 m5 c5, .slice p6 m6 c6] 56)).cell? ⟨w1.heap.size, 0, none⟩ = some (.bool gl) := K3.at 0; have kl1 : ((w1.alloc (.cells #[.bool gl, .slice p3 m3 c3, .slice p4 m4 c4] 56)).alloc (.cells #[.bool gr, .slice p5 m5 c5, .slice p6 m6 c6] 56)).cell? ⟨w1.heap.size, 1, none⟩ = some (.slice p3 m3 c3) := K3.at 1; have kl2 : ((w1.alloc (.cells #[.bool gl, .slice p3 m3 c3, .slice p4 m4 c4] 56)).alloc (.cells #[.bool gr, .slice p5 m5 c5, .slice p6 m6 c6] 56)).cell? ⟨w1.heap.size, 2, none⟩ = some (.slice p4 m4 c4) := K3.at 2; have kr0 : ((w1.alloc (.cells #[.bool gl, .slice p3 m3 c3, .slice p4 m4 c4] 56)).alloc (.cells #[.bool gr, .slice p5 m5 c5, .slice p6 m6 c6] 56)).cell? ⟨w1.heap.size + 1, 0, none⟩ = some (.bool gr) := K4.at 0; have kr1 : ((w1.alloc (.cells #[.bool gl, .slice p3 m3 c3, .slice p4 m4 c4] 56)).alloc (.cells #[.bool gr, .slice p5 m5 c5, .slice p6 m6 c6] 56)).cell? ⟨w1.heap.size + 1, 1, none⟩ = some (.slice p5 m5 c5) := K4.at 1; have kr2 : ((w1.alloc (.cells #[.bool gl, .slice p3 m3 c3, .slice p4 m4 c4] 56)).alloc (.cells #[.bool gr, .slice p5 m5 c5, .slice p6 m6 c6] 56)).cell? ⟨w1.heap.size + 1, 2, none⟩ = some (.slice p6 m6 c6) := K4.at 2; have k2c0 : ((w1.alloc (.cells #[.bool gl, .slice p3 m3 c3, .slice p4 m4 c4] 56)).alloc (.cells #[.bool gr, .slice p5 m5 c5, .slice p6 m6 c6] 56)).cell? ⟨w.heap.size + 1, 0, none⟩ = some (.bool false) := K2.at 0; have k2f0 := K2.free 0; have k2c1 : ((w1.alloc (.cells #[.bool gl, .slice p3 m3 c3, .slice p4 m4 c4] 56)).alloc (.cells #[.bool gr, .slice p5 m5 c5, .slice p6 m6 c6] 56)).cell? ⟨w.heap.size + 1, 1, none⟩ = some (.slice none 0 0) := K2.at 1; have k2f1 := K2.free 1; have k2c2 : ((w1.alloc (.cells #[.bool gl, .slice p3 m3 c3, .slice p4 m4 c4] 56)).alloc (.cells #[.bool gr, .slice p5 m5 c5, .slice p6 m6 c6] 56)).cell? ⟨w.heap.size + 1, 2, none⟩ = some (.slice none 0 0) := K2.at 2; have k2f2 := K2.free 2))
  | (go_at_call 53; ((with_reducible refine (Sign_fn gr p5 p6 m5 c5 m6 c6 _).mono ?_)); (rintro e w2 ⟨rfl, b2⟩; have hs0 : (sg3 gr m5 == 0) = true := (by rw [beq_iff_eq]; exact HS.out.2 hz.out); replace K1 := K1.below b2 K1.lt; replace K2 := K2.below b2 K2.lt; replace K3 := K3.below b2 K3.lt; replace K4 := K4.below b2 K4.lt; replace pr := bel pr b2; replace hl := hl.grow b2; replace hr := hr.grow b2; have ka0 : w2.cell? ⟨w.heap.size, 0, none⟩ = some (.bool g) := K1.at 0; have ka1 : w2.cell? ⟨w.heap.size, 1, none⟩ = some (.slice p1 m1 c1) := K1.at 1; have ka2 : w2.cell? ⟨w.heap.size, 2, none⟩ = some (.slice p2 m2 c2) := K1.at 2; have kl0 : w2.cell? ⟨w1.heap.size, 0, none⟩ = some (.bool gl) := K3.at 0; have kl1 : w2.cell? ⟨w1.heap.size, 1, none⟩ = some (.slice p3 m3 c3) := K3.at 1; have kl2 : w2.cell? ⟨w1.heap.size, 2, none⟩ = some (.slice p4 m4 c4) := K3.at 2; have kr0 : w2.cell? ⟨w1.heap.size + 1, 0, none⟩ = some (.bool gr) := K4.at 0; have kr1 : w2.cell? ⟨w1.heap.size + 1, 1, none⟩ = some (.slice p5 m5 c5) := K4.at 1; have kr2 : w2.cell? ⟨w1.heap.size + 1, 2, none⟩ = some (.slice p6 m6 c6) := K4.at 2; have k2c0 : w2.cell? ⟨w.heap.size + 1, 0, none⟩ = some (.bool false) := K2.at 0; have k2f0 := K2.free 0; have k2c1 : w2.cell? ⟨w.heap.size + 1, 1, none⟩ = some (.slice none 0 0) := K2.at 1; have k2f1 := K2.free 1; have k2c2 : w2.cell? ⟨w.heap.size + 1, 2, none⟩ = some (.slice none 0 0) := K2.at 2; have k2f2 := K2.free 2; clear b2))
  | fail)
 have HLP : IsQ (((w2.setCell ⟨w.heap.size + 1, 0, none⟩ (.bool gl)).setCell ⟨w.heap.size + 1, 1, none⟩ (.slice p3 m3 c3)).setCell ⟨w.heap.size + 1, 2, none⟩ (.slice p4 m4 c4)) (.agg #[.bool gl, .slice p3 m3 c3, .slice p4 m4 c4]) (r.floor : Rat) := IsQ.put3 hl K2
 obtain ⟨F0, F1, F2, FB⟩ := put3 (.bool gl) (.slice p3 m3 c3) (.slice p4 m4 c4) k2c0 k2c1 k2c2
 exact bodyPost_ret (v := .agg #[.bool gl, .slice p3 m3 c3, .slice p4 m4 c4]) (by simp [results, Tryz.results71, go_sem, F0, F1, F2]) rfl ⟨_, rfl, HLP, FB _ _ (by omega) pr⟩
end Go.Proofs.YtebilgnmnambnaaGreatDoor.L

namespace Go.Proofs.YtebilgnmnambnaaGreatDoor.L
open Go.RowKit Tl
end Go.Proofs.YtebilgnmnambnaaGreatDoor.L
