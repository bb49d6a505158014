import Derived.Test.YtfalncbcomlelaaGreatDoorPart10
import Derived.Test.YtfalncbcomlelaaGreatDoorPart11

namespace Go.Proofs.YtfalncbcomlelaaGreatDoor.L
open Go.RowKit Tl

set_option maxHeartbeats 6400000 in
set_option maxRecDepth 100000 in
theorem qadd_lt (g1 g2 : Bool) (p1 p2 p3 p4 : Option Addr) (c1 c2 c3 c4 : Nat) (A B C D : List Int) (w : World) (h1 : Rd w (.slice p1 A.length c1) A) (h2 : Rd w (.slice p2 B.length c2) B) (h3 : Rd w (.slice p3 C.length c3) C) (h4 : Rd w (.slice p4 D.length c4) D) (l1 : A.length ≤ 1000000000) (l2 : B.length ≤ 1000000000) (l3 : C.length ≤ 1000000000) (l4 : D.length ≤ 1000000000) (b0 : 0 < val B) (d0 : 0 < val D) (hg : g1 ≠ g2) (le : val A * val D < val C * val B) :
  Calls Tryz.prog 30 #[.agg #[.bool g1, .slice p1 A.length c1, .slice p2 B.length c2], .agg #[.bool g2, .slice p3 C.length c3, .slice p4 D.length c4]] w fun e w' => ∃ v, e = .returned v ∧ IsQ w' v (mkRat (sgI g2 (val C * val B - val A * val D)) (val B * val D).toNat) ∧ Below w.heap.size w w' := by
 have hgg : (g1 == g2) = false := by rw [beq_eq_false_iff_ne]; exact hg
 have HLE : Hid _ := le
 clear hg le
 have haw := h1.1
 have hbw := h2.1
 have hcw := h3.1
 have hdw := h4.1
 have BD : Hid (0 < val B * val D) := Int.mul_pos b0 d0
 clear b0 d0
 go_enter Tryz.func30, Tryz.ntmps30
 go_upto_region 1 with fail
 have K2x : Blk (((w.alloc (.cells #[.bool g1, .slice p1 A.length c1, .slice p2 B.length c2] 66)).alloc (.cells #[.bool g2, .slice p3 C.length c3, .slice p4 D.length c4] 66)).alloc (.cells #[.bool false, .slice none 0 0, .slice none 0 0] 66)) w.heap.size #[.bool g1, .slice p1 A.length c1, .slice p2 B.length c2] 66 := ((Blk.new w _ _).alloc _).alloc _
 have K3x : Blk (((w.alloc (.cells #[.bool g1, .slice p1 A.length c1, .slice p2 B.length c2] 66)).alloc (.cells #[.bool g2, .slice p3 C.length c3, .slice p4 D.length c4] 66)).alloc (.cells #[.bool false, .slice none 0 0, .slice none 0 0] 66)) (w.heap.size + 1) #[.bool g2, .slice p3 C.length c3, .slice p4 D.length c4] 66 := (blk_at (by simp)).alloc _
 have K4x : Blk (((w.alloc (.cells #[.bool g1, .slice p1 A.length c1, .slice p2 B.length c2] 66)).alloc (.cells #[.bool g2, .slice p3 C.length c3, .slice p4 D.length c4] 66)).alloc (.cells #[.bool false, .slice none 0 0, .slice none 0 0] 66)) (w.heap.size + 1 + 1) #[.bool false, .slice none 0 0, .slice none 0 0] 66 := blk_at (by simp)
 have prx : Below w.heap.size w (((w.alloc (.cells #[.bool g1, .slice p1 A.length c1, .slice p2 B.length c2] 66)).alloc (.cells #[.bool g2, .slice p3 C.length c3, .slice p4 D.length c4] 66)).alloc (.cells #[.bool false, .slice none 0 0, .slice none 0 0] 66)) := (((Below.refl _ _).alloc (Nat.le_refl _) _).alloc (by simp) _).alloc (by simp; omega) _
 have h1x := h1.grow prx
 have h2x := h2.grow prx
 have h3x := h3.grow prx
 have h4x := h4.grow prx
 clear h1 h2 h3 h4
 generalize (((w.alloc (.cells #[.bool g1, .slice p1 A.length c1, .slice p2 B.length c2] 66)).alloc (.cells #[.bool g2, .slice p3 C.length c3, .slice p4 D.length c4] 66)).alloc (.cells #[.bool false, .slice none 0 0, .slice none 0 0] 66)) = W at *
 have K2c0x : W.cell? ⟨w.heap.size, 0, none⟩ = some (.bool g1) := K2x.at 0
 have K2c1x : W.cell? ⟨w.heap.size, 1, none⟩ = some (.slice p1 A.length c1) := K2x.at 1
 have K2c2x : W.cell? ⟨w.heap.size, 2, none⟩ = some (.slice p2 B.length c2) := K2x.at 2
 have K3c0x : W.cell? ⟨w.heap.size + 1, 0, none⟩ = some (.bool g2) := K3x.at 0
 have K3c1x : W.cell? ⟨w.heap.size + 1, 1, none⟩ = some (.slice p3 C.length c3) := K3x.at 1
 have K3c2x : W.cell? ⟨w.heap.size + 1, 2, none⟩ = some (.slice p4 D.length c4) := K3x.at 2
 go_region_held3 (fun x => x.cell? ⟨w.heap.size, 0, none⟩ = some (.bool g1) ∧ x.cell? ⟨w.heap.size, 1, none⟩ = some (.slice p1 A.length c1) ∧ x.cell? ⟨w.heap.size, 2, none⟩ = some (.slice p2 B.length c2) ∧ x.cell? ⟨w.heap.size + 1, 0, none⟩ = some (.bool g2) ∧ x.cell? ⟨w.heap.size + 1, 1, none⟩ = some (.slice p3 C.length c3) ∧ x.cell? ⟨w.heap.size + 1, 2, none⟩ = some (.slice p4 D.length c4)) (first | ((try dsimp only); (refine ⟨?_, ?_, ?_, ?_, ?_, ?_⟩); (all_goals (repeat (first | with_reducible exact K2c0z | with_reducible exact K2c1z | with_reducible exact K2c2z | with_reducible exact K3c0z | with_reducible exact K3c1z | with_reducible exact K3c2z | with_reducible exact K2c0y | with_reducible exact K2c1y | with_reducible exact K2c2y | with_reducible exact K3c0y | with_reducible exact K3c1y | with_reducible exact K3c2y | with_reducible exact K2c0x | with_reducible exact K2c1x | with_reducible exact K2c2x | with_reducible exact K3c0x | with_reducible exact K3c1x | with_reducible exact K3c2x | with_reducible refine cell_drew ?_ | with_reducible refine cell_alloc ?_))); done) | go_keep) (first
  | (go_at_call 71; ((with_reducible refine (Mul_any (.slice p1 A.length c1) (.slice p4 D.length c4) A D _ ?hr1 ?hr2 (by omega) (by omega)).mono ?_)); (case hr1 => exact (by repeat (first | with_reducible exact h1x | with_reducible refine rd_drew ?_ | with_reducible refine rd_alloc ?_))); (case hr2 => exact (by repeat (first | with_reducible exact h4x | with_reducible refine rd_drew ?_ | with_reducible refine rd_alloc ?_))); (rintro r w1 ⟨u', X, rfl, hX, nX, vX', bu⟩; have vX : Hid (val X = val A * val D) := vX'; clear vX'; have lX : X.length ≤ A.length + D.length := mul_len (haw) (hdw) hX.1 nX vX.out; obtain ⟨pu, cu, rfl⟩ := rd_form hX; have huy := hX; have K2y : Blk w1 w.heap.size #[.bool g1, .slice p1 A.length c1, .slice p2 B.length c2] 66 := blk_keep bu (by repeat (first | with_reducible exact K2x | with_reducible refine blk_drew ?_ | with_reducible refine Blk.alloc ?_ _)); have K3y : Blk w1 (w.heap.size + 1) #[.bool g2, .slice p3 C.length c3, .slice p4 D.length c4] 66 := blk_keep bu (by repeat (first | with_reducible exact K3x | with_reducible refine blk_drew ?_ | with_reducible refine Blk.alloc ?_ _)); have K4y : Blk w1 (w.heap.size + 1 + 1) #[.bool false, .slice none 0 0, .slice none 0 0] 66 := blk_keep bu (by repeat (first | with_reducible exact K4x | with_reducible refine blk_drew ?_ | with_reducible refine Blk.alloc ?_ _)); have pry : Below w.heap.size w w1 := bel (by repeat (first | with_reducible exact prx | with_reducible refine bel_drw ?_ | with_reducible refine bel_alloc ?_)) bu; have h1y : Rd w1 (.slice p1 A.length c1) A := Rd.grow (by repeat (first | with_reducible exact h1x | with_reducible refine rd_drew ?_ | with_reducible refine rd_alloc ?_)) bu; have h2y : Rd w1 (.slice p2 B.length c2) B := Rd.grow (by repeat (first | with_reducible exact h2x | with_reducible refine rd_drew ?_ | with_reducible refine rd_alloc ?_)) bu; have h3y : Rd w1 (.slice p3 C.length c3) C := Rd.grow (by repeat (first | with_reducible exact h3x | with_reducible refine rd_drew ?_ | with_reducible refine rd_alloc ?_)) bu; have h4y : Rd w1 (.slice p4 D.length c4) D := Rd.grow (by repeat (first | with_reducible exact h4x | with_reducible refine rd_drew ?_ | with_reducible refine rd_alloc ?_)) bu; have K2c0y : w1.cell? ⟨w.heap.size, 0, none⟩ = some (.bool g1) := K2y.at 0; have K2c1y : w1.cell? ⟨w.heap.size, 1, none⟩ = some (.slice p1 A.length c1) := K2y.at 1; have K2c2y : w1.cell? ⟨w.heap.size, 2, none⟩ = some (.slice p2 B.length c2) := K2y.at 2; have K3c0y : w1.cell? ⟨w.heap.size + 1, 0, none⟩ = some (.bool g2) := K3y.at 0; have K3c1y : w1.cell? ⟨w.heap.size + 1, 1, none⟩ = some (.slice p3 C.length c3) := K3y.at 1; have K3c2y : w1.cell? ⟨w.heap.size + 1, 2, none⟩ = some (.slice p4 D.length c4) := K3y.at 2))
  | (go_at_call 71; ((with_reducible refine (Mul_any (.slice p3 C.length c3) (.slice p2 B.length c2) C B _ ?hr1 ?hr2 (by omega) (by omega)).mono ?_)); (case hr1 => exact (by repeat (first | with_reducible exact h3y | with_reducible refine rd_drew ?_ | with_reducible refine rd_alloc ?_))); (case hr2 => exact (by repeat (first | with_reducible exact h2y | with_reducible refine rd_drew ?_ | with_reducible refine rd_alloc ?_))); (rintro r w2 ⟨v', Y, rfl, hY, nY, vY', bv⟩; have vY : Hid (val Y = val C * val B) := vY'; clear vY'; have lY : Y.length ≤ C.length + B.length := mul_len (hcw) (hbw) hY.1 nY vY.out; obtain ⟨pv, cv, rfl⟩ := rd_form hY; have hvz := hY; have K2z : Blk w2 w.heap.size #[.bool g1, .slice p1 A.length c1, .slice p2 B.length c2] 66 := blk_keep bv (by repeat (first | with_reducible exact K2y | with_reducible refine blk_drew ?_ | with_reducible refine Blk.alloc ?_ _)); have K3z : Blk w2 (w.heap.size + 1) #[.bool g2, .slice p3 C.length c3, .slice p4 D.length c4] 66 := blk_keep bv (by repeat (first | with_reducible exact K3y | with_reducible refine blk_drew ?_ | with_reducible refine Blk.alloc ?_ _)); have K4z : Blk w2 (w.heap.size + 1 + 1) #[.bool false, .slice none 0 0, .slice none 0 0] 66 := blk_keep bv (by repeat (first | with_reducible exact K4y | with_reducible refine blk_drew ?_ | with_reducible refine Blk.alloc ?_ _)); have prz : Below w.heap.size w w2 := bel (by repeat (first | with_reducible exact pry | with_reducible refine bel_drw ?_ | with_reducible refine bel_alloc ?_)) bv; have h1z : Rd w2 (.slice p1 A.length c1) A := Rd.grow (by repeat (first | with_reducible exact h1y | with_reducible refine rd_drew ?_ | with_reducible refine rd_alloc ?_)) bv; have h2z : Rd w2 (.slice p2 B.length c2) B := Rd.grow (by repeat (first | with_reducible exact h2y | with_reducible refine rd_drew ?_ | with_reducible refine rd_alloc ?_)) bv; have h3z : Rd w2 (.slice p3 C.length c3) C := Rd.grow (by repeat (first | with_reducible exact h3y | with_reducible refine rd_drew ?_ | with_reducible refine rd_alloc ?_)) bv; have h4z : Rd w2 (.slice p4 D.length c4) D := Rd.grow (by repeat (first | with_reducible exact h4y | with_reducible refine rd_drew ?_ | with_reducible refine rd_alloc ?_)) bv; have huz : Rd w2 (.slice pu X.length cu) X := Rd.grow (by repeat (first | with_reducible exact huy | with_reducible refine rd_drew ?_ | with_reducible refine rd_alloc ?_)) bv; have K2c0z : w2.cell? ⟨w.heap.size, 0, none⟩ = some (.bool g1) := K2z.at 0; have K2c1z : w2.cell? ⟨w.heap.size, 1, none⟩ = some (.slice p1 A.length c1) := K2z.at 1; have K2c2z : w2.cell? ⟨w.heap.size, 2, none⟩ = some (.slice p2 B.length c2) := K2z.at 2; have K3c0z : w2.cell? ⟨w.heap.size + 1, 0, none⟩ = some (.bool g2) := K3z.at 0; have K3c1z : w2.cell? ⟨w.heap.size + 1, 1, none⟩ = some (.slice p3 C.length c3) := K3z.at 1; have K3c2z : w2.cell? ⟨w.heap.size + 1, 2, none⟩ = some (.slice p4 D.length c4) := K3z.at 2))
  | fail)
 go_wp2_with (first
  | (go_at_call 71; ((with_reducible refine (Mul_any (.slice p2 B.length c2) (.slice p4 D.length c4) B D _ ?hr1 ?hr2 (by omega) (by omega)).mono ?_)); (case hr1 => exact (by repeat (first | with_reducible exact h2z | with_reducible refine rd_drew ?_ | with_reducible refine rd_alloc ?_))); (case hr2 => exact (by repeat (first | with_reducible exact h4z | with_reducible refine rd_drew ?_ | with_reducible refine rd_alloc ?_))); (rintro r w3 ⟨t', Z, rfl, hZ, nZ, vZ', bt⟩; have vZ : Hid (val Z = val B * val D) := vZ'; clear vZ'; have lZ : Z.length ≤ B.length + D.length := mul_len (hbw) (hdw) hZ.1 nZ vZ.out; obtain ⟨pt, ct, rfl⟩ := rd_form hZ; have htk := hZ; have K2k : Blk w3 w.heap.size #[.bool g1, .slice p1 A.length c1, .slice p2 B.length c2] 66 := blk_keep bt (by repeat (first | with_reducible exact K2z | with_reducible refine blk_drew ?_ | with_reducible refine Blk.alloc ?_ _)); have K3k : Blk w3 (w.heap.size + 1) #[.bool g2, .slice p3 C.length c3, .slice p4 D.length c4] 66 := blk_keep bt (by repeat (first | with_reducible exact K3z | with_reducible refine blk_drew ?_ | with_reducible refine Blk.alloc ?_ _)); have K4k : Blk w3 (w.heap.size + 1 + 1) #[.bool false, .slice none 0 0, .slice none 0 0] 66 := blk_keep bt (by repeat (first | with_reducible exact K4z | with_reducible refine blk_drew ?_ | with_reducible refine Blk.alloc ?_ _)); have prk : Below w.heap.size w w3 := bel (by repeat (first | with_reducible exact prz | with_reducible refine bel_drw ?_ | with_reducible refine bel_alloc ?_)) bt; have h1k : Rd w3 (.slice p1 A.length c1) A := Rd.grow (by repeat (first | with_reducible exact h1z | with_reducible refine rd_drew ?_ | with_reducible refine rd_alloc ?_)) bt; have h2k : Rd w3 (.slice p2 B.length c2) B := Rd.grow (by repeat (first | with_reducible exact h2z | with_reducible refine rd_drew ?_ | with_reducible refine rd_alloc ?_)) bt; have h3k : Rd w3 (.slice p3 C.length c3) C := Rd.grow (by repeat (first | with_reducible exact h3z | with_reducible refine rd_drew ?_ | with_reducible refine rd_alloc ?_)) bt; have h4k : Rd w3 (.slice p4 D.length c4) D := Rd.grow (by repeat (first | with_reducible exact h4z | with_reducible refine rd_drew ?_ | with_reducible refine rd_alloc ?_)) bt; have huk : Rd w3 (.slice pu X.length cu) X := Rd.grow (by repeat (first | with_reducible exact huz | with_reducible refine rd_drew ?_ | with_reducible refine rd_alloc ?_)) bt; have hvk : Rd w3 (.slice pv Y.length cv) Y := Rd.grow (by repeat (first | with_reducible exact hvz | with_reducible refine rd_drew ?_ | with_reducible refine rd_alloc ?_)) bt; have K2c0k : w3.cell? ⟨w.heap.size, 0, none⟩ = some (.bool g1) := K2k.at 0; have K2c1k : w3.cell? ⟨w.heap.size, 1, none⟩ = some (.slice p1 A.length c1) := K2k.at 1; have K2c2k : w3.cell? ⟨w.heap.size, 2, none⟩ = some (.slice p2 B.length c2) := K2k.at 2; have K3c0k : w3.cell? ⟨w.heap.size + 1, 0, none⟩ = some (.bool g2) := K3k.at 0; have K3c1k : w3.cell? ⟨w.heap.size + 1, 1, none⟩ = some (.slice p3 C.length c3) := K3k.at 1; have K3c2k : w3.cell? ⟨w.heap.size + 1, 2, none⟩ = some (.slice p4 D.length c4) := K3k.at 2))
  | (go_at_call 38; ((with_reducible refine (Cmp_any _ _ X Y _ ?hr1 ?hr2 nX nY (by omega)).mono ?_)); (case hr1 => exact (by repeat (first | with_reducible exact huk | with_reducible refine rd_drew ?_ | with_reducible refine rd_alloc ?_))); (case hr2 => exact (by repeat (first | with_reducible exact hvk | with_reducible refine rd_drew ?_ | with_reducible refine rd_alloc ?_))); (rintro r w4 ⟨rfl, bc⟩; have hc0 : ¬ 0 ≤ cmp3 (val X) (val Y) := cmp3_below (by rw [vX.out, vY.out]; exact HLE.out); have K2m : Blk w4 w.heap.size #[.bool g1, .slice p1 A.length c1, .slice p2 B.length c2] 66 := blk_keep bc (by repeat (first | with_reducible exact K2k | with_reducible refine blk_drew ?_ | with_reducible refine Blk.alloc ?_ _)); have K3m : Blk w4 (w.heap.size + 1) #[.bool g2, .slice p3 C.length c3, .slice p4 D.length c4] 66 := blk_keep bc (by repeat (first | with_reducible exact K3k | with_reducible refine blk_drew ?_ | with_reducible refine Blk.alloc ?_ _)); have K4m : Blk w4 (w.heap.size + 1 + 1) #[.bool false, .slice none 0 0, .slice none 0 0] 66 := blk_keep bc (by repeat (first | with_reducible exact K4k | with_reducible refine blk_drew ?_ | with_reducible refine Blk.alloc ?_ _)); have prm : Below w.heap.size w w4 := bel (by repeat (first | with_reducible exact prk | with_reducible refine bel_drw ?_ | with_reducible refine bel_alloc ?_)) bc; have h1m : Rd w4 (.slice p1 A.length c1) A := Rd.grow (by repeat (first | with_reducible exact h1k | with_reducible refine rd_drew ?_ | with_reducible refine rd_alloc ?_)) bc; have h2m : Rd w4 (.slice p2 B.length c2) B := Rd.grow (by repeat (first | with_reducible exact h2k | with_reducible refine rd_drew ?_ | with_reducible refine rd_alloc ?_)) bc; have h3m : Rd w4 (.slice p3 C.length c3) C := Rd.grow (by repeat (first | with_reducible exact h3k | with_reducible refine rd_drew ?_ | with_reducible refine rd_alloc ?_)) bc; have h4m : Rd w4 (.slice p4 D.length c4) D := Rd.grow (by repeat (first | with_reducible exact h4k | with_reducible refine rd_drew ?_ | with_reducible refine rd_alloc ?_)) bc; have hum : Rd w4 (.slice pu X.length cu) X := Rd.grow (by repeat (first | with_reducible exact huk | with_reducible refine rd_drew ?_ | with_reducible refine rd_alloc ?_)) bc; have hvm : Rd w4 (.slice pv Y.length cv) Y := Rd.grow (by repeat (first | with_reducible exact hvk | with_reducible refine rd_drew ?_ | with_reducible refine rd_alloc ?_)) bc; have htm : Rd w4 (.slice pt Z.length ct) Z := Rd.grow (by repeat (first | with_reducible exact htk | with_reducible refine rd_drew ?_ | with_reducible refine rd_alloc ?_)) bc; have K2c0m : w4.cell? ⟨w.heap.size, 0, none⟩ = some (.bool g1) := K2m.at 0; have K2c1m : w4.cell? ⟨w.heap.size, 1, none⟩ = some (.slice p1 A.length c1) := K2m.at 1; have K2c2m : w4.cell? ⟨w.heap.size, 2, none⟩ = some (.slice p2 B.length c2) := K2m.at 2; have K3c0m : w4.cell? ⟨w.heap.size + 1, 0, none⟩ = some (.bool g2) := K3m.at 0; have K3c1m : w4.cell? ⟨w.heap.size + 1, 1, none⟩ = some (.slice p3 C.length c3) := K3m.at 1; have K3c2m : w4.cell? ⟨w.heap.size + 1, 2, none⟩ = some (.slice p4 D.length c4) := K3m.at 2))
  | fail)
 have LE : val X ≤ val Y := by rw [vX.out, vY.out]; exact Int.le_of_lt HLE.out
 have LL : X.length ≤ Y.length := len_mono hY.1 hX.1 nX LE
 have ZB : Hid (0 < val Z) := by show 0 < val Z; rw [vZ.out]; exact BD.out
 go_region_held3 (fun x => x.cell? ⟨w.heap.size, 0, none⟩ = some (.bool g1) ∧ x.cell? ⟨w.heap.size + 1, 0, none⟩ = some (.bool g2)) (first | ((try dsimp only); (refine ⟨?_, ?_⟩); (all_goals (repeat (first | with_reducible exact K2c0n | with_reducible exact K3c0n | with_reducible exact K2c0m | with_reducible exact K3c0m | with_reducible refine cell_drew ?_ | with_reducible refine cell_alloc ?_))); done) | exact ⟨set3_other (by omega) K2c06, set3_other (by omega) K3c06⟩ | go_keep) (first
  | (go_at_call 74; ((with_reducible refine (Sub_any _ _ Y X _ ?hr1 ?hr2 (by omega) LL LE).mono ?_)); (case hr1 => exact (by repeat (first | with_reducible exact hvm | with_reducible refine rd_drew ?_ | with_reducible refine rd_alloc ?_))); (case hr2 => exact (by repeat (first | with_reducible exact hum | with_reducible refine rd_drew ?_ | with_reducible refine rd_alloc ?_))); (rintro r w5 ⟨s', Q, rfl, hQ, nQ, vQ', bs⟩; have vQ : Hid (val Q = val Y - val X) := vQ'; clear vQ'; have lQ : Q.length ≤ 4000000001 := sub_len hY.1 hX.1 hQ.1 nQ vQ.out (by omega); obtain ⟨ps, cs, rfl⟩ := rd_form hQ; have K2n : Blk w5 w.heap.size #[.bool g1, .slice p1 A.length c1, .slice p2 B.length c2] 66 := blk_keep bs (by repeat (first | with_reducible exact K2m | with_reducible refine blk_drew ?_ | with_reducible refine Blk.alloc ?_ _)); have K3n : Blk w5 (w.heap.size + 1) #[.bool g2, .slice p3 C.length c3, .slice p4 D.length c4] 66 := blk_keep bs (by repeat (first | with_reducible exact K3m | with_reducible refine blk_drew ?_ | with_reducible refine Blk.alloc ?_ _)); have K4n : Blk w5 (w.heap.size + 1 + 1) #[.bool false, .slice none 0 0, .slice none 0 0] 66 := blk_keep bs (by repeat (first | with_reducible exact K4m | with_reducible refine blk_drew ?_ | with_reducible refine Blk.alloc ?_ _)); have prn : Below w.heap.size w w5 := bel (by repeat (first | with_reducible exact prm | with_reducible refine bel_drw ?_ | with_reducible refine bel_alloc ?_)) bs; have h1n : Rd w5 (.slice p1 A.length c1) A := Rd.grow (by repeat (first | with_reducible exact h1m | with_reducible refine rd_drew ?_ | with_reducible refine rd_alloc ?_)) bs; have h2n : Rd w5 (.slice p2 B.length c2) B := Rd.grow (by repeat (first | with_reducible exact h2m | with_reducible refine rd_drew ?_ | with_reducible refine rd_alloc ?_)) bs; have h3n : Rd w5 (.slice p3 C.length c3) C := Rd.grow (by repeat (first | with_reducible exact h3m | with_reducible refine rd_drew ?_ | with_reducible refine rd_alloc ?_)) bs; have h4n : Rd w5 (.slice p4 D.length c4) D := Rd.grow (by repeat (first | with_reducible exact h4m | with_reducible refine rd_drew ?_ | with_reducible refine rd_alloc ?_)) bs; have hun : Rd w5 (.slice pu X.length cu) X := Rd.grow (by repeat (first | with_reducible exact hum | with_reducible refine rd_drew ?_ | with_reducible refine rd_alloc ?_)) bs; have hvn : Rd w5 (.slice pv Y.length cv) Y := Rd.grow (by repeat (first | with_reducible exact hvm | with_reducible refine rd_drew ?_ | with_reducible refine rd_alloc ?_)) bs; have htn : Rd w5 (.slice pt Z.length ct) Z := Rd.grow (by repeat (first | with_reducible exact htm | with_reducible refine rd_drew ?_ | with_reducible refine rd_alloc ?_)) bs; have K2c0n : w5.cell? ⟨w.heap.size, 0, none⟩ = some (.bool g1) := K2n.at 0; have K2c1n : w5.cell? ⟨w.heap.size, 1, none⟩ = some (.slice p1 A.length c1) := K2n.at 1; have K2c2n : w5.cell? ⟨w.heap.size, 2, none⟩ = some (.slice p2 B.length c2) := K2n.at 2; have K3c0n : w5.cell? ⟨w.heap.size + 1, 0, none⟩ = some (.bool g2) := K3n.at 0; have K3c1n : w5.cell? ⟨w.heap.size + 1, 1, none⟩ = some (.slice p3 C.length c3) := K3n.at 1; have K3c2n : w5.cell? ⟨w.heap.size + 1, 2, none⟩ = some (.slice p4 D.length c4) := K3n.at 2))
  | (go_at_call 72; ((with_reducible refine (Make_q g2 _ _ Q Z 4000000001 _ ?hr1 ?hr2 nQ nZ lQ (by omega) (by decide) ZB.out).mono ?_)); (case hr1 => exact (by repeat (first | with_reducible exact hQ | with_reducible refine rd_drew ?_ | with_reducible refine rd_alloc ?_))); (case hr2 => exact (by repeat (first | with_reducible exact htn | with_reducible refine rd_drew ?_ | with_reducible refine rd_alloc ?_))); (rintro r w6 ⟨v, rfl, hv6, bm⟩; rw [vQ.out, vX.out, vY.out, vZ.out] at hv6; have pr6 : Below w.heap.size w w6 := bel (by repeat (first | with_reducible exact prn | with_reducible refine bel_drw ?_ | with_reducible refine bel_alloc ?_)) bm; have K26 : Blk w6 w.heap.size #[.bool g1, .slice p1 A.length c1, .slice p2 B.length c2] 66 := blk_keep bm (by repeat (first | with_reducible exact K2n | with_reducible refine blk_drew ?_ | with_reducible refine Blk.alloc ?_ _)); have K36 : Blk w6 (w.heap.size + 1) #[.bool g2, .slice p3 C.length c3, .slice p4 D.length c4] 66 := blk_keep bm (by repeat (first | with_reducible exact K3n | with_reducible refine blk_drew ?_ | with_reducible refine Blk.alloc ?_ _)); have K46 : Blk w6 (w.heap.size + 1 + 1) #[.bool false, .slice none 0 0, .slice none 0 0] 66 := blk_keep bm (by repeat (first | with_reducible exact K4n | with_reducible refine blk_drew ?_ | with_reducible refine Blk.alloc ?_ _)); obtain ⟨N, M, p7, p8, c7, c8, rfl, hN, nN, vN', hM, nM, vM'⟩ := hv6; have vN : Hid _ := vN'; have vM : Hid _ := vM'; clear vN' vM'; have kq0 : w6.cell? ⟨w.heap.size + 1 + 1, 0, none⟩ = some (.bool false) := K46.at 0; have kq1 : w6.cell? ⟨w.heap.size + 1 + 1, 1, none⟩ = some (.slice none 0 0) := K46.at 1; have kq2 : w6.cell? ⟨w.heap.size + 1 + 1, 2, none⟩ = some (.slice none 0 0) := K46.at 2; have kf0 := K46.free 0; have kf1 := K46.free 1; have kf2 := K46.free 2; have K2c06 : w6.cell? ⟨w.heap.size, 0, none⟩ = some (.bool g1) := K26.at 0; have K2c16 : w6.cell? ⟨w.heap.size, 1, none⟩ = some (.slice p1 A.length c1) := K26.at 1; have K2c26 : w6.cell? ⟨w.heap.size, 2, none⟩ = some (.slice p2 B.length c2) := K26.at 2; have K3c06 : w6.cell? ⟨w.heap.size + 1, 0, none⟩ = some (.bool g2) := K36.at 0; have K3c16 : w6.cell? ⟨w.heap.size + 1, 1, none⟩ = some (.slice p3 C.length c3) := K36.at 1; have K3c26 : w6.cell? ⟨w.heap.size + 1, 2, none⟩ = some (.slice p4 D.length c4) := K36.at 2))
  | fail)
 all_goals
  go_wp2_with fail
  obtain ⟨F0, F1, F2, FB⟩ := put3 (.bool _) (.slice p7 N.length c7) (.slice p8 M.length c8) kq0 kq1 kq2
  exact bodyPost_ret (v := .agg #[.bool _, .slice p7 N.length c7, .slice p8 M.length c8]) (by simp [results, Tryz.results30, go_sem, F0, F1, F2]) rfl ⟨_, rfl, ⟨N, M, _, _, _, _, rfl, hN.putQ K46, nN, vN.out, hM.putQ K46, nM, vM.out⟩, FB _ _ (by omega) pr6⟩
end Go.Proofs.YtfalncbcomlelaaGreatDoor.L

namespace Go.Proofs.YtfalncbcomlelaaGreatDoor.L
open Go.RowKit Tl

/-- Neither part has more than K limbs. -/
def QS (r : Rat) (K : Nat) : Prop := (r.num.natAbs : Int) < pw K ∧ (r.den : Int) < pw K
theorem den_pos' (r : Rat) : (0 : Int) < (r.den : Int) := by
 have := r.den_nz
 omega
theorem num_sg (r : Rat) : r.num = sgI (decide (r.num < 0)) (r.num.natAbs : Int) := by
 unfold sgI
 by_cases c : r.num < 0
 ·rw [decide_eq_true c, if_pos rfl]; omega
 ·rw [decide_eq_false c, if_neg (by simp)]; omega
theorem add_rat (r s : Rat) (x : Int) (h : x = r.num * s.den + s.num * r.den) : mkRat x ((r.den : Int) * s.den).toNat = r + s := by
 rw [Rat.add_def', h]
 congr 1
/-- Q's Add of the reference. -/
theorem QAdd_any (a b : Value) (r s : Rat) (K : Nat) (w : World) (ha : IsQ w a r) (hb : IsQ w b s) (hr : QS r K) (hs : QS s K) (hK : K ≤ 1000000000) :
  Calls Tryz.prog 30 #[a, b] w fun e w' => ∃ v, e = .returned v ∧ IsQ w' v (r + s) ∧ Below w.heap.size w w' := by
 obtain ⟨A, B, p1, p2, c1, c2, rfl, h1, n1, v1, h2, n2, v2⟩ := ha
 obtain ⟨C, D, p3, p4, c3, c4, rfl, h3, n3, v3, h4, n4, v4⟩ := hb
 have l1 : A.length ≤ K := len_of_lt h1.1 n1 (by rw [v1]; exact hr.1)
 have l2 : B.length ≤ K := len_of_lt h2.1 n2 (by rw [v2]; exact hr.2)
 have l3 : C.length ≤ K := len_of_lt h3.1 n3 (by rw [v3]; exact hs.1)
 have l4 : D.length ≤ K := len_of_lt h4.1 n4 (by rw [v4]; exact hs.2)
 have b0 : 0 < val B := by rw [v2]; exact den_pos' r
 have d0 : 0 < val D := by rw [v4]; exact den_pos' s
 have er := num_sg r
 have es := num_sg s
 by_cases hg : decide (r.num < 0) = decide (s.num < 0)
 ·have := qadd_same _ _ p1 p2 p3 p4 c1 c2 c3 c4 A B C D w h1 h2 h3 h4 (by omega) (by omega) (by omega) (by omega) b0 d0 hg
  rw [v1, v2, v3, v4, add_rat r s] at this
  ·exact this
  ·rw [← hg] at es
   generalize decide (r.num < 0) = g at *
   rw [er, es]
   cases g
   ·simp only [sgI, Bool.false_eq_true, if_false]; simp
   ·simp only [sgI, if_true]; simp; grind
 ·by_cases le : val C * val B ≤ val A * val D
  ·have := qadd_ge _ _ p1 p2 p3 p4 c1 c2 c3 c4 A B C D w h1 h2 h3 h4 (by omega) (by omega) (by omega) (by omega) b0 d0 hg le
   rw [v1, v2, v3, v4, add_rat r s] at this
   ·exact this
   ·generalize decide (r.num < 0) = g at *
    generalize decide (s.num < 0) = g' at *
    rw [er, es]
    cases g <;> cases g'
    ·exact absurd rfl hg
    ·simp only [sgI, Bool.false_eq_true, if_false, if_true]; simp; grind
    ·simp only [sgI, Bool.false_eq_true, if_false, if_true]; simp; grind
    ·exact absurd rfl hg
  ·have := qadd_lt _ _ p1 p2 p3 p4 c1 c2 c3 c4 A B C D w h1 h2 h3 h4 (by omega) (by omega) (by omega) (by omega) b0 d0 hg (by omega)
   rw [v1, v2, v3, v4, add_rat r s] at this
   ·exact this
   ·generalize decide (r.num < 0) = g at *
    generalize decide (s.num < 0) = g' at *
    rw [er, es]
    cases g <;> cases g'
    ·exact absurd rfl hg
    ·simp only [sgI, Bool.false_eq_true, if_false, if_true]; simp; grind
    ·simp only [sgI, Bool.false_eq_true, if_false, if_true]; simp; grind
    ·exact absurd rfl hg
end Go.Proofs.YtfalncbcomlelaaGreatDoor.L

namespace Go.Proofs.YtfalncbcomlelaaGreatDoor.L
open Go.RowKit Tl

theorem isq_form {w : World} {v : Value} {r : Rat} (h : IsQ w v r) : ∃ g p1 m1 c1 p2 m2 c2, v = .agg #[.bool g, .slice p1 m1 c1, .slice p2 m2 c2] ∧ Hid (g = decide (r.num < 0)) := by
 obtain ⟨ns, ds, a1, a2, c1, c2, e, _⟩ := h
 exact ⟨_, a1, _, c1, a2, _, c2, e, rfl⟩
end Go.Proofs.YtfalncbcomlelaaGreatDoor.L
namespace Go.Proofs.YtfalncbcomlelaaGreatDoor.Mo
open Go.RowKit

/-- A number of the reference's is answered. -/
def Qf (r : Rat) (x : World) (e : Ending) (w' : World) : Prop := ∃ g a l c a' l' c', e = .returned (.agg #[.bool g, .slice a l c, .slice a' l' c']) ∧ L.IsQ w' (.agg #[.bool g, .slice a l c, .slice a' l' c']) r ∧ Below x.heap.size x w'
theorem qf_of {P : Program} {f : Nat} {args : Array Value} {r : Rat} {x : World} (h : Calls P f args x fun e w' => ∃ v, e = .returned v ∧ L.IsQ w' v r ∧ Below x.heap.size x w') : Calls P f args x (Qf r x) := by
 refine h.mono ?_
 rintro e w' ⟨v, rfl, hq, b⟩
 obtain ⟨g, a, l, c, a', l', c', rfl, _⟩ := L.isq_form hq
 exact ⟨g, a, l, c, a', l', c', rfl, hq, b⟩
end Go.Proofs.YtfalncbcomlelaaGreatDoor.Mo
