import Derived.Test.YtmopfnhjooopkaaGreatDoorPart10
import Derived.Test.YtmopfnhjooopkaaGreatDoorPart12

namespace Go.Proofs.YtmopfnhjooopkaaGreatDoor.L
open Go.RowKit Tl

set_option maxHeartbeats 6400000 in
set_option maxRecDepth 100000 in
theorem qadd_lt (g1 g2 : Bool) (p1 p2 p3 p4 : Option Addr) (c1 c2 c3 c4 : Nat) (A B C D : List Int) (w : World) (h1 : Rd w (.slice p1 A.length c1) A) (h2 : Rd w (.slice p2 B.length c2) B) (h3 : Rd w (.slice p3 C.length c3) C) (h4 : Rd w (.slice p4 D.length c4) D) (l1 : A.length ≤ 1000000000) (l2 : B.length ≤ 1000000000) (l3 : C.length ≤ 1000000000) (l4 : D.length ≤ 1000000000) (b0 : 0 < val B) (d0 : 0 < val D) (hg : g1 ≠ g2) (le : val A * val D < val C * val B) :
    Calls Tryz.prog 82 #[.agg #[.bool g1, .slice p1 A.length c1, .slice p2 B.length c2], .agg #[.bool g2, .slice p3 C.length c3, .slice p4 D.length c4]] w fun e w' => ∃ v, e = .returned v ∧ IsQ w' v (mkRat (sgI g2 (val C * val B - val A * val D)) (val B * val D).toNat) ∧ Below w.heap.size w w' := by
  have hgg : (g1 == g2) = false := by rw [beq_eq_false_iff_ne]; exact hg
  have HLE : Hid _ := le
  clear hg le
  have haw := h1.1
  have hbw := h2.1
  have hcw := h3.1
  have hdw := h4.1
  have BD : Hid (0 < val B * val D) := Int.mul_pos b0 d0
  clear b0 d0
  go_enter Tryz.func82, Tryz.ntmps82
  go_upto_region 1 with fail
  have K2x : Blk (((w.alloc (.cells #[.bool g1, .slice p1 A.length c1, .slice p2 B.length c2] 65)).alloc (.cells #[.bool g2, .slice p3 C.length c3, .slice p4 D.length c4] 65)).alloc (.cells #[.bool false, .slice none 0 0, .slice none 0 0] 65)) w.heap.size #[.bool g1, .slice p1 A.length c1, .slice p2 B.length c2] 65 := ((Blk.new w _ _).alloc _).alloc _
  have K3x : Blk (((w.alloc (.cells #[.bool g1, .slice p1 A.length c1, .slice p2 B.length c2] 65)).alloc (.cells #[.bool g2, .slice p3 C.length c3, .slice p4 D.length c4] 65)).alloc (.cells #[.bool false, .slice none 0 0, .slice none 0 0] 65)) (w.heap.size + 1) #[.bool g2, .slice p3 C.length c3, .slice p4 D.length c4] 65 := (blk_at (by simp)).alloc _
  have K4x : Blk (((w.alloc (.cells #[.bool g1, .slice p1 A.length c1, .slice p2 B.length c2] 65)).alloc (.cells #[.bool g2, .slice p3 C.length c3, .slice p4 D.length c4] 65)).alloc (.cells #[.bool false, .slice none 0 0, .slice none 0 0] 65)) (w.heap.size + 1 + 1) #[.bool false, .slice none 0 0, .slice none 0 0] 65 := blk_at (by simp)
  have prx : Below w.heap.size w (((w.alloc (.cells #[.bool g1, .slice p1 A.length c1, .slice p2 B.length c2] 65)).alloc (.cells #[.bool g2, .slice p3 C.length c3, .slice p4 D.length c4] 65)).alloc (.cells #[.bool false, .slice none 0 0, .slice none 0 0] 65)) := (((Below.refl _ _).alloc (Nat.le_refl _) _).alloc (by simp) _).alloc (by simp; omega) _
  have h1x := h1.grow prx
  have h2x := h2.grow prx
  have h3x := h3.grow prx
  have h4x := h4.grow prx
  clear h1 h2 h3 h4
  generalize (((w.alloc (.cells #[.bool g1, .slice p1 A.length c1, .slice p2 B.length c2] 65)).alloc (.cells #[.bool g2, .slice p3 C.length c3, .slice p4 D.length c4] 65)).alloc (.cells #[.bool false, .slice none 0 0, .slice none 0 0] 65)) = W at *
  have K2c0x : W.cell? ⟨w.heap.size, 0, none⟩ = some (.bool g1) := K2x.at 0
  have K2c1x : W.cell? ⟨w.heap.size, 1, none⟩ = some (.slice p1 A.length c1) := K2x.at 1
  have K2c2x : W.cell? ⟨w.heap.size, 2, none⟩ = some (.slice p2 B.length c2) := K2x.at 2
  have K3c0x : W.cell? ⟨w.heap.size + 1, 0, none⟩ = some (.bool g2) := K3x.at 0
  have K3c1x : W.cell? ⟨w.heap.size + 1, 1, none⟩ = some (.slice p3 C.length c3) := K3x.at 1
  have K3c2x : W.cell? ⟨w.heap.size + 1, 2, none⟩ = some (.slice p4 D.length c4) := K3x.at 2
  go_region_held3 (fun x => x.cell? ⟨w.heap.size, 0, none⟩ = some (.bool g1) ∧ x.cell? ⟨w.heap.size, 1, none⟩ = some (.slice p1 A.length c1) ∧ x.cell? ⟨w.heap.size, 2, none⟩ = some (.slice p2 B.length c2) ∧ x.cell? ⟨w.heap.size + 1, 0, none⟩ = some (.bool g2) ∧ x.cell? ⟨w.heap.size + 1, 1, none⟩ = some (.slice p3 C.length c3) ∧ x.cell? ⟨w.heap.size + 1, 2, none⟩ = some (.slice p4 D.length c4)) (first | ((try dsimp only); (refine ⟨?_, ?_, ?_, ?_, ?_, ?_⟩); (all_goals (repeat (first | with_reducible exact K2c0z | with_reducible exact K2c1z | with_reducible exact K2c2z | with_reducible exact K3c0z | with_reducible exact K3c1z | with_reducible exact K3c2z | with_reducible exact K2c0y | with_reducible exact K2c1y | with_reducible exact K2c2y | with_reducible exact K3c0y | with_reducible exact K3c1y | with_reducible exact K3c2y | with_reducible exact K2c0x | with_reducible exact K2c1x | with_reducible exact K2c2x | with_reducible exact K3c0x | with_reducible exact K3c1x | with_reducible exact K3c2x | with_reducible refine cell_drew ?_ | with_reducible refine cell_alloc ?_))); done) | go_keep) (first
    | (go_at_call 68; ((with_reducible refine (Mul_any (.slice p1 A.length c1) (.slice p4 D.length c4) A D _ ?hr1 ?hr2 (by omega) (by omega)).mono ?_)); (case hr1 => exact (by repeat (first | with_reducible exact h1x | with_reducible refine rd_drew ?_ | with_reducible refine rd_alloc ?_))); (case hr2 => exact (by repeat (first | with_reducible exact h4x | with_reducible refine rd_drew ?_ | with_reducible refine rd_alloc ?_))); (rintro r w1 ⟨u', X, rfl, hX, nX, vX', bu⟩; have vX : Hid (val X = val A * val D) := vX'; clear vX'; have lX : X.length ≤ A.length + D.length := mul_len (haw) (hdw) hX.1 nX vX.out; obtain ⟨pu, cu, rfl⟩ := rd_form hX; have huy := hX; have K2y : Blk w1 w.heap.size #[.bool g1, .slice p1 A.length c1, .slice p2 B.length c2] 65 := blk_keep bu (by repeat (first | with_reducible exact K2x | with_reducible refine blk_drew ?_ | with_reducible refine Blk.alloc ?_ _)); have K3y : Blk w1 (w.heap.size + 1) #[.bool g2, .slice p3 C.length c3, .slice p4 D.length c4] 65 := blk_keep bu (by repeat (first | with_reducible exact K3x | with_reducible refine blk_drew ?_ | with_reducible refine Blk.alloc ?_ _)); have K4y : Blk w1 (w.heap.size + 1 + 1) #[.bool false, .slice none 0 0, .slice none 0 0] 65 := blk_keep bu (by repeat (first | with_reducible exact K4x | with_reducible refine blk_drew ?_ | with_reducible refine Blk.alloc ?_ _)); have pry : Below w.heap.size w w1 := bel (by repeat (first | with_reducible exact prx | with_reducible refine bel_drw ?_ | with_reducible refine bel_alloc ?_)) bu; have h1y : Rd w1 (.slice p1 A.length c1) A := Rd.grow (by repeat (first | with_reducible exact h1x | with_reducible refine rd_drew ?_ | with_reducible refine rd_alloc ?_)) bu; have h2y : Rd w1 (.slice p2 B.length c2) B := Rd.grow (by repeat (first | with_reducible exact h2x | with_reducible refine rd_drew ?_ | with_reducible refine rd_alloc ?_)) bu; have h3y : Rd w1 (.slice p3 C.length c3) C := Rd.grow (by repeat (first | with_reducible exact h3x | with_reducible refine rd_drew ?_ | with_reducible refine rd_alloc ?_)) bu; have h4y : Rd w1 (.slice p4 D.length c4) D := Rd.grow (by repeat (first | with_reducible exact h4x | with_reducible refine rd_drew ?_ | with_reducible refine rd_alloc ?_)) bu; have K2c0y : w1.cell? ⟨w.heap.size, 0, none⟩ = some (.bool g1) := K2y.at 0; have K2c1y : w1.cell? ⟨w.heap.size, 1, none⟩ = some (.slice p1 A.length c1) := K2y.at 1; have K2c2y : w1.cell? ⟨w.heap.size, 2, none⟩ = some (.slice p2 B.length c2) := K2y.at 2; have K3c0y : w1.cell? ⟨w.heap.size + 1, 0, none⟩ = some (.bool g2) := K3y.at 0; have K3c1y : w1.cell? ⟨w.heap.size + 1, 1, none⟩ = some (.slice p3 C.length c3) := K3y.at 1; have K3c2y : w1.cell? ⟨w.heap.size + 1, 2, none⟩ = some (.slice p4 D.length c4) := K3y.at 2))
    | (go_at_call 68; ((with_reducible refine (Mul_any (.slice p3 C.length c3) (.slice p2 B.length c2) C B _ ?hr1 ?hr2 (by omega) (by omega)).mono ?_)); (case hr1 => exact (by repeat (first | with_reducible exact h3y | with_reducible refine rd_drew ?_ | with_reducible refine rd_alloc ?_))); (case hr2 => exact (by repeat (first | with_reducible exact h2y | with_reducible refine rd_drew ?_ | with_reducible refine rd_alloc ?_))); (rintro r w2 ⟨v', Y, rfl, hY, nY, vY', bv⟩; have vY : Hid (val Y = val C * val B) := vY'; clear vY'; have lY : Y.length ≤ C.length + B.length := mul_len (hcw) (hbw) hY.1 nY vY.out; obtain ⟨pv, cv, rfl⟩ := rd_form hY; have hvz := hY; have K2z : Blk w2 w.heap.size #[.bool g1, .slice p1 A.length c1, .slice p2 B.length c2] 65 := blk_keep bv (by repeat (first | with_reducible exact K2y | with_reducible refine blk_drew ?_ | with_reducible refine Blk.alloc ?_ _)); have K3z : Blk w2 (w.heap.size + 1) #[.bool g2, .slice p3 C.length c3, .slice p4 D.length c4] 65 := blk_keep bv (by repeat (first | with_reducible exact K3y | with_reducible refine blk_drew ?_ | with_reducible refine Blk.alloc ?_ _)); have K4z : Blk w2 (w.heap.size + 1 + 1) #[.bool false, .slice none 0 0, .slice none 0 0] 65 := blk_keep bv (by repeat (first | with_reducible exact K4y | with_reducible refine blk_drew ?_ | with_reducible refine Blk.alloc ?_ _)); have prz : Below w.heap.size w w2 := bel (by repeat (first | with_reducible exact pry | with_reducible refine bel_drw ?_ | with_reducible refine bel_alloc ?_)) bv; have h1z : Rd w2 (.slice p1 A.length c1) A := Rd.grow (by repeat (first | with_reducible exact h1y | with_reducible refine rd_drew ?_ | with_reducible refine rd_alloc ?_)) bv; have h2z : Rd w2 (.slice p2 B.length c2) B := Rd.grow (by repeat (first | with_reducible exact h2y | with_reducible refine rd_drew ?_ | with_reducible refine rd_alloc ?_)) bv; have h3z : Rd w2 (.slice p3 C.length c3) C := Rd.grow (by repeat (first | with_reducible exact h3y | with_reducible refine rd_drew ?_ | with_reducible refine rd_alloc ?_)) bv; have h4z : Rd w2 (.slice p4 D.length c4) D := Rd.grow (by repeat (first | with_reducible exact h4y | with_reducible refine rd_drew ?_ | with_reducible refine rd_alloc ?_)) bv; have huz : Rd w2 (.slice pu X.length cu) X := Rd.grow (by repeat (first | with_reducible exact huy | with_reducible refine rd_drew ?_ | with_reducible refine rd_alloc ?_)) bv; have K2c0z : w2.cell? ⟨w.heap.size, 0, none⟩ = some (.bool g1) := K2z.at 0; have K2c1z : w2.cell? ⟨w.heap.size, 1, none⟩ = some (.slice p1 A.length c1) := K2z.at 1; have K2c2z : w2.cell? ⟨w.heap.size, 2, none⟩ = some (.slice p2 B.length c2) := K2z.at 2; have K3c0z : w2.cell? ⟨w.heap.size + 1, 0, none⟩ = some (.bool g2) := K3z.at 0; have K3c1z : w2.cell? ⟨w.heap.size + 1, 1, none⟩ = some (.slice p3 C.length c3) := K3z.at 1; have K3c2z : w2.cell? ⟨w.heap.size + 1, 2, none⟩ = some (.slice p4 D.length c4) := K3z.at 2))
    | fail)
  go_wp2_with (first
    | (go_at_call 68; ((with_reducible refine (Mul_any (.slice p2 B.length c2) (.slice p4 D.length c4) B D _ ?hr1 ?hr2 (by omega) (by omega)).mono ?_)); (case hr1 => exact (by repeat (first | with_reducible exact h2z | with_reducible refine rd_drew ?_ | with_reducible refine rd_alloc ?_))); (case hr2 => exact (by repeat (first | with_reducible exact h4z | with_reducible refine rd_drew ?_ | with_reducible refine rd_alloc ?_))); (rintro r w3 ⟨t', Z, rfl, hZ, nZ, vZ', bt⟩; have vZ : Hid (val Z = val B * val D) := vZ'; clear vZ'; have lZ : Z.length ≤ B.length + D.length := mul_len (hbw) (hdw) hZ.1 nZ vZ.out; obtain ⟨pt, ct, rfl⟩ := rd_form hZ; have htk := hZ; have K2k : Blk w3 w.heap.size #[.bool g1, .slice p1 A.length c1, .slice p2 B.length c2] 65 := blk_keep bt (by repeat (first | with_reducible exact K2z | with_reducible refine blk_drew ?_ | with_reducible refine Blk.alloc ?_ _)); have K3k : Blk w3 (w.heap.size + 1) #[.bool g2, .slice p3 C.length c3, .slice p4 D.length c4] 65 := blk_keep bt (by repeat (first | with_reducible exact K3z | with_reducible refine blk_drew ?_ | with_reducible refine Blk.alloc ?_ _)); have K4k : Blk w3 (w.heap.size + 1 + 1) #[.bool false, .slice none 0 0, .slice none 0 0] 65 := blk_keep bt (by repeat (first | with_reducible exact K4z | with_reducible refine blk_drew ?_ | with_reducible refine Blk.alloc ?_ _)); have prk : Below w.heap.size w w3 := bel (by repeat (first | with_reducible exact prz | with_reducible refine bel_drw ?_ | with_reducible refine bel_alloc ?_)) bt; have h1k : Rd w3 (.slice p1 A.length c1) A := Rd.grow (by repeat (first | with_reducible exact h1z | with_reducible refine rd_drew ?_ | with_reducible refine rd_alloc ?_)) bt; have h2k : Rd w3 (.slice p2 B.length c2) B := Rd.grow (by repeat (first | with_reducible exact h2z | with_reducible refine rd_drew ?_ | with_reducible refine rd_alloc ?_)) bt; have h3k : Rd w3 (.slice p3 C.length c3) C := Rd.grow (by repeat (first | with_reducible exact h3z | with_reducible refine rd_drew ?_ | with_reducible refine rd_alloc ?_)) bt; have h4k : Rd w3 (.slice p4 D.length c4) D := Rd.grow (by repeat (first | with_reducible exact h4z | with_reducible refine rd_drew ?_ | with_reducible refine rd_alloc ?_)) bt; have huk : Rd w3 (.slice pu X.length cu) X := Rd.grow (by repeat (first | with_reducible exact huz | with_reducible refine rd_drew ?_ | with_reducible refine rd_alloc ?_)) bt; have hvk : Rd w3 (.slice pv Y.length cv) Y := Rd.grow (by repeat (first | with_reducible exact hvz | with_reducible refine rd_drew ?_ | with_reducible refine rd_alloc ?_)) bt; have K2c0k : w3.cell? ⟨w.heap.size, 0, none⟩ = some (.bool g1) := K2k.at 0; have K2c1k : w3.cell? ⟨w.heap.size, 1, none⟩ = some (.slice p1 A.length c1) := K2k.at 1; have K2c2k : w3.cell? ⟨w.heap.size, 2, none⟩ = some (.slice p2 B.length c2) := K2k.at 2; have K3c0k : w3.cell? ⟨w.heap.size + 1, 0, none⟩ = some (.bool g2) := K3k.at 0; have K3c1k : w3.cell? ⟨w.heap.size + 1, 1, none⟩ = some (.slice p3 C.length c3) := K3k.at 1; have K3c2k : w3.cell? ⟨w.heap.size + 1, 2, none⟩ = some (.slice p4 D.length c4) := K3k.at 2))
    | (go_at_call 101; ((with_reducible refine (Cmp_any _ _ X Y _ ?hr1 ?hr2 nX nY (by omega)).mono ?_)); (case hr1 => exact (by repeat (first | with_reducible exact huk | with_reducible refine rd_drew ?_ | with_reducible refine rd_alloc ?_))); (case hr2 => exact (by repeat (first | with_reducible exact hvk | with_reducible refine rd_drew ?_ | with_reducible refine rd_alloc ?_))); (rintro r w4 ⟨rfl, bc⟩; have hc0 : ¬ 0 ≤ cmp3 (val X) (val Y) := cmp3_below (by rw [vX.out, vY.out]; exact HLE.out); have K2m : Blk w4 w.heap.size #[.bool g1, .slice p1 A.length c1, .slice p2 B.length c2] 65 := blk_keep bc (by repeat (first | with_reducible exact K2k | with_reducible refine blk_drew ?_ | with_reducible refine Blk.alloc ?_ _)); have K3m : Blk w4 (w.heap.size + 1) #[.bool g2, .slice p3 C.length c3, .slice p4 D.length c4] 65 := blk_keep bc (by repeat (first | with_reducible exact K3k | with_reducible refine blk_drew ?_ | with_reducible refine Blk.alloc ?_ _)); have K4m : Blk w4 (w.heap.size + 1 + 1) #[.bool false, .slice none 0 0, .slice none 0 0] 65 := blk_keep bc (by repeat (first | with_reducible exact K4k | with_reducible refine blk_drew ?_ | with_reducible refine Blk.alloc ?_ _)); have prm : Below w.heap.size w w4 := bel (by repeat (first | with_reducible exact prk | with_reducible refine bel_drw ?_ | with_reducible refine bel_alloc ?_)) bc; have h1m : Rd w4 (.slice p1 A.length c1) A := Rd.grow (by repeat (first | with_reducible exact h1k | with_reducible refine rd_drew ?_ | with_reducible refine rd_alloc ?_)) bc; have h2m : Rd w4 (.slice p2 B.length c2) B := Rd.grow (by repeat (first | with_reducible exact h2k | with_reducible refine rd_drew ?_ | with_reducible refine rd_alloc ?_)) bc; have h3m : Rd w4 (.slice p3 C.length c3) C := Rd.grow (by repeat (first | with_reducible exact h3k | with_reducible refine rd_drew ?_ | with_reducible refine rd_alloc ?_)) bc; have h4m : Rd w4 (.slice p4 D.length c4) D := Rd.grow (by repeat (first | with_reducible exact h4k | with_reducible refine rd_drew ?_ | with_reducible refine rd_alloc ?_)) bc; have hum : Rd w4 (.slice pu X.length cu) X := Rd.grow (by repeat (first | with_reducible exact huk | with_reducible refine rd_drew ?_ | with_reducible refine rd_alloc ?_)) bc; have hvm : Rd w4 (.slice pv Y.length cv) Y := Rd.grow (by repeat (first | with_reducible exact hvk | with_reducible refine rd_drew ?_ | with_reducible refine rd_alloc ?_)) bc; have htm : Rd w4 (.slice pt Z.length ct) Z := Rd.grow (by repeat (first | with_reducible exact htk | with_reducible refine rd_drew ?_ | with_reducible refine rd_alloc ?_)) bc; have K2c0m : w4.cell? ⟨w.heap.size, 0, none⟩ = some (.bool g1) := K2m.at 0; have K2c1m : w4.cell? ⟨w.heap.size, 1, none⟩ = some (.slice p1 A.length c1) := K2m.at 1; have K2c2m : w4.cell? ⟨w.heap.size, 2, none⟩ = some (.slice p2 B.length c2) := K2m.at 2; have K3c0m : w4.cell? ⟨w.heap.size + 1, 0, none⟩ = some (.bool g2) := K3m.at 0; have K3c1m : w4.cell? ⟨w.heap.size + 1, 1, none⟩ = some (.slice p3 C.length c3) := K3m.at 1; have K3c2m : w4.cell? ⟨w.heap.size + 1, 2, none⟩ = some (.slice p4 D.length c4) := K3m.at 2))
    | fail)
  have LE : val X ≤ val Y := by rw [vX.out, vY.out]; exact Int.le_of_lt HLE.out
  have LL : X.length ≤ Y.length := len_mono hY.1 hX.1 nX LE
  have ZB : Hid (0 < val Z) := by show 0 < val Z; rw [vZ.out]; exact BD.out
  go_region_held3 (fun x => x.cell? ⟨w.heap.size, 0, none⟩ = some (.bool g1) ∧ x.cell? ⟨w.heap.size + 1, 0, none⟩ = some (.bool g2)) (first | ((try dsimp only); (refine ⟨?_, ?_⟩); (all_goals (repeat (first | with_reducible exact K2c0n | with_reducible exact K3c0n | with_reducible exact K2c0m | with_reducible exact K3c0m | with_reducible refine cell_drew ?_ | with_reducible refine cell_alloc ?_))); done) | exact ⟨set3_other (by omega) K2c06, set3_other (by omega) K3c06⟩ | go_keep) (first
    | (go_at_call 140; ((with_reducible refine (Sub_any _ _ Y X _ ?hr1 ?hr2 (by omega) LL LE).mono ?_)); (case hr1 => exact (by repeat (first | with_reducible exact hvm | with_reducible refine rd_drew ?_ | with_reducible refine rd_alloc ?_))); (case hr2 => exact (by repeat (first | with_reducible exact hum | with_reducible refine rd_drew ?_ | with_reducible refine rd_alloc ?_))); (rintro r w5 ⟨s', Q, rfl, hQ, nQ, vQ', bs⟩; have vQ : Hid (val Q = val Y - val X) := vQ'; clear vQ'; have lQ : Q.length ≤ 4000000001 := sub_len hY.1 hX.1 hQ.1 nQ vQ.out (by omega); obtain ⟨ps, cs, rfl⟩ := rd_form hQ; have K2n : Blk w5 w.heap.size #[.bool g1, .slice p1 A.length c1, .slice p2 B.length c2] 65 := blk_keep bs (by repeat (first | with_reducible exact K2m | with_reducible refine blk_drew ?_ | with_reducible refine Blk.alloc ?_ _)); have K3n : Blk w5 (w.heap.size + 1) #[.bool g2, .slice p3 C.length c3, .slice p4 D.length c4] 65 := blk_keep bs (by repeat (first | with_reducible exact K3m | with_reducible refine blk_drew ?_ | with_reducible refine Blk.alloc ?_ _)); have K4n : Blk w5 (w.heap.size + 1 + 1) #[.bool false, .slice none 0 0, .slice none 0 0] 65 := blk_keep bs (by repeat (first | with_reducible exact K4m | with_reducible refine blk_drew ?_ | with_reducible refine Blk.alloc ?_ _)); have prn : Below w.heap.size w w5 := bel (by repeat (first | with_reducible exact prm | with_reducible refine bel_drw ?_ | with_reducible refine bel_alloc ?_)) bs; have h1n : Rd w5 (.slice p1 A.length c1) A := Rd.grow (by repeat (first | with_reducible exact h1m | with_reducible refine rd_drew ?_ | with_reducible refine rd_alloc ?_)) bs; have h2n : Rd w5 (.slice p2 B.length c2) B := Rd.grow (by repeat (first | with_reducible exact h2m | with_reducible refine rd_drew ?_ | with_reducible refine rd_alloc ?_)) bs; have h3n : Rd w5 (.slice p3 C.length c3) C := Rd.grow (by repeat (first | with_reducible exact h3m | with_reducible refine rd_drew ?_ | with_reducible refine rd_alloc ?_)) bs; have h4n : Rd w5 (.slice p4 D.length c4) D := Rd.grow (by repeat (first | with_reducible exact h4m | with_reducible refine rd_drew ?_ | with_reducible refine rd_alloc ?_)) bs; have hun : Rd w5 (.slice pu X.length cu) X := Rd.grow (by repeat (first | with_reducible exact hum | with_reducible refine rd_drew ?_ | with_reducible refine rd_alloc ?_)) bs; have hvn : Rd w5 (.slice pv Y.length cv) Y := Rd.grow (by repeat (first | with_reducible exact hvm | with_reducible refine rd_drew ?_ | with_reducible refine rd_alloc ?_)) bs; have htn : Rd w5 (.slice pt Z.length ct) Z := Rd.grow (by repeat (first | with_reducible exact htm | with_reducible refine rd_drew ?_ | with_reducible refine rd_alloc ?_)) bs; have K2c0n : w5.cell? ⟨w.heap.size, 0, none⟩ = some (.bool g1) := K2n.at 0; have K2c1n : w5.cell? ⟨w.heap.size, 1, none⟩ = some (.slice p1 A.length c1) := K2n.at 1; have K2c2n : w5.cell? ⟨w.heap.size, 2, none⟩ = some (.slice p2 B.length c2) := K2n.at 2; have K3c0n : w5.cell? ⟨w.heap.size + 1, 0, none⟩ = some (.bool g2) := K3n.at 0; have K3c1n : w5.cell? ⟨w.heap.size + 1, 1, none⟩ = some (.slice p3 C.length c3) := K3n.at 1; have K3c2n : w5.cell? ⟨w.heap.size + 1, 2, none⟩ = some (.slice p4 D.length c4) := K3n.at 2))
    | (go_at_call 70; ((with_reducible refine (Make_q g2 _ _ Q Z 4000000001 _ ?hr1 ?hr2 nQ nZ lQ (by omega) (by decide) ZB.out).mono ?_)); (case hr1 => exact (by repeat (first | with_reducible exact hQ | with_reducible refine rd_drew ?_ | with_reducible refine rd_alloc ?_))); (case hr2 => exact (by repeat (first | with_reducible exact htn | with_reducible refine rd_drew ?_ | with_reducible refine rd_alloc ?_))); (rintro r w6 ⟨v, rfl, hv6, bm⟩; rw [vQ.out, vX.out, vY.out, vZ.out] at hv6; have pr6 : Below w.heap.size w w6 := bel (by repeat (first | with_reducible exact prn | with_reducible refine bel_drw ?_ | with_reducible refine bel_alloc ?_)) bm; have K26 : Blk w6 w.heap.size #[.bool g1, .slice p1 A.length c1, .slice p2 B.length c2] 65 := blk_keep bm (by repeat (first | with_reducible exact K2n | with_reducible refine blk_drew ?_ | with_reducible refine Blk.alloc ?_ _)); have K36 : Blk w6 (w.heap.size + 1) #[.bool g2, .slice p3 C.length c3, .slice p4 D.length c4] 65 := blk_keep bm (by repeat (first | with_reducible exact K3n | with_reducible refine blk_drew ?_ | with_reducible refine Blk.alloc ?_ _)); have K46 : Blk w6 (w.heap.size + 1 + 1) #[.bool false, .slice none 0 0, .slice none 0 0] 65 := blk_keep bm (by repeat (first | with_reducible exact K4n | with_reducible refine blk_drew ?_ | with_reducible refine Blk.alloc ?_ _)); obtain ⟨N, M, p7, p8, c7, c8, rfl, hN, nN, vN', hM, nM, vM'⟩ := hv6; have vN : Hid _ := vN'; have vM : Hid _ := vM'; clear vN' vM'; have kq0 : w6.cell? ⟨w.heap.size + 1 + 1, 0, none⟩ = some (.bool false) := K46.at 0; have kq1 : w6.cell? ⟨w.heap.size + 1 + 1, 1, none⟩ = some (.slice none 0 0) := K46.at 1; have kq2 : w6.cell? ⟨w.heap.size + 1 + 1, 2, none⟩ = some (.slice none 0 0) := K46.at 2; have kf0 := K46.free 0; have kf1 := K46.free 1; have kf2 := K46.free 2; have K2c06 : w6.cell? ⟨w.heap.size, 0, none⟩ = some (.bool g1) := K26.at 0; have K2c16 : w6.cell? ⟨w.heap.size, 1, none⟩ = some (.slice p1 A.length c1) := K26.at 1; have K2c26 : w6.cell? ⟨w.heap.size, 2, none⟩ = some (.slice p2 B.length c2) := K26.at 2; have K3c06 : w6.cell? ⟨w.heap.size + 1, 0, none⟩ = some (.bool g2) := K36.at 0; have K3c16 : w6.cell? ⟨w.heap.size + 1, 1, none⟩ = some (.slice p3 C.length c3) := K36.at 1; have K3c26 : w6.cell? ⟨w.heap.size + 1, 2, none⟩ = some (.slice p4 D.length c4) := K36.at 2))
    | fail)
  all_goals
    go_wp2_with fail
    obtain ⟨F0, F1, F2, FB⟩ := put3 (.bool _) (.slice p7 N.length c7) (.slice p8 M.length c8) kq0 kq1 kq2
    exact bodyPost_ret (v := .agg #[.bool _, .slice p7 N.length c7, .slice p8 M.length c8]) (by simp [results, Tryz.results82, go_sem, F0, F1, F2]) rfl ⟨_, rfl, ⟨N, M, _, _, _, _, rfl, hN.putQ K46, nN, vN.out, hM.putQ K46, nM, vM.out⟩, FB _ _ (by omega) pr6⟩
end Go.Proofs.YtmopfnhjooopkaaGreatDoor.L

namespace Go.Proofs.YtmopfnhjooopkaaGreatDoor.L
open Go.RowKit Tl

/-- Q's Add of the reference. -/
theorem QAdd_any (a b : Value) (r s : Rat) (K : Nat) (w : World) (ha : IsQ w a r) (hb : IsQ w b s) (hr : QS r K) (hs : QS s K) (hK : K ≤ 1000000000) :
    Calls Tryz.prog 82 #[a, b] w fun e w' => ∃ v, e = .returned v ∧ IsQ w' v (r + s) ∧ Below w.heap.size w w' := by
  obtain ⟨A, B, p1, p2, c1, c2, rfl, h1, n1, v1, h2, n2, v2⟩ := ha
  obtain ⟨C, D, p3, p4, c3, c4, rfl, h3, n3, v3, h4, n4, v4⟩ := hb
  have l1 : A.length ≤ K := len_of_lt h1.1 n1 (by rw [v1]; exact hr.1)
  have l2 : B.length ≤ K := len_of_lt h2.1 n2 (by rw [v2]; exact hr.2)
  have l3 : C.length ≤ K := len_of_lt h3.1 n3 (by rw [v3]; exact hs.1)
  have l4 : D.length ≤ K := len_of_lt h4.1 n4 (by rw [v4]; exact hs.2)
  have b0 : 0 < val B := by rw [v2]; exact den_pos' r
  have d0 : 0 < val D := by rw [v4]; exact den_pos' s
  have er := num_sg r
  have es := num_sg s
  by_cases hg : decide (r.num < 0) = decide (s.num < 0)
  · have := qadd_same _ _ p1 p2 p3 p4 c1 c2 c3 c4 A B C D w h1 h2 h3 h4 (by omega) (by omega) (by omega) (by omega) b0 d0 hg
    rw [v1, v2, v3, v4, add_rat r s] at this
    · exact this
    · rw [← hg] at es
      generalize decide (r.num < 0) = g at *
      rw [er, es]
      cases g
      · simp only [sgI, Bool.false_eq_true, if_false]; simp
      · simp only [sgI, if_true]; simp; grind
  · by_cases le : val C * val B ≤ val A * val D
    · have := qadd_ge _ _ p1 p2 p3 p4 c1 c2 c3 c4 A B C D w h1 h2 h3 h4 (by omega) (by omega) (by omega) (by omega) b0 d0 hg le
      rw [v1, v2, v3, v4, add_rat r s] at this
      · exact this
      · generalize decide (r.num < 0) = g at *
        generalize decide (s.num < 0) = g' at *
        rw [er, es]
        cases g <;> cases g'
        · exact absurd rfl hg
        · simp only [sgI, Bool.false_eq_true, if_false, if_true]; simp; grind
        · simp only [sgI, Bool.false_eq_true, if_false, if_true]; simp; grind
        · exact absurd rfl hg
    · have := qadd_lt _ _ p1 p2 p3 p4 c1 c2 c3 c4 A B C D w h1 h2 h3 h4 (by omega) (by omega) (by omega) (by omega) b0 d0 hg (by omega)
      rw [v1, v2, v3, v4, add_rat r s] at this
      · exact this
      · generalize decide (r.num < 0) = g at *
        generalize decide (s.num < 0) = g' at *
        rw [er, es]
        cases g <;> cases g'
        · exact absurd rfl hg
        · simp only [sgI, Bool.false_eq_true, if_false, if_true]; simp; grind
        · simp only [sgI, Bool.false_eq_true, if_false, if_true]; simp; grind
        · exact absurd rfl hg
end Go.Proofs.YtmopfnhjooopkaaGreatDoor.L

namespace Go.Proofs.YtmopfnhjooopkaaGreatDoor.L
open Go.RowKit Tl

end Go.Proofs.YtmopfnhjooopkaaGreatDoor.L

namespace Go.Proofs.YtmopfnhjooopkaaGreatDoor.L
open Go.RowKit Tl

end Go.Proofs.YtmopfnhjooopkaaGreatDoor.L

namespace Go.Proofs.YtmopfnhjooopkaaGreatDoor.L
open Go.RowKit Tl

end Go.Proofs.YtmopfnhjooopkaaGreatDoor.L

namespace Go.Proofs.YtmopfnhjooopkaaGreatDoor.L
open Go.RowKit Tl

end Go.Proofs.YtmopfnhjooopkaaGreatDoor.L

namespace Go.Proofs.YtmopfnhjooopkaaGreatDoor.L
open Go.RowKit Tl

end Go.Proofs.YtmopfnhjooopkaaGreatDoor.L

namespace Go.Proofs.YtmopfnhjooopkaaGreatDoor.L
open Go.RowKit Tl

set_option maxHeartbeats 1600000 in
set_option maxRecDepth 100000 in
theorem Of_pos (n : Int) (n0 : 0 ≤ n) (n1 : n < 9223372036854775808) (w : World) :
    Calls Tryz.prog 42 #[.int .i64 n] w fun e w' => ∃ u1 u2 ns, e = .returned (.agg #[.bool false, u1, u2]) ∧ Rd w' u1 ns ∧ Nm ns ∧ val ns = n ∧ Rd w' u2 [1] ∧ Below w.heap.size w w' := by
  have hz : ¬ n < 0 := by omega
  have K0 := Blk.new w #[.bool false, .slice none 0 0, .slice none 0 0] 65
  have pr : Below w.heap.size w (w.alloc (.cells #[.bool false, .slice none 0 0, .slice none 0 0] 65)) := (Below.refl _ _).alloc (Nat.le_refl _) _
  go_enter Tryz.func42, Tryz.ntmps42
  go_wp2_with (first
    | (go_at_call 103; (refine (NatOf_any (n) _ (by omega) (by omega)).mono ?_); (rintro x w1 ⟨u, ns, rfl, hu, nu, vu, b1⟩; have VU : Hid (val ns = n) := vu; clear vu; replace K0 := (K0.below b1 K0.lt).alloc (.cells #[.int .i64 1] 3); replace pr := (bel pr b1); have pr2 := pr.alloc pr.size (.cells #[.int .i64 1] 3); replace hu := hu.grow ((Below.refl _ _).alloc (Nat.le_refl _) (.cells #[.int .i64 1] 3)); have ho : Rd (w1.alloc (.cells #[.int .i64 1] 3)) (.slice (some ⟨w1.heap.size, 0, none⟩) 1 1) [1] := rd_one (by simp) (by decide) (by decide); have e0 : (w1.alloc (.cells #[.int .i64 1] 3)).cell? ⟨w.heap.size, 0, none⟩ = some (.bool false) := K0.at 0; have e1 : (w1.alloc (.cells #[.int .i64 1] 3)).cell? ⟨w.heap.size, 1, none⟩ = some (.slice none 0 0) := K0.at 1; have e2 : (w1.alloc (.cells #[.int .i64 1] 3)).cell? ⟨w.heap.size, 2, none⟩ = some (.slice none 0 0) := K0.at 2; have z0 := K0.free 0; have z1 := K0.free 1; have z2 := K0.free 2; obtain ⟨a1, c1, rfl⟩ : ∃ a c, u = .slice a ns.length c := (by obtain ⟨_, a, c, e, _⟩ := hu; exact ⟨a, c, e⟩)))
    | fail)
  obtain ⟨F0, F1, F2, FB⟩ := put3 (.bool false) (.slice a1 ns.length c1) (.slice (some ⟨w1.heap.size, 0, none⟩) 1 1) e0 e1 e2
  exact bodyPost_ret (v := .agg #[.bool false, .slice a1 ns.length c1, .slice (some ⟨w1.heap.size, 0, none⟩) 1 1]) (by simp [results, Tryz.results42, go_sem, F0, F1, F2]) rfl ⟨_, _, ns, rfl, hu.putQ K0, nu, VU.out, ho.putQ K0, FB _ _ (Nat.le_refl _) pr2⟩
set_option maxHeartbeats 1600000 in
set_option maxRecDepth 100000 in
theorem Of_neg (n : Int) (n0 : n < 0) (n1 : -9223372036854775808 ≤ n) (w : World) :
    Calls Tryz.prog 42 #[.int .i64 n] w fun e w' => ∃ u1 u2 ns, e = .returned (.agg #[.bool true, u1, u2]) ∧ Rd w' u1 ns ∧ Nm ns ∧ val ns = -n ∧ Rd w' u2 [1] ∧ Below w.heap.size w w' := by
  have c1 : IntKind.u64.wrap n = n + 18446744073709551616 := by rw [IntKind.wrap_u64]; omega
  have c2 : IntKind.u64.wrap (-(n + 18446744073709551616)) = -n := by rw [IntKind.wrap_u64]; omega
  have K0 := Blk.new w #[.bool false, .slice none 0 0, .slice none 0 0] 65
  have pr : Below w.heap.size w (w.alloc (.cells #[.bool false, .slice none 0 0, .slice none 0 0] 65)) := (Below.refl _ _).alloc (Nat.le_refl _) _
  go_enter Tryz.func42, Tryz.ntmps42
  go_wp2_with (first
    | (go_at_call 102; (refine (NatOf64_any (-n) _ (by omega) (by omega)).mono ?_); (rintro x w1 ⟨u, ns, rfl, hu, nu, vu, b1⟩; have VU : Hid (val ns = -n) := vu; clear vu; replace K0 := (K0.below b1 K0.lt).alloc (.cells #[.int .i64 1] 3); replace pr := (bel pr b1); have pr2 := pr.alloc pr.size (.cells #[.int .i64 1] 3); replace hu := hu.grow ((Below.refl _ _).alloc (Nat.le_refl _) (.cells #[.int .i64 1] 3)); have ho : Rd (w1.alloc (.cells #[.int .i64 1] 3)) (.slice (some ⟨w1.heap.size, 0, none⟩) 1 1) [1] := rd_one (by simp) (by decide) (by decide); have e0 : (w1.alloc (.cells #[.int .i64 1] 3)).cell? ⟨w.heap.size, 0, none⟩ = some (.bool false) := K0.at 0; have e1 : (w1.alloc (.cells #[.int .i64 1] 3)).cell? ⟨w.heap.size, 1, none⟩ = some (.slice none 0 0) := K0.at 1; have e2 : (w1.alloc (.cells #[.int .i64 1] 3)).cell? ⟨w.heap.size, 2, none⟩ = some (.slice none 0 0) := K0.at 2; have z0 := K0.free 0; have z1 := K0.free 1; have z2 := K0.free 2; obtain ⟨a1, c1, rfl⟩ : ∃ a c, u = .slice a ns.length c := (by obtain ⟨_, a, c, e, _⟩ := hu; exact ⟨a, c, e⟩)))
    | fail)
  obtain ⟨F0, F1, F2, FB⟩ := put3 (.bool true) (.slice a1 ns.length c1) (.slice (some ⟨w1.heap.size, 0, none⟩) 1 1) e0 e1 e2
  exact bodyPost_ret (v := .agg #[.bool true, .slice a1 ns.length c1, .slice (some ⟨w1.heap.size, 0, none⟩) 1 1]) (by simp [results, Tryz.results42, go_sem, F0, F1, F2]) rfl ⟨_, _, ns, rfl, hu.putQ K0, nu, VU.out, ho.putQ K0, FB _ _ (Nat.le_refl _) pr2⟩
end Go.Proofs.YtmopfnhjooopkaaGreatDoor.L

namespace Go.Proofs.YtmopfnhjooopkaaGreatDoor.L
open Go.RowKit Tl

theorem quo_le {a q b r : Int} (h : a = q * b + r) (r0 : 0 ≤ r) (q0 : 0 ≤ q) (b0 : 0 < b) : q ≤ a := le_of_quo h r0 q0 b0
/-- Of, as an exact number. -/
theorem Of_q (n : Int) (w : World) (n0 : -9223372036854775808 ≤ n) (n1 : n < 9223372036854775808) :
    Calls Tryz.prog 42 #[.int .i64 n] w fun e w' => ∃ v, e = .returned v ∧ IsQ w' v (n : Rat) ∧ Below w.heap.size w w' := by
  have num : ((n : Rat)).num = n := rfl
  have den : ((n : Rat)).den = 1 := rfl
  by_cases c : n < 0
  · refine (Of_neg n c n0 w).mono ?_
    rintro e w' ⟨u1, u2, ns, rfl, h1, m1, v1, h2, b⟩
    obtain ⟨a, c1, rfl⟩ := rd_form h1
    obtain ⟨a', c2, rfl⟩ := rd_form h2
    exact ⟨_, rfl, ⟨ns, [1], _, _, _, _, by rw [num, decide_eq_true c], h1, m1, by rw [v1, num]; omega, h2, nm_one, by rw [val_one, den]; rfl⟩, b⟩
  · refine (Of_pos n (by omega) n1 w).mono ?_
    rintro e w' ⟨u1, u2, ns, rfl, h1, m1, v1, h2, b⟩
    obtain ⟨a, c1, rfl⟩ := rd_form h1
    obtain ⟨a', c2, rfl⟩ := rd_form h2
    exact ⟨_, rfl, ⟨ns, [1], _, _, _, _, by rw [num, decide_eq_false c], h1, m1, by rw [v1, num]; omega, h2, nm_one, by rw [val_one, den]; rfl⟩, b⟩
end Go.Proofs.YtmopfnhjooopkaaGreatDoor.L

namespace Go.Proofs.YtmopfnhjooopkaaGreatDoor.L
open Go.RowKit Tl

end Go.Proofs.YtmopfnhjooopkaaGreatDoor.L

namespace Go.Proofs.YtmopfnhjooopkaaGreatDoor.L
open Go.RowKit Tl

end Go.Proofs.YtmopfnhjooopkaaGreatDoor.L

namespace Go.Proofs.YtmopfnhjooopkaaGreatDoor.L
open Go.RowKit Tl
set_option maxHeartbeats 800000 in
set_option maxRecDepth 100000 in
theorem frac_pos (p q : Int) (w : World) (p0 : -9223372036854775808 ≤ p) (p1 : p < 9223372036854775808) (hp : 0 ≤ p) (q0 : 0 < q) (q1 : q < 9223372036854775808) :
    Calls Tryz.prog 33 #[.int .i64 p, .int .i64 q] w fun e w' => ∃ v, e = .returned v ∧ IsQ w' v (mkRat (sgI false (p.natAbs : Int)) q.toNat) ∧ Below w.heap.size w w' := by
  have O1 : ∀ w, Calls Tryz.prog 42 #[.int .i64 p] w fun e w' => ∃ a1 a2 c1 l2 c2 ns, e = .returned (.agg #[.bool false, .slice a1 ns.length c1, .slice a2 l2 c2]) ∧ Rd w' (.slice a1 ns.length c1) ns ∧ Nm ns ∧ val ns = (p.natAbs : Int) ∧ Below w.heap.size w w' := fun w => (Of_q p w p0 p1).mono (fun e w' ⟨v, he, hq, b⟩ => by
    obtain ⟨ns, ds, a1, a2, c1, c2, rfl, h1, n1, v1, _⟩ := hq
    have e0 : decide (((p : Rat)).num < 0) = false := by rw [show ((p : Rat)).num = p from rfl]; simp; omega
    rw [e0] at he
    exact ⟨a1, a2, c1, _, c2, ns, he, h1, n1, v1, b⟩)
  have O2 : ∀ w, Calls Tryz.prog 42 #[.int .i64 q] w fun e w' => ∃ a1 a2 c1 l2 c2 ns, e = .returned (.agg #[.bool false, .slice a1 ns.length c1, .slice a2 l2 c2]) ∧ Rd w' (.slice a1 ns.length c1) ns ∧ Nm ns ∧ val ns = q ∧ Below w.heap.size w w' := fun w => (Of_q q w (by omega) q1).mono (fun e w' ⟨v, he, hq, b⟩ => by
    obtain ⟨ns, ds, a1, a2, c1, c2, rfl, h1, n1, v1, _⟩ := hq
    have e0 : decide (((q : Rat)).num < 0) = false := by rw [show ((q : Rat)).num = q from rfl]; simp; omega
    rw [e0] at he
    have v1' : val ns = q := by rw [v1, show ((q : Rat)).num = q from rfl]; omega
    exact ⟨a1, a2, c1, _, c2, ns, he, h1, n1, v1', b⟩)
  obtain ⟨A, hA⟩ : ∃ A, (p.natAbs : Int) = A := ⟨_, rfl⟩
  have hA1 : A ≤ 9223372036854775808 := by omega
  rw [hA] at O1 ⊢
  have K0 := Blk.new w #[.bool false, .slice none 0 0, .slice none 0 0] 65
  have pr : Below w.heap.size w (w.alloc (.cells #[.bool false, .slice none 0 0, .slice none 0 0] 65)) := (Below.refl _ _).alloc (Nat.le_refl _) _
  have pw3 : pw 3 = 1237940039285380274899124224 := by decide
  have Q0 : Hid (0 < q) := q0
  have Q1 : Hid (q < 9223372036854775808) := q1
  have A1 : Hid (A ≤ 9223372036854775808) := hA1
  have W3 : Hid (pw 3 = 1237940039285380274899124224) := pw3
  clear q0 q1 hA1 pw3 hA p0 p1 hp
  go_enter Tryz.func33, Tryz.ntmps33
  go_wp2_with (first
    | (go_at_call 42; have q' := V1; ((refine (O2 _).mono ?_)); (rintro e w2 ⟨a3, a4, c3, l4, c4, ys, rfl, h2, n2, v2, b2⟩; replace K0 := ((K0.below b2 K0.lt).alloc (.cells #[.bool false, .slice a1 xs.length c1, .slice a2 l2 c2] 65)).alloc (.cells #[.bool false, .slice a3 ys.length c3, .slice a4 l4 c4] 65); replace pr := bel_alloc (ob := (.cells #[.bool false, .slice a3 ys.length c3, .slice a4 l4 c4] 65)) (bel_alloc (ob := (.cells #[.bool false, .slice a1 xs.length c1, .slice a2 l2 c2] 65)) (bel pr b2)); replace h1 := rd_alloc (ob := (.cells #[.bool false, .slice a3 ys.length c3, .slice a4 l4 c4] 65)) (rd_alloc (ob := (.cells #[.bool false, .slice a1 xs.length c1, .slice a2 l2 c2] 65)) (h1.grow b2)); replace h2 := rd_alloc (ob := (.cells #[.bool false, .slice a3 ys.length c3, .slice a4 l4 c4] 65)) (rd_alloc (ob := (.cells #[.bool false, .slice a1 xs.length c1, .slice a2 l2 c2] 65)) h2); have V2 : Hid (val ys = q) := v2; have L2 : ys.length ≤ 3 := (len_of_lt (K := 3) h2.1 n2 (by rw [v2]; have := Q1.out; have := W3.out; omega)); clear v2 b2))
    | (go_at_call 42; ((refine (O1 _).mono ?_)); (rintro e w1 ⟨a1, a2, c1, l2, c2, xs, rfl, h1, n1, v1, b1⟩; replace K0 := K0.below b1 K0.lt; replace pr := bel pr b1; have V1 : Hid (val xs = A) := v1; have L1 : xs.length ≤ 3 := (len_of_lt (K := 3) h1.1 n1 (by rw [v1]; have := A1.out; have := W3.out; omega)); clear v1 b1))
    | (go_at_call 70; ((with_reducible refine (Make_q false (.slice a1 xs.length c1) (.slice a3 ys.length c3) xs ys 3 _ h1 h2 n1 n2 L1 L2 (by decide) (by rw [V2.out]; exact Q0.out)).mono ?_)); (rintro e w3 ⟨v, rfl, hv, b3⟩; rw [V1.out, V2.out] at hv; replace K0 := K0.below b3 K0.lt; replace pr := bel pr b3; have HV := hv; obtain ⟨N, M, p7, p8, c7, c8, rfl, hN, nN, vN', hM, nM, vM'⟩ := hv; have vN : Hid _ := vN'; have vM : Hid _ := vM'; clear vN' vM' b3 HV; have e0 : w3.cell? ⟨w.heap.size, 0, none⟩ = some (.bool false) := K0.at 0; have e1 : w3.cell? ⟨w.heap.size, 1, none⟩ = some (.slice none 0 0) := K0.at 1; have e2 : w3.cell? ⟨w.heap.size, 2, none⟩ = some (.slice none 0 0) := K0.at 2; have z0 := K0.free 0; have z1 := K0.free 1; have z2 := K0.free 2))
    | fail)
  obtain ⟨F0, F1, F2, FB⟩ := put3 (.bool _) (.slice p7 N.length c7) (.slice p8 M.length c8) e0 e1 e2
  exact bodyPost_ret (v := .agg #[.bool _, .slice p7 N.length c7, .slice p8 M.length c8]) (by simp [results, Tryz.results33, go_sem, F0, F1, F2]) rfl ⟨_, rfl, ⟨N, M, _, _, _, _, rfl, hN.putQ K0, nN, vN.out, hM.putQ K0, nM, vM.out⟩, FB _ _ (Nat.le_refl _) pr⟩
set_option maxHeartbeats 800000 in
set_option maxRecDepth 100000 in
theorem frac_neg (p q : Int) (w : World) (p0 : -9223372036854775808 ≤ p) (p1 : p < 9223372036854775808) (hp : p < 0) (q0 : 0 < q) (q1 : q < 9223372036854775808) :
    Calls Tryz.prog 33 #[.int .i64 p, .int .i64 q] w fun e w' => ∃ v, e = .returned v ∧ IsQ w' v (mkRat (sgI true (p.natAbs : Int)) q.toNat) ∧ Below w.heap.size w w' := by
  have O1 : ∀ w, Calls Tryz.prog 42 #[.int .i64 p] w fun e w' => ∃ a1 a2 c1 l2 c2 ns, e = .returned (.agg #[.bool true, .slice a1 ns.length c1, .slice a2 l2 c2]) ∧ Rd w' (.slice a1 ns.length c1) ns ∧ Nm ns ∧ val ns = (p.natAbs : Int) ∧ Below w.heap.size w w' := fun w => (Of_q p w p0 p1).mono (fun e w' ⟨v, he, hq, b⟩ => by
    obtain ⟨ns, ds, a1, a2, c1, c2, rfl, h1, n1, v1, _⟩ := hq
    have e0 : decide (((p : Rat)).num < 0) = true := by rw [show ((p : Rat)).num = p from rfl]; simp; omega
    rw [e0] at he
    exact ⟨a1, a2, c1, _, c2, ns, he, h1, n1, v1, b⟩)
  have O2 : ∀ w, Calls Tryz.prog 42 #[.int .i64 q] w fun e w' => ∃ a1 a2 c1 l2 c2 ns, e = .returned (.agg #[.bool false, .slice a1 ns.length c1, .slice a2 l2 c2]) ∧ Rd w' (.slice a1 ns.length c1) ns ∧ Nm ns ∧ val ns = q ∧ Below w.heap.size w w' := fun w => (Of_q q w (by omega) q1).mono (fun e w' ⟨v, he, hq, b⟩ => by
    obtain ⟨ns, ds, a1, a2, c1, c2, rfl, h1, n1, v1, _⟩ := hq
    have e0 : decide (((q : Rat)).num < 0) = false := by rw [show ((q : Rat)).num = q from rfl]; simp; omega
    rw [e0] at he
    have v1' : val ns = q := by rw [v1, show ((q : Rat)).num = q from rfl]; omega
    exact ⟨a1, a2, c1, _, c2, ns, he, h1, n1, v1', b⟩)
  obtain ⟨A, hA⟩ : ∃ A, (p.natAbs : Int) = A := ⟨_, rfl⟩
  have hA1 : A ≤ 9223372036854775808 := by omega
  rw [hA] at O1 ⊢
  have K0 := Blk.new w #[.bool false, .slice none 0 0, .slice none 0 0] 65
  have pr : Below w.heap.size w (w.alloc (.cells #[.bool false, .slice none 0 0, .slice none 0 0] 65)) := (Below.refl _ _).alloc (Nat.le_refl _) _
  have pw3 : pw 3 = 1237940039285380274899124224 := by decide
  have Q0 : Hid (0 < q) := q0
  have Q1 : Hid (q < 9223372036854775808) := q1
  have A1 : Hid (A ≤ 9223372036854775808) := hA1
  have W3 : Hid (pw 3 = 1237940039285380274899124224) := pw3
  clear q0 q1 hA1 pw3 hA p0 p1 hp
  go_enter Tryz.func33, Tryz.ntmps33
  go_wp2_with (first
    | (go_at_call 42; have q' := V1; ((refine (O2 _).mono ?_)); (rintro e w2 ⟨a3, a4, c3, l4, c4, ys, rfl, h2, n2, v2, b2⟩; replace K0 := ((K0.below b2 K0.lt).alloc (.cells #[.bool true, .slice a1 xs.length c1, .slice a2 l2 c2] 65)).alloc (.cells #[.bool false, .slice a3 ys.length c3, .slice a4 l4 c4] 65); replace pr := bel_alloc (ob := (.cells #[.bool false, .slice a3 ys.length c3, .slice a4 l4 c4] 65)) (bel_alloc (ob := (.cells #[.bool true, .slice a1 xs.length c1, .slice a2 l2 c2] 65)) (bel pr b2)); replace h1 := rd_alloc (ob := (.cells #[.bool false, .slice a3 ys.length c3, .slice a4 l4 c4] 65)) (rd_alloc (ob := (.cells #[.bool true, .slice a1 xs.length c1, .slice a2 l2 c2] 65)) (h1.grow b2)); replace h2 := rd_alloc (ob := (.cells #[.bool false, .slice a3 ys.length c3, .slice a4 l4 c4] 65)) (rd_alloc (ob := (.cells #[.bool true, .slice a1 xs.length c1, .slice a2 l2 c2] 65)) h2); have V2 : Hid (val ys = q) := v2; have L2 : ys.length ≤ 3 := (len_of_lt (K := 3) h2.1 n2 (by rw [v2]; have := Q1.out; have := W3.out; omega)); clear v2 b2))
    | (go_at_call 42; ((refine (O1 _).mono ?_)); (rintro e w1 ⟨a1, a2, c1, l2, c2, xs, rfl, h1, n1, v1, b1⟩; replace K0 := K0.below b1 K0.lt; replace pr := bel pr b1; have V1 : Hid (val xs = A) := v1; have L1 : xs.length ≤ 3 := (len_of_lt (K := 3) h1.1 n1 (by rw [v1]; have := A1.out; have := W3.out; omega)); clear v1 b1))
    | (go_at_call 70; ((with_reducible refine (Make_q true (.slice a1 xs.length c1) (.slice a3 ys.length c3) xs ys 3 _ h1 h2 n1 n2 L1 L2 (by decide) (by rw [V2.out]; exact Q0.out)).mono ?_)); (rintro e w3 ⟨v, rfl, hv, b3⟩; rw [V1.out, V2.out] at hv; replace K0 := K0.below b3 K0.lt; replace pr := bel pr b3; have HV := hv; obtain ⟨N, M, p7, p8, c7, c8, rfl, hN, nN, vN', hM, nM, vM'⟩ := hv; have vN : Hid _ := vN'; have vM : Hid _ := vM'; clear vN' vM' b3 HV; have e0 : w3.cell? ⟨w.heap.size, 0, none⟩ = some (.bool false) := K0.at 0; have e1 : w3.cell? ⟨w.heap.size, 1, none⟩ = some (.slice none 0 0) := K0.at 1; have e2 : w3.cell? ⟨w.heap.size, 2, none⟩ = some (.slice none 0 0) := K0.at 2; have z0 := K0.free 0; have z1 := K0.free 1; have z2 := K0.free 2))
    | fail)
  obtain ⟨F0, F1, F2, FB⟩ := put3 (.bool _) (.slice p7 N.length c7) (.slice p8 M.length c8) e0 e1 e2
  exact bodyPost_ret (v := .agg #[.bool _, .slice p7 N.length c7, .slice p8 M.length c8]) (by simp [results, Tryz.results33, go_sem, F0, F1, F2]) rfl ⟨_, rfl, ⟨N, M, _, _, _, _, rfl, hN.putQ K0, nN, vN.out, hM.putQ K0, nM, vM.out⟩, FB _ _ (Nat.le_refl _) pr⟩
theorem Frac_q (p q : Int) (w : World) (p0 : -9223372036854775808 ≤ p) (p1 : p < 9223372036854775808) (q0 : 0 < q) (q1 : q < 9223372036854775808) :
    Calls Tryz.prog 33 #[.int .i64 p, .int .i64 q] w fun e w' => ∃ v, e = .returned v ∧ IsQ w' v ((p : Rat) / (q : Rat)) ∧ Below w.heap.size w w' := by
  have e : ((p : Rat) / (q : Rat)) = mkRat p q.toNat := by
    rw [Rat.mkRat_eq_div]
    congr 1
    have : ((q.toNat : Int) : Rat) = (q : Rat) := by rw [Int.toNat_of_nonneg (by omega)]
    rw [← this]; rfl
  rw [e]
  by_cases c : p < 0
  · have := frac_neg p q w p0 p1 c q0 q1
    rw [show sgI true (p.natAbs : Int) = p by unfold sgI; rw [if_pos rfl]; omega] at this
    exact this
  · have := frac_pos p q w p0 p1 (by omega) q0 q1
    rw [show sgI false (p.natAbs : Int) = p by unfold sgI; rw [if_neg (by simp)]; omega] at this
    exact this
end Go.Proofs.YtmopfnhjooopkaaGreatDoor.L
