import Derived.Test.YtiaeoknmgidehaaGreatDoorPart12
import Derived.Test.YtiaeoknmgidehaaGreatDoorPart13
import Derived.Test.YtiaeoknmgidehaaGreatDoorPart08

namespace Go.Proofs.YtiaeoknmgidehaaGreatDoor.L
open Go.RowKit Tl

set_option maxHeartbeats 6400000 in
set_option maxRecDepth 100000 in
theorem qadd_lt (g1 g2 : Bool) (p1 p2 p3 p4 : Option Addr) (c1 c2 c3 c4 : Nat) (A B C D : List Int) (w : World) (h1 : Rd w (.slice p1 A.length c1) A) (h2 : Rd w (.slice p2 B.length c2) B) (h3 : Rd w (.slice p3 C.length c3) C) (h4 : Rd w (.slice p4 D.length c4) D) (l1 : A.length ≤ 1000000000) (l2 : B.length ≤ 1000000000) (l3 : C.length ≤ 1000000000) (l4 : D.length ≤ 1000000000) (b0 : 0 < val B) (d0 : 0 < val D) (hg : g1 ≠ g2) (le : val A * val D < val C * val B) :
    Calls Tryz.prog 42 #[.agg #[.bool g1, .slice p1 A.length c1, .slice p2 B.length c2], .agg #[.bool g2, .slice p3 C.length c3, .slice p4 D.length c4]] w fun e w' => ∃ v, e = .returned v ∧ IsQ w' v (mkRat (sgI g2 (val C * val B - val A * val D)) (val B * val D).toNat) ∧ Below w.heap.size w w' := by
  have hgg : (g1 == g2) = false := by rw [beq_eq_false_iff_ne]; exact hg
  have HLE : Hid _ := le
  clear hg le
  have haw := h1.1
  have hbw := h2.1
  have hcw := h3.1
  have hdw := h4.1
  have BD : Hid (0 < val B * val D) := Int.mul_pos b0 d0
  clear b0 d0
  go_enter Tryz.func42, Tryz.ntmps42
  go_upto_region 1 with fail
  have K2x : Blk (((w.alloc (.cells #[.bool g1, .slice p1 A.length c1, .slice p2 B.length c2] 64)).alloc (.cells #[.bool g2, .slice p3 C.length c3, .slice p4 D.length c4] 64)).alloc (.cells #[.bool false, .slice none 0 0, .slice none 0 0] 64)) w.heap.size #[.bool g1, .slice p1 A.length c1, .slice p2 B.length c2] 64 := ((Blk.new w _ _).alloc _).alloc _
  have K3x : Blk (((w.alloc (.cells #[.bool g1, .slice p1 A.length c1, .slice p2 B.length c2] 64)).alloc (.cells #[.bool g2, .slice p3 C.length c3, .slice p4 D.length c4] 64)).alloc (.cells #[.bool false, .slice none 0 0, .slice none 0 0] 64)) (w.heap.size + 1) #[.bool g2, .slice p3 C.length c3, .slice p4 D.length c4] 64 := (blk_at (by simp)).alloc _
  have K4x : Blk (((w.alloc (.cells #[.bool g1, .slice p1 A.length c1, .slice p2 B.length c2] 64)).alloc (.cells #[.bool g2, .slice p3 C.length c3, .slice p4 D.length c4] 64)).alloc (.cells #[.bool false, .slice none 0 0, .slice none 0 0] 64)) (w.heap.size + 1 + 1) #[.bool false, .slice none 0 0, .slice none 0 0] 64 := blk_at (by simp)
  have prx : Below w.heap.size w (((w.alloc (.cells #[.bool g1, .slice p1 A.length c1, .slice p2 B.length c2] 64)).alloc (.cells #[.bool g2, .slice p3 C.length c3, .slice p4 D.length c4] 64)).alloc (.cells #[.bool false, .slice none 0 0, .slice none 0 0] 64)) := (((Below.refl _ _).alloc (Nat.le_refl _) _).alloc (by simp) _).alloc (by simp; omega) _
  have h1x := h1.grow prx
  have h2x := h2.grow prx
  have h3x := h3.grow prx
  have h4x := h4.grow prx
  clear h1 h2 h3 h4
  generalize (((w.alloc (.cells #[.bool g1, .slice p1 A.length c1, .slice p2 B.length c2] 64)).alloc (.cells #[.bool g2, .slice p3 C.length c3, .slice p4 D.length c4] 64)).alloc (.cells #[.bool false, .slice none 0 0, .slice none 0 0] 64)) = W at *
  have K2c0x : W.cell? ⟨w.heap.size, 0, none⟩ = some (.bool g1) := K2x.at 0
  have K2c1x : W.cell? ⟨w.heap.size, 1, none⟩ = some (.slice p1 A.length c1) := K2x.at 1
  have K2c2x : W.cell? ⟨w.heap.size, 2, none⟩ = some (.slice p2 B.length c2) := K2x.at 2
  have K3c0x : W.cell? ⟨w.heap.size + 1, 0, none⟩ = some (.bool g2) := K3x.at 0
  have K3c1x : W.cell? ⟨w.heap.size + 1, 1, none⟩ = some (.slice p3 C.length c3) := K3x.at 1
  have K3c2x : W.cell? ⟨w.heap.size + 1, 2, none⟩ = some (.slice p4 D.length c4) := K3x.at 2
  go_region_held3 (fun x => x.cell? ⟨w.heap.size, 0, none⟩ = some (.bool g1) ∧ x.cell? ⟨w.heap.size, 1, none⟩ = some (.slice p1 A.length c1) ∧ x.cell? ⟨w.heap.size, 2, none⟩ = some (.slice p2 B.length c2) ∧ x.cell? ⟨w.heap.size + 1, 0, none⟩ = some (.bool g2) ∧ x.cell? ⟨w.heap.size + 1, 1, none⟩ = some (.slice p3 C.length c3) ∧ x.cell? ⟨w.heap.size + 1, 2, none⟩ = some (.slice p4 D.length c4)) (first | ((try dsimp only); (refine ⟨?_, ?_, ?_, ?_, ?_, ?_⟩); (all_goals (repeat (first | with_reducible exact K2c0z | with_reducible exact K2c1z | with_reducible exact K2c2z | with_reducible exact K3c0z | with_reducible exact K3c1z | with_reducible exact K3c2z | with_reducible exact K2c0y | with_reducible exact K2c1y | with_reducible exact K2c2y | with_reducible exact K3c0y | with_reducible exact K3c1y | with_reducible exact K3c2y | with_reducible exact K2c0x | with_reducible exact K2c1x | with_reducible exact K2c2x | with_reducible exact K3c0x | with_reducible exact K3c1x | with_reducible exact K3c2x | with_reducible refine cell_drew ?_ | with_reducible refine cell_alloc ?_))); done) | go_keep) (first
    | (go_at_call 73; ((with_reducible refine (Mul_any (.slice p1 A.length c1) (.slice p4 D.length c4) A D _ ?hr1 ?hr2 (by omega) (by omega)).mono ?_)); (case hr1 => exact (by repeat (first | with_reducible exact h1x | with_reducible refine rd_drew ?_ | with_reducible refine rd_alloc ?_))); (case hr2 => exact (by repeat (first | with_reducible exact h4x | with_reducible refine rd_drew ?_ | with_reducible refine rd_alloc ?_))); (rintro r w1 ⟨u', X, rfl, hX, nX, vX', bu⟩; have vX : Hid (val X = val A * val D) := vX'; clear vX'; have lX : X.length ≤ A.length + D.length := mul_len (haw) (hdw) hX.1 nX vX.out; obtain ⟨pu, cu, rfl⟩ := rd_form hX; have huy := hX; have K2y : Blk w1 w.heap.size #[.bool g1, .slice p1 A.length c1, .slice p2 B.length c2] 64 := blk_keep bu (by repeat (first | with_reducible exact K2x | with_reducible refine blk_drew ?_ | with_reducible refine Blk.alloc ?_ _)); have K3y : Blk w1 (w.heap.size + 1) #[.bool g2, .slice p3 C.length c3, .slice p4 D.length c4] 64 := blk_keep bu (by repeat (first | with_reducible exact K3x | with_reducible refine blk_drew ?_ | with_reducible refine Blk.alloc ?_ _)); have K4y : Blk w1 (w.heap.size + 1 + 1) #[.bool false, .slice none 0 0, .slice none 0 0] 64 := blk_keep bu (by repeat (first | with_reducible exact K4x | with_reducible refine blk_drew ?_ | with_reducible refine Blk.alloc ?_ _)); have pry : Below w.heap.size w w1 := bel (by repeat (first | with_reducible exact prx | with_reducible refine bel_drw ?_ | with_reducible refine bel_alloc ?_)) bu; have h1y : Rd w1 (.slice p1 A.length c1) A := Rd.grow (by repeat (first | with_reducible exact h1x | with_reducible refine rd_drew ?_ | with_reducible refine rd_alloc ?_)) bu; have h2y : Rd w1 (.slice p2 B.length c2) B := Rd.grow (by repeat (first | with_reducible exact h2x | with_reducible refine rd_drew ?_ | with_reducible refine rd_alloc ?_)) bu; have h3y : Rd w1 (.slice p3 C.length c3) C := Rd.grow (by repeat (first | with_reducible exact h3x | with_reducible refine rd_drew ?_ | with_reducible refine rd_alloc ?_)) bu; have h4y : Rd w1 (.slice p4 D.length c4) D := Rd.grow (by repeat (first | with_reducible exact h4x | with_reducible refine rd_drew ?_ | with_reducible refine rd_alloc ?_)) bu; have K2c0y : w1.cell? ⟨w.heap.size, 0, none⟩ = some (.bool g1) := K2y.at 0; have K2c1y : w1.cell? ⟨w.heap.size, 1, none⟩ = some (.slice p1 A.length c1) := K2y.at 1; have K2c2y : w1.cell? ⟨w.heap.size, 2, none⟩ = some (.slice p2 B.length c2) := K2y.at 2; have K3c0y : w1.cell? ⟨w.heap.size + 1, 0, none⟩ = some (.bool g2) := K3y.at 0; have K3c1y : w1.cell? ⟨w.heap.size + 1, 1, none⟩ = some (.slice p3 C.length c3) := K3y.at 1; have K3c2y : w1.cell? ⟨w.heap.size + 1, 2, none⟩ = some (.slice p4 D.length c4) := K3y.at 2))
    | (go_at_call 73; ((with_reducible refine (Mul_any (.slice p3 C.length c3) (.slice p2 B.length c2) C B _ ?hr1 ?hr2 (by omega) (by omega)).mono ?_)); (case hr1 => exact (by repeat (first | with_reducible exact h3y | with_reducible refine rd_drew ?_ | with_reducible refine rd_alloc ?_))); (case hr2 => exact (by repeat (first | with_reducible exact h2y | with_reducible refine rd_drew ?_ | with_reducible refine rd_alloc ?_))); (rintro r w2 ⟨v', Y, rfl, hY, nY, vY', bv⟩; have vY : Hid (val Y = val C * val B) := vY'; clear vY'; have lY : Y.length ≤ C.length + B.length := mul_len (hcw) (hbw) hY.1 nY vY.out; obtain ⟨pv, cv, rfl⟩ := rd_form hY; have hvz := hY; have K2z : Blk w2 w.heap.size #[.bool g1, .slice p1 A.length c1, .slice p2 B.length c2] 64 := blk_keep bv (by repeat (first | with_reducible exact K2y | with_reducible refine blk_drew ?_ | with_reducible refine Blk.alloc ?_ _)); have K3z : Blk w2 (w.heap.size + 1) #[.bool g2, .slice p3 C.length c3, .slice p4 D.length c4] 64 := blk_keep bv (by repeat (first | with_reducible exact K3y | with_reducible refine blk_drew ?_ | with_reducible refine Blk.alloc ?_ _)); have K4z : Blk w2 (w.heap.size + 1 + 1) #[.bool false, .slice none 0 0, .slice none 0 0] 64 := blk_keep bv (by repeat (first | with_reducible exact K4y | with_reducible refine blk_drew ?_ | with_reducible refine Blk.alloc ?_ _)); have prz : Below w.heap.size w w2 := bel (by repeat (first | with_reducible exact pry | with_reducible refine bel_drw ?_ | with_reducible refine bel_alloc ?_)) bv; have h1z : Rd w2 (.slice p1 A.length c1) A := Rd.grow (by repeat (first | with_reducible exact h1y | with_reducible refine rd_drew ?_ | with_reducible refine rd_alloc ?_)) bv; have h2z : Rd w2 (.slice p2 B.length c2) B := Rd.grow (by repeat (first | with_reducible exact h2y | with_reducible refine rd_drew ?_ | with_reducible refine rd_alloc ?_)) bv; have h3z : Rd w2 (.slice p3 C.length c3) C := Rd.grow (by repeat (first | with_reducible exact h3y | with_reducible refine rd_drew ?_ | with_reducible refine rd_alloc ?_)) bv; have h4z : Rd w2 (.slice p4 D.length c4) D := Rd.grow (by repeat (first | with_reducible exact h4y | with_reducible refine rd_drew ?_ | with_reducible refine rd_alloc ?_)) bv; have huz : Rd w2 (.slice pu X.length cu) X := Rd.grow (by repeat (first | with_reducible exact huy | with_reducible refine rd_drew ?_ | with_reducible refine rd_alloc ?_)) bv; have K2c0z : w2.cell? ⟨w.heap.size, 0, none⟩ = some (.bool g1) := K2z.at 0; have K2c1z : w2.cell? ⟨w.heap.size, 1, none⟩ = some (.slice p1 A.length c1) := K2z.at 1; have K2c2z : w2.cell? ⟨w.heap.size, 2, none⟩ = some (.slice p2 B.length c2) := K2z.at 2; have K3c0z : w2.cell? ⟨w.heap.size + 1, 0, none⟩ = some (.bool g2) := K3z.at 0; have K3c1z : w2.cell? ⟨w.heap.size + 1, 1, none⟩ = some (.slice p3 C.length c3) := K3z.at 1; have K3c2z : w2.cell? ⟨w.heap.size + 1, 2, none⟩ = some (.slice p4 D.length c4) := K3z.at 2))
    | fail)
  go_wp2_with (first
    | (go_at_call 73; ((with_reducible refine (Mul_any (.slice p2 B.length c2) (.slice p4 D.length c4) B D _ ?hr1 ?hr2 (by omega) (by omega)).mono ?_)); (case hr1 => exact (by repeat (first | with_reducible exact h2z | with_reducible refine rd_drew ?_ | with_reducible refine rd_alloc ?_))); (case hr2 => exact (by repeat (first | with_reducible exact h4z | with_reducible refine rd_drew ?_ | with_reducible refine rd_alloc ?_))); (rintro r w3 ⟨t', Z, rfl, hZ, nZ, vZ', bt⟩; have vZ : Hid (val Z = val B * val D) := vZ'; clear vZ'; have lZ : Z.length ≤ B.length + D.length := mul_len (hbw) (hdw) hZ.1 nZ vZ.out; obtain ⟨pt, ct, rfl⟩ := rd_form hZ; have htk := hZ; have K2k : Blk w3 w.heap.size #[.bool g1, .slice p1 A.length c1, .slice p2 B.length c2] 64 := blk_keep bt (by repeat (first | with_reducible exact K2z | with_reducible refine blk_drew ?_ | with_reducible refine Blk.alloc ?_ _)); have K3k : Blk w3 (w.heap.size + 1) #[.bool g2, .slice p3 C.length c3, .slice p4 D.length c4] 64 := blk_keep bt (by repeat (first | with_reducible exact K3z | with_reducible refine blk_drew ?_ | with_reducible refine Blk.alloc ?_ _)); have K4k : Blk w3 (w.heap.size + 1 + 1) #[.bool false, .slice none 0 0, .slice none 0 0] 64 := blk_keep bt (by repeat (first | with_reducible exact K4z | with_reducible refine blk_drew ?_ | with_reducible refine Blk.alloc ?_ _)); have prk : Below w.heap.size w w3 := bel (by repeat (first | with_reducible exact prz | with_reducible refine bel_drw ?_ | with_reducible refine bel_alloc ?_)) bt; have h1k : Rd w3 (.slice p1 A.length c1) A := Rd.grow (by repeat (first | with_reducible exact h1z | with_reducible refine rd_drew ?_ | with_reducible refine rd_alloc ?_)) bt; have h2k : Rd w3 (.slice p2 B.length c2) B := Rd.grow (by repeat (first | with_reducible exact h2z | with_reducible refine rd_drew ?_ | with_reducible refine rd_alloc ?_)) bt; have h3k : Rd w3 (.slice p3 C.length c3) C := Rd.grow (by repeat (first | with_reducible exact h3z | with_reducible refine rd_drew ?_ | with_reducible refine rd_alloc ?_)) bt; have h4k : Rd w3 (.slice p4 D.length c4) D := Rd.grow (by repeat (first | with_reducible exact h4z | with_reducible refine rd_drew ?_ | with_reducible refine rd_alloc ?_)) bt; have huk : Rd w3 (.slice pu X.length cu) X := Rd.grow (by repeat (first | with_reducible exact huz | with_reducible refine rd_drew ?_ | with_reducible refine rd_alloc ?_)) bt; have hvk : Rd w3 (.slice pv Y.length cv) Y := Rd.grow (by repeat (first | with_reducible exact hvz | with_reducible refine rd_drew ?_ | with_reducible refine rd_alloc ?_)) bt; have K2c0k : w3.cell? ⟨w.heap.size, 0, none⟩ = some (.bool g1) := K2k.at 0; have K2c1k : w3.cell? ⟨w.heap.size, 1, none⟩ = some (.slice p1 A.length c1) := K2k.at 1; have K2c2k : w3.cell? ⟨w.heap.size, 2, none⟩ = some (.slice p2 B.length c2) := K2k.at 2; have K3c0k : w3.cell? ⟨w.heap.size + 1, 0, none⟩ = some (.bool g2) := K3k.at 0; have K3c1k : w3.cell? ⟨w.heap.size + 1, 1, none⟩ = some (.slice p3 C.length c3) := K3k.at 1; have K3c2k : w3.cell? ⟨w.heap.size + 1, 2, none⟩ = some (.slice p4 D.length c4) := K3k.at 2))
    | (go_at_call 77; ((with_reducible refine (Cmp_any _ _ X Y _ ?hr1 ?hr2 nX nY (by omega)).mono ?_)); (case hr1 => exact (by repeat (first | with_reducible exact huk | with_reducible refine rd_drew ?_ | with_reducible refine rd_alloc ?_))); (case hr2 => exact (by repeat (first | with_reducible exact hvk | with_reducible refine rd_drew ?_ | with_reducible refine rd_alloc ?_))); (rintro r w4 ⟨rfl, bc⟩; have hc0 : ¬ 0 ≤ cmp3 (val X) (val Y) := cmp3_below (by rw [vX.out, vY.out]; exact HLE.out); have K2m : Blk w4 w.heap.size #[.bool g1, .slice p1 A.length c1, .slice p2 B.length c2] 64 := blk_keep bc (by repeat (first | with_reducible exact K2k | with_reducible refine blk_drew ?_ | with_reducible refine Blk.alloc ?_ _)); have K3m : Blk w4 (w.heap.size + 1) #[.bool g2, .slice p3 C.length c3, .slice p4 D.length c4] 64 := blk_keep bc (by repeat (first | with_reducible exact K3k | with_reducible refine blk_drew ?_ | with_reducible refine Blk.alloc ?_ _)); have K4m : Blk w4 (w.heap.size + 1 + 1) #[.bool false, .slice none 0 0, .slice none 0 0] 64 := blk_keep bc (by repeat (first | with_reducible exact K4k | with_reducible refine blk_drew ?_ | with_reducible refine Blk.alloc ?_ _)); have prm : Below w.heap.size w w4 := bel (by repeat (first | with_reducible exact prk | with_reducible refine bel_drw ?_ | with_reducible refine bel_alloc ?_)) bc; have h1m : Rd w4 (.slice p1 A.length c1) A := Rd.grow (by repeat (first | with_reducible exact h1k | with_reducible refine rd_drew ?_ | with_reducible refine rd_alloc ?_)) bc; have h2m : Rd w4 (.slice p2 B.length c2) B := Rd.grow (by repeat (first | with_reducible exact h2k | with_reducible refine rd_drew ?_ | with_reducible refine rd_alloc ?_)) bc; have h3m : Rd w4 (.slice p3 C.length c3) C := Rd.grow (by repeat (first | with_reducible exact h3k | with_reducible refine rd_drew ?_ | with_reducible refine rd_alloc ?_)) bc; have h4m : Rd w4 (.slice p4 D.length c4) D := Rd.grow (by repeat (first | with_reducible exact h4k | with_reducible refine rd_drew ?_ | with_reducible refine rd_alloc ?_)) bc; have hum : Rd w4 (.slice pu X.length cu) X := Rd.grow (by repeat (first | with_reducible exact huk | with_reducible refine rd_drew ?_ | with_reducible refine rd_alloc ?_)) bc; have hvm : Rd w4 (.slice pv Y.length cv) Y := Rd.grow (by repeat (first | with_reducible exact hvk | with_reducible refine rd_drew ?_ | with_reducible refine rd_alloc ?_)) bc; have htm : Rd w4 (.slice pt Z.length ct) Z := Rd.grow (by repeat (first | with_reducible exact htk | with_reducible refine rd_drew ?_ | with_reducible refine rd_alloc ?_)) bc; have K2c0m : w4.cell? ⟨w.heap.size, 0, none⟩ = some (.bool g1) := K2m.at 0; have K2c1m : w4.cell? ⟨w.heap.size, 1, none⟩ = some (.slice p1 A.length c1) := K2m.at 1; have K2c2m : w4.cell? ⟨w.heap.size, 2, none⟩ = some (.slice p2 B.length c2) := K2m.at 2; have K3c0m : w4.cell? ⟨w.heap.size + 1, 0, none⟩ = some (.bool g2) := K3m.at 0; have K3c1m : w4.cell? ⟨w.heap.size + 1, 1, none⟩ = some (.slice p3 C.length c3) := K3m.at 1; have K3c2m : w4.cell? ⟨w.heap.size + 1, 2, none⟩ = some (.slice p4 D.length c4) := K3m.at 2))
    | fail)
  have LE : val X ≤ val Y := by rw [vX.out, vY.out]; exact Int.le_of_lt HLE.out
  have LL : X.length ≤ Y.length := len_mono hY.1 hX.1 nX LE
  have ZB : Hid (0 < val Z) := by show 0 < val Z; rw [vZ.out]; exact BD.out
  go_region_held3 (fun x => x.cell? ⟨w.heap.size, 0, none⟩ = some (.bool g1) ∧ x.cell? ⟨w.heap.size + 1, 0, none⟩ = some (.bool g2)) (first | ((try dsimp only); (refine ⟨?_, ?_⟩); (all_goals (repeat (first | with_reducible exact K2c0n | with_reducible exact K3c0n | with_reducible exact K2c0m | with_reducible exact K3c0m | with_reducible refine cell_drew ?_ | with_reducible refine cell_alloc ?_))); done) | exact ⟨set3_other (by omega) K2c06, set3_other (by omega) K3c06⟩ | go_keep) (first
    | (go_at_call 78; ((with_reducible refine (Sub_any _ _ Y X _ ?hr1 ?hr2 (by omega) LL LE).mono ?_)); (case hr1 => exact (by repeat (first | with_reducible exact hvm | with_reducible refine rd_drew ?_ | with_reducible refine rd_alloc ?_))); (case hr2 => exact (by repeat (first | with_reducible exact hum | with_reducible refine rd_drew ?_ | with_reducible refine rd_alloc ?_))); (rintro r w5 ⟨s', Q, rfl, hQ, nQ, vQ', bs⟩; have vQ : Hid (val Q = val Y - val X) := vQ'; clear vQ'; have lQ : Q.length ≤ 4000000001 := sub_len hY.1 hX.1 hQ.1 nQ vQ.out (by omega); obtain ⟨ps, cs, rfl⟩ := rd_form hQ; have K2n : Blk w5 w.heap.size #[.bool g1, .slice p1 A.length c1, .slice p2 B.length c2] 64 := blk_keep bs (by repeat (first | with_reducible exact K2m | with_reducible refine blk_drew ?_ | with_reducible refine Blk.alloc ?_ _)); have K3n : Blk w5 (w.heap.size + 1) #[.bool g2, .slice p3 C.length c3, .slice p4 D.length c4] 64 := blk_keep bs (by repeat (first | with_reducible exact K3m | with_reducible refine blk_drew ?_ | with_reducible refine Blk.alloc ?_ _)); have K4n : Blk w5 (w.heap.size + 1 + 1) #[.bool false, .slice none 0 0, .slice none 0 0] 64 := blk_keep bs (by repeat (first | with_reducible exact K4m | with_reducible refine blk_drew ?_ | with_reducible refine Blk.alloc ?_ _)); have prn : Below w.heap.size w w5 := bel (by repeat (first | with_reducible exact prm | with_reducible refine bel_drw ?_ | with_reducible refine bel_alloc ?_)) bs; have h1n : Rd w5 (.slice p1 A.length c1) A := Rd.grow (by repeat (first | with_reducible exact h1m | with_reducible refine rd_drew ?_ | with_reducible refine rd_alloc ?_)) bs; have h2n : Rd w5 (.slice p2 B.length c2) B := Rd.grow (by repeat (first | with_reducible exact h2m | with_reducible refine rd_drew ?_ | with_reducible refine rd_alloc ?_)) bs; have h3n : Rd w5 (.slice p3 C.length c3) C := Rd.grow (by repeat (first | with_reducible exact h3m | with_reducible refine rd_drew ?_ | with_reducible refine rd_alloc ?_)) bs; have h4n : Rd w5 (.slice p4 D.length c4) D := Rd.grow (by repeat (first | with_reducible exact h4m | with_reducible refine rd_drew ?_ | with_reducible refine rd_alloc ?_)) bs; have hun : Rd w5 (.slice pu X.length cu) X := Rd.grow (by repeat (first | with_reducible exact hum | with_reducible refine rd_drew ?_ | with_reducible refine rd_alloc ?_)) bs; have hvn : Rd w5 (.slice pv Y.length cv) Y := Rd.grow (by repeat (first | with_reducible exact hvm | with_reducible refine rd_drew ?_ | with_reducible refine rd_alloc ?_)) bs; have htn : Rd w5 (.slice pt Z.length ct) Z := Rd.grow (by repeat (first | with_reducible exact htm | with_reducible refine rd_drew ?_ | with_reducible refine rd_alloc ?_)) bs; have K2c0n : w5.cell? ⟨w.heap.size, 0, none⟩ = some (.bool g1) := K2n.at 0; have K2c1n : w5.cell? ⟨w.heap.size, 1, none⟩ = some (.slice p1 A.length c1) := K2n.at 1; have K2c2n : w5.cell? ⟨w.heap.size, 2, none⟩ = some (.slice p2 B.length c2) := K2n.at 2; have K3c0n : w5.cell? ⟨w.heap.size + 1, 0, none⟩ = some (.bool g2) := K3n.at 0; have K3c1n : w5.cell? ⟨w.heap.size + 1, 1, none⟩ = some (.slice p3 C.length c3) := K3n.at 1; have K3c2n : w5.cell? ⟨w.heap.size + 1, 2, none⟩ = some (.slice p4 D.length c4) := K3n.at 2))
    | (go_at_call 72; ((with_reducible refine (Make_q g2 _ _ Q Z 4000000001 _ ?hr1 ?hr2 nQ nZ lQ (by omega) (by decide) ZB.out).mono ?_)); (case hr1 => exact (by repeat (first | with_reducible exact hQ | with_reducible refine rd_drew ?_ | with_reducible refine rd_alloc ?_))); (case hr2 => exact (by repeat (first | with_reducible exact htn | with_reducible refine rd_drew ?_ | with_reducible refine rd_alloc ?_))); (rintro r w6 ⟨v, rfl, hv6, bm⟩; rw [vQ.out, vX.out, vY.out, vZ.out] at hv6; have pr6 : Below w.heap.size w w6 := bel (by repeat (first | with_reducible exact prn | with_reducible refine bel_drw ?_ | with_reducible refine bel_alloc ?_)) bm; have K26 : Blk w6 w.heap.size #[.bool g1, .slice p1 A.length c1, .slice p2 B.length c2] 64 := blk_keep bm (by repeat (first | with_reducible exact K2n | with_reducible refine blk_drew ?_ | with_reducible refine Blk.alloc ?_ _)); have K36 : Blk w6 (w.heap.size + 1) #[.bool g2, .slice p3 C.length c3, .slice p4 D.length c4] 64 := blk_keep bm (by repeat (first | with_reducible exact K3n | with_reducible refine blk_drew ?_ | with_reducible refine Blk.alloc ?_ _)); have K46 : Blk w6 (w.heap.size + 1 + 1) #[.bool false, .slice none 0 0, .slice none 0 0] 64 := blk_keep bm (by repeat (first | with_reducible exact K4n | with_reducible refine blk_drew ?_ | with_reducible refine Blk.alloc ?_ _)); obtain ⟨N, M, p7, p8, c7, c8, rfl, hN, nN, vN', hM, nM, vM'⟩ := hv6; have vN : Hid _ := vN'; have vM : Hid _ := vM'; clear vN' vM'; have kq0 : w6.cell? ⟨w.heap.size + 1 + 1, 0, none⟩ = some (.bool false) := K46.at 0; have kq1 : w6.cell? ⟨w.heap.size + 1 + 1, 1, none⟩ = some (.slice none 0 0) := K46.at 1; have kq2 : w6.cell? ⟨w.heap.size + 1 + 1, 2, none⟩ = some (.slice none 0 0) := K46.at 2; have kf0 := K46.free 0; have kf1 := K46.free 1; have kf2 := K46.free 2; have K2c06 : w6.cell? ⟨w.heap.size, 0, none⟩ = some (.bool g1) := K26.at 0; have K2c16 : w6.cell? ⟨w.heap.size, 1, none⟩ = some (.slice p1 A.length c1) := K26.at 1; have K2c26 : w6.cell? ⟨w.heap.size, 2, none⟩ = some (.slice p2 B.length c2) := K26.at 2; have K3c06 : w6.cell? ⟨w.heap.size + 1, 0, none⟩ = some (.bool g2) := K36.at 0; have K3c16 : w6.cell? ⟨w.heap.size + 1, 1, none⟩ = some (.slice p3 C.length c3) := K36.at 1; have K3c26 : w6.cell? ⟨w.heap.size + 1, 2, none⟩ = some (.slice p4 D.length c4) := K36.at 2))
    | fail)
  all_goals
    go_wp2_with fail
    obtain ⟨F0, F1, F2, FB⟩ := put3 (.bool _) (.slice p7 N.length c7) (.slice p8 M.length c8) kq0 kq1 kq2
    exact bodyPost_ret (v := .agg #[.bool _, .slice p7 N.length c7, .slice p8 M.length c8]) (by simp [results, Tryz.results42, go_sem, F0, F1, F2]) rfl ⟨_, rfl, ⟨N, M, _, _, _, _, rfl, hN.putQ K46, nN, vN.out, hM.putQ K46, nM, vM.out⟩, FB _ _ (by omega) pr6⟩
end Go.Proofs.YtiaeoknmgidehaaGreatDoor.L

namespace Go.Proofs.YtiaeoknmgidehaaGreatDoor.L
open Go.RowKit Tl

/-- Neither part has more than K limbs. -/
def QS (r : Rat) (K : Nat) : Prop := (r.num.natAbs : Int) < pw K ∧ (r.den : Int) < pw K
theorem den_pos' (r : Rat) : (0 : Int) < (r.den : Int) := by
  have := r.den_nz
  omega
theorem num_sg (r : Rat) : r.num = sgI (decide (r.num < 0)) (r.num.natAbs : Int) := by
  unfold sgI
  by_cases c : r.num < 0
  · rw [decide_eq_true c, if_pos rfl]; omega
  · rw [decide_eq_false c, if_neg (by simp)]; omega
theorem add_rat (r s : Rat) (x : Int) (h : x = r.num * s.den + s.num * r.den) : mkRat x ((r.den : Int) * s.den).toNat = r + s := by
  rw [Rat.add_def', h]
  congr 1
/-- Q's Add of the reference. -/
theorem QAdd_any (a b : Value) (r s : Rat) (K : Nat) (w : World) (ha : IsQ w a r) (hb : IsQ w b s) (hr : QS r K) (hs : QS s K) (hK : K ≤ 1000000000) :
    Calls Tryz.prog 42 #[a, b] w fun e w' => ∃ v, e = .returned v ∧ IsQ w' v (r + s) ∧ Below w.heap.size w w' := by
  obtain ⟨A, B, p1, p2, c1, c2, rfl, h1, n1, v1, h2, n2, v2⟩ := ha
  obtain ⟨C, D, p3, p4, c3, c4, rfl, h3, n3, v3, h4, n4, v4⟩ := hb
  have l1 : A.length ≤ K := len_of_lt h1.1 n1 (by rw [v1]; exact hr.1)
  have l2 : B.length ≤ K := len_of_lt h2.1 n2 (by rw [v2]; exact hr.2)
  have l3 : C.length ≤ K := len_of_lt h3.1 n3 (by rw [v3]; exact hs.1)
  have l4 : D.length ≤ K := len_of_lt h4.1 n4 (by rw [v4]; exact hs.2)
  have b0 : 0 < val B := by rw [v2]; exact den_pos' r
  have d0 : 0 < val D := by rw [v4]; exact den_pos' s
  have er := num_sg r
  have es := num_sg s
  by_cases hg : decide (r.num < 0) = decide (s.num < 0)
  · have := qadd_same _ _ p1 p2 p3 p4 c1 c2 c3 c4 A B C D w h1 h2 h3 h4 (by omega) (by omega) (by omega) (by omega) b0 d0 hg
    rw [v1, v2, v3, v4, add_rat r s] at this
    · exact this
    · rw [← hg] at es
      generalize decide (r.num < 0) = g at *
      rw [er, es]
      cases g
      · simp only [sgI, Bool.false_eq_true, if_false]; simp
      · simp only [sgI, if_true]; simp; grind
  · by_cases le : val C * val B ≤ val A * val D
    · have := qadd_ge _ _ p1 p2 p3 p4 c1 c2 c3 c4 A B C D w h1 h2 h3 h4 (by omega) (by omega) (by omega) (by omega) b0 d0 hg le
      rw [v1, v2, v3, v4, add_rat r s] at this
      · exact this
      · generalize decide (r.num < 0) = g at *
        generalize decide (s.num < 0) = g' at *
        rw [er, es]
        cases g <;> cases g'
        · exact absurd rfl hg
        · simp only [sgI, Bool.false_eq_true, if_false, if_true]; simp; grind
        · simp only [sgI, Bool.false_eq_true, if_false, if_true]; simp; grind
        · exact absurd rfl hg
    · have := qadd_lt _ _ p1 p2 p3 p4 c1 c2 c3 c4 A B C D w h1 h2 h3 h4 (by omega) (by omega) (by omega) (by omega) b0 d0 hg (by omega)
      rw [v1, v2, v3, v4, add_rat r s] at this
      · exact this
      · generalize decide (r.num < 0) = g at *
        generalize decide (s.num < 0) = g' at *
        rw [er, es]
        cases g <;> cases g'
        · exact absurd rfl hg
        · simp only [sgI, Bool.false_eq_true, if_false, if_true]; simp; grind
        · simp only [sgI, Bool.false_eq_true, if_false, if_true]; simp; grind
        · exact absurd rfl hg
end Go.Proofs.YtiaeoknmgidehaaGreatDoor.L

namespace Go.Proofs.YtiaeoknmgidehaaGreatDoor.L
open Go.RowKit Tl

theorem isq_form {w : World} {v : Value} {r : Rat} (h : IsQ w v r) : ∃ g p1 m1 c1 p2 m2 c2, v = .agg #[.bool g, .slice p1 m1 c1, .slice p2 m2 c2] ∧ Hid (g = decide (r.num < 0)) := by
  obtain ⟨ns, ds, a1, a2, c1, c2, e, _⟩ := h
  exact ⟨_, a1, _, c1, a2, _, c2, e, rfl⟩
end Go.Proofs.YtiaeoknmgidehaaGreatDoor.L
namespace Go.Proofs.YtiaeoknmgidehaaGreatDoor.Mo
open Go.RowKit

/-- A number of the reference's is answered. -/
def Qf (r : Rat) (x : World) (e : Ending) (w' : World) : Prop := ∃ g a l c a' l' c', e = .returned (.agg #[.bool g, .slice a l c, .slice a' l' c']) ∧ L.IsQ w' (.agg #[.bool g, .slice a l c, .slice a' l' c']) r ∧ Below x.heap.size x w'
theorem qf_of {P : Program} {f : Nat} {args : Array Value} {r : Rat} {x : World} (h : Calls P f args x fun e w' => ∃ v, e = .returned v ∧ L.IsQ w' v r ∧ Below x.heap.size x w') : Calls P f args x (Qf r x) := by
  refine h.mono ?_
  rintro e w' ⟨v, rfl, hq, b⟩
  obtain ⟨g, a, l, c, a', l', c', rfl, _⟩ := L.isq_form hq
  exact ⟨g, a, l, c, a', l', c', rfl, hq, b⟩
end Go.Proofs.YtiaeoknmgidehaaGreatDoor.Mo

namespace Go.Proofs.YtiaeoknmgidehaaGreatDoor.L
open Go.RowKit Tl

end Go.Proofs.YtiaeoknmgidehaaGreatDoor.L

namespace Go.Proofs.YtiaeoknmgidehaaGreatDoor.L
open Go.RowKit Tl

end Go.Proofs.YtiaeoknmgidehaaGreatDoor.L

namespace Go.Proofs.YtiaeoknmgidehaaGreatDoor.L
open Go.RowKit Tl

end Go.Proofs.YtiaeoknmgidehaaGreatDoor.L

namespace Go.Proofs.YtiaeoknmgidehaaGreatDoor.L
open Go.RowKit Tl

end Go.Proofs.YtiaeoknmgidehaaGreatDoor.L

namespace Go.Proofs.YtiaeoknmgidehaaGreatDoor.L
open Go.RowKit Tl

end Go.Proofs.YtiaeoknmgidehaaGreatDoor.L

namespace Go.Proofs.YtiaeoknmgidehaaGreatDoor.L
open Go.RowKit Tl

set_option maxHeartbeats 1600000 in
set_option maxRecDepth 100000 in
theorem Of_pos (n : Int) (n0 : 0 ≤ n) (n1 : n < 9223372036854775808) (w : World) :
    Calls Tryz.prog 41 #[.int .i64 n] w fun e w' => ∃ u1 u2 ns, e = .returned (.agg #[.bool false, u1, u2]) ∧ Rd w' u1 ns ∧ Nm ns ∧ val ns = n ∧ Rd w' u2 [1] ∧ Below w.heap.size w w' := by
  have hz : ¬ n < 0 := by omega
  have K0 := Blk.new w #[.bool false, .slice none 0 0, .slice none 0 0] 64
  have pr : Below w.heap.size w (w.alloc (.cells #[.bool false, .slice none 0 0, .slice none 0 0] 64)) := (Below.refl _ _).alloc (Nat.le_refl _) _
  go_enter Tryz.func41, Tryz.ntmps41
  go_wp2_with (first
    | (go_at_call 75; (refine (NatOf_any (n) _ (by omega) (by omega)).mono ?_); (rintro x w1 ⟨u, ns, rfl, hu, nu, vu, b1⟩; have VU : Hid (val ns = n) := vu; clear vu; replace K0 := (K0.below b1 K0.lt).alloc (.cells #[.int .i64 1] 3); replace pr := (bel pr b1); have pr2 := pr.alloc pr.size (.cells #[.int .i64 1] 3); replace hu := hu.grow ((Below.refl _ _).alloc (Nat.le_refl _) (.cells #[.int .i64 1] 3)); have ho : Rd (w1.alloc (.cells #[.int .i64 1] 3)) (.slice (some ⟨w1.heap.size, 0, none⟩) 1 1) [1] := rd_one (by simp) (by decide) (by decide); have e0 : (w1.alloc (.cells #[.int .i64 1] 3)).cell? ⟨w.heap.size, 0, none⟩ = some (.bool false) := K0.at 0; have e1 : (w1.alloc (.cells #[.int .i64 1] 3)).cell? ⟨w.heap.size, 1, none⟩ = some (.slice none 0 0) := K0.at 1; have e2 : (w1.alloc (.cells #[.int .i64 1] 3)).cell? ⟨w.heap.size, 2, none⟩ = some (.slice none 0 0) := K0.at 2; have z0 := K0.free 0; have z1 := K0.free 1; have z2 := K0.free 2; obtain ⟨a1, c1, rfl⟩ : ∃ a c, u = .slice a ns.length c := (by obtain ⟨_, a, c, e, _⟩ := hu; exact ⟨a, c, e⟩)))
    | fail)
  obtain ⟨F0, F1, F2, FB⟩ := put3 (.bool false) (.slice a1 ns.length c1) (.slice (some ⟨w1.heap.size, 0, none⟩) 1 1) e0 e1 e2
  exact bodyPost_ret (v := .agg #[.bool false, .slice a1 ns.length c1, .slice (some ⟨w1.heap.size, 0, none⟩) 1 1]) (by simp [results, Tryz.results41, go_sem, F0, F1, F2]) rfl ⟨_, _, ns, rfl, hu.putQ K0, nu, VU.out, ho.putQ K0, FB _ _ (Nat.le_refl _) pr2⟩
set_option maxHeartbeats 1600000 in
set_option maxRecDepth 100000 in
theorem Of_neg (n : Int) (n0 : n < 0) (n1 : -9223372036854775808 ≤ n) (w : World) :
    Calls Tryz.prog 41 #[.int .i64 n] w fun e w' => ∃ u1 u2 ns, e = .returned (.agg #[.bool true, u1, u2]) ∧ Rd w' u1 ns ∧ Nm ns ∧ val ns = -n ∧ Rd w' u2 [1] ∧ Below w.heap.size w w' := by
  have c1 : IntKind.u64.wrap n = n + 18446744073709551616 := by rw [IntKind.wrap_u64]; omega
  have c2 : IntKind.u64.wrap (-(n + 18446744073709551616)) = -n := by rw [IntKind.wrap_u64]; omega
  have K0 := Blk.new w #[.bool false, .slice none 0 0, .slice none 0 0] 64
  have pr : Below w.heap.size w (w.alloc (.cells #[.bool false, .slice none 0 0, .slice none 0 0] 64)) := (Below.refl _ _).alloc (Nat.le_refl _) _
  go_enter Tryz.func41, Tryz.ntmps41
  go_wp2_with (first
    | (go_at_call 74; (refine (NatOf64_any (-n) _ (by omega) (by omega)).mono ?_); (rintro x w1 ⟨u, ns, rfl, hu, nu, vu, b1⟩; have VU : Hid (val ns = -n) := vu; clear vu; replace K0 := (K0.below b1 K0.lt).alloc (.cells #[.int .i64 1] 3); replace pr := (bel pr b1); have pr2 := pr.alloc pr.size (.cells #[.int .i64 1] 3); replace hu := hu.grow ((Below.refl _ _).alloc (Nat.le_refl _) (.cells #[.int .i64 1] 3)); have ho : Rd (w1.alloc (.cells #[.int .i64 1] 3)) (.slice (some ⟨w1.heap.size, 0, none⟩) 1 1) [1] := rd_one (by simp) (by decide) (by decide); have e0 : (w1.alloc (.cells #[.int .i64 1] 3)).cell? ⟨w.heap.size, 0, none⟩ = some (.bool false) := K0.at 0; have e1 : (w1.alloc (.cells #[.int .i64 1] 3)).cell? ⟨w.heap.size, 1, none⟩ = some (.slice none 0 0) := K0.at 1; have e2 : (w1.alloc (.cells #[.int .i64 1] 3)).cell? ⟨w.heap.size, 2, none⟩ = some (.slice none 0 0) := K0.at 2; have z0 := K0.free 0; have z1 := K0.free 1; have z2 := K0.free 2; obtain ⟨a1, c1, rfl⟩ : ∃ a c, u = .slice a ns.length c := (by obtain ⟨_, a, c, e, _⟩ := hu; exact ⟨a, c, e⟩)))
    | fail)
  obtain ⟨F0, F1, F2, FB⟩ := put3 (.bool true) (.slice a1 ns.length c1) (.slice (some ⟨w1.heap.size, 0, none⟩) 1 1) e0 e1 e2
  exact bodyPost_ret (v := .agg #[.bool true, .slice a1 ns.length c1, .slice (some ⟨w1.heap.size, 0, none⟩) 1 1]) (by simp [results, Tryz.results41, go_sem, F0, F1, F2]) rfl ⟨_, _, ns, rfl, hu.putQ K0, nu, VU.out, ho.putQ K0, FB _ _ (Nat.le_refl _) pr2⟩
end Go.Proofs.YtiaeoknmgidehaaGreatDoor.L

namespace Go.Proofs.YtiaeoknmgidehaaGreatDoor.L
open Go.RowKit Tl

theorem quo_le {a q b r : Int} (h : a = q * b + r) (r0 : 0 ≤ r) (q0 : 0 ≤ q) (b0 : 0 < b) : q ≤ a := le_of_quo h r0 q0 b0
/-- Of, as an exact number. -/
theorem Of_q (n : Int) (w : World) (n0 : -9223372036854775808 ≤ n) (n1 : n < 9223372036854775808) :
    Calls Tryz.prog 41 #[.int .i64 n] w fun e w' => ∃ v, e = .returned v ∧ IsQ w' v (n : Rat) ∧ Below w.heap.size w w' := by
  have num : ((n : Rat)).num = n := rfl
  have den : ((n : Rat)).den = 1 := rfl
  by_cases c : n < 0
  · refine (Of_neg n c n0 w).mono ?_
    rintro e w' ⟨u1, u2, ns, rfl, h1, m1, v1, h2, b⟩
    obtain ⟨a, c1, rfl⟩ := rd_form h1
    obtain ⟨a', c2, rfl⟩ := rd_form h2
    exact ⟨_, rfl, ⟨ns, [1], _, _, _, _, by rw [num, decide_eq_true c], h1, m1, by rw [v1, num]; omega, h2, nm_one, by rw [val_one, den]; rfl⟩, b⟩
  · refine (Of_pos n (by omega) n1 w).mono ?_
    rintro e w' ⟨u1, u2, ns, rfl, h1, m1, v1, h2, b⟩
    obtain ⟨a, c1, rfl⟩ := rd_form h1
    obtain ⟨a', c2, rfl⟩ := rd_form h2
    exact ⟨_, rfl, ⟨ns, [1], _, _, _, _, by rw [num, decide_eq_false c], h1, m1, by rw [v1, num]; omega, h2, nm_one, by rw [val_one, den]; rfl⟩, b⟩
end Go.Proofs.YtiaeoknmgidehaaGreatDoor.L

namespace Go.Proofs.YtiaeoknmgidehaaGreatDoor.Ta
open Go.RowKit

set_option maxRecDepth 100000 in
set_option maxHeartbeats 3200000 in
theorem coming_bad (s : ByteArray) (f : Int) (vr vs : Value) (rs : List Int) (sel : List (List Int)) (en ys : Int) (w : World) (hs : s.size ≤ 140737488351232) (hr : Rx w vr rs) (hsel : Rr w vs sel) (h : chk s f rs sel ≠ 0) :
    Calls Tryz.prog 83 #[.agg #[.string s, .int .i64 f, vr, vs], .agg #[.int .i64 en, .int .i64 ys]] w fun e w' => e = .returned (.tuple #[.slice none 0 0, .int .i64 (chk s f rs sel)]) ∧ Below w.heap.size w w' := by
  have KT := (Blk.new w #[.string s, .int .i64 f, vr, vs] 44).alloc (.cells #[.int .i64 en, .int .i64 ys] 46)
  have KL := Blk.new (w.alloc (.cells #[.string s, .int .i64 f, vr, vs] 44)) #[.int .i64 en, .int .i64 ys] 46
  have pr : Below w.heap.size w ((w.alloc (.cells #[.string s, .int .i64 f, vr, vs] 44)).alloc (.cells #[.int .i64 en, .int .i64 ys] 46)) := ((Below.refl _ _).alloc (Nat.le_refl _) _).alloc (by simp) _
  simp only [World.size_alloc] at KL
  have C := Check_any s f vr vs rs sel _ hs (hr.grow pr) (hsel.grow pr)
  have h' : (chk s f rs sel != 0) = true := by rw [bne_iff_ne]; exact h
  generalize chk s f rs sel = q at *
  clear h
  go_enter Tryz.func83, Tryz.ntmps83
  go_wp2_with (first
    | (go_at_call 115; refine C.mono ?_; rintro e w1 ⟨rfl, b1⟩)
    | fail)
  go_ret2
  exact ⟨rfl, bel' pr b1⟩
set_option maxRecDepth 100000 in
set_option maxHeartbeats 3200000 in
theorem coming_no (s : ByteArray) (f : Int) (vr vs : Value) (rs : List Int) (sel : List (List Int)) (en ys : Int) (w : World) (hs : s.size ≤ 140737488351232) (hr : Rx w vr rs) (hsel : Rr w vs sel) (h : chk s f rs sel = 0) (h2 : okL f rs en ys = false) :
    Calls Tryz.prog 83 #[.agg #[.string s, .int .i64 f, vr, vs], .agg #[.int .i64 en, .int .i64 ys]] w fun e w' => e = .returned (.tuple #[.slice none 0 0, .int .i64 8]) ∧ Below w.heap.size w w' := by
  have KT := (Blk.new w #[.string s, .int .i64 f, vr, vs] 44).alloc (.cells #[.int .i64 en, .int .i64 ys] 46)
  have KL := Blk.new (w.alloc (.cells #[.string s, .int .i64 f, vr, vs] 44)) #[.int .i64 en, .int .i64 ys] 46
  have pr : Below w.heap.size w ((w.alloc (.cells #[.string s, .int .i64 f, vr, vs] 44)).alloc (.cells #[.int .i64 en, .int .i64 ys] 46)) := ((Below.refl _ _).alloc (Nat.le_refl _) _).alloc (by simp) _
  simp only [World.size_alloc] at KL
  have C := Check_any s f vr vs rs sel _ hs (hr.grow pr) (hsel.grow pr)
  rw [h] at C
  obtain ⟨_, f1, _⟩ := of_chk_0 h
  obtain ⟨_, ⟨ar, cr, rfl, _⟩, hL⟩ := hr
  have La := fun W => last_any s f ar rs.length cr vs W f1.1 f1.2.1 hL
  obtain ⟨E, hE⟩ : ∃ E, f + (rs.length : Int) - 1 = E := ⟨_, rfl⟩
  rw [hE] at La
  have no := of_decide_eq_false h2
  rw [hE] at no
  have e1 : 0 ≤ E ∧ E ≤ 130 := by omega
  clear h h2 hsel
  have key : ys < 0 ∨ (¬ ys < 0 ∧ en < f) ∨ (¬ ys < 0 ∧ ¬ en < f ∧ en > E) ∨ (¬ ys < 0 ∧ ¬ en < f ∧ ¬ en > E ∧ ys > E - en ∧ IntKind.i64.wrap (E - en) = E - en) := by
    by_cases a : ys < 0
    · exact Or.inl a
    · by_cases b : en < f
      · exact Or.inr (Or.inl ⟨a, b⟩)
      · by_cases c : en > E
        · exact Or.inr (Or.inr (Or.inl ⟨a, b, c⟩))
        · exact Or.inr (Or.inr (Or.inr ⟨a, b, c, by omega, Mo.wrapI _ (by omega) (by omega)⟩))
  clear no
  rcases key with g1 | ⟨g1, g2⟩ | ⟨g1, g2, g3⟩ | ⟨g1, g2, g3, g4, g5⟩
  all_goals
    go_enter Tryz.func83, Tryz.ntmps83
    go_wp2_with (first
      | (go_at_call 115; refine C.mono ?_; rintro e w1 ⟨rfl, b1⟩; (have K1 := KT.below b1 KT.lt); (have k0 := K1.at 0); (have k1 := K1.at 1); (have k2 := K1.at 2); (have k3 := K1.at 3); (simp at k0 k1 k2 k3))
      | (go_at_call 116; refine (La _).mono ?_; rintro e w2 ⟨rfl, b2⟩; (have K2 := K1.below b2 K1.lt); (have M2 := (KL.below b1 KL.lt).below b2 (KL.below b1 KL.lt).lt); (have j1 := K2.at 1); (have m0 := M2.at 0); (have m1 := M2.at 1); (simp at j1 m0 m1))
      | fail)
    go_ret2
    exact ⟨rfl, bel' (bel' pr b1) b2⟩
end Go.Proofs.YtiaeoknmgidehaaGreatDoor.Ta

namespace Go.Proofs.YtiaeoknmgidehaaGreatDoor.Ta
open Go.RowKit

set_option maxRecDepth 100000 in
set_option maxHeartbeats 6400000 in
theorem coming_ok (s : ByteArray) (f : Int) (vr vs : Value) (rs : List Int) (sel : List (List Int)) (en ys : Int) (w : World) (hs : s.size ≤ 140737488351232) (hr : Rx w vr rs) (hsel : Rr w vs sel) (h : chk s f rs sel = 0) (h2 : okL f rs en ys = true) (N : Nat) (hN : (N : Int) = f + rs.length - en - ys) :
    Calls Tryz.prog 83 #[.agg #[.string s, .int .i64 f, vr, vs], .agg #[.int .i64 en, .int .i64 ys]] w fun e w' => ∃ g, e = .returned (.tuple #[.slice (some ⟨g, 0, none⟩) N N, .int .i64 0]) ∧ w.heap.size ≤ g ∧ Rc w' g N N (rt f rs sel en ys) ∧ Below w.heap.size w w' := by
  have KT := (Blk.new w #[.string s, .int .i64 f, vr, vs] 44).alloc (.cells #[.int .i64 en, .int .i64 ys] 46)
  have KL := Blk.new (w.alloc (.cells #[.string s, .int .i64 f, vr, vs] 44)) #[.int .i64 en, .int .i64 ys] 46
  have pr : Below w.heap.size w ((w.alloc (.cells #[.string s, .int .i64 f, vr, vs] 44)).alloc (.cells #[.int .i64 en, .int .i64 ys] 46)) := ((Below.refl _ _).alloc (Nat.le_refl _) _).alloc (by simp) _
  simp only [World.size_alloc] at KL
  have C := Check_any s f vr vs rs sel _ hs (hr.grow pr) (hsel.grow pr)
  rw [h] at C
  obtain ⟨_, f1, _, hsb⟩ := of_chk_0 h
  obtain ⟨s1, s2, s3⟩ := sel_bd hsb
  have hr' := hr
  obtain ⟨_, ⟨ar, cr, rfl, _⟩, hL⟩ := hr'
  have hs' := hsel
  obtain ⟨_, ao, co, rfl, hrows⟩ := hs'
  have La := fun W => last_any s f ar rs.length cr (.slice ao sel.length co) W f1.1 f1.2.1 hL
  obtain ⟨E, hE⟩ : ∃ E, f + (rs.length : Int) - 1 = E := ⟨_, rfl⟩
  rw [hE] at La
  obtain ⟨o1, o2, o3, o4⟩ := of_decide_eq_true h2
  rw [hE] at o3 o4
  have e1 : 0 ≤ E ∧ E ≤ 130 := by omega
  have g1 : ¬ ys < 0 := by omega
  have g2 : ¬ en < f := by omega
  have g3 : ¬ en > E := by omega
  have g4 : ¬ ys > E - en := by omega
  have g5 : IntKind.i64.wrap (E - en) = E - en := Mo.wrapI _ (by omega) (by omega)
  have g6 : IntKind.i64.wrap (E - en - ys) = E - en - ys := Mo.wrapI _ (by omega) (by omega)
  have g7 : IntKind.i64.wrap (E - en - ys + 1) = (N : Int) := by rw [show E - en - ys + 1 = (N : Int) by omega]; exact Mo.wrapI _ (by omega) (by omega)
  have HN : Hid (N ≤ 131) := by show N ≤ 131; omega
  have HE : Hid (f + (rs.length : Int) - 1 = E) := hE
  have H4 : Hid ((N : Int) = f + rs.length - en - ys) := hN
  have HF : Hid (0 ≤ f ∧ f ≤ 130) := ⟨f1.1, f1.2.1⟩
  have HO : Hid (0 ≤ ys ∧ f ≤ en) := ⟨o1, o2⟩
  have HL : Hid (rs.length ≤ 131) := by show rs.length ≤ 131; omega
  clear h h2 hsb hN f1 o1 o2 o3 o4 e1
  go_enter Tryz.func83, Tryz.ntmps83
  go_wp2_with (first
    | (go_at_call 115; refine C.mono ?_; rintro e w1 ⟨rfl, b1⟩; (have K1 := KT.below b1 KT.lt); (have k0 := K1.at 0); (have k1 := K1.at 1); (have k2 := K1.at 2); (have k3 := K1.at 3); (simp at k0 k1 k2 k3))
    | (go_at_call 116; refine (La _).mono ?_; rintro e w2 ⟨rfl, b2⟩; (have K2 := K1.below b2 K1.lt); (have M2 := (KL.below b1 KL.lt).below b2 (KL.below b1 KL.lt).lt); (have j1 := K2.at 1); (have m0 := M2.at 0); (have m1 := M2.at 1); (simp at j1 m0 m1))
    | (at_make; refine make_ints rfl _ _ rfl N _ _ rfl rfl rfl rfl (by have := HN.out; omega) ?_; intro cs hcs; have G0 := Blk.new w2 cs 3; have al := (Below.refl w2.heap.size w2).alloc (Nat.le_refl _) (.cells cs 3))
    | fail)
  have p2 := bel' (bel' (bel' pr b1) b2) al
  have K3 := K2.below al K2.lt
  have M3 := M2.below al M2.lt
  have R0 : Rc (w2.alloc (.cells cs 3)) w2.heap.size N 0 (rt f rs sel en ys) := ⟨cs, G0, hcs, fun i hi => absurd hi (by omega)⟩
  have lg : w.heap.size + 2 ≤ w2.heap.size := by have := b1.size; have := b2.size; simp at *; omega
  generalize w2.heap.size = g at *
  generalize w2.alloc (.cells cs 3) = W at *
  clear KT KL pr C La K1 K2 M2 k0 k1 k2 k3 j1 m0 m1 b1 b2 al G0 hcs g1 g2 g3 g4 g5 g6 g7
  go_loopw [9, 10, 54] (fun _ _ i wr => ∃ k : Nat, i = .int .i64 k ∧ k ≤ N ∧ Rc wr g N k (rt f rs sel en ys) ∧ Blk wr w.heap.size #[.string s, .int .i64 f, .slice ar rs.length cr, .slice ao sel.length co] 44 ∧ Blk wr (w.heap.size + 1) #[.int .i64 en, .int .i64 ys] 46 ∧ Below w.heap.size w wr) (fun _ _ i _ => N - (RowKit.intOf i).toNat)
  case atStart => exact ⟨0, rfl, Nat.zero_le _, R0, K3, M3, p2⟩
  case round =>
    clear R0 K3 M3 p2
    obtain ⟨k, rfl, hk, R, K, M, p⟩ := hrel
    by_cases lt : k < N
    · have t1 := K.at 1
      have t2 := K.at 2
      have t3 := K.at 3
      have m0 := M.at 0
      have m1 := M.at 1
      simp at t1 t2 t3 m0 m1
      obtain ⟨d, hd⟩ : ∃ d : Nat, ys + (k : Int) = (d : Int) := ⟨(ys + k).toNat, by have := HO.out; omega⟩
      have y1 : IntKind.i64.wrap (ys + (k : Int)) = (d : Int) := by rw [hd]; exact Mo.wrapI _ (by omega) (by have := HN.out; have := H4.out; have := HF.out; have := HO.out; have := HL.out; omega)
      obtain ⟨csr, B, hcs, hcf⟩ := R
      have eg : csr[k]? = some (csr[k]'(by omega)) := Array.getElem?_eq_getElem _
      have z0 := (B.at k).trans eg
      have z1 := B.free k
      have RR : Rc wr g N k (rt f rs sel en ys) := ⟨csr, B, hcs, hcf⟩
      generalize csr[k]'(by omega) = v0 at *
      have i1 : (0 : Int) ≤ (k : Int) := by omega
      have i2 : ((k : Int)).toNat = k := by omega
      have i3 : (k : Int) < (N : Int) := by omega
      have i4 : (0 : Int) ≤ (d : Int) := by omega
      have i5 : ((d : Int)).toNat = d := by omega
      have y9 : IntKind.i64.wrap ((k : Int) + 1) = ((k + 1 : Nat) : Int) := by rw [show (k : Int) + 1 = ((k + 1 : Nat) : Int) by omega]; exact Mo.wrapI _ (by omega) (by have := HN.out; omega)
      have n1 : w.heap.size ≠ g := by omega
      have n2 : w.heap.size + 1 ≠ g := by omega
      have wrg : Wr g k 1 wr (wr.setCell ⟨g, k, none⟩ (.int .i64 (rt f rs sel en ys k))) := (Wr.refl g k 1 wr).setCell k (by omega) _
      have KE := K.wr wrg n1
      have ME := M.wr wrg n2
      have RE := RR.push lt
      have pE := p.setCell (p := ⟨g, k, none⟩) (show w.heap.size ≤ g by omega) (.int .i64 (rt f rs sel en ys k))
      by_cases c : (d : Int) < (sel.length : Int)
      · have q1 : rt f rs sel en ys k = L.nth (sel.getD d []) (en - f).toNat := by unfold rt; rw [if_pos (by omega), show (ys + (k : Int)).toNat = d by omega]
        obtain ⟨i, hi⟩ : ∃ i : Nat, en - f = (i : Int) := ⟨(en - f).toNat, by have := HO.out; omega⟩
        have y2 : IntKind.i64.wrap (en - f) = (i : Int) := by rw [hi]; exact Mo.wrapI _ (by omega) (by have := H4.out; have := HF.out; have := HO.out; have := HL.out; omega)
        obtain ⟨b, o, rfl, hrow⟩ := hrows (by omega)
        obtain ⟨vd, cd, xd⟩ := hrow d (by omega)
        have il : i < (sel.getD d []).length := by have := (s3 d (by omega)).1; have := H4.out; omega
        obtain ⟨b2, o2, c2, rfl, ci, lb2⟩ := lives xd il
        have lb := L.lt_of_cell cd
        have u1 := keepc p lb cd
        have u2 := keepc p lb2 ci
        rw [q1, show (en - f).toNat = i by omega] at KE ME RE pE
        generalize L.nth (sel.getD d []) i = V at *
        generalize (sel.getD d []).length = ln at *
        have i6 : (0 : Int) ≤ (i : Int) := by omega
        have i7 : ((i : Int)).toNat = i := by omega
        have i8 : (i : Int) < (ln : Int) := by omega
        have n3 : b ≠ g := by omega
        have n4 : b2 ≠ g := by omega
        have x1 := KE.at 1
        have x3 := KE.at 3
        have x4 := ME.at 0
        simp at x1 x3 x4
        have x5 : (wr.setCell ⟨g, k, none⟩ (.int .i64 V)).cell? ⟨b, o + d, none⟩ = some (.slice (some ⟨b2, o2, none⟩) ln c2) := (World.cell?_setCell_other _ _ _ _ (by first | exact (fun e => n3 (congrArg Addr.block e)) | exact (fun e => n3 (congrArg Addr.block e).symm))).trans u1
        have x6 : (wr.setCell ⟨g, k, none⟩ (.int .i64 V)).cell? ⟨b2, o2 + i, none⟩ = some (.int .i64 V) := (World.cell?_setCell_other _ _ _ _ (by first | exact (fun e => n4 (congrArg Addr.block e)) | exact (fun e => n4 (congrArg Addr.block e).symm))).trans u2
        clear hrows hrow hd hi q1 cd xd ci il lb lb2 s3 s1 s2 hr hsel RR B hcs hcf eg wrg K M p hL lg
        go_wp2_with fail
        go_region_held3 (fun x => x.cell? ⟨w.heap.size, 1, none⟩ = some (.int .i64 f) ∧ x.cell? ⟨w.heap.size, 3, none⟩ = some (.slice (some ⟨b, o, none⟩) sel.length co) ∧ x.cell? ⟨w.heap.size + 1, 0, none⟩ = some (.int .i64 en) ∧ x.cell? ⟨b, o + d, none⟩ = some (.slice (some ⟨b2, o2, none⟩) ln c2) ∧ x.cell? ⟨b2, o2 + i, none⟩ = some (.int .i64 V)) (first | exact ⟨x1, x3, x4, x5, x6⟩ | go_keep) (fail)
        go_wp2_with fail
        go_roundw
        case rel => exact ⟨k + 1, by go_num, by omega, RE, KE, ME, pE.drew⟩
        case measure => simp [RowKit.intOf]; omega
      · have q1 : rt f rs sel en ys k = L.nth rs (en + (ys + (k : Int)) - f).toNat := by unfold rt; rw [if_neg (by omega)]
        obtain ⟨i, hi⟩ : ∃ i : Nat, en + (d : Int) - f = (i : Int) := ⟨(en + (d : Int) - f).toNat, by have := HO.out; omega⟩
        have y2 : IntKind.i64.wrap (en + (d : Int)) = en + (d : Int) := Mo.wrapI _ (by have := HO.out; have := HF.out; omega) (by have := H4.out; have := HF.out; have := HO.out; have := HL.out; omega)
        have y3 : IntKind.i64.wrap (en + (d : Int) - f) = (i : Int) := by rw [hi]; exact Mo.wrapI _ (by omega) (by have := H4.out; have := HF.out; have := HO.out; have := HL.out; omega)
        have il : i < rs.length := by have := H4.out; omega
        obtain ⟨b2, o2, c2, e2, ci, lb2⟩ := lives hr il
        simp only [Value.slice.injEq] at e2
        obtain ⟨rfl, _, rfl⟩ := e2
        have u2 := keepc p lb2 ci
        rw [q1, show (en + (ys + (k : Int)) - f).toNat = i by omega] at KE ME RE pE
        generalize L.nth rs i = V at *
        have i6 : (0 : Int) ≤ (i : Int) := by omega
        have i7 : ((i : Int)).toNat = i := by omega
        have i8 : (i : Int) < (rs.length : Int) := by omega
        clear hrows hd hi q1 ci il lb2 s3 s1 s2 hr hsel RR B hcs hcf eg wrg K M p hL lg
        go_wp2_with fail
        go_roundw
        case rel => exact ⟨k + 1, by go_num, by omega, RE, KE, ME, pE⟩
        case measure => simp [RowKit.intOf]; omega
    · obtain rfl : k = N := by omega
      go_wp2
      go_ret2
      exact ⟨g, rfl, by omega, R, p⟩
end Go.Proofs.YtiaeoknmgidehaaGreatDoor.Ta

namespace Go.Proofs.YtiaeoknmgidehaaGreatDoor.L
open Go.RowKit Tl

end Go.Proofs.YtiaeoknmgidehaaGreatDoor.L

namespace Go.Proofs.YtiaeoknmgidehaaGreatDoor.L
open Go.RowKit Tl

end Go.Proofs.YtiaeoknmgidehaaGreatDoor.L

namespace Go.Proofs.YtiaeoknmgidehaaGreatDoor.L
open Go.RowKit Tl
end Go.Proofs.YtiaeoknmgidehaaGreatDoor.L
