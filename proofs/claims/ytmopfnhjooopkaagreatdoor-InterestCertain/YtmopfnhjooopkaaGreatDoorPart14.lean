import Derived.Test.YtmopfnhjooopkaaGreatDoorPart13

namespace Go.Proofs.YtmopfnhjooopkaaGreatDoor.L
open Go.RowKit Tl

set_option maxHeartbeats 6400000 in
set_option maxRecDepth 100000 in
theorem qdiv_raw (g1 g2 gx : Bool) (hg : (!(g1 == g2)) = gx) (p1 p2 p3 p4 : Option Addr) (c1 c2 c3 c4 : Nat) (A B C D : List Int) (w : World) (h1 : Rd w (.slice p1 A.length c1) A) (h2 : Rd w (.slice p2 B.length c2) B) (h3 : Rd w (.slice p3 C.length c3) C) (h4 : Rd w (.slice p4 D.length c4) D) (l1 : A.length ≤ 1000000000) (l2 : B.length ≤ 1000000000) (l3 : C.length ≤ 1000000000) (l4 : D.length ≤ 1000000000) (b0 : 0 < val B) (c0 : 0 < val C) :
    Calls Tryz.prog 43 #[.agg #[.bool g1, .slice p1 A.length c1, .slice p2 B.length c2], .agg #[.bool g2, .slice p3 C.length c3, .slice p4 D.length c4]] w fun e w' => ∃ v, e = .returned v ∧ IsQ w' v (mkRat (sgI gx (val A * val D)) (val B * val C).toNat) ∧ Below w.heap.size w w' := by
  have haw := h1.1
  have hbw := h2.1
  have hcw := h3.1
  have hdw := h4.1
  have BD : Hid (0 < val B * val C) := Int.mul_pos b0 c0
  clear b0 c0
  go_enter Tryz.func43, Tryz.ntmps43
  go_upto_region 1 with fail
  have K2x : Blk (((w.alloc (.cells #[.bool g1, .slice p1 A.length c1, .slice p2 B.length c2] 65)).alloc (.cells #[.bool g2, .slice p3 C.length c3, .slice p4 D.length c4] 65)).alloc (.cells #[.bool false, .slice none 0 0, .slice none 0 0] 65)) w.heap.size #[.bool g1, .slice p1 A.length c1, .slice p2 B.length c2] 65 := ((Blk.new w _ _).alloc _).alloc _
  have K3x : Blk (((w.alloc (.cells #[.bool g1, .slice p1 A.length c1, .slice p2 B.length c2] 65)).alloc (.cells #[.bool g2, .slice p3 C.length c3, .slice p4 D.length c4] 65)).alloc (.cells #[.bool false, .slice none 0 0, .slice none 0 0] 65)) (w.heap.size + 1) #[.bool g2, .slice p3 C.length c3, .slice p4 D.length c4] 65 := (blk_at (by simp)).alloc _
  have K4x : Blk (((w.alloc (.cells #[.bool g1, .slice p1 A.length c1, .slice p2 B.length c2] 65)).alloc (.cells #[.bool g2, .slice p3 C.length c3, .slice p4 D.length c4] 65)).alloc (.cells #[.bool false, .slice none 0 0, .slice none 0 0] 65)) (w.heap.size + 1 + 1) #[.bool false, .slice none 0 0, .slice none 0 0] 65 := blk_at (by simp)
  have prx : Below w.heap.size w (((w.alloc (.cells #[.bool g1, .slice p1 A.length c1, .slice p2 B.length c2] 65)).alloc (.cells #[.bool g2, .slice p3 C.length c3, .slice p4 D.length c4] 65)).alloc (.cells #[.bool false, .slice none 0 0, .slice none 0 0] 65)) := (((Below.refl _ _).alloc (Nat.le_refl _) _).alloc (by simp) _).alloc (by simp; omega) _
  have h1x := h1.grow prx
  have h2x := h2.grow prx
  have h3x := h3.grow prx
  have h4x := h4.grow prx
  clear h1 h2 h3 h4
  generalize (((w.alloc (.cells #[.bool g1, .slice p1 A.length c1, .slice p2 B.length c2] 65)).alloc (.cells #[.bool g2, .slice p3 C.length c3, .slice p4 D.length c4] 65)).alloc (.cells #[.bool false, .slice none 0 0, .slice none 0 0] 65)) = W at *
  have K2c0x : W.cell? ⟨w.heap.size, 0, none⟩ = some (.bool g1) := K2x.at 0
  have K2c1x : W.cell? ⟨w.heap.size, 1, none⟩ = some (.slice p1 A.length c1) := K2x.at 1
  have K2c2x : W.cell? ⟨w.heap.size, 2, none⟩ = some (.slice p2 B.length c2) := K2x.at 2
  have K3c0x : W.cell? ⟨w.heap.size + 1, 0, none⟩ = some (.bool g2) := K3x.at 0
  have K3c1x : W.cell? ⟨w.heap.size + 1, 1, none⟩ = some (.slice p3 C.length c3) := K3x.at 1
  have K3c2x : W.cell? ⟨w.heap.size + 1, 2, none⟩ = some (.slice p4 D.length c4) := K3x.at 2
  have nqa : w.heap.size ≠ w.heap.size + 1 + 1 := by omega
  have nqb : w.heap.size + 1 ≠ w.heap.size + 1 + 1 := by omega
  go_region_held3 (fun x => x.cell? ⟨w.heap.size, 0, none⟩ = some (.bool g1) ∧ x.cell? ⟨w.heap.size, 1, none⟩ = some (.slice p1 A.length c1) ∧ x.cell? ⟨w.heap.size, 2, none⟩ = some (.slice p2 B.length c2) ∧ x.cell? ⟨w.heap.size + 1, 0, none⟩ = some (.bool g2) ∧ x.cell? ⟨w.heap.size + 1, 1, none⟩ = some (.slice p3 C.length c3) ∧ x.cell? ⟨w.heap.size + 1, 2, none⟩ = some (.slice p4 D.length c4)) (first | ((try dsimp only); (refine ⟨?_, ?_, ?_, ?_, ?_, ?_⟩); (all_goals (repeat (first | with_reducible exact K2c0z | with_reducible exact K2c1z | with_reducible exact K2c2z | with_reducible exact K3c0z | with_reducible exact K3c1z | with_reducible exact K3c2z | with_reducible exact K2c0y | with_reducible exact K2c1y | with_reducible exact K2c2y | with_reducible exact K3c0y | with_reducible exact K3c1y | with_reducible exact K3c2y | with_reducible exact K2c0x | with_reducible exact K2c1x | with_reducible exact K2c2x | with_reducible exact K3c0x | with_reducible exact K3c1x | with_reducible exact K3c2x | with_reducible refine cell_drew ?_ | with_reducible refine cell_alloc ?_))); done) | exact ⟨set3_other nqa K2c06, set3_other nqa K2c16, set3_other nqa K2c26, set3_other nqb K3c06, set3_other nqb K3c16, set3_other nqb K3c26⟩ | go_keep) (first
    | (go_at_call 68; ((with_reducible refine (Mul_any (.slice p1 A.length c1) (.slice p4 D.length c4) A D _ ?hr1 ?hr2 (by omega) (by omega)).mono ?_)); (case hr1 => exact (by repeat (first | with_reducible exact h1x | with_reducible refine rd_drew ?_ | with_reducible refine rd_alloc ?_))); (case hr2 => exact (by repeat (first | with_reducible exact h4x | with_reducible refine rd_drew ?_ | with_reducible refine rd_alloc ?_))); (rintro r w1 ⟨u', X, rfl, hX, nX, vX', bu⟩; have vX : Hid (val X = val A * val D) := vX'; clear vX'; have lX : X.length ≤ A.length + D.length := mul_len (haw) (hdw) hX.1 nX vX.out; obtain ⟨pu, cu, rfl⟩ := rd_form hX; have huy := hX; have K2y : Blk w1 w.heap.size #[.bool g1, .slice p1 A.length c1, .slice p2 B.length c2] 65 := blk_keep bu (by repeat (first | with_reducible exact K2x | with_reducible refine blk_drew ?_ | with_reducible refine Blk.alloc ?_ _)); have K3y : Blk w1 (w.heap.size + 1) #[.bool g2, .slice p3 C.length c3, .slice p4 D.length c4] 65 := blk_keep bu (by repeat (first | with_reducible exact K3x | with_reducible refine blk_drew ?_ | with_reducible refine Blk.alloc ?_ _)); have K4y : Blk w1 (w.heap.size + 1 + 1) #[.bool false, .slice none 0 0, .slice none 0 0] 65 := blk_keep bu (by repeat (first | with_reducible exact K4x | with_reducible refine blk_drew ?_ | with_reducible refine Blk.alloc ?_ _)); have pry : Below w.heap.size w w1 := bel (by repeat (first | with_reducible exact prx | with_reducible refine bel_drw ?_ | with_reducible refine bel_alloc ?_)) bu; have h1y : Rd w1 (.slice p1 A.length c1) A := Rd.grow (by repeat (first | with_reducible exact h1x | with_reducible refine rd_drew ?_ | with_reducible refine rd_alloc ?_)) bu; have h2y : Rd w1 (.slice p2 B.length c2) B := Rd.grow (by repeat (first | with_reducible exact h2x | with_reducible refine rd_drew ?_ | with_reducible refine rd_alloc ?_)) bu; have h3y : Rd w1 (.slice p3 C.length c3) C := Rd.grow (by repeat (first | with_reducible exact h3x | with_reducible refine rd_drew ?_ | with_reducible refine rd_alloc ?_)) bu; have h4y : Rd w1 (.slice p4 D.length c4) D := Rd.grow (by repeat (first | with_reducible exact h4x | with_reducible refine rd_drew ?_ | with_reducible refine rd_alloc ?_)) bu; have K2c0y : w1.cell? ⟨w.heap.size, 0, none⟩ = some (.bool g1) := K2y.at 0; have K2c1y : w1.cell? ⟨w.heap.size, 1, none⟩ = some (.slice p1 A.length c1) := K2y.at 1; have K2c2y : w1.cell? ⟨w.heap.size, 2, none⟩ = some (.slice p2 B.length c2) := K2y.at 2; have K3c0y : w1.cell? ⟨w.heap.size + 1, 0, none⟩ = some (.bool g2) := K3y.at 0; have K3c1y : w1.cell? ⟨w.heap.size + 1, 1, none⟩ = some (.slice p3 C.length c3) := K3y.at 1; have K3c2y : w1.cell? ⟨w.heap.size + 1, 2, none⟩ = some (.slice p4 D.length c4) := K3y.at 2))
    | (go_at_call 68; ((with_reducible refine (Mul_any (.slice p2 B.length c2) (.slice p3 C.length c3) B C _ ?hr1 ?hr2 (by omega) (by omega)).mono ?_)); (case hr1 => exact (by repeat (first | with_reducible exact h2y | with_reducible refine rd_drew ?_ | with_reducible refine rd_alloc ?_))); (case hr2 => exact (by repeat (first | with_reducible exact h3y | with_reducible refine rd_drew ?_ | with_reducible refine rd_alloc ?_))); (rintro r w2 ⟨v', Y, rfl, hY, nY, vY', bv⟩; have vY : Hid (val Y = val B * val C) := vY'; clear vY'; have lY : Y.length ≤ B.length + C.length := mul_len (hbw) (hcw) hY.1 nY vY.out; obtain ⟨pv, cv, rfl⟩ := rd_form hY; have hvz := hY; have K2z : Blk w2 w.heap.size #[.bool g1, .slice p1 A.length c1, .slice p2 B.length c2] 65 := blk_keep bv (by repeat (first | with_reducible exact K2y | with_reducible refine blk_drew ?_ | with_reducible refine Blk.alloc ?_ _)); have K3z : Blk w2 (w.heap.size + 1) #[.bool g2, .slice p3 C.length c3, .slice p4 D.length c4] 65 := blk_keep bv (by repeat (first | with_reducible exact K3y | with_reducible refine blk_drew ?_ | with_reducible refine Blk.alloc ?_ _)); have K4z : Blk w2 (w.heap.size + 1 + 1) #[.bool false, .slice none 0 0, .slice none 0 0] 65 := blk_keep bv (by repeat (first | with_reducible exact K4y | with_reducible refine blk_drew ?_ | with_reducible refine Blk.alloc ?_ _)); have prz : Below w.heap.size w w2 := bel (by repeat (first | with_reducible exact pry | with_reducible refine bel_drw ?_ | with_reducible refine bel_alloc ?_)) bv; have h1z : Rd w2 (.slice p1 A.length c1) A := Rd.grow (by repeat (first | with_reducible exact h1y | with_reducible refine rd_drew ?_ | with_reducible refine rd_alloc ?_)) bv; have h2z : Rd w2 (.slice p2 B.length c2) B := Rd.grow (by repeat (first | with_reducible exact h2y | with_reducible refine rd_drew ?_ | with_reducible refine rd_alloc ?_)) bv; have h3z : Rd w2 (.slice p3 C.length c3) C := Rd.grow (by repeat (first | with_reducible exact h3y | with_reducible refine rd_drew ?_ | with_reducible refine rd_alloc ?_)) bv; have h4z : Rd w2 (.slice p4 D.length c4) D := Rd.grow (by repeat (first | with_reducible exact h4y | with_reducible refine rd_drew ?_ | with_reducible refine rd_alloc ?_)) bv; have huz : Rd w2 (.slice pu X.length cu) X := Rd.grow (by repeat (first | with_reducible exact huy | with_reducible refine rd_drew ?_ | with_reducible refine rd_alloc ?_)) bv; have K2c0z : w2.cell? ⟨w.heap.size, 0, none⟩ = some (.bool g1) := K2z.at 0; have K2c1z : w2.cell? ⟨w.heap.size, 1, none⟩ = some (.slice p1 A.length c1) := K2z.at 1; have K2c2z : w2.cell? ⟨w.heap.size, 2, none⟩ = some (.slice p2 B.length c2) := K2z.at 2; have K3c0z : w2.cell? ⟨w.heap.size + 1, 0, none⟩ = some (.bool g2) := K3z.at 0; have K3c1z : w2.cell? ⟨w.heap.size + 1, 1, none⟩ = some (.slice p3 C.length c3) := K3z.at 1; have K3c2z : w2.cell? ⟨w.heap.size + 1, 2, none⟩ = some (.slice p4 D.length c4) := K3z.at 2))
    | (go_at_call 70; ((with_reducible refine (Make_q gx (.slice pu X.length cu) (.slice pv Y.length cv) X Y 4000000001 _ ?hr1 ?hr2 nX nY (by omega) (by omega) (by decide) (by rw [vY.out]; exact BD.out)).mono ?_)); (case hr1 => exact (by repeat (first | with_reducible exact huz | with_reducible refine rd_drew ?_ | with_reducible refine rd_alloc ?_))); (case hr2 => exact (by repeat (first | with_reducible exact hvz | with_reducible refine rd_drew ?_ | with_reducible refine rd_alloc ?_))); (rintro r w6 ⟨v, rfl, hv6, bm⟩; rw [vX.out, vY.out] at hv6; have pr6 : Below w.heap.size w w6 := bel (by repeat (first | with_reducible exact prz | with_reducible refine bel_drw ?_ | with_reducible refine bel_alloc ?_)) bm; have K26 : Blk w6 w.heap.size #[.bool g1, .slice p1 A.length c1, .slice p2 B.length c2] 65 := blk_keep bm (by repeat (first | with_reducible exact K2z | with_reducible refine blk_drew ?_ | with_reducible refine Blk.alloc ?_ _)); have K36 : Blk w6 (w.heap.size + 1) #[.bool g2, .slice p3 C.length c3, .slice p4 D.length c4] 65 := blk_keep bm (by repeat (first | with_reducible exact K3z | with_reducible refine blk_drew ?_ | with_reducible refine Blk.alloc ?_ _)); have K46 : Blk w6 (w.heap.size + 1 + 1) #[.bool false, .slice none 0 0, .slice none 0 0] 65 := blk_keep bm (by repeat (first | with_reducible exact K4z | with_reducible refine blk_drew ?_ | with_reducible refine Blk.alloc ?_ _)); obtain ⟨N, M, p7, p8, c7, c8, rfl, hN, nN, vN', hM, nM, vM'⟩ := hv6; have vN : Hid _ := vN'; have vM : Hid _ := vM'; clear vN' vM'; have kq0 : w6.cell? ⟨w.heap.size + 1 + 1, 0, none⟩ = some (.bool false) := K46.at 0; have kq1 : w6.cell? ⟨w.heap.size + 1 + 1, 1, none⟩ = some (.slice none 0 0) := K46.at 1; have kq2 : w6.cell? ⟨w.heap.size + 1 + 1, 2, none⟩ = some (.slice none 0 0) := K46.at 2; have kf0 := K46.free 0; have kf1 := K46.free 1; have kf2 := K46.free 2; have K2c06 : w6.cell? ⟨w.heap.size, 0, none⟩ = some (.bool g1) := K26.at 0; have K2c16 : w6.cell? ⟨w.heap.size, 1, none⟩ = some (.slice p1 A.length c1) := K26.at 1; have K2c26 : w6.cell? ⟨w.heap.size, 2, none⟩ = some (.slice p2 B.length c2) := K26.at 2; have K3c06 : w6.cell? ⟨w.heap.size + 1, 0, none⟩ = some (.bool g2) := K36.at 0; have K3c16 : w6.cell? ⟨w.heap.size + 1, 1, none⟩ = some (.slice p3 C.length c3) := K36.at 1; have K3c26 : w6.cell? ⟨w.heap.size + 1, 2, none⟩ = some (.slice p4 D.length c4) := K36.at 2))
    | fail)
  all_goals
    go_wp2_with fail
    obtain ⟨F0, F1, F2, FB⟩ := put3 (.bool _) (.slice p7 N.length c7) (.slice p8 M.length c8) kq0 kq1 kq2
    exact bodyPost_ret (v := .agg #[.bool _, .slice p7 N.length c7, .slice p8 M.length c8]) (by simp [results, Tryz.results43, go_sem, F0, F1, F2]) rfl ⟨_, rfl, ⟨N, M, _, _, _, _, rfl, hN.putQ K46, nN, vN.out, hM.putQ K46, nM, vM.out⟩, FB _ _ (by omega) pr6⟩
end Go.Proofs.YtmopfnhjooopkaaGreatDoor.L

namespace Go.Proofs.YtmopfnhjooopkaaGreatDoor.L
open Go.RowKit Tl

/-- Q's Div of the reference. -/
theorem QDiv_any (a b : Value) (r s : Rat) (K : Nat) (w : World) (ha : IsQ w a r) (hb : IsQ w b s) (hr : QS r K) (hs : QS s K) (hK : K ≤ 1000000000) (sz : s ≠ 0) :
    Calls Tryz.prog 43 #[a, b] w fun e w' => ∃ v, e = .returned v ∧ IsQ w' v (r / s) ∧ Below w.heap.size w w' := by
  obtain ⟨A, B, p1, p2, c1, c2, rfl, h1, n1, v1, h2, n2, v2⟩ := ha
  obtain ⟨C, D, p3, p4, c3, c4, rfl, h3, n3, v3, h4, n4, v4⟩ := hb
  have l1 : A.length ≤ K := len_of_lt h1.1 n1 (by rw [v1]; exact hr.1)
  have l2 : B.length ≤ K := len_of_lt h2.1 n2 (by rw [v2]; exact hr.2)
  have l3 : C.length ≤ K := len_of_lt h3.1 n3 (by rw [v3]; exact hs.1)
  have l4 : D.length ≤ K := len_of_lt h4.1 n4 (by rw [v4]; exact hs.2)
  have b0 : 0 < val B := by rw [v2]; exact den_pos' r
  have nz : s.num ≠ 0 := fun k => sz (Rat.num_eq_zero.1 k)
  have c0 : 0 < val C := by rw [v3]; omega
  have er := num_sg r
  have := qdiv_raw (decide (r.num < 0)) (decide (s.num < 0)) _ rfl p1 p2 p3 p4 c1 c2 c3 c4 A B C D w h1 h2 h3 h4 (by omega) (by omega) (by omega) (by omega) b0 c0
  rw [v1, v2, v3, v4] at this
  have e : mkRat (sgI (!(decide (r.num < 0) == decide (s.num < 0))) ((r.num.natAbs : Int) * s.den)) ((r.den : Int) * s.num.natAbs).toNat = r / s := by
    rw [Rat.div_def, Rat.mul_def', Rat.num_inv, Rat.den_inv, if_neg nz]
    congr 1
    by_cases c : s.num < 0
    · rw [decide_eq_true c, Int.sign_eq_neg_one_of_neg c]
      generalize decide (r.num < 0) = g at *
      rw [er]
      cases g
      · show sgI true _ = _
        simp only [sgI, Bool.false_eq_true, if_false, if_true]; grind
      · show sgI false _ = _
        simp only [sgI, Bool.false_eq_true, if_false, if_true]; grind
    · rw [decide_eq_false c, Int.sign_eq_one_of_pos (by omega)]
      generalize decide (r.num < 0) = g at *
      rw [er]
      cases g
      · show sgI false _ = _
        simp only [sgI, Bool.false_eq_true, if_false]; grind
      · show sgI true _ = _
        simp only [sgI, if_true]; grind
  rw [e] at this
  exact this
end Go.Proofs.YtmopfnhjooopkaaGreatDoor.L
