import Derived.Test.YtfalncbcomlelaaGreatDoorPart14
import Derived.Test.YtfalncbcomlelaaGreatDoorPart15
import Derived.Test.YtfalncbcomlelaaGreatDoorPart12
import Derived.Test.YtfalncbcomlelaaGreatDoorPart08

namespace Go.Proofs.YtfalncbcomlelaaGreatDoor.L
open Go.RowKit Tl

set_option maxHeartbeats 6400000 in
set_option maxRecDepth 100000 in
theorem qcmp_neg (g1 g2 : Bool) (p1 p2 p3 p4 : Option Addr) (c1 c2 c3 c4 : Nat) (A B C D : List Int) (w : World) (h1 : Rd w (.slice p1 A.length c1) A) (h2 : Rd w (.slice p2 B.length c2) B) (h3 : Rd w (.slice p3 C.length c3) C) (h4 : Rd w (.slice p4 D.length c4) D) (l1 : A.length ≤ 1000000000) (l2 : B.length ≤ 1000000000) (l3 : C.length ≤ 1000000000) (l4 : D.length ≤ 1000000000) (hs : (sg3 g1 A.length != sg3 g2 C.length) = false) (hg : g1 = true) :
    Calls Tryz.prog 45 #[.agg #[.bool g1, .slice p1 A.length c1, .slice p2 B.length c2], .agg #[.bool g2, .slice p3 C.length c3, .slice p4 D.length c4]] w fun e w' => e = .returned (.int .i64 (-cmp3 (val A * val D) (val C * val B))) ∧ Below w.heap.size w w' := by
  subst hg
  have haw := h1.1
  have hbw := h2.1
  have hcw := h3.1
  have hdw := h4.1
  go_enter Tryz.func45, Tryz.ntmps45
  go_upto_region 1 with fail
  have K2x : Blk ((w.alloc (.cells #[.bool true, .slice p1 A.length c1, .slice p2 B.length c2] 66)).alloc (.cells #[.bool g2, .slice p3 C.length c3, .slice p4 D.length c4] 66)) w.heap.size #[.bool true, .slice p1 A.length c1, .slice p2 B.length c2] 66 := (Blk.new w _ _).alloc _
  have K3x : Blk ((w.alloc (.cells #[.bool true, .slice p1 A.length c1, .slice p2 B.length c2] 66)).alloc (.cells #[.bool g2, .slice p3 C.length c3, .slice p4 D.length c4] 66)) (w.heap.size + 1) #[.bool g2, .slice p3 C.length c3, .slice p4 D.length c4] 66 := blk_at (by simp)
  have prx : Below w.heap.size w ((w.alloc (.cells #[.bool true, .slice p1 A.length c1, .slice p2 B.length c2] 66)).alloc (.cells #[.bool g2, .slice p3 C.length c3, .slice p4 D.length c4] 66)) := ((Below.refl _ _).alloc (Nat.le_refl _) _).alloc (by simp) _
  have h1x := h1.grow prx
  have h2x := h2.grow prx
  have h3x := h3.grow prx
  have h4x := h4.grow prx
  clear h1 h2 h3 h4
  generalize ((w.alloc (.cells #[.bool true, .slice p1 A.length c1, .slice p2 B.length c2] 66)).alloc (.cells #[.bool g2, .slice p3 C.length c3, .slice p4 D.length c4] 66)) = W at *
  have K2c0x : W.cell? ⟨w.heap.size, 0, none⟩ = some (.bool true) := K2x.at 0
  have K2c1x : W.cell? ⟨w.heap.size, 1, none⟩ = some (.slice p1 A.length c1) := K2x.at 1
  have K2c2x : W.cell? ⟨w.heap.size, 2, none⟩ = some (.slice p2 B.length c2) := K2x.at 2
  have K3c0x : W.cell? ⟨w.heap.size + 1, 0, none⟩ = some (.bool g2) := K3x.at 0
  have K3c1x : W.cell? ⟨w.heap.size + 1, 1, none⟩ = some (.slice p3 C.length c3) := K3x.at 1
  have K3c2x : W.cell? ⟨w.heap.size + 1, 2, none⟩ = some (.slice p4 D.length c4) := K3x.at 2
  go_region_held3 (fun x => x.cell? ⟨w.heap.size, 0, none⟩ = some (.bool true) ∧ x.cell? ⟨w.heap.size, 1, none⟩ = some (.slice p1 A.length c1) ∧ x.cell? ⟨w.heap.size, 2, none⟩ = some (.slice p2 B.length c2) ∧ x.cell? ⟨w.heap.size + 1, 0, none⟩ = some (.bool g2) ∧ x.cell? ⟨w.heap.size + 1, 1, none⟩ = some (.slice p3 C.length c3) ∧ x.cell? ⟨w.heap.size + 1, 2, none⟩ = some (.slice p4 D.length c4)) (first | ((try dsimp only); (refine ⟨?_, ?_, ?_, ?_, ?_, ?_⟩); (all_goals (repeat (first | with_reducible exact K2c0z | with_reducible exact K2c1z | with_reducible exact K2c2z | with_reducible exact K3c0z | with_reducible exact K3c1z | with_reducible exact K3c2z | with_reducible exact K2c0y | with_reducible exact K2c1y | with_reducible exact K2c2y | with_reducible exact K3c0y | with_reducible exact K3c1y | with_reducible exact K3c2y | with_reducible exact K2c0x | with_reducible exact K2c1x | with_reducible exact K2c2x | with_reducible exact K3c0x | with_reducible exact K3c1x | with_reducible exact K3c2x | with_reducible refine cell_drew ?_ | with_reducible refine cell_alloc ?_))); done) | go_keep) (first
    | (go_at_call 33; ((with_reducible refine (Sign_fn true p1 p2 A.length c1 B.length c2 _).mono ?_)); (rintro r wa1 ⟨rfl, ba1⟩; have K2y : Blk wa1 w.heap.size #[.bool true, .slice p1 A.length c1, .slice p2 B.length c2] 66 := blk_keep ba1 (by repeat (first | with_reducible exact K2x | with_reducible refine blk_drew ?_ | with_reducible refine Blk.alloc ?_ _)); have K3y : Blk wa1 (w.heap.size + 1) #[.bool g2, .slice p3 C.length c3, .slice p4 D.length c4] 66 := blk_keep ba1 (by repeat (first | with_reducible exact K3x | with_reducible refine blk_drew ?_ | with_reducible refine Blk.alloc ?_ _)); have pry : Below w.heap.size w wa1 := bel (by repeat (first | with_reducible exact prx | with_reducible refine bel_drw ?_ | with_reducible refine bel_alloc ?_)) ba1; have h1y : Rd wa1 (.slice p1 A.length c1) A := Rd.grow (by repeat (first | with_reducible exact h1x | with_reducible refine rd_drew ?_ | with_reducible refine rd_alloc ?_)) ba1; have h2y : Rd wa1 (.slice p2 B.length c2) B := Rd.grow (by repeat (first | with_reducible exact h2x | with_reducible refine rd_drew ?_ | with_reducible refine rd_alloc ?_)) ba1; have h3y : Rd wa1 (.slice p3 C.length c3) C := Rd.grow (by repeat (first | with_reducible exact h3x | with_reducible refine rd_drew ?_ | with_reducible refine rd_alloc ?_)) ba1; have h4y : Rd wa1 (.slice p4 D.length c4) D := Rd.grow (by repeat (first | with_reducible exact h4x | with_reducible refine rd_drew ?_ | with_reducible refine rd_alloc ?_)) ba1; have K2c0y : wa1.cell? ⟨w.heap.size, 0, none⟩ = some (.bool true) := K2y.at 0; have K2c1y : wa1.cell? ⟨w.heap.size, 1, none⟩ = some (.slice p1 A.length c1) := K2y.at 1; have K2c2y : wa1.cell? ⟨w.heap.size, 2, none⟩ = some (.slice p2 B.length c2) := K2y.at 2; have K3c0y : wa1.cell? ⟨w.heap.size + 1, 0, none⟩ = some (.bool g2) := K3y.at 0; have K3c1y : wa1.cell? ⟨w.heap.size + 1, 1, none⟩ = some (.slice p3 C.length c3) := K3y.at 1; have K3c2y : wa1.cell? ⟨w.heap.size + 1, 2, none⟩ = some (.slice p4 D.length c4) := K3y.at 2))
    | (go_at_call 33; ((with_reducible refine (Sign_fn g2 p3 p4 C.length c3 D.length c4 _).mono ?_)); (rintro r wb1 ⟨rfl, bb1⟩; have K2z : Blk wb1 w.heap.size #[.bool true, .slice p1 A.length c1, .slice p2 B.length c2] 66 := blk_keep bb1 (by repeat (first | with_reducible exact K2y | with_reducible refine blk_drew ?_ | with_reducible refine Blk.alloc ?_ _)); have K3z : Blk wb1 (w.heap.size + 1) #[.bool g2, .slice p3 C.length c3, .slice p4 D.length c4] 66 := blk_keep bb1 (by repeat (first | with_reducible exact K3y | with_reducible refine blk_drew ?_ | with_reducible refine Blk.alloc ?_ _)); have prz : Below w.heap.size w wb1 := bel (by repeat (first | with_reducible exact pry | with_reducible refine bel_drw ?_ | with_reducible refine bel_alloc ?_)) bb1; have h1z : Rd wb1 (.slice p1 A.length c1) A := Rd.grow (by repeat (first | with_reducible exact h1y | with_reducible refine rd_drew ?_ | with_reducible refine rd_alloc ?_)) bb1; have h2z : Rd wb1 (.slice p2 B.length c2) B := Rd.grow (by repeat (first | with_reducible exact h2y | with_reducible refine rd_drew ?_ | with_reducible refine rd_alloc ?_)) bb1; have h3z : Rd wb1 (.slice p3 C.length c3) C := Rd.grow (by repeat (first | with_reducible exact h3y | with_reducible refine rd_drew ?_ | with_reducible refine rd_alloc ?_)) bb1; have h4z : Rd wb1 (.slice p4 D.length c4) D := Rd.grow (by repeat (first | with_reducible exact h4y | with_reducible refine rd_drew ?_ | with_reducible refine rd_alloc ?_)) bb1; have K2c0z : wb1.cell? ⟨w.heap.size, 0, none⟩ = some (.bool true) := K2z.at 0; have K2c1z : wb1.cell? ⟨w.heap.size, 1, none⟩ = some (.slice p1 A.length c1) := K2z.at 1; have K2c2z : wb1.cell? ⟨w.heap.size, 2, none⟩ = some (.slice p2 B.length c2) := K2z.at 2; have K3c0z : wb1.cell? ⟨w.heap.size + 1, 0, none⟩ = some (.bool g2) := K3z.at 0; have K3c1z : wb1.cell? ⟨w.heap.size + 1, 1, none⟩ = some (.slice p3 C.length c3) := K3z.at 1; have K3c2z : wb1.cell? ⟨w.heap.size + 1, 2, none⟩ = some (.slice p4 D.length c4) := K3z.at 2))
    | fail)
  go_wp2_with fail
  go_region_held3 (fun x => x.cell? ⟨w.heap.size, 0, none⟩ = some (.bool true) ∧ x.cell? ⟨w.heap.size, 1, none⟩ = some (.slice p1 A.length c1) ∧ x.cell? ⟨w.heap.size, 2, none⟩ = some (.slice p2 B.length c2) ∧ x.cell? ⟨w.heap.size + 1, 0, none⟩ = some (.bool g2) ∧ x.cell? ⟨w.heap.size + 1, 1, none⟩ = some (.slice p3 C.length c3) ∧ x.cell? ⟨w.heap.size + 1, 2, none⟩ = some (.slice p4 D.length c4)) (first | ((try dsimp only); (refine ⟨?_, ?_, ?_, ?_, ?_, ?_⟩); (all_goals (repeat (first | with_reducible exact K2c0n | with_reducible exact K2c1n | with_reducible exact K2c2n | with_reducible exact K3c0n | with_reducible exact K3c1n | with_reducible exact K3c2n | with_reducible exact K2c0m | with_reducible exact K2c1m | with_reducible exact K2c2m | with_reducible exact K3c0m | with_reducible exact K3c1m | with_reducible exact K3c2m | with_reducible exact K2c0k | with_reducible exact K2c1k | with_reducible exact K2c2k | with_reducible exact K3c0k | with_reducible exact K3c1k | with_reducible exact K3c2k | with_reducible exact K2c0z | with_reducible exact K2c1z | with_reducible exact K2c2z | with_reducible exact K3c0z | with_reducible exact K3c1z | with_reducible exact K3c2z | with_reducible refine cell_drew ?_ | with_reducible refine cell_alloc ?_))); done) | go_keep) (first
    | (go_at_call 71; ((with_reducible refine (Mul_any (.slice p1 A.length c1) (.slice p4 D.length c4) A D _ ?hr1 ?hr2 (by omega) (by omega)).mono ?_)); (case hr1 => exact (by repeat (first | with_reducible exact h1z | with_reducible refine rd_drew ?_ | with_reducible refine rd_alloc ?_))); (case hr2 => exact (by repeat (first | with_reducible exact h4z | with_reducible refine rd_drew ?_ | with_reducible refine rd_alloc ?_))); (rintro r w1 ⟨u', X, rfl, hX, nX, vX', bu⟩; have vX : Hid (val X = val A * val D) := vX'; clear vX'; have lX : X.length ≤ A.length + D.length := mul_len (haw) (hdw) hX.1 nX vX.out; obtain ⟨pu, cu, rfl⟩ := rd_form hX; have huk := hX; have K2k : Blk w1 w.heap.size #[.bool true, .slice p1 A.length c1, .slice p2 B.length c2] 66 := blk_keep bu (by repeat (first | with_reducible exact K2z | with_reducible refine blk_drew ?_ | with_reducible refine Blk.alloc ?_ _)); have K3k : Blk w1 (w.heap.size + 1) #[.bool g2, .slice p3 C.length c3, .slice p4 D.length c4] 66 := blk_keep bu (by repeat (first | with_reducible exact K3z | with_reducible refine blk_drew ?_ | with_reducible refine Blk.alloc ?_ _)); have prk : Below w.heap.size w w1 := bel (by repeat (first | with_reducible exact prz | with_reducible refine bel_drw ?_ | with_reducible refine bel_alloc ?_)) bu; have h1k : Rd w1 (.slice p1 A.length c1) A := Rd.grow (by repeat (first | with_reducible exact h1z | with_reducible refine rd_drew ?_ | with_reducible refine rd_alloc ?_)) bu; have h2k : Rd w1 (.slice p2 B.length c2) B := Rd.grow (by repeat (first | with_reducible exact h2z | with_reducible refine rd_drew ?_ | with_reducible refine rd_alloc ?_)) bu; have h3k : Rd w1 (.slice p3 C.length c3) C := Rd.grow (by repeat (first | with_reducible exact h3z | with_reducible refine rd_drew ?_ | with_reducible refine rd_alloc ?_)) bu; have h4k : Rd w1 (.slice p4 D.length c4) D := Rd.grow (by repeat (first | with_reducible exact h4z | with_reducible refine rd_drew ?_ | with_reducible refine rd_alloc ?_)) bu; have K2c0k : w1.cell? ⟨w.heap.size, 0, none⟩ = some (.bool true) := K2k.at 0; have K2c1k : w1.cell? ⟨w.heap.size, 1, none⟩ = some (.slice p1 A.length c1) := K2k.at 1; have K2c2k : w1.cell? ⟨w.heap.size, 2, none⟩ = some (.slice p2 B.length c2) := K2k.at 2; have K3c0k : w1.cell? ⟨w.heap.size + 1, 0, none⟩ = some (.bool g2) := K3k.at 0; have K3c1k : w1.cell? ⟨w.heap.size + 1, 1, none⟩ = some (.slice p3 C.length c3) := K3k.at 1; have K3c2k : w1.cell? ⟨w.heap.size + 1, 2, none⟩ = some (.slice p4 D.length c4) := K3k.at 2))
    | (go_at_call 71; ((with_reducible refine (Mul_any (.slice p3 C.length c3) (.slice p2 B.length c2) C B _ ?hr1 ?hr2 (by omega) (by omega)).mono ?_)); (case hr1 => exact (by repeat (first | with_reducible exact h3k | with_reducible refine rd_drew ?_ | with_reducible refine rd_alloc ?_))); (case hr2 => exact (by repeat (first | with_reducible exact h2k | with_reducible refine rd_drew ?_ | with_reducible refine rd_alloc ?_))); (rintro r w2 ⟨v', Y, rfl, hY, nY, vY', bv⟩; have vY : Hid (val Y = val C * val B) := vY'; clear vY'; have lY : Y.length ≤ C.length + B.length := mul_len (hcw) (hbw) hY.1 nY vY.out; obtain ⟨pv, cv, rfl⟩ := rd_form hY; have hvm := hY; have K2m : Blk w2 w.heap.size #[.bool true, .slice p1 A.length c1, .slice p2 B.length c2] 66 := blk_keep bv (by repeat (first | with_reducible exact K2k | with_reducible refine blk_drew ?_ | with_reducible refine Blk.alloc ?_ _)); have K3m : Blk w2 (w.heap.size + 1) #[.bool g2, .slice p3 C.length c3, .slice p4 D.length c4] 66 := blk_keep bv (by repeat (first | with_reducible exact K3k | with_reducible refine blk_drew ?_ | with_reducible refine Blk.alloc ?_ _)); have prm : Below w.heap.size w w2 := bel (by repeat (first | with_reducible exact prk | with_reducible refine bel_drw ?_ | with_reducible refine bel_alloc ?_)) bv; have h1m : Rd w2 (.slice p1 A.length c1) A := Rd.grow (by repeat (first | with_reducible exact h1k | with_reducible refine rd_drew ?_ | with_reducible refine rd_alloc ?_)) bv; have h2m : Rd w2 (.slice p2 B.length c2) B := Rd.grow (by repeat (first | with_reducible exact h2k | with_reducible refine rd_drew ?_ | with_reducible refine rd_alloc ?_)) bv; have h3m : Rd w2 (.slice p3 C.length c3) C := Rd.grow (by repeat (first | with_reducible exact h3k | with_reducible refine rd_drew ?_ | with_reducible refine rd_alloc ?_)) bv; have h4m : Rd w2 (.slice p4 D.length c4) D := Rd.grow (by repeat (first | with_reducible exact h4k | with_reducible refine rd_drew ?_ | with_reducible refine rd_alloc ?_)) bv; have hum : Rd w2 (.slice pu X.length cu) X := Rd.grow (by repeat (first | with_reducible exact huk | with_reducible refine rd_drew ?_ | with_reducible refine rd_alloc ?_)) bv; have K2c0m : w2.cell? ⟨w.heap.size, 0, none⟩ = some (.bool true) := K2m.at 0; have K2c1m : w2.cell? ⟨w.heap.size, 1, none⟩ = some (.slice p1 A.length c1) := K2m.at 1; have K2c2m : w2.cell? ⟨w.heap.size, 2, none⟩ = some (.slice p2 B.length c2) := K2m.at 2; have K3c0m : w2.cell? ⟨w.heap.size + 1, 0, none⟩ = some (.bool g2) := K3m.at 0; have K3c1m : w2.cell? ⟨w.heap.size + 1, 1, none⟩ = some (.slice p3 C.length c3) := K3m.at 1; have K3c2m : w2.cell? ⟨w.heap.size + 1, 2, none⟩ = some (.slice p4 D.length c4) := K3m.at 2))
    | (go_at_call 38; ((with_reducible refine (Cmp_any _ _ X Y _ ?hr1 ?hr2 nX nY (by omega)).mono ?_)); (case hr1 => exact (by repeat (first | with_reducible exact hum | with_reducible refine rd_drew ?_ | with_reducible refine rd_alloc ?_))); (case hr2 => exact (by repeat (first | with_reducible exact hvm | with_reducible refine rd_drew ?_ | with_reducible refine rd_alloc ?_))); (rintro r w4 ⟨rfl, bc⟩; have K2n : Blk w4 w.heap.size #[.bool true, .slice p1 A.length c1, .slice p2 B.length c2] 66 := blk_keep bc (by repeat (first | with_reducible exact K2m | with_reducible refine blk_drew ?_ | with_reducible refine Blk.alloc ?_ _)); have K3n : Blk w4 (w.heap.size + 1) #[.bool g2, .slice p3 C.length c3, .slice p4 D.length c4] 66 := blk_keep bc (by repeat (first | with_reducible exact K3m | with_reducible refine blk_drew ?_ | with_reducible refine Blk.alloc ?_ _)); have prn : Below w.heap.size w w4 := bel (by repeat (first | with_reducible exact prm | with_reducible refine bel_drw ?_ | with_reducible refine bel_alloc ?_)) bc; have h1n : Rd w4 (.slice p1 A.length c1) A := Rd.grow (by repeat (first | with_reducible exact h1m | with_reducible refine rd_drew ?_ | with_reducible refine rd_alloc ?_)) bc; have h2n : Rd w4 (.slice p2 B.length c2) B := Rd.grow (by repeat (first | with_reducible exact h2m | with_reducible refine rd_drew ?_ | with_reducible refine rd_alloc ?_)) bc; have h3n : Rd w4 (.slice p3 C.length c3) C := Rd.grow (by repeat (first | with_reducible exact h3m | with_reducible refine rd_drew ?_ | with_reducible refine rd_alloc ?_)) bc; have h4n : Rd w4 (.slice p4 D.length c4) D := Rd.grow (by repeat (first | with_reducible exact h4m | with_reducible refine rd_drew ?_ | with_reducible refine rd_alloc ?_)) bc; have hun : Rd w4 (.slice pu X.length cu) X := Rd.grow (by repeat (first | with_reducible exact hum | with_reducible refine rd_drew ?_ | with_reducible refine rd_alloc ?_)) bc; have hvn : Rd w4 (.slice pv Y.length cv) Y := Rd.grow (by repeat (first | with_reducible exact hvm | with_reducible refine rd_drew ?_ | with_reducible refine rd_alloc ?_)) bc; have K2c0n : w4.cell? ⟨w.heap.size, 0, none⟩ = some (.bool true) := K2n.at 0; have K2c1n : w4.cell? ⟨w.heap.size, 1, none⟩ = some (.slice p1 A.length c1) := K2n.at 1; have K2c2n : w4.cell? ⟨w.heap.size, 2, none⟩ = some (.slice p2 B.length c2) := K2n.at 2; have K3c0n : w4.cell? ⟨w.heap.size + 1, 0, none⟩ = some (.bool g2) := K3n.at 0; have K3c1n : w4.cell? ⟨w.heap.size + 1, 1, none⟩ = some (.slice p3 C.length c3) := K3n.at 1; have K3c2n : w4.cell? ⟨w.heap.size + 1, 2, none⟩ = some (.slice p4 D.length c4) := K3n.at 2))
    | fail)
  have EQ : Hid (cmp3 (val X) (val Y) = cmp3 (val A * val D) (val C * val B)) := by show cmp3 (val X) (val Y) = _; rw [vX.out, vY.out]
  have cb := cmp3_bd (val X) (val Y)
  generalize cmp3 (val X) (val Y) = cc at *
  have hw1 : IntKind.i64.wrap (-cc) = -cc := wrap_self _ (by omega) (by omega)
  go_wp2
  go_ret
  exact ⟨by rw [← EQ.out]; rfl, prn⟩
end Go.Proofs.YtfalncbcomlelaaGreatDoor.L

namespace Go.Proofs.YtfalncbcomlelaaGreatDoor.L
open Go.RowKit Tl

/-- How two exact numbers stand to each other. -/
def cmpR (r s : Rat) : Int := if r < s then -1 else if s < r then 1 else 0
theorem cmpR_eq (r s : Rat) : cmpR r s = cmp3 (r.num * s.den) (s.num * r.den) := by
  unfold cmpR cmp3
  simp only [Rat.lt_iff]
theorem sg3_num {xs : List Int} {r : Rat} (h : Wd xs) (n : Nm xs) (v : val xs = (r.num.natAbs : Int)) : sg3 (decide (r.num < 0)) xs.length = if r.num < 0 then -1 else if r.num = 0 then 0 else 1 := by
  unfold sg3
  have e : xs.length = 0 ↔ r.num = 0 := by
    constructor
    · intro k
      have : xs = [] := List.eq_nil_of_length_eq_zero k
      rw [this] at v
      rw [val_nil] at v
      omega
    · intro k
      have : val xs = 0 := by rw [v, k]; rfl
      rw [val_eq_zero h n] at this
      rw [this]; rfl
  by_cases c : r.num = 0
  · rw [if_pos (e.2 c), if_neg (by omega), if_pos c]
  · rw [if_neg (fun k => c (e.1 k))]
    by_cases d : r.num < 0
    · rw [if_pos d, decide_eq_true d, if_pos rfl]
    · rw [if_neg d, if_neg c, decide_eq_false d, if_neg (by simp)]
theorem neg_mul_of {a b : Int} (ha : a < 0) (hb : 0 < b) : a * b < 0 := by
  have := Int.mul_lt_mul_of_pos_right ha hb; omega
/-- Q's Cmp of the reference. -/
theorem QCmp_any (a b : Value) (r s : Rat) (K : Nat) (w : World) (ha : IsQ w a r) (hb : IsQ w b s) (hr : QS r K) (hs : QS s K) (hK : K ≤ 1000000000) :
    Calls Tryz.prog 45 #[a, b] w fun e w' => e = .returned (.int .i64 (cmpR r s)) ∧ Below w.heap.size w w' := by
  obtain ⟨A, B, p1, p2, c1, c2, rfl, h1, n1, v1, h2, n2, v2⟩ := ha
  obtain ⟨C, D, p3, p4, c3, c4, rfl, h3, n3, v3, h4, n4, v4⟩ := hb
  have l1 : A.length ≤ K := len_of_lt h1.1 n1 (by rw [v1]; exact hr.1)
  have l2 : B.length ≤ K := len_of_lt h2.1 n2 (by rw [v2]; exact hr.2)
  have l3 : C.length ≤ K := len_of_lt h3.1 n3 (by rw [v3]; exact hs.1)
  have l4 : D.length ≤ K := len_of_lt h4.1 n4 (by rw [v4]; exact hs.2)
  have s1 := sg3_num h1.1 n1 v1
  have s2 := sg3_num h3.1 n3 v3
  have dr := den_pos' r
  have ds := den_pos' s
  have f1 : (r.num < 0 → r.num * s.den < 0) ∧ (r.num = 0 → r.num * s.den = 0) ∧ (0 < r.num → 0 < r.num * s.den) := ⟨fun k => neg_mul_of k ds, fun k => by rw [k, Int.zero_mul], fun k => Int.mul_pos k ds⟩
  have f2 : (s.num < 0 → s.num * r.den < 0) ∧ (s.num = 0 → s.num * r.den = 0) ∧ (0 < s.num → 0 < s.num * r.den) := ⟨fun k => neg_mul_of k dr, fun k => by rw [k, Int.zero_mul], fun k => Int.mul_pos k dr⟩
  rw [cmpR_eq]
  by_cases e : sg3 (decide (r.num < 0)) A.length = sg3 (decide (s.num < 0)) C.length
  · have hs : (sg3 (decide (r.num < 0)) A.length != sg3 (decide (s.num < 0)) C.length) = false := by rw [e]; simp
    rw [s1, s2] at e
    by_cases ng : r.num < 0
    · have ng2 : s.num < 0 := by
        rw [if_pos ng] at e
        by_cases k : s.num < 0
        · exact k
        · rw [if_neg k] at e; split at e <;> omega
      have := qcmp_neg _ _ p1 p2 p3 p4 c1 c2 c3 c4 A B C D w h1 h2 h3 h4 (by omega) (by omega) (by omega) (by omega) hs (decide_eq_true ng)
      rw [v1, v2, v3, v4, show (r.num.natAbs : Int) * s.den = -(r.num * s.den) from by rw [← Int.neg_mul]; congr 1; omega, show (s.num.natAbs : Int) * r.den = -(s.num * r.den) from by rw [← Int.neg_mul]; congr 1; omega] at this
      have c : -cmp3 (-(r.num * s.den)) (-(s.num * r.den)) = cmp3 (r.num * s.den) (s.num * r.den) := by
        unfold cmp3
        generalize r.num * s.den = x
        generalize s.num * r.den = y
        by_cases k : x < y
        · rw [if_neg (show ¬ -x < -y by omega), if_pos (show -y < -x by omega), if_pos k]
        · by_cases k2 : y < x
          · rw [if_pos (show -x < -y by omega), if_neg k, if_pos k2]; rfl
          · rw [if_neg (show ¬ -x < -y by omega), if_neg (show ¬ -y < -x by omega), if_neg k, if_neg k2]; rfl
      rw [c] at this
      exact this
    · have ng2 : ¬ s.num < 0 := by
        rw [if_neg ng] at e
        intro k
        rw [if_pos k] at e; split at e <;> omega
      have := qcmp_pos _ _ p1 p2 p3 p4 c1 c2 c3 c4 A B C D w h1 h2 h3 h4 (by omega) (by omega) (by omega) (by omega) hs (decide_eq_false ng)
      rw [v1, v2, v3, v4, show (r.num.natAbs : Int) = r.num from by omega, show (s.num.natAbs : Int) = s.num from by omega] at this
      exact this
  · have hs : (sg3 (decide (r.num < 0)) A.length != sg3 (decide (s.num < 0)) C.length) = true := by rw [bne_iff_ne]; exact e
    by_cases l : sg3 (decide (r.num < 0)) A.length < sg3 (decide (s.num < 0)) C.length
    · have := qcmp_below _ _ p1 p2 p3 p4 c1 c2 c3 c4 A B C D w h1 h2 h3 h4 hs l
      rw [s1, s2] at l
      have k : r.num * s.den < s.num * r.den := by
        by_cases x1 : r.num < 0
        · have := f1.1 x1
          by_cases x2 : s.num < 0
          · rw [if_pos x1, if_pos x2] at l; omega
          · by_cases x3 : s.num = 0
            · have := f2.2.1 x3; omega
            · have := f2.2.2 (by omega); omega
        · rw [if_neg x1] at l
          by_cases x2 : s.num < 0
          · rw [if_pos x2] at l; split at l <;> omega
          · rw [if_neg x2] at l
            by_cases x3 : s.num = 0
            · rw [if_pos x3] at l; split at l <;> omega
            · by_cases x4 : r.num = 0
              · have := f1.2.1 x4; have := f2.2.2 (by omega); omega
              · rw [if_neg x3, if_neg x4] at l; omega
      unfold cmp3
      rw [if_pos k]
      exact this
    · have := qcmp_above _ _ p1 p2 p3 p4 c1 c2 c3 c4 A B C D w h1 h2 h3 h4 hs l
      rw [s1, s2] at l e
      have k : s.num * r.den < r.num * s.den := by
        by_cases x1 : s.num < 0
        · have := f2.1 x1
          by_cases x2 : r.num < 0
          · rw [if_pos x1, if_pos x2] at e; exact absurd rfl e
          · by_cases x3 : r.num = 0
            · have := f1.2.1 x3; omega
            · have := f1.2.2 (by omega); omega
        · rw [if_neg x1] at l e
          by_cases x2 : r.num < 0
          · rw [if_pos x2] at l; split at l <;> omega
          · rw [if_neg x2] at l e
            by_cases x3 : r.num = 0
            · rw [if_pos x3] at l e
              by_cases x4 : s.num = 0
              · rw [if_pos x4] at e; exact absurd rfl e
              · rw [if_neg x4] at l; omega
            · by_cases x4 : s.num = 0
              · have := f2.2.1 x4; have := f1.2.2 (by omega); omega
              · rw [if_neg x3, if_neg x4] at e; exact absurd rfl e
      unfold cmp3
      rw [if_neg (by omega), if_pos k]
      exact this
end Go.Proofs.YtfalncbcomlelaaGreatDoor.L

namespace Go.Proofs.YtfalncbcomlelaaGreatDoor.L
open Go.RowKit Tl

set_option maxHeartbeats 1600000 in
set_option maxRecDepth 100000 in
theorem Of_pos (n : Int) (n0 : 0 ≤ n) (n1 : n < 9223372036854775808) (w : World) :
    Calls Tryz.prog 56 #[.int .i64 n] w fun e w' => ∃ u1 u2 ns, e = .returned (.agg #[.bool false, u1, u2]) ∧ Rd w' u1 ns ∧ Nm ns ∧ val ns = n ∧ Rd w' u2 [1] ∧ Below w.heap.size w w' := by
  have hz : ¬ n < 0 := by omega
  have K0 := Blk.new w #[.bool false, .slice none 0 0, .slice none 0 0] 66
  have pr : Below w.heap.size w (w.alloc (.cells #[.bool false, .slice none 0 0, .slice none 0 0] 66)) := (Below.refl _ _).alloc (Nat.le_refl _) _
  go_enter Tryz.func56, Tryz.ntmps56
  go_wp2_with (first
    | (go_at_call 75; (refine (NatOf_any (n) _ (by omega) (by omega)).mono ?_); (rintro x w1 ⟨u, ns, rfl, hu, nu, vu, b1⟩; have VU : Hid (val ns = n) := vu; clear vu; replace K0 := (K0.below b1 K0.lt).alloc (.cells #[.int .i64 1] 3); replace pr := (bel pr b1); have pr2 := pr.alloc pr.size (.cells #[.int .i64 1] 3); replace hu := hu.grow ((Below.refl _ _).alloc (Nat.le_refl _) (.cells #[.int .i64 1] 3)); have ho : Rd (w1.alloc (.cells #[.int .i64 1] 3)) (.slice (some ⟨w1.heap.size, 0, none⟩) 1 1) [1] := rd_one (by simp) (by decide) (by decide); have e0 : (w1.alloc (.cells #[.int .i64 1] 3)).cell? ⟨w.heap.size, 0, none⟩ = some (.bool false) := K0.at 0; have e1 : (w1.alloc (.cells #[.int .i64 1] 3)).cell? ⟨w.heap.size, 1, none⟩ = some (.slice none 0 0) := K0.at 1; have e2 : (w1.alloc (.cells #[.int .i64 1] 3)).cell? ⟨w.heap.size, 2, none⟩ = some (.slice none 0 0) := K0.at 2; have z0 := K0.free 0; have z1 := K0.free 1; have z2 := K0.free 2; obtain ⟨a1, c1, rfl⟩ : ∃ a c, u = .slice a ns.length c := (by obtain ⟨_, a, c, e, _⟩ := hu; exact ⟨a, c, e⟩)))
    | fail)
  obtain ⟨F0, F1, F2, FB⟩ := put3 (.bool false) (.slice a1 ns.length c1) (.slice (some ⟨w1.heap.size, 0, none⟩) 1 1) e0 e1 e2
  exact bodyPost_ret (v := .agg #[.bool false, .slice a1 ns.length c1, .slice (some ⟨w1.heap.size, 0, none⟩) 1 1]) (by simp [results, Tryz.results56, go_sem, F0, F1, F2]) rfl ⟨_, _, ns, rfl, hu.putQ K0, nu, VU.out, ho.putQ K0, FB _ _ (Nat.le_refl _) pr2⟩
set_option maxHeartbeats 1600000 in
set_option maxRecDepth 100000 in
theorem Of_neg (n : Int) (n0 : n < 0) (n1 : -9223372036854775808 ≤ n) (w : World) :
    Calls Tryz.prog 56 #[.int .i64 n] w fun e w' => ∃ u1 u2 ns, e = .returned (.agg #[.bool true, u1, u2]) ∧ Rd w' u1 ns ∧ Nm ns ∧ val ns = -n ∧ Rd w' u2 [1] ∧ Below w.heap.size w w' := by
  have c1 : IntKind.u64.wrap n = n + 18446744073709551616 := by rw [IntKind.wrap_u64]; omega
  have c2 : IntKind.u64.wrap (-(n + 18446744073709551616)) = -n := by rw [IntKind.wrap_u64]; omega
  have K0 := Blk.new w #[.bool false, .slice none 0 0, .slice none 0 0] 66
  have pr : Below w.heap.size w (w.alloc (.cells #[.bool false, .slice none 0 0, .slice none 0 0] 66)) := (Below.refl _ _).alloc (Nat.le_refl _) _
  go_enter Tryz.func56, Tryz.ntmps56
  go_wp2_with (first
    | (go_at_call 89; (refine (NatOf64_any (-n) _ (by omega) (by omega)).mono ?_); (rintro x w1 ⟨u, ns, rfl, hu, nu, vu, b1⟩; have VU : Hid (val ns = -n) := vu; clear vu; replace K0 := (K0.below b1 K0.lt).alloc (.cells #[.int .i64 1] 3); replace pr := (bel pr b1); have pr2 := pr.alloc pr.size (.cells #[.int .i64 1] 3); replace hu := hu.grow ((Below.refl _ _).alloc (Nat.le_refl _) (.cells #[.int .i64 1] 3)); have ho : Rd (w1.alloc (.cells #[.int .i64 1] 3)) (.slice (some ⟨w1.heap.size, 0, none⟩) 1 1) [1] := rd_one (by simp) (by decide) (by decide); have e0 : (w1.alloc (.cells #[.int .i64 1] 3)).cell? ⟨w.heap.size, 0, none⟩ = some (.bool false) := K0.at 0; have e1 : (w1.alloc (.cells #[.int .i64 1] 3)).cell? ⟨w.heap.size, 1, none⟩ = some (.slice none 0 0) := K0.at 1; have e2 : (w1.alloc (.cells #[.int .i64 1] 3)).cell? ⟨w.heap.size, 2, none⟩ = some (.slice none 0 0) := K0.at 2; have z0 := K0.free 0; have z1 := K0.free 1; have z2 := K0.free 2; obtain ⟨a1, c1, rfl⟩ : ∃ a c, u = .slice a ns.length c := (by obtain ⟨_, a, c, e, _⟩ := hu; exact ⟨a, c, e⟩)))
    | fail)
  obtain ⟨F0, F1, F2, FB⟩ := put3 (.bool true) (.slice a1 ns.length c1) (.slice (some ⟨w1.heap.size, 0, none⟩) 1 1) e0 e1 e2
  exact bodyPost_ret (v := .agg #[.bool true, .slice a1 ns.length c1, .slice (some ⟨w1.heap.size, 0, none⟩) 1 1]) (by simp [results, Tryz.results56, go_sem, F0, F1, F2]) rfl ⟨_, _, ns, rfl, hu.putQ K0, nu, VU.out, ho.putQ K0, FB _ _ (Nat.le_refl _) pr2⟩
end Go.Proofs.YtfalncbcomlelaaGreatDoor.L

namespace Go.Proofs.YtfalncbcomlelaaGreatDoor.L
open Go.RowKit Tl

theorem quo_le {a q b r : Int} (h : a = q * b + r) (r0 : 0 ≤ r) (q0 : 0 ≤ q) (b0 : 0 < b) : q ≤ a := le_of_quo h r0 q0 b0
/-- Of, as an exact number. -/
theorem Of_q (n : Int) (w : World) (n0 : -9223372036854775808 ≤ n) (n1 : n < 9223372036854775808) :
    Calls Tryz.prog 56 #[.int .i64 n] w fun e w' => ∃ v, e = .returned v ∧ IsQ w' v (n : Rat) ∧ Below w.heap.size w w' := by
  have num : ((n : Rat)).num = n := rfl
  have den : ((n : Rat)).den = 1 := rfl
  by_cases c : n < 0
  · refine (Of_neg n c n0 w).mono ?_
    rintro e w' ⟨u1, u2, ns, rfl, h1, m1, v1, h2, b⟩
    obtain ⟨a, c1, rfl⟩ := rd_form h1
    obtain ⟨a', c2, rfl⟩ := rd_form h2
    exact ⟨_, rfl, ⟨ns, [1], _, _, _, _, by rw [num, decide_eq_true c], h1, m1, by rw [v1, num]; omega, h2, nm_one, by rw [val_one, den]; rfl⟩, b⟩
  · refine (Of_pos n (by omega) n1 w).mono ?_
    rintro e w' ⟨u1, u2, ns, rfl, h1, m1, v1, h2, b⟩
    obtain ⟨a, c1, rfl⟩ := rd_form h1
    obtain ⟨a', c2, rfl⟩ := rd_form h2
    exact ⟨_, rfl, ⟨ns, [1], _, _, _, _, by rw [num, decide_eq_false c], h1, m1, by rw [v1, num]; omega, h2, nm_one, by rw [val_one, den]; rfl⟩, b⟩
end Go.Proofs.YtfalncbcomlelaaGreatDoor.L

namespace Go.Proofs.YtfalncbcomlelaaGreatDoor.Ta
open Go.RowKit

set_option maxRecDepth 100000 in
set_option maxHeartbeats 3200000 in
theorem coming_bad (s : ByteArray) (f : Int) (vr vs : Value) (rs : List Int) (sel : List (List Int)) (en ys : Int) (w : World) (hs : s.size ≤ 140737488351232) (hr : Rx w vr rs) (hsel : Rr w vs sel) (h : chk s f rs sel ≠ 0) :
    Calls Tryz.prog 47 #[.agg #[.string s, .int .i64 f, vr, vs], .agg #[.int .i64 en, .int .i64 ys]] w fun e w' => e = .returned (.tuple #[.slice none 0 0, .int .i64 (chk s f rs sel)]) ∧ Below w.heap.size w w' := by
  have KT := (Blk.new w #[.string s, .int .i64 f, vr, vs] 46).alloc (.cells #[.int .i64 en, .int .i64 ys] 48)
  have KL := Blk.new (w.alloc (.cells #[.string s, .int .i64 f, vr, vs] 46)) #[.int .i64 en, .int .i64 ys] 48
  have pr : Below w.heap.size w ((w.alloc (.cells #[.string s, .int .i64 f, vr, vs] 46)).alloc (.cells #[.int .i64 en, .int .i64 ys] 48)) := ((Below.refl _ _).alloc (Nat.le_refl _) _).alloc (by simp) _
  simp only [World.size_alloc] at KL
  have C := Check_any s f vr vs rs sel _ hs (hr.grow pr) (hsel.grow pr)
  have h' : (chk s f rs sel != 0) = true := by rw [bne_iff_ne]; exact h
  generalize chk s f rs sel = q at *
  clear h
  go_enter Tryz.func47, Tryz.ntmps47
  go_wp2_with (first
    | (go_at_call 79; refine C.mono ?_; rintro e w1 ⟨rfl, b1⟩)
    | fail)
  go_ret2
  exact ⟨rfl, bel' pr b1⟩
set_option maxRecDepth 100000 in
set_option maxHeartbeats 3200000 in
theorem coming_no (s : ByteArray) (f : Int) (vr vs : Value) (rs : List Int) (sel : List (List Int)) (en ys : Int) (w : World) (hs : s.size ≤ 140737488351232) (hr : Rx w vr rs) (hsel : Rr w vs sel) (h : chk s f rs sel = 0) (h2 : okL f rs en ys = false) :
    Calls Tryz.prog 47 #[.agg #[.string s, .int .i64 f, vr, vs], .agg #[.int .i64 en, .int .i64 ys]] w fun e w' => e = .returned (.tuple #[.slice none 0 0, .int .i64 8]) ∧ Below w.heap.size w w' := by
  have KT := (Blk.new w #[.string s, .int .i64 f, vr, vs] 46).alloc (.cells #[.int .i64 en, .int .i64 ys] 48)
  have KL := Blk.new (w.alloc (.cells #[.string s, .int .i64 f, vr, vs] 46)) #[.int .i64 en, .int .i64 ys] 48
  have pr : Below w.heap.size w ((w.alloc (.cells #[.string s, .int .i64 f, vr, vs] 46)).alloc (.cells #[.int .i64 en, .int .i64 ys] 48)) := ((Below.refl _ _).alloc (Nat.le_refl _) _).alloc (by simp) _
  simp only [World.size_alloc] at KL
  have C := Check_any s f vr vs rs sel _ hs (hr.grow pr) (hsel.grow pr)
  rw [h] at C
  obtain ⟨_, f1, _⟩ := of_chk_0 h
  obtain ⟨_, ⟨ar, cr, rfl, _⟩, hL⟩ := hr
  have La := fun W => last_any s f ar rs.length cr vs W f1.1 f1.2.1 hL
  obtain ⟨E, hE⟩ : ∃ E, f + (rs.length : Int) - 1 = E := ⟨_, rfl⟩
  rw [hE] at La
  have no := of_decide_eq_false h2
  rw [hE] at no
  have e1 : 0 ≤ E ∧ E ≤ 130 := by omega
  clear h h2 hsel
  have key : ys < 0 ∨ (¬ ys < 0 ∧ en < f) ∨ (¬ ys < 0 ∧ ¬ en < f ∧ en > E) ∨ (¬ ys < 0 ∧ ¬ en < f ∧ ¬ en > E ∧ ys > E - en ∧ IntKind.i64.wrap (E - en) = E - en) := by
    by_cases a : ys < 0
    · exact Or.inl a
    · by_cases b : en < f
      · exact Or.inr (Or.inl ⟨a, b⟩)
      · by_cases c : en > E
        · exact Or.inr (Or.inr (Or.inl ⟨a, b, c⟩))
        · exact Or.inr (Or.inr (Or.inr ⟨a, b, c, by omega, Mo.wrapI _ (by omega) (by omega)⟩))
  clear no
  rcases key with g1 | ⟨g1, g2⟩ | ⟨g1, g2, g3⟩ | ⟨g1, g2, g3, g4, g5⟩
  all_goals
    go_enter Tryz.func47, Tryz.ntmps47
    go_wp2_with (first
      | (go_at_call 79; refine C.mono ?_; rintro e w1 ⟨rfl, b1⟩; (have K1 := KT.below b1 KT.lt); (have k0 := K1.at 0); (have k1 := K1.at 1); (have k2 := K1.at 2); (have k3 := K1.at 3); (simp at k0 k1 k2 k3))
      | (go_at_call 80; refine (La _).mono ?_; rintro e w2 ⟨rfl, b2⟩; (have K2 := K1.below b2 K1.lt); (have M2 := (KL.below b1 KL.lt).below b2 (KL.below b1 KL.lt).lt); (have j1 := K2.at 1); (have m0 := M2.at 0); (have m1 := M2.at 1); (simp at j1 m0 m1))
      | fail)
    go_ret2
    exact ⟨rfl, bel' (bel' pr b1) b2⟩
end Go.Proofs.YtfalncbcomlelaaGreatDoor.Ta

namespace Go.Proofs.YtfalncbcomlelaaGreatDoor.Ta
open Go.RowKit

set_option maxRecDepth 100000 in
set_option maxHeartbeats 6400000 in
theorem coming_ok (s : ByteArray) (f : Int) (vr vs : Value) (rs : List Int) (sel : List (List Int)) (en ys : Int) (w : World) (hs : s.size ≤ 140737488351232) (hr : Rx w vr rs) (hsel : Rr w vs sel) (h : chk s f rs sel = 0) (h2 : okL f rs en ys = true) (N : Nat) (hN : (N : Int) = f + rs.length - en - ys) :
    Calls Tryz.prog 47 #[.agg #[.string s, .int .i64 f, vr, vs], .agg #[.int .i64 en, .int .i64 ys]] w fun e w' => ∃ g, e = .returned (.tuple #[.slice (some ⟨g, 0, none⟩) N N, .int .i64 0]) ∧ w.heap.size ≤ g ∧ Rc w' g N N (rt f rs sel en ys) ∧ Below w.heap.size w w' := by
  have KT := (Blk.new w #[.string s, .int .i64 f, vr, vs] 46).alloc (.cells #[.int .i64 en, .int .i64 ys] 48)
  have KL := Blk.new (w.alloc (.cells #[.string s, .int .i64 f, vr, vs] 46)) #[.int .i64 en, .int .i64 ys] 48
  have pr : Below w.heap.size w ((w.alloc (.cells #[.string s, .int .i64 f, vr, vs] 46)).alloc (.cells #[.int .i64 en, .int .i64 ys] 48)) := ((Below.refl _ _).alloc (Nat.le_refl _) _).alloc (by simp) _
  simp only [World.size_alloc] at KL
  have C := Check_any s f vr vs rs sel _ hs (hr.grow pr) (hsel.grow pr)
  rw [h] at C
  obtain ⟨_, f1, _, hsb⟩ := of_chk_0 h
  obtain ⟨s1, s2, s3⟩ := sel_bd hsb
  have hr' := hr
  obtain ⟨_, ⟨ar, cr, rfl, _⟩, hL⟩ := hr'
  have hs' := hsel
  obtain ⟨_, ao, co, rfl, hrows⟩ := hs'
  have La := fun W => last_any s f ar rs.length cr (.slice ao sel.length co) W f1.1 f1.2.1 hL
  obtain ⟨E, hE⟩ : ∃ E, f + (rs.length : Int) - 1 = E := ⟨_, rfl⟩
  rw [hE] at La
  obtain ⟨o1, o2, o3, o4⟩ := of_decide_eq_true h2
  rw [hE] at o3 o4
  have e1 : 0 ≤ E ∧ E ≤ 130 := by omega
  have g1 : ¬ ys < 0 := by omega
  have g2 : ¬ en < f := by omega
  have g3 : ¬ en > E := by omega
  have g4 : ¬ ys > E - en := by omega
  have g5 : IntKind.i64.wrap (E - en) = E - en := Mo.wrapI _ (by omega) (by omega)
  have g6 : IntKind.i64.wrap (E - en - ys) = E - en - ys := Mo.wrapI _ (by omega) (by omega)
  have g7 : IntKind.i64.wrap (E - en - ys + 1) = (N : Int) := by rw [show E - en - ys + 1 = (N : Int) by omega]; exact Mo.wrapI _ (by omega) (by omega)
  have HN : Hid (N ≤ 131) := by show N ≤ 131; omega
  have HE : Hid (f + (rs.length : Int) - 1 = E) := hE
  have H4 : Hid ((N : Int) = f + rs.length - en - ys) := hN
  have HF : Hid (0 ≤ f ∧ f ≤ 130) := ⟨f1.1, f1.2.1⟩
  have HO : Hid (0 ≤ ys ∧ f ≤ en) := ⟨o1, o2⟩
  have HL : Hid (rs.length ≤ 131) := by show rs.length ≤ 131; omega
  clear h h2 hsb hN f1 o1 o2 o3 o4 e1
  go_enter Tryz.func47, Tryz.ntmps47
  go_wp2_with (first
    | (go_at_call 79; refine C.mono ?_; rintro e w1 ⟨rfl, b1⟩; (have K1 := KT.below b1 KT.lt); (have k0 := K1.at 0); (have k1 := K1.at 1); (have k2 := K1.at 2); (have k3 := K1.at 3); (simp at k0 k1 k2 k3))
    | (go_at_call 80; refine (La _).mono ?_; rintro e w2 ⟨rfl, b2⟩; (have K2 := K1.below b2 K1.lt); (have M2 := (KL.below b1 KL.lt).below b2 (KL.below b1 KL.lt).lt); (have j1 := K2.at 1); (have m0 := M2.at 0); (have m1 := M2.at 1); (simp at j1 m0 m1))
    | (at_make; refine make_ints rfl _ _ rfl N _ _ rfl rfl rfl rfl (by have := HN.out; omega) ?_; intro cs hcs; have G0 := Blk.new w2 cs 3; have al := (Below.refl w2.heap.size w2).alloc (Nat.le_refl _) (.cells cs 3))
    | fail)
  have p2 := bel' (bel' (bel' pr b1) b2) al
  have K3 := K2.below al K2.lt
  have M3 := M2.below al M2.lt
  have R0 : Rc (w2.alloc (.cells cs 3)) w2.heap.size N 0 (rt f rs sel en ys) := ⟨cs, G0, hcs, fun i hi => absurd hi (by omega)⟩
  have lg : w.heap.size + 2 ≤ w2.heap.size := by have := b1.size; have := b2.size; simp at *; omega
  generalize w2.heap.size = g at *
  generalize w2.alloc (.cells cs 3) = W at *
  clear KT KL pr C La K1 K2 M2 k0 k1 k2 k3 j1 m0 m1 b1 b2 al G0 hcs g1 g2 g3 g4 g5 g6 g7
  go_loopw [9, 10, 54] (fun _ _ i wr => ∃ k : Nat, i = .int .i64 k ∧ k ≤ N ∧ Rc wr g N k (rt f rs sel en ys) ∧ Blk wr w.heap.size #[.string s, .int .i64 f, .slice ar rs.length cr, .slice ao sel.length co] 46 ∧ Blk wr (w.heap.size + 1) #[.int .i64 en, .int .i64 ys] 48 ∧ Below w.heap.size w wr) (fun _ _ i _ => N - (RowKit.intOf i).toNat)
  case atStart => exact ⟨0, rfl, Nat.zero_le _, R0, K3, M3, p2⟩
  case round =>
    clear R0 K3 M3 p2
    obtain ⟨k, rfl, hk, R, K, M, p⟩ := hrel
    by_cases lt : k < N
    · have t1 := K.at 1
      have t2 := K.at 2
      have t3 := K.at 3
      have m0 := M.at 0
      have m1 := M.at 1
      simp at t1 t2 t3 m0 m1
      obtain ⟨d, hd⟩ : ∃ d : Nat, ys + (k : Int) = (d : Int) := ⟨(ys + k).toNat, by have := HO.out; omega⟩
      have y1 : IntKind.i64.wrap (ys + (k : Int)) = (d : Int) := by rw [hd]; exact Mo.wrapI _ (by omega) (by have := HN.out; have := H4.out; have := HF.out; have := HO.out; have := HL.out; omega)
      obtain ⟨csr, B, hcs, hcf⟩ := R
      have eg : csr[k]? = some (csr[k]'(by omega)) := Array.getElem?_eq_getElem _
      have z0 := (B.at k).trans eg
      have z1 := B.free k
      have RR : Rc wr g N k (rt f rs sel en ys) := ⟨csr, B, hcs, hcf⟩
      generalize csr[k]'(by omega) = v0 at *
      have i1 : (0 : Int) ≤ (k : Int) := by omega
      have i2 : ((k : Int)).toNat = k := by omega
      have i3 : (k : Int) < (N : Int) := by omega
      have i4 : (0 : Int) ≤ (d : Int) := by omega
      have i5 : ((d : Int)).toNat = d := by omega
      have y9 : IntKind.i64.wrap ((k : Int) + 1) = ((k + 1 : Nat) : Int) := by rw [show (k : Int) + 1 = ((k + 1 : Nat) : Int) by omega]; exact Mo.wrapI _ (by omega) (by have := HN.out; omega)
      have n1 : w.heap.size ≠ g := by omega
      have n2 : w.heap.size + 1 ≠ g := by omega
      have wrg : Wr g k 1 wr (wr.setCell ⟨g, k, none⟩ (.int .i64 (rt f rs sel en ys k))) := (Wr.refl g k 1 wr).setCell k (by omega) _
      have KE := K.wr wrg n1
      have ME := M.wr wrg n2
      have RE := RR.push lt
      have pE := p.setCell (p := ⟨g, k, none⟩) (show w.heap.size ≤ g by omega) (.int .i64 (rt f rs sel en ys k))
      by_cases c : (d : Int) < (sel.length : Int)
      · have q1 : rt f rs sel en ys k = L.nth (sel.getD d []) (en - f).toNat := by unfold rt; rw [if_pos (by omega), show (ys + (k : Int)).toNat = d by omega]
        obtain ⟨i, hi⟩ : ∃ i : Nat, en - f = (i : Int) := ⟨(en - f).toNat, by have := HO.out; omega⟩
        have y2 : IntKind.i64.wrap (en - f) = (i : Int) := by rw [hi]; exact Mo.wrapI _ (by omega) (by have := H4.out; have := HF.out; have := HO.out; have := HL.out; omega)
        obtain ⟨b, o, rfl, hrow⟩ := hrows (by omega)
        obtain ⟨vd, cd, xd⟩ := hrow d (by omega)
        have il : i < (sel.getD d []).length := by have := (s3 d (by omega)).1; have := H4.out; omega
        obtain ⟨b2, o2, c2, rfl, ci, lb2⟩ := lives xd il
        have lb := L.lt_of_cell cd
        have u1 := keepc p lb cd
        have u2 := keepc p lb2 ci
        rw [q1, show (en - f).toNat = i by omega] at KE ME RE pE
        generalize L.nth (sel.getD d []) i = V at *
        generalize (sel.getD d []).length = ln at *
        have i6 : (0 : Int) ≤ (i : Int) := by omega
        have i7 : ((i : Int)).toNat = i := by omega
        have i8 : (i : Int) < (ln : Int) := by omega
        have n3 : b ≠ g := by omega
        have n4 : b2 ≠ g := by omega
        have x1 := KE.at 1
        have x3 := KE.at 3
        have x4 := ME.at 0
        simp at x1 x3 x4
        have x5 : (wr.setCell ⟨g, k, none⟩ (.int .i64 V)).cell? ⟨b, o + d, none⟩ = some (.slice (some ⟨b2, o2, none⟩) ln c2) := (World.cell?_setCell_other _ _ _ _ (by first | exact (fun e => n3 (congrArg Addr.block e)) | exact (fun e => n3 (congrArg Addr.block e).symm))).trans u1
        have x6 : (wr.setCell ⟨g, k, none⟩ (.int .i64 V)).cell? ⟨b2, o2 + i, none⟩ = some (.int .i64 V) := (World.cell?_setCell_other _ _ _ _ (by first | exact (fun e => n4 (congrArg Addr.block e)) | exact (fun e => n4 (congrArg Addr.block e).symm))).trans u2
        clear hrows hrow hd hi q1 cd xd ci il lb lb2 s3 s1 s2 hr hsel RR B hcs hcf eg wrg K M p hL lg
        go_wp2_with fail
        go_region_held3 (fun x => x.cell? ⟨w.heap.size, 1, none⟩ = some (.int .i64 f) ∧ x.cell? ⟨w.heap.size, 3, none⟩ = some (.slice (some ⟨b, o, none⟩) sel.length co) ∧ x.cell? ⟨w.heap.size + 1, 0, none⟩ = some (.int .i64 en) ∧ x.cell? ⟨b, o + d, none⟩ = some (.slice (some ⟨b2, o2, none⟩) ln c2) ∧ x.cell? ⟨b2, o2 + i, none⟩ = some (.int .i64 V)) (first | exact ⟨x1, x3, x4, x5, x6⟩ | go_keep) (fail)
        go_wp2_with fail
        go_roundw
        case rel => exact ⟨k + 1, by go_num, by omega, RE, KE, ME, pE.drew⟩
        case measure => simp [RowKit.intOf]; omega
      · have q1 : rt f rs sel en ys k = L.nth rs (en + (ys + (k : Int)) - f).toNat := by unfold rt; rw [if_neg (by omega)]
        obtain ⟨i, hi⟩ : ∃ i : Nat, en + (d : Int) - f = (i : Int) := ⟨(en + (d : Int) - f).toNat, by have := HO.out; omega⟩
        have y2 : IntKind.i64.wrap (en + (d : Int)) = en + (d : Int) := Mo.wrapI _ (by have := HO.out; have := HF.out; omega) (by have := H4.out; have := HF.out; have := HO.out; have := HL.out; omega)
        have y3 : IntKind.i64.wrap (en + (d : Int) - f) = (i : Int) := by rw [hi]; exact Mo.wrapI _ (by omega) (by have := H4.out; have := HF.out; have := HO.out; have := HL.out; omega)
        have il : i < rs.length := by have := H4.out; omega
        obtain ⟨b2, o2, c2, e2, ci, lb2⟩ := lives hr il
        simp only [Value.slice.injEq] at e2
        obtain ⟨rfl, _, rfl⟩ := e2
        have u2 := keepc p lb2 ci
        rw [q1, show (en + (ys + (k : Int)) - f).toNat = i by omega] at KE ME RE pE
        generalize L.nth rs i = V at *
        have i6 : (0 : Int) ≤ (i : Int) := by omega
        have i7 : ((i : Int)).toNat = i := by omega
        have i8 : (i : Int) < (rs.length : Int) := by omega
        clear hrows hd hi q1 ci il lb2 s3 s1 s2 hr hsel RR B hcs hcf eg wrg K M p hL lg
        go_wp2_with fail
        go_roundw
        case rel => exact ⟨k + 1, by go_num, by omega, RE, KE, ME, pE⟩
        case measure => simp [RowKit.intOf]; omega
    · obtain rfl : k = N := by omega
      go_wp2
      go_ret2
      exact ⟨g, rfl, by omega, R, p⟩
end Go.Proofs.YtfalncbcomlelaaGreatDoor.Ta

namespace Go.Proofs.YtfalncbcomlelaaGreatDoor.L
open Go.RowKit Tl

end Go.Proofs.YtfalncbcomlelaaGreatDoor.L

namespace Go.Proofs.YtfalncbcomlelaaGreatDoor.L
open Go.RowKit Tl

end Go.Proofs.YtfalncbcomlelaaGreatDoor.L
