import Derived.Test.YtfpmegfdopnnpaaPart20

namespace Go.Proofs.Ytfpmegfdopnnpaa
open Go.RowKit Tn

set_option maxRecDepth 100000 in
set_option maxHeartbeats 3200000 in
theorem round_w_carry_over (g mr : Bool) (way h l E H x fl y1 y2 y3 X N : Int) (p : Nat) (hy1 : IntKind.i64.wrap (x + 128) = y1) (hy2 : IntKind.i64.wrap (y1 - 53) = y2) (hX : max y2 (-1074) = X) (hy3 : IntKind.i64.wrap (X - x) = y3) (hP : IntKind.i64.wrap (y3 - 64) = (p : Int))
    (R : ∀ w, Calls Try.prog 80 #[.agg #[.int .i64 2, .bool g, .int .u64 h, .int .u64 l, .int .i64 E, .bool mr, .int .i64 fl]] w fun e w' => e = .returned (.agg #[.int .i64 2, .bool g, .int .u64 H, .int .u64 0, .int .i64 x, .bool mr, .int .i64 fl]) ∧ Below w.heap.size w w')
    (kp : Bool) (C : ∀ w, Calls Try.prog 81 #[.int .u64 H, .int .i64 p, .bool mr, .bool g, .int .i64 way] w fun e w' => e = .returned (.tuple #[.int .u64 9007199254740992, .bool kp]) ∧ w' = w) (X' : Int) (hX' : IntKind.i64.wrap (X + 1) = X') (o : 971 < X')
    (TG : ∀ w, Calls Try.prog 82 #[.agg #[.int .i64 53, .int .i64 (-1074), .int .i64 971], .bool g, .int .i64 way] w fun e w' => e = .returned (.int .u64 N) ∧ Below w.heap.size w w') (w : World) :
    Calls Try.prog 53 #[.agg #[.int .i64 53, .int .i64 (-1074), .int .i64 971], .agg #[.int .i64 2, .bool g, .int .u64 h, .int .u64 l, .int .i64 E, .bool mr, .int .i64 fl], .int .i64 way] w fun e w' => e = .returned (.tuple #[.int .u64 N, .int .i64 20]) ∧ Below w.heap.size w w' := by
  go_enter Try.func53, Try.ntmps53
  have K1 : Blk ((w.alloc (.cells #[.int .i64 53, .int .i64 (-1074), .int .i64 971] 72)).alloc (.cells #[.int .i64 2, .bool g, .int .u64 h, .int .u64 l, .int .i64 E, .bool mr, .int .i64 fl] 85)) w.heap.size #[.int .i64 53, .int .i64 (-1074), .int .i64 971] 72 := (Blk.new w _ _).alloc _
  have K2 := Blk.new (w.alloc (.cells #[.int .i64 53, .int .i64 (-1074), .int .i64 971] 72)) #[.int .i64 2, .bool g, .int .u64 h, .int .u64 l, .int .i64 E, .bool mr, .int .i64 fl] 85
  have pr : Below w.heap.size w ((w.alloc (.cells #[.int .i64 53, .int .i64 (-1074), .int .i64 971] 72)).alloc (.cells #[.int .i64 2, .bool g, .int .u64 h, .int .u64 l, .int .i64 E, .bool mr, .int .i64 fl] 85)) := ((Below.refl _ _).alloc (Nat.le_refl _) _).alloc (by simp) _
  simp only [World.size_alloc] at K2
  go_wp2_with (first
    | (go_at_call 80; refine (R _).mono ?_; rintro e w1 ⟨rfl, b1⟩; replace K1 := K1.below b1 K1.lt; replace K2 := K2.below b1 K2.lt; replace pr := bel pr b1; clear b1; have e0 : w1.cell? ⟨w.heap.size, 0, none⟩ = some (.int .i64 53) := K1.at 0; have e1 : w1.cell? ⟨w.heap.size, 1, none⟩ = some (.int .i64 (-1074)) := K1.at 1; have e2 : w1.cell? ⟨w.heap.size, 2, none⟩ = some (.int .i64 971) := K1.at 2; have d0 : w1.cell? ⟨w.heap.size + 1, 0, none⟩ = some (.int .i64 2) := K2.at 0; have d1 : w1.cell? ⟨w.heap.size + 1, 1, none⟩ = some (.bool g) := K2.at 1; have d2 : w1.cell? ⟨w.heap.size + 1, 2, none⟩ = some (.int .u64 h) := K2.at 2; have d3 : w1.cell? ⟨w.heap.size + 1, 3, none⟩ = some (.int .u64 l) := K2.at 3; have d4 : w1.cell? ⟨w.heap.size + 1, 4, none⟩ = some (.int .i64 E) := K2.at 4; have d5 : w1.cell? ⟨w.heap.size + 1, 5, none⟩ = some (.bool mr) := K2.at 5; have d6 : w1.cell? ⟨w.heap.size + 1, 6, none⟩ = some (.int .i64 fl) := K2.at 6; have g0 := K2.free 0; have g1 := K2.free 1; have g2 := K2.free 2; have g3 := K2.free 3; have g4 := K2.free 4; have g5 := K2.free 5; have g6 := K2.free 6)
    | fail)
  have J1 : Blk (((((((w1.setCell ⟨w.heap.size + 1, 0, none⟩ (.int .i64 2)).setCell ⟨w.heap.size + 1, 1, none⟩ (.bool g)).setCell ⟨w.heap.size + 1, 2, none⟩ (.int .u64 H)).setCell ⟨w.heap.size + 1, 3, none⟩ (.int .u64 0)).setCell ⟨w.heap.size + 1, 4, none⟩ (.int .i64 x)).setCell ⟨w.heap.size + 1, 5, none⟩ (.bool mr)).setCell ⟨w.heap.size + 1, 6, none⟩ (.int .i64 fl)) w.heap.size #[.int .i64 53, .int .i64 (-1074), .int .i64 971] 72 := (blk_set_other (blk_set_other (blk_set_other (blk_set_other (blk_set_other (blk_set_other (blk_set_other K1 (Nat.ne_of_lt (Nat.lt_succ_self _))) (Nat.ne_of_lt (Nat.lt_succ_self _))) (Nat.ne_of_lt (Nat.lt_succ_self _))) (Nat.ne_of_lt (Nat.lt_succ_self _))) (Nat.ne_of_lt (Nat.lt_succ_self _))) (Nat.ne_of_lt (Nat.lt_succ_self _))) (Nat.ne_of_lt (Nat.lt_succ_self _)))
  have J2 : Blk (((((((w1.setCell ⟨w.heap.size + 1, 0, none⟩ (.int .i64 2)).setCell ⟨w.heap.size + 1, 1, none⟩ (.bool g)).setCell ⟨w.heap.size + 1, 2, none⟩ (.int .u64 H)).setCell ⟨w.heap.size + 1, 3, none⟩ (.int .u64 0)).setCell ⟨w.heap.size + 1, 4, none⟩ (.int .i64 x)).setCell ⟨w.heap.size + 1, 5, none⟩ (.bool mr)).setCell ⟨w.heap.size + 1, 6, none⟩ (.int .i64 fl)) (w.heap.size + 1) #[.int .i64 2, .bool g, .int .u64 H, .int .u64 0, .int .i64 x, .bool mr, .int .i64 fl] 85 := (blk_set (blk_set (blk_set (blk_set (blk_set (blk_set (blk_set K2)))))))
  have pr2 : Below w.heap.size w (((((((w1.setCell ⟨w.heap.size + 1, 0, none⟩ (.int .i64 2)).setCell ⟨w.heap.size + 1, 1, none⟩ (.bool g)).setCell ⟨w.heap.size + 1, 2, none⟩ (.int .u64 H)).setCell ⟨w.heap.size + 1, 3, none⟩ (.int .u64 0)).setCell ⟨w.heap.size + 1, 4, none⟩ (.int .i64 x)).setCell ⟨w.heap.size + 1, 5, none⟩ (.bool mr)).setCell ⟨w.heap.size + 1, 6, none⟩ (.int .i64 fl)) := (bel_set (bel_set (bel_set (bel_set (bel_set (bel_set (bel_set pr (Nat.le_succ _)) (Nat.le_succ _)) (Nat.le_succ _)) (Nat.le_succ _)) (Nat.le_succ _)) (Nat.le_succ _)) (Nat.le_succ _))
  clear K1 K2 pr e0 e1 e2 d0 d1 d2 d3 d4 d5 d6 g0 g1 g2 g3 g4 g5 g6
  generalize (((((((w1.setCell ⟨w.heap.size + 1, 0, none⟩ (.int .i64 2)).setCell ⟨w.heap.size + 1, 1, none⟩ (.bool g)).setCell ⟨w.heap.size + 1, 2, none⟩ (.int .u64 H)).setCell ⟨w.heap.size + 1, 3, none⟩ (.int .u64 0)).setCell ⟨w.heap.size + 1, 4, none⟩ (.int .i64 x)).setCell ⟨w.heap.size + 1, 5, none⟩ (.bool mr)).setCell ⟨w.heap.size + 1, 6, none⟩ (.int .i64 fl)) = W2 at *
  have e0 : W2.cell? ⟨w.heap.size, 0, none⟩ = some (.int .i64 53) := J1.at 0
  have e1 : W2.cell? ⟨w.heap.size, 1, none⟩ = some (.int .i64 (-1074)) := J1.at 1
  have e2 : W2.cell? ⟨w.heap.size, 2, none⟩ = some (.int .i64 971) := J1.at 2
  have d0 : W2.cell? ⟨w.heap.size + 1, 0, none⟩ = some (.int .i64 2) := J2.at 0
  have d1 : W2.cell? ⟨w.heap.size + 1, 1, none⟩ = some (.bool g) := J2.at 1
  have d2 : W2.cell? ⟨w.heap.size + 1, 2, none⟩ = some (.int .u64 H) := J2.at 2
  have d3 : W2.cell? ⟨w.heap.size + 1, 3, none⟩ = some (.int .u64 0) := J2.at 3
  have d4 : W2.cell? ⟨w.heap.size + 1, 4, none⟩ = some (.int .i64 x) := J2.at 4
  have d5 : W2.cell? ⟨w.heap.size + 1, 5, none⟩ = some (.bool mr) := J2.at 5
  have d6 : W2.cell? ⟨w.heap.size + 1, 6, none⟩ = some (.int .i64 fl) := J2.at 6
  refine (C _).mono ?_
  rintro r w3 ⟨rfl, rfl⟩
  go_wp2_with (first
    | (go_at_call 77; refine (leastNormal_w _).mono ?_; rintro r w4 ⟨rfl, b4⟩; replace J1 := J1.below b4 J1.lt; replace J2 := J2.below b4 J2.lt; replace pr2 := bel pr2 b4; clear b4; have e0 : w4.cell? ⟨w.heap.size, 0, none⟩ = some (.int .i64 53) := J1.at 0; have e1 : w4.cell? ⟨w.heap.size, 1, none⟩ = some (.int .i64 (-1074)) := J1.at 1; have e2 : w4.cell? ⟨w.heap.size, 2, none⟩ = some (.int .i64 971) := J1.at 2; have d0 : w4.cell? ⟨w.heap.size + 1, 0, none⟩ = some (.int .i64 2) := J2.at 0; have d1 : w4.cell? ⟨w.heap.size + 1, 1, none⟩ = some (.bool g) := J2.at 1; have d2 : w4.cell? ⟨w.heap.size + 1, 2, none⟩ = some (.int .u64 H) := J2.at 2; have d3 : w4.cell? ⟨w.heap.size + 1, 3, none⟩ = some (.int .u64 0) := J2.at 3; have d4 : w4.cell? ⟨w.heap.size + 1, 4, none⟩ = some (.int .i64 x) := J2.at 4; have d5 : w4.cell? ⟨w.heap.size + 1, 5, none⟩ = some (.bool mr) := J2.at 5; have d6 : w4.cell? ⟨w.heap.size + 1, 6, none⟩ = some (.int .i64 fl) := J2.at 6)
    | (go_at_call 82; (with_reducible refine (TG _).mono ?_); rintro r w5 ⟨rfl, b5⟩; replace pr2 := bel pr2 b5; clear b5)
    | fail)
  exact bodyPost_ret (v := .tuple #[.int .u64 N, .int .i64 20]) (by simp [results, Try.results53, go_sem]) rfl ⟨rfl, pr2⟩
set_option maxRecDepth 100000 in
set_option maxHeartbeats 3200000 in
theorem round_w_carry_small (g mr : Bool) (way h l E H x fl y1 y2 y3 X N : Int) (p : Nat) (hy1 : IntKind.i64.wrap (x + 128) = y1) (hy2 : IntKind.i64.wrap (y1 - 53) = y2) (hX : max y2 (-1074) = X) (hy3 : IntKind.i64.wrap (X - x) = y3) (hP : IntKind.i64.wrap (y3 - 64) = (p : Int))
    (R : ∀ w, Calls Try.prog 80 #[.agg #[.int .i64 2, .bool g, .int .u64 h, .int .u64 l, .int .i64 E, .bool mr, .int .i64 fl]] w fun e w' => e = .returned (.agg #[.int .i64 2, .bool g, .int .u64 H, .int .u64 0, .int .i64 x, .bool mr, .int .i64 fl]) ∧ Below w.heap.size w w')
    (C : ∀ w, Calls Try.prog 81 #[.int .u64 H, .int .i64 p, .bool mr, .bool g, .int .i64 way] w fun e w' => e = .returned (.tuple #[.int .u64 9007199254740992, .bool false]) ∧ w' = w) (X' : Int) (hX' : IntKind.i64.wrap (X + 1) = X') (o : X' ≤ 971)
    (PK : ∀ w, Calls Try.prog 79 #[fmtW, prt4 (finW g 4503599627370496 X')] w fun e w' => e = .returned (.int .u64 N) ∧ Below w.heap.size w w') (s : decide (y1 < -1021) = true) (w : World) :
    Calls Try.prog 53 #[.agg #[.int .i64 53, .int .i64 (-1074), .int .i64 971], .agg #[.int .i64 2, .bool g, .int .u64 h, .int .u64 l, .int .i64 E, .bool mr, .int .i64 fl], .int .i64 way] w fun e w' => e = .returned (.tuple #[.int .u64 N, .int .i64 24]) ∧ Below w.heap.size w w' := by
  have o2 : ¬ (971 : Int) < X' := by omega
  have c1 : IntKind.i64.wrap (-1074 + 53) = -1021 := by decide
  go_enter Try.func53, Try.ntmps53
  have K1 : Blk ((w.alloc (.cells #[.int .i64 53, .int .i64 (-1074), .int .i64 971] 72)).alloc (.cells #[.int .i64 2, .bool g, .int .u64 h, .int .u64 l, .int .i64 E, .bool mr, .int .i64 fl] 85)) w.heap.size #[.int .i64 53, .int .i64 (-1074), .int .i64 971] 72 := (Blk.new w _ _).alloc _
  have K2 := Blk.new (w.alloc (.cells #[.int .i64 53, .int .i64 (-1074), .int .i64 971] 72)) #[.int .i64 2, .bool g, .int .u64 h, .int .u64 l, .int .i64 E, .bool mr, .int .i64 fl] 85
  have pr : Below w.heap.size w ((w.alloc (.cells #[.int .i64 53, .int .i64 (-1074), .int .i64 971] 72)).alloc (.cells #[.int .i64 2, .bool g, .int .u64 h, .int .u64 l, .int .i64 E, .bool mr, .int .i64 fl] 85)) := ((Below.refl _ _).alloc (Nat.le_refl _) _).alloc (by simp) _
  simp only [World.size_alloc] at K2
  go_wp2_with (first
    | (go_at_call 80; refine (R _).mono ?_; rintro e w1 ⟨rfl, b1⟩; replace K1 := K1.below b1 K1.lt; replace K2 := K2.below b1 K2.lt; replace pr := bel pr b1; clear b1; have e0 : w1.cell? ⟨w.heap.size, 0, none⟩ = some (.int .i64 53) := K1.at 0; have e1 : w1.cell? ⟨w.heap.size, 1, none⟩ = some (.int .i64 (-1074)) := K1.at 1; have e2 : w1.cell? ⟨w.heap.size, 2, none⟩ = some (.int .i64 971) := K1.at 2; have d0 : w1.cell? ⟨w.heap.size + 1, 0, none⟩ = some (.int .i64 2) := K2.at 0; have d1 : w1.cell? ⟨w.heap.size + 1, 1, none⟩ = some (.bool g) := K2.at 1; have d2 : w1.cell? ⟨w.heap.size + 1, 2, none⟩ = some (.int .u64 h) := K2.at 2; have d3 : w1.cell? ⟨w.heap.size + 1, 3, none⟩ = some (.int .u64 l) := K2.at 3; have d4 : w1.cell? ⟨w.heap.size + 1, 4, none⟩ = some (.int .i64 E) := K2.at 4; have d5 : w1.cell? ⟨w.heap.size + 1, 5, none⟩ = some (.bool mr) := K2.at 5; have d6 : w1.cell? ⟨w.heap.size + 1, 6, none⟩ = some (.int .i64 fl) := K2.at 6; have g0 := K2.free 0; have g1 := K2.free 1; have g2 := K2.free 2; have g3 := K2.free 3; have g4 := K2.free 4; have g5 := K2.free 5; have g6 := K2.free 6)
    | fail)
  have J1 : Blk (((((((w1.setCell ⟨w.heap.size + 1, 0, none⟩ (.int .i64 2)).setCell ⟨w.heap.size + 1, 1, none⟩ (.bool g)).setCell ⟨w.heap.size + 1, 2, none⟩ (.int .u64 H)).setCell ⟨w.heap.size + 1, 3, none⟩ (.int .u64 0)).setCell ⟨w.heap.size + 1, 4, none⟩ (.int .i64 x)).setCell ⟨w.heap.size + 1, 5, none⟩ (.bool mr)).setCell ⟨w.heap.size + 1, 6, none⟩ (.int .i64 fl)) w.heap.size #[.int .i64 53, .int .i64 (-1074), .int .i64 971] 72 := (blk_set_other (blk_set_other (blk_set_other (blk_set_other (blk_set_other (blk_set_other (blk_set_other K1 (Nat.ne_of_lt (Nat.lt_succ_self _))) (Nat.ne_of_lt (Nat.lt_succ_self _))) (Nat.ne_of_lt (Nat.lt_succ_self _))) (Nat.ne_of_lt (Nat.lt_succ_self _))) (Nat.ne_of_lt (Nat.lt_succ_self _))) (Nat.ne_of_lt (Nat.lt_succ_self _))) (Nat.ne_of_lt (Nat.lt_succ_self _)))
  have J2 : Blk (((((((w1.setCell ⟨w.heap.size + 1, 0, none⟩ (.int .i64 2)).setCell ⟨w.heap.size + 1, 1, none⟩ (.bool g)).setCell ⟨w.heap.size + 1, 2, none⟩ (.int .u64 H)).setCell ⟨w.heap.size + 1, 3, none⟩ (.int .u64 0)).setCell ⟨w.heap.size + 1, 4, none⟩ (.int .i64 x)).setCell ⟨w.heap.size + 1, 5, none⟩ (.bool mr)).setCell ⟨w.heap.size + 1, 6, none⟩ (.int .i64 fl)) (w.heap.size + 1) #[.int .i64 2, .bool g, .int .u64 H, .int .u64 0, .int .i64 x, .bool mr, .int .i64 fl] 85 := (blk_set (blk_set (blk_set (blk_set (blk_set (blk_set (blk_set K2)))))))
  have pr2 : Below w.heap.size w (((((((w1.setCell ⟨w.heap.size + 1, 0, none⟩ (.int .i64 2)).setCell ⟨w.heap.size + 1, 1, none⟩ (.bool g)).setCell ⟨w.heap.size + 1, 2, none⟩ (.int .u64 H)).setCell ⟨w.heap.size + 1, 3, none⟩ (.int .u64 0)).setCell ⟨w.heap.size + 1, 4, none⟩ (.int .i64 x)).setCell ⟨w.heap.size + 1, 5, none⟩ (.bool mr)).setCell ⟨w.heap.size + 1, 6, none⟩ (.int .i64 fl)) := (bel_set (bel_set (bel_set (bel_set (bel_set (bel_set (bel_set pr (Nat.le_succ _)) (Nat.le_succ _)) (Nat.le_succ _)) (Nat.le_succ _)) (Nat.le_succ _)) (Nat.le_succ _)) (Nat.le_succ _))
  clear K1 K2 pr e0 e1 e2 d0 d1 d2 d3 d4 d5 d6 g0 g1 g2 g3 g4 g5 g6
  generalize (((((((w1.setCell ⟨w.heap.size + 1, 0, none⟩ (.int .i64 2)).setCell ⟨w.heap.size + 1, 1, none⟩ (.bool g)).setCell ⟨w.heap.size + 1, 2, none⟩ (.int .u64 H)).setCell ⟨w.heap.size + 1, 3, none⟩ (.int .u64 0)).setCell ⟨w.heap.size + 1, 4, none⟩ (.int .i64 x)).setCell ⟨w.heap.size + 1, 5, none⟩ (.bool mr)).setCell ⟨w.heap.size + 1, 6, none⟩ (.int .i64 fl)) = W2 at *
  have e0 : W2.cell? ⟨w.heap.size, 0, none⟩ = some (.int .i64 53) := J1.at 0
  have e1 : W2.cell? ⟨w.heap.size, 1, none⟩ = some (.int .i64 (-1074)) := J1.at 1
  have e2 : W2.cell? ⟨w.heap.size, 2, none⟩ = some (.int .i64 971) := J1.at 2
  have d0 : W2.cell? ⟨w.heap.size + 1, 0, none⟩ = some (.int .i64 2) := J2.at 0
  have d1 : W2.cell? ⟨w.heap.size + 1, 1, none⟩ = some (.bool g) := J2.at 1
  have d2 : W2.cell? ⟨w.heap.size + 1, 2, none⟩ = some (.int .u64 H) := J2.at 2
  have d3 : W2.cell? ⟨w.heap.size + 1, 3, none⟩ = some (.int .u64 0) := J2.at 3
  have d4 : W2.cell? ⟨w.heap.size + 1, 4, none⟩ = some (.int .i64 x) := J2.at 4
  have d5 : W2.cell? ⟨w.heap.size + 1, 5, none⟩ = some (.bool mr) := J2.at 5
  have d6 : W2.cell? ⟨w.heap.size + 1, 6, none⟩ = some (.int .i64 fl) := J2.at 6
  refine (C _).mono ?_
  rintro r w3 ⟨rfl, rfl⟩
  go_wp2_with (first
    | (go_at_call 77; refine (leastNormal_w _).mono ?_; rintro r w4 ⟨rfl, b4⟩; replace J1 := J1.below b4 J1.lt; replace J2 := J2.below b4 J2.lt; replace pr2 := bel pr2 b4; clear b4; have e0 : w4.cell? ⟨w.heap.size, 0, none⟩ = some (.int .i64 53) := J1.at 0; have e1 : w4.cell? ⟨w.heap.size, 1, none⟩ = some (.int .i64 (-1074)) := J1.at 1; have e2 : w4.cell? ⟨w.heap.size, 2, none⟩ = some (.int .i64 971) := J1.at 2; have d0 : w4.cell? ⟨w.heap.size + 1, 0, none⟩ = some (.int .i64 2) := J2.at 0; have d1 : w4.cell? ⟨w.heap.size + 1, 1, none⟩ = some (.bool g) := J2.at 1; have d2 : w4.cell? ⟨w.heap.size + 1, 2, none⟩ = some (.int .u64 H) := J2.at 2; have d3 : w4.cell? ⟨w.heap.size + 1, 3, none⟩ = some (.int .u64 0) := J2.at 3; have d4 : w4.cell? ⟨w.heap.size + 1, 4, none⟩ = some (.int .i64 x) := J2.at 4; have d5 : w4.cell? ⟨w.heap.size + 1, 5, none⟩ = some (.bool mr) := J2.at 5; have d6 : w4.cell? ⟨w.heap.size + 1, 6, none⟩ = some (.int .i64 fl) := J2.at 6)
    | fail)
  go_region_held3 (fun x => x.cell? ⟨w.heap.size, 0, none⟩ = some (.int .i64 53) ∧ x.cell? ⟨w.heap.size, 1, none⟩ = some (.int .i64 (-1074)) ∧ x.cell? ⟨w.heap.size, 2, none⟩ = some (.int .i64 971) ∧ x.cell? ⟨w.heap.size + 1, 1, none⟩ = some (.bool g)) (go_keep) (first
    | (go_at_call 83; (with_reducible refine (finite_w g 4503599627370496 X' _).mono ?_); rintro r w5 ⟨rfl, b5⟩; replace J1 := J1.below b5 J1.lt; replace J2 := J2.below b5 J2.lt; replace pr2 := bel pr2 b5; clear b5; have e0 : w5.cell? ⟨w.heap.size, 0, none⟩ = some (.int .i64 53) := J1.at 0; have e1 : w5.cell? ⟨w.heap.size, 1, none⟩ = some (.int .i64 (-1074)) := J1.at 1; have e2 : w5.cell? ⟨w.heap.size, 2, none⟩ = some (.int .i64 971) := J1.at 2; have d1 : w5.cell? ⟨w.heap.size + 1, 1, none⟩ = some (.bool g) := J2.at 1)
    | (go_at_call 83; (with_reducible refine (finite_w g 4503599627370496 X' _).mono ?_); rintro r w5 ⟨rfl, b5⟩; replace J1 := J1.below (below_undrew b5) J1.lt; replace J2 := J2.below (below_undrew b5) J2.lt; replace pr2 := bel pr2 (below_undrew b5); clear b5; have e0 : w5.cell? ⟨w.heap.size, 0, none⟩ = some (.int .i64 53) := J1.at 0; have e1 : w5.cell? ⟨w.heap.size, 1, none⟩ = some (.int .i64 (-1074)) := J1.at 1; have e2 : w5.cell? ⟨w.heap.size, 2, none⟩ = some (.int .i64 971) := J1.at 2; have d1 : w5.cell? ⟨w.heap.size + 1, 1, none⟩ = some (.bool g) := J2.at 1)
    | (go_at_call 79; (with_reducible refine (PK _).mono ?_); rintro r w6 ⟨rfl, b5⟩; replace J1 := J1.below b5 J1.lt; replace J2 := J2.below b5 J2.lt; replace pr2 := bel pr2 b5; clear b5; have e0 : w6.cell? ⟨w.heap.size, 0, none⟩ = some (.int .i64 53) := J1.at 0; have e1 : w6.cell? ⟨w.heap.size, 1, none⟩ = some (.int .i64 (-1074)) := J1.at 1; have e2 : w6.cell? ⟨w.heap.size, 2, none⟩ = some (.int .i64 971) := J1.at 2; have d1 : w6.cell? ⟨w.heap.size + 1, 1, none⟩ = some (.bool g) := J2.at 1)
    | (go_at_call 79; (with_reducible refine (PK _).mono ?_); rintro r w6 ⟨rfl, b5⟩; replace J1 := J1.below (below_undrew b5) J1.lt; replace J2 := J2.below (below_undrew b5) J2.lt; replace pr2 := bel pr2 (below_undrew b5); clear b5; have e0 : w6.cell? ⟨w.heap.size, 0, none⟩ = some (.int .i64 53) := J1.at 0; have e1 : w6.cell? ⟨w.heap.size, 1, none⟩ = some (.int .i64 (-1074)) := J1.at 1; have e2 : w6.cell? ⟨w.heap.size, 2, none⟩ = some (.int .i64 971) := J1.at 2; have d1 : w6.cell? ⟨w.heap.size + 1, 1, none⟩ = some (.bool g) := J2.at 1)
    | fail)
  go_wp2
  exact bodyPost_ret (v := .tuple #[.int .u64 N, .int .i64 24]) (by simp [results, Try.results53, go_sem]) rfl ⟨rfl, pr2⟩
set_option maxRecDepth 100000 in
set_option maxHeartbeats 3200000 in
theorem round_w_carry_plain (g mr : Bool) (way h l E H x fl y1 y2 y3 X N : Int) (p : Nat) (hy1 : IntKind.i64.wrap (x + 128) = y1) (hy2 : IntKind.i64.wrap (y1 - 53) = y2) (hX : max y2 (-1074) = X) (hy3 : IntKind.i64.wrap (X - x) = y3) (hP : IntKind.i64.wrap (y3 - 64) = (p : Int))
    (R : ∀ w, Calls Try.prog 80 #[.agg #[.int .i64 2, .bool g, .int .u64 h, .int .u64 l, .int .i64 E, .bool mr, .int .i64 fl]] w fun e w' => e = .returned (.agg #[.int .i64 2, .bool g, .int .u64 H, .int .u64 0, .int .i64 x, .bool mr, .int .i64 fl]) ∧ Below w.heap.size w w')
    (C : ∀ w, Calls Try.prog 81 #[.int .u64 H, .int .i64 p, .bool mr, .bool g, .int .i64 way] w fun e w' => e = .returned (.tuple #[.int .u64 9007199254740992, .bool false]) ∧ w' = w) (X' : Int) (hX' : IntKind.i64.wrap (X + 1) = X') (o : X' ≤ 971)
    (PK : ∀ w, Calls Try.prog 79 #[fmtW, prt4 (finW g 4503599627370496 X')] w fun e w' => e = .returned (.int .u64 N) ∧ Below w.heap.size w w') (s : decide (y1 < -1021) = false) (w : World) :
    Calls Try.prog 53 #[.agg #[.int .i64 53, .int .i64 (-1074), .int .i64 971], .agg #[.int .i64 2, .bool g, .int .u64 h, .int .u64 l, .int .i64 E, .bool mr, .int .i64 fl], .int .i64 way] w fun e w' => e = .returned (.tuple #[.int .u64 N, .int .i64 16]) ∧ Below w.heap.size w w' := by
  have o2 : ¬ (971 : Int) < X' := by omega
  have c1 : IntKind.i64.wrap (-1074 + 53) = -1021 := by decide
  go_enter Try.func53, Try.ntmps53
  have K1 : Blk ((w.alloc (.cells #[.int .i64 53, .int .i64 (-1074), .int .i64 971] 72)).alloc (.cells #[.int .i64 2, .bool g, .int .u64 h, .int .u64 l, .int .i64 E, .bool mr, .int .i64 fl] 85)) w.heap.size #[.int .i64 53, .int .i64 (-1074), .int .i64 971] 72 := (Blk.new w _ _).alloc _
  have K2 := Blk.new (w.alloc (.cells #[.int .i64 53, .int .i64 (-1074), .int .i64 971] 72)) #[.int .i64 2, .bool g, .int .u64 h, .int .u64 l, .int .i64 E, .bool mr, .int .i64 fl] 85
  have pr : Below w.heap.size w ((w.alloc (.cells #[.int .i64 53, .int .i64 (-1074), .int .i64 971] 72)).alloc (.cells #[.int .i64 2, .bool g, .int .u64 h, .int .u64 l, .int .i64 E, .bool mr, .int .i64 fl] 85)) := ((Below.refl _ _).alloc (Nat.le_refl _) _).alloc (by simp) _
  simp only [World.size_alloc] at K2
  go_wp2_with (first
    | (go_at_call 80; refine (R _).mono ?_; rintro e w1 ⟨rfl, b1⟩; replace K1 := K1.below b1 K1.lt; replace K2 := K2.below b1 K2.lt; replace pr := bel pr b1; clear b1; have e0 : w1.cell? ⟨w.heap.size, 0, none⟩ = some (.int .i64 53) := K1.at 0; have e1 : w1.cell? ⟨w.heap.size, 1, none⟩ = some (.int .i64 (-1074)) := K1.at 1; have e2 : w1.cell? ⟨w.heap.size, 2, none⟩ = some (.int .i64 971) := K1.at 2; have d0 : w1.cell? ⟨w.heap.size + 1, 0, none⟩ = some (.int .i64 2) := K2.at 0; have d1 : w1.cell? ⟨w.heap.size + 1, 1, none⟩ = some (.bool g) := K2.at 1; have d2 : w1.cell? ⟨w.heap.size + 1, 2, none⟩ = some (.int .u64 h) := K2.at 2; have d3 : w1.cell? ⟨w.heap.size + 1, 3, none⟩ = some (.int .u64 l) := K2.at 3; have d4 : w1.cell? ⟨w.heap.size + 1, 4, none⟩ = some (.int .i64 E) := K2.at 4; have d5 : w1.cell? ⟨w.heap.size + 1, 5, none⟩ = some (.bool mr) := K2.at 5; have d6 : w1.cell? ⟨w.heap.size + 1, 6, none⟩ = some (.int .i64 fl) := K2.at 6; have g0 := K2.free 0; have g1 := K2.free 1; have g2 := K2.free 2; have g3 := K2.free 3; have g4 := K2.free 4; have g5 := K2.free 5; have g6 := K2.free 6)
    | fail)
  have J1 : Blk (((((((w1.setCell ⟨w.heap.size + 1, 0, none⟩ (.int .i64 2)).setCell ⟨w.heap.size + 1, 1, none⟩ (.bool g)).setCell ⟨w.heap.size + 1, 2, none⟩ (.int .u64 H)).setCell ⟨w.heap.size + 1, 3, none⟩ (.int .u64 0)).setCell ⟨w.heap.size + 1, 4, none⟩ (.int .i64 x)).setCell ⟨w.heap.size + 1, 5, none⟩ (.bool mr)).setCell ⟨w.heap.size + 1, 6, none⟩ (.int .i64 fl)) w.heap.size #[.int .i64 53, .int .i64 (-1074), .int .i64 971] 72 := (blk_set_other (blk_set_other (blk_set_other (blk_set_other (blk_set_other (blk_set_other (blk_set_other K1 (Nat.ne_of_lt (Nat.lt_succ_self _))) (Nat.ne_of_lt (Nat.lt_succ_self _))) (Nat.ne_of_lt (Nat.lt_succ_self _))) (Nat.ne_of_lt (Nat.lt_succ_self _))) (Nat.ne_of_lt (Nat.lt_succ_self _))) (Nat.ne_of_lt (Nat.lt_succ_self _))) (Nat.ne_of_lt (Nat.lt_succ_self _)))
  have J2 : Blk (((((((w1.setCell ⟨w.heap.size + 1, 0, none⟩ (.int .i64 2)).setCell ⟨w.heap.size + 1, 1, none⟩ (.bool g)).setCell ⟨w.heap.size + 1, 2, none⟩ (.int .u64 H)).setCell ⟨w.heap.size + 1, 3, none⟩ (.int .u64 0)).setCell ⟨w.heap.size + 1, 4, none⟩ (.int .i64 x)).setCell ⟨w.heap.size + 1, 5, none⟩ (.bool mr)).setCell ⟨w.heap.size + 1, 6, none⟩ (.int .i64 fl)) (w.heap.size + 1) #[.int .i64 2, .bool g, .int .u64 H, .int .u64 0, .int .i64 x, .bool mr, .int .i64 fl] 85 := (blk_set (blk_set (blk_set (blk_set (blk_set (blk_set (blk_set K2)))))))
  have pr2 : Below w.heap.size w (((((((w1.setCell ⟨w.heap.size + 1, 0, none⟩ (.int .i64 2)).setCell ⟨w.heap.size + 1, 1, none⟩ (.bool g)).setCell ⟨w.heap.size + 1, 2, none⟩ (.int .u64 H)).setCell ⟨w.heap.size + 1, 3, none⟩ (.int .u64 0)).setCell ⟨w.heap.size + 1, 4, none⟩ (.int .i64 x)).setCell ⟨w.heap.size + 1, 5, none⟩ (.bool mr)).setCell ⟨w.heap.size + 1, 6, none⟩ (.int .i64 fl)) := (bel_set (bel_set (bel_set (bel_set (bel_set (bel_set (bel_set pr (Nat.le_succ _)) (Nat.le_succ _)) (Nat.le_succ _)) (Nat.le_succ _)) (Nat.le_succ _)) (Nat.le_succ _)) (Nat.le_succ _))
  clear K1 K2 pr e0 e1 e2 d0 d1 d2 d3 d4 d5 d6 g0 g1 g2 g3 g4 g5 g6
  generalize (((((((w1.setCell ⟨w.heap.size + 1, 0, none⟩ (.int .i64 2)).setCell ⟨w.heap.size + 1, 1, none⟩ (.bool g)).setCell ⟨w.heap.size + 1, 2, none⟩ (.int .u64 H)).setCell ⟨w.heap.size + 1, 3, none⟩ (.int .u64 0)).setCell ⟨w.heap.size + 1, 4, none⟩ (.int .i64 x)).setCell ⟨w.heap.size + 1, 5, none⟩ (.bool mr)).setCell ⟨w.heap.size + 1, 6, none⟩ (.int .i64 fl)) = W2 at *
  have e0 : W2.cell? ⟨w.heap.size, 0, none⟩ = some (.int .i64 53) := J1.at 0
  have e1 : W2.cell? ⟨w.heap.size, 1, none⟩ = some (.int .i64 (-1074)) := J1.at 1
  have e2 : W2.cell? ⟨w.heap.size, 2, none⟩ = some (.int .i64 971) := J1.at 2
  have d0 : W2.cell? ⟨w.heap.size + 1, 0, none⟩ = some (.int .i64 2) := J2.at 0
  have d1 : W2.cell? ⟨w.heap.size + 1, 1, none⟩ = some (.bool g) := J2.at 1
  have d2 : W2.cell? ⟨w.heap.size + 1, 2, none⟩ = some (.int .u64 H) := J2.at 2
  have d3 : W2.cell? ⟨w.heap.size + 1, 3, none⟩ = some (.int .u64 0) := J2.at 3
  have d4 : W2.cell? ⟨w.heap.size + 1, 4, none⟩ = some (.int .i64 x) := J2.at 4
  have d5 : W2.cell? ⟨w.heap.size + 1, 5, none⟩ = some (.bool mr) := J2.at 5
  have d6 : W2.cell? ⟨w.heap.size + 1, 6, none⟩ = some (.int .i64 fl) := J2.at 6
  refine (C _).mono ?_
  rintro r w3 ⟨rfl, rfl⟩
  go_wp2_with (first
    | (go_at_call 77; refine (leastNormal_w _).mono ?_; rintro r w4 ⟨rfl, b4⟩; replace J1 := J1.below b4 J1.lt; replace J2 := J2.below b4 J2.lt; replace pr2 := bel pr2 b4; clear b4; have e0 : w4.cell? ⟨w.heap.size, 0, none⟩ = some (.int .i64 53) := J1.at 0; have e1 : w4.cell? ⟨w.heap.size, 1, none⟩ = some (.int .i64 (-1074)) := J1.at 1; have e2 : w4.cell? ⟨w.heap.size, 2, none⟩ = some (.int .i64 971) := J1.at 2; have d0 : w4.cell? ⟨w.heap.size + 1, 0, none⟩ = some (.int .i64 2) := J2.at 0; have d1 : w4.cell? ⟨w.heap.size + 1, 1, none⟩ = some (.bool g) := J2.at 1; have d2 : w4.cell? ⟨w.heap.size + 1, 2, none⟩ = some (.int .u64 H) := J2.at 2; have d3 : w4.cell? ⟨w.heap.size + 1, 3, none⟩ = some (.int .u64 0) := J2.at 3; have d4 : w4.cell? ⟨w.heap.size + 1, 4, none⟩ = some (.int .i64 x) := J2.at 4; have d5 : w4.cell? ⟨w.heap.size + 1, 5, none⟩ = some (.bool mr) := J2.at 5; have d6 : w4.cell? ⟨w.heap.size + 1, 6, none⟩ = some (.int .i64 fl) := J2.at 6)
    | fail)
  go_region_held3 (fun x => x.cell? ⟨w.heap.size, 0, none⟩ = some (.int .i64 53) ∧ x.cell? ⟨w.heap.size, 1, none⟩ = some (.int .i64 (-1074)) ∧ x.cell? ⟨w.heap.size, 2, none⟩ = some (.int .i64 971) ∧ x.cell? ⟨w.heap.size + 1, 1, none⟩ = some (.bool g)) (go_keep) (first
    | (go_at_call 83; (with_reducible refine (finite_w g 4503599627370496 X' _).mono ?_); rintro r w5 ⟨rfl, b5⟩; replace J1 := J1.below b5 J1.lt; replace J2 := J2.below b5 J2.lt; replace pr2 := bel pr2 b5; clear b5; have e0 : w5.cell? ⟨w.heap.size, 0, none⟩ = some (.int .i64 53) := J1.at 0; have e1 : w5.cell? ⟨w.heap.size, 1, none⟩ = some (.int .i64 (-1074)) := J1.at 1; have e2 : w5.cell? ⟨w.heap.size, 2, none⟩ = some (.int .i64 971) := J1.at 2; have d1 : w5.cell? ⟨w.heap.size + 1, 1, none⟩ = some (.bool g) := J2.at 1)
    | (go_at_call 83; (with_reducible refine (finite_w g 4503599627370496 X' _).mono ?_); rintro r w5 ⟨rfl, b5⟩; replace J1 := J1.below (below_undrew b5) J1.lt; replace J2 := J2.below (below_undrew b5) J2.lt; replace pr2 := bel pr2 (below_undrew b5); clear b5; have e0 : w5.cell? ⟨w.heap.size, 0, none⟩ = some (.int .i64 53) := J1.at 0; have e1 : w5.cell? ⟨w.heap.size, 1, none⟩ = some (.int .i64 (-1074)) := J1.at 1; have e2 : w5.cell? ⟨w.heap.size, 2, none⟩ = some (.int .i64 971) := J1.at 2; have d1 : w5.cell? ⟨w.heap.size + 1, 1, none⟩ = some (.bool g) := J2.at 1)
    | (go_at_call 79; (with_reducible refine (PK _).mono ?_); rintro r w6 ⟨rfl, b5⟩; replace J1 := J1.below b5 J1.lt; replace J2 := J2.below b5 J2.lt; replace pr2 := bel pr2 b5; clear b5; have e0 : w6.cell? ⟨w.heap.size, 0, none⟩ = some (.int .i64 53) := J1.at 0; have e1 : w6.cell? ⟨w.heap.size, 1, none⟩ = some (.int .i64 (-1074)) := J1.at 1; have e2 : w6.cell? ⟨w.heap.size, 2, none⟩ = some (.int .i64 971) := J1.at 2; have d1 : w6.cell? ⟨w.heap.size + 1, 1, none⟩ = some (.bool g) := J2.at 1)
    | (go_at_call 79; (with_reducible refine (PK _).mono ?_); rintro r w6 ⟨rfl, b5⟩; replace J1 := J1.below (below_undrew b5) J1.lt; replace J2 := J2.below (below_undrew b5) J2.lt; replace pr2 := bel pr2 (below_undrew b5); clear b5; have e0 : w6.cell? ⟨w.heap.size, 0, none⟩ = some (.int .i64 53) := J1.at 0; have e1 : w6.cell? ⟨w.heap.size, 1, none⟩ = some (.int .i64 (-1074)) := J1.at 1; have e2 : w6.cell? ⟨w.heap.size, 2, none⟩ = some (.int .i64 971) := J1.at 2; have d1 : w6.cell? ⟨w.heap.size + 1, 1, none⟩ = some (.bool g) := J2.at 1)
    | fail)
  go_wp2
  exact bodyPost_ret (v := .tuple #[.int .u64 N, .int .i64 16]) (by simp [results, Try.results53, go_sem]) rfl ⟨rfl, pr2⟩
set_option maxRecDepth 100000 in
set_option maxHeartbeats 3200000 in
theorem round_s_carry_over (g mr : Bool) (way h l E H x fl y1 y2 y3 X N : Int) (p : Nat) (hy1 : IntKind.i64.wrap (x + 128) = y1) (hy2 : IntKind.i64.wrap (y1 - 24) = y2) (hX : max y2 (-149) = X) (hy3 : IntKind.i64.wrap (X - x) = y3) (hP : IntKind.i64.wrap (y3 - 64) = (p : Int))
    (R : ∀ w, Calls Try.prog 80 #[.agg #[.int .i64 2, .bool g, .int .u64 h, .int .u64 l, .int .i64 E, .bool mr, .int .i64 fl]] w fun e w' => e = .returned (.agg #[.int .i64 2, .bool g, .int .u64 H, .int .u64 0, .int .i64 x, .bool mr, .int .i64 fl]) ∧ Below w.heap.size w w')
    (kp : Bool) (C : ∀ w, Calls Try.prog 81 #[.int .u64 H, .int .i64 p, .bool mr, .bool g, .int .i64 way] w fun e w' => e = .returned (.tuple #[.int .u64 16777216, .bool kp]) ∧ w' = w) (X' : Int) (hX' : IntKind.i64.wrap (X + 1) = X') (o : 104 < X')
    (TG : ∀ w, Calls Try.prog 82 #[.agg #[.int .i64 24, .int .i64 (-149), .int .i64 104], .bool g, .int .i64 way] w fun e w' => e = .returned (.int .u64 N) ∧ Below w.heap.size w w') (w : World) :
    Calls Try.prog 53 #[.agg #[.int .i64 24, .int .i64 (-149), .int .i64 104], .agg #[.int .i64 2, .bool g, .int .u64 h, .int .u64 l, .int .i64 E, .bool mr, .int .i64 fl], .int .i64 way] w fun e w' => e = .returned (.tuple #[.int .u64 N, .int .i64 20]) ∧ Below w.heap.size w w' := by
  go_enter Try.func53, Try.ntmps53
  have K1 : Blk ((w.alloc (.cells #[.int .i64 24, .int .i64 (-149), .int .i64 104] 72)).alloc (.cells #[.int .i64 2, .bool g, .int .u64 h, .int .u64 l, .int .i64 E, .bool mr, .int .i64 fl] 85)) w.heap.size #[.int .i64 24, .int .i64 (-149), .int .i64 104] 72 := (Blk.new w _ _).alloc _
  have K2 := Blk.new (w.alloc (.cells #[.int .i64 24, .int .i64 (-149), .int .i64 104] 72)) #[.int .i64 2, .bool g, .int .u64 h, .int .u64 l, .int .i64 E, .bool mr, .int .i64 fl] 85
  have pr : Below w.heap.size w ((w.alloc (.cells #[.int .i64 24, .int .i64 (-149), .int .i64 104] 72)).alloc (.cells #[.int .i64 2, .bool g, .int .u64 h, .int .u64 l, .int .i64 E, .bool mr, .int .i64 fl] 85)) := ((Below.refl _ _).alloc (Nat.le_refl _) _).alloc (by simp) _
  simp only [World.size_alloc] at K2
  go_wp2_with (first
    | (go_at_call 80; refine (R _).mono ?_; rintro e w1 ⟨rfl, b1⟩; replace K1 := K1.below b1 K1.lt; replace K2 := K2.below b1 K2.lt; replace pr := bel pr b1; clear b1; have e0 : w1.cell? ⟨w.heap.size, 0, none⟩ = some (.int .i64 24) := K1.at 0; have e1 : w1.cell? ⟨w.heap.size, 1, none⟩ = some (.int .i64 (-149)) := K1.at 1; have e2 : w1.cell? ⟨w.heap.size, 2, none⟩ = some (.int .i64 104) := K1.at 2; have d0 : w1.cell? ⟨w.heap.size + 1, 0, none⟩ = some (.int .i64 2) := K2.at 0; have d1 : w1.cell? ⟨w.heap.size + 1, 1, none⟩ = some (.bool g) := K2.at 1; have d2 : w1.cell? ⟨w.heap.size + 1, 2, none⟩ = some (.int .u64 h) := K2.at 2; have d3 : w1.cell? ⟨w.heap.size + 1, 3, none⟩ = some (.int .u64 l) := K2.at 3; have d4 : w1.cell? ⟨w.heap.size + 1, 4, none⟩ = some (.int .i64 E) := K2.at 4; have d5 : w1.cell? ⟨w.heap.size + 1, 5, none⟩ = some (.bool mr) := K2.at 5; have d6 : w1.cell? ⟨w.heap.size + 1, 6, none⟩ = some (.int .i64 fl) := K2.at 6; have g0 := K2.free 0; have g1 := K2.free 1; have g2 := K2.free 2; have g3 := K2.free 3; have g4 := K2.free 4; have g5 := K2.free 5; have g6 := K2.free 6)
    | fail)
  have J1 : Blk (((((((w1.setCell ⟨w.heap.size + 1, 0, none⟩ (.int .i64 2)).setCell ⟨w.heap.size + 1, 1, none⟩ (.bool g)).setCell ⟨w.heap.size + 1, 2, none⟩ (.int .u64 H)).setCell ⟨w.heap.size + 1, 3, none⟩ (.int .u64 0)).setCell ⟨w.heap.size + 1, 4, none⟩ (.int .i64 x)).setCell ⟨w.heap.size + 1, 5, none⟩ (.bool mr)).setCell ⟨w.heap.size + 1, 6, none⟩ (.int .i64 fl)) w.heap.size #[.int .i64 24, .int .i64 (-149), .int .i64 104] 72 := (blk_set_other (blk_set_other (blk_set_other (blk_set_other (blk_set_other (blk_set_other (blk_set_other K1 (Nat.ne_of_lt (Nat.lt_succ_self _))) (Nat.ne_of_lt (Nat.lt_succ_self _))) (Nat.ne_of_lt (Nat.lt_succ_self _))) (Nat.ne_of_lt (Nat.lt_succ_self _))) (Nat.ne_of_lt (Nat.lt_succ_self _))) (Nat.ne_of_lt (Nat.lt_succ_self _))) (Nat.ne_of_lt (Nat.lt_succ_self _)))
  have J2 : Blk (((((((w1.setCell ⟨w.heap.size + 1, 0, none⟩ (.int .i64 2)).setCell ⟨w.heap.size + 1, 1, none⟩ (.bool g)).setCell ⟨w.heap.size + 1, 2, none⟩ (.int .u64 H)).setCell ⟨w.heap.size + 1, 3, none⟩ (.int .u64 0)).setCell ⟨w.heap.size + 1, 4, none⟩ (.int .i64 x)).setCell ⟨w.heap.size + 1, 5, none⟩ (.bool mr)).setCell ⟨w.heap.size + 1, 6, none⟩ (.int .i64 fl)) (w.heap.size + 1) #[.int .i64 2, .bool g, .int .u64 H, .int .u64 0, .int .i64 x, .bool mr, .int .i64 fl] 85 := (blk_set (blk_set (blk_set (blk_set (blk_set (blk_set (blk_set K2)))))))
  have pr2 : Below w.heap.size w (((((((w1.setCell ⟨w.heap.size + 1, 0, none⟩ (.int .i64 2)).setCell ⟨w.heap.size + 1, 1, none⟩ (.bool g)).setCell ⟨w.heap.size + 1, 2, none⟩ (.int .u64 H)).setCell ⟨w.heap.size + 1, 3, none⟩ (.int .u64 0)).setCell ⟨w.heap.size + 1, 4, none⟩ (.int .i64 x)).setCell ⟨w.heap.size + 1, 5, none⟩ (.bool mr)).setCell ⟨w.heap.size + 1, 6, none⟩ (.int .i64 fl)) := (bel_set (bel_set (bel_set (bel_set (bel_set (bel_set (bel_set pr (Nat.le_succ _)) (Nat.le_succ _)) (Nat.le_succ _)) (Nat.le_succ _)) (Nat.le_succ _)) (Nat.le_succ _)) (Nat.le_succ _))
  clear K1 K2 pr e0 e1 e2 d0 d1 d2 d3 d4 d5 d6 g0 g1 g2 g3 g4 g5 g6
  generalize (((((((w1.setCell ⟨w.heap.size + 1, 0, none⟩ (.int .i64 2)).setCell ⟨w.heap.size + 1, 1, none⟩ (.bool g)).setCell ⟨w.heap.size + 1, 2, none⟩ (.int .u64 H)).setCell ⟨w.heap.size + 1, 3, none⟩ (.int .u64 0)).setCell ⟨w.heap.size + 1, 4, none⟩ (.int .i64 x)).setCell ⟨w.heap.size + 1, 5, none⟩ (.bool mr)).setCell ⟨w.heap.size + 1, 6, none⟩ (.int .i64 fl)) = W2 at *
  have e0 : W2.cell? ⟨w.heap.size, 0, none⟩ = some (.int .i64 24) := J1.at 0
  have e1 : W2.cell? ⟨w.heap.size, 1, none⟩ = some (.int .i64 (-149)) := J1.at 1
  have e2 : W2.cell? ⟨w.heap.size, 2, none⟩ = some (.int .i64 104) := J1.at 2
  have d0 : W2.cell? ⟨w.heap.size + 1, 0, none⟩ = some (.int .i64 2) := J2.at 0
  have d1 : W2.cell? ⟨w.heap.size + 1, 1, none⟩ = some (.bool g) := J2.at 1
  have d2 : W2.cell? ⟨w.heap.size + 1, 2, none⟩ = some (.int .u64 H) := J2.at 2
  have d3 : W2.cell? ⟨w.heap.size + 1, 3, none⟩ = some (.int .u64 0) := J2.at 3
  have d4 : W2.cell? ⟨w.heap.size + 1, 4, none⟩ = some (.int .i64 x) := J2.at 4
  have d5 : W2.cell? ⟨w.heap.size + 1, 5, none⟩ = some (.bool mr) := J2.at 5
  have d6 : W2.cell? ⟨w.heap.size + 1, 6, none⟩ = some (.int .i64 fl) := J2.at 6
  refine (C _).mono ?_
  rintro r w3 ⟨rfl, rfl⟩
  go_wp2_with (first
    | (go_at_call 77; refine (leastNormal_s _).mono ?_; rintro r w4 ⟨rfl, b4⟩; replace J1 := J1.below b4 J1.lt; replace J2 := J2.below b4 J2.lt; replace pr2 := bel pr2 b4; clear b4; have e0 : w4.cell? ⟨w.heap.size, 0, none⟩ = some (.int .i64 24) := J1.at 0; have e1 : w4.cell? ⟨w.heap.size, 1, none⟩ = some (.int .i64 (-149)) := J1.at 1; have e2 : w4.cell? ⟨w.heap.size, 2, none⟩ = some (.int .i64 104) := J1.at 2; have d0 : w4.cell? ⟨w.heap.size + 1, 0, none⟩ = some (.int .i64 2) := J2.at 0; have d1 : w4.cell? ⟨w.heap.size + 1, 1, none⟩ = some (.bool g) := J2.at 1; have d2 : w4.cell? ⟨w.heap.size + 1, 2, none⟩ = some (.int .u64 H) := J2.at 2; have d3 : w4.cell? ⟨w.heap.size + 1, 3, none⟩ = some (.int .u64 0) := J2.at 3; have d4 : w4.cell? ⟨w.heap.size + 1, 4, none⟩ = some (.int .i64 x) := J2.at 4; have d5 : w4.cell? ⟨w.heap.size + 1, 5, none⟩ = some (.bool mr) := J2.at 5; have d6 : w4.cell? ⟨w.heap.size + 1, 6, none⟩ = some (.int .i64 fl) := J2.at 6)
    | (go_at_call 82; (with_reducible refine (TG _).mono ?_); rintro r w5 ⟨rfl, b5⟩; replace pr2 := bel pr2 b5; clear b5)
    | fail)
  exact bodyPost_ret (v := .tuple #[.int .u64 N, .int .i64 20]) (by simp [results, Try.results53, go_sem]) rfl ⟨rfl, pr2⟩
set_option maxRecDepth 100000 in
set_option maxHeartbeats 3200000 in
theorem round_s_carry_small (g mr : Bool) (way h l E H x fl y1 y2 y3 X N : Int) (p : Nat) (hy1 : IntKind.i64.wrap (x + 128) = y1) (hy2 : IntKind.i64.wrap (y1 - 24) = y2) (hX : max y2 (-149) = X) (hy3 : IntKind.i64.wrap (X - x) = y3) (hP : IntKind.i64.wrap (y3 - 64) = (p : Int))
    (R : ∀ w, Calls Try.prog 80 #[.agg #[.int .i64 2, .bool g, .int .u64 h, .int .u64 l, .int .i64 E, .bool mr, .int .i64 fl]] w fun e w' => e = .returned (.agg #[.int .i64 2, .bool g, .int .u64 H, .int .u64 0, .int .i64 x, .bool mr, .int .i64 fl]) ∧ Below w.heap.size w w')
    (C : ∀ w, Calls Try.prog 81 #[.int .u64 H, .int .i64 p, .bool mr, .bool g, .int .i64 way] w fun e w' => e = .returned (.tuple #[.int .u64 16777216, .bool false]) ∧ w' = w) (X' : Int) (hX' : IntKind.i64.wrap (X + 1) = X') (o : X' ≤ 104)
    (PK : ∀ w, Calls Try.prog 79 #[fmtS, prt4 (finS g 8388608 X')] w fun e w' => e = .returned (.int .u64 N) ∧ Below w.heap.size w w') (s : decide (y1 < -125) = true) (w : World) :
    Calls Try.prog 53 #[.agg #[.int .i64 24, .int .i64 (-149), .int .i64 104], .agg #[.int .i64 2, .bool g, .int .u64 h, .int .u64 l, .int .i64 E, .bool mr, .int .i64 fl], .int .i64 way] w fun e w' => e = .returned (.tuple #[.int .u64 N, .int .i64 24]) ∧ Below w.heap.size w w' := by
  have o2 : ¬ (104 : Int) < X' := by omega
  have c1 : IntKind.i64.wrap (-149 + 24) = -125 := by decide
  go_enter Try.func53, Try.ntmps53
  have K1 : Blk ((w.alloc (.cells #[.int .i64 24, .int .i64 (-149), .int .i64 104] 72)).alloc (.cells #[.int .i64 2, .bool g, .int .u64 h, .int .u64 l, .int .i64 E, .bool mr, .int .i64 fl] 85)) w.heap.size #[.int .i64 24, .int .i64 (-149), .int .i64 104] 72 := (Blk.new w _ _).alloc _
  have K2 := Blk.new (w.alloc (.cells #[.int .i64 24, .int .i64 (-149), .int .i64 104] 72)) #[.int .i64 2, .bool g, .int .u64 h, .int .u64 l, .int .i64 E, .bool mr, .int .i64 fl] 85
  have pr : Below w.heap.size w ((w.alloc (.cells #[.int .i64 24, .int .i64 (-149), .int .i64 104] 72)).alloc (.cells #[.int .i64 2, .bool g, .int .u64 h, .int .u64 l, .int .i64 E, .bool mr, .int .i64 fl] 85)) := ((Below.refl _ _).alloc (Nat.le_refl _) _).alloc (by simp) _
  simp only [World.size_alloc] at K2
  go_wp2_with (first
    | (go_at_call 80; refine (R _).mono ?_; rintro e w1 ⟨rfl, b1⟩; replace K1 := K1.below b1 K1.lt; replace K2 := K2.below b1 K2.lt; replace pr := bel pr b1; clear b1; have e0 : w1.cell? ⟨w.heap.size, 0, none⟩ = some (.int .i64 24) := K1.at 0; have e1 : w1.cell? ⟨w.heap.size, 1, none⟩ = some (.int .i64 (-149)) := K1.at 1; have e2 : w1.cell? ⟨w.heap.size, 2, none⟩ = some (.int .i64 104) := K1.at 2; have d0 : w1.cell? ⟨w.heap.size + 1, 0, none⟩ = some (.int .i64 2) := K2.at 0; have d1 : w1.cell? ⟨w.heap.size + 1, 1, none⟩ = some (.bool g) := K2.at 1; have d2 : w1.cell? ⟨w.heap.size + 1, 2, none⟩ = some (.int .u64 h) := K2.at 2; have d3 : w1.cell? ⟨w.heap.size + 1, 3, none⟩ = some (.int .u64 l) := K2.at 3; have d4 : w1.cell? ⟨w.heap.size + 1, 4, none⟩ = some (.int .i64 E) := K2.at 4; have d5 : w1.cell? ⟨w.heap.size + 1, 5, none⟩ = some (.bool mr) := K2.at 5; have d6 : w1.cell? ⟨w.heap.size + 1, 6, none⟩ = some (.int .i64 fl) := K2.at 6; have g0 := K2.free 0; have g1 := K2.free 1; have g2 := K2.free 2; have g3 := K2.free 3; have g4 := K2.free 4; have g5 := K2.free 5; have g6 := K2.free 6)
    | fail)
  have J1 : Blk (((((((w1.setCell ⟨w.heap.size + 1, 0, none⟩ (.int .i64 2)).setCell ⟨w.heap.size + 1, 1, none⟩ (.bool g)).setCell ⟨w.heap.size + 1, 2, none⟩ (.int .u64 H)).setCell ⟨w.heap.size + 1, 3, none⟩ (.int .u64 0)).setCell ⟨w.heap.size + 1, 4, none⟩ (.int .i64 x)).setCell ⟨w.heap.size + 1, 5, none⟩ (.bool mr)).setCell ⟨w.heap.size + 1, 6, none⟩ (.int .i64 fl)) w.heap.size #[.int .i64 24, .int .i64 (-149), .int .i64 104] 72 := (blk_set_other (blk_set_other (blk_set_other (blk_set_other (blk_set_other (blk_set_other (blk_set_other K1 (Nat.ne_of_lt (Nat.lt_succ_self _))) (Nat.ne_of_lt (Nat.lt_succ_self _))) (Nat.ne_of_lt (Nat.lt_succ_self _))) (Nat.ne_of_lt (Nat.lt_succ_self _))) (Nat.ne_of_lt (Nat.lt_succ_self _))) (Nat.ne_of_lt (Nat.lt_succ_self _))) (Nat.ne_of_lt (Nat.lt_succ_self _)))
  have J2 : Blk (((((((w1.setCell ⟨w.heap.size + 1, 0, none⟩ (.int .i64 2)).setCell ⟨w.heap.size + 1, 1, none⟩ (.bool g)).setCell ⟨w.heap.size + 1, 2, none⟩ (.int .u64 H)).setCell ⟨w.heap.size + 1, 3, none⟩ (.int .u64 0)).setCell ⟨w.heap.size + 1, 4, none⟩ (.int .i64 x)).setCell ⟨w.heap.size + 1, 5, none⟩ (.bool mr)).setCell ⟨w.heap.size + 1, 6, none⟩ (.int .i64 fl)) (w.heap.size + 1) #[.int .i64 2, .bool g, .int .u64 H, .int .u64 0, .int .i64 x, .bool mr, .int .i64 fl] 85 := (blk_set (blk_set (blk_set (blk_set (blk_set (blk_set (blk_set K2)))))))
  have pr2 : Below w.heap.size w (((((((w1.setCell ⟨w.heap.size + 1, 0, none⟩ (.int .i64 2)).setCell ⟨w.heap.size + 1, 1, none⟩ (.bool g)).setCell ⟨w.heap.size + 1, 2, none⟩ (.int .u64 H)).setCell ⟨w.heap.size + 1, 3, none⟩ (.int .u64 0)).setCell ⟨w.heap.size + 1, 4, none⟩ (.int .i64 x)).setCell ⟨w.heap.size + 1, 5, none⟩ (.bool mr)).setCell ⟨w.heap.size + 1, 6, none⟩ (.int .i64 fl)) := (bel_set (bel_set (bel_set (bel_set (bel_set (bel_set (bel_set pr (Nat.le_succ _)) (Nat.le_succ _)) (Nat.le_succ _)) (Nat.le_succ _)) (Nat.le_succ _)) (Nat.le_succ _)) (Nat.le_succ _))
  clear K1 K2 pr e0 e1 e2 d0 d1 d2 d3 d4 d5 d6 g0 g1 g2 g3 g4 g5 g6
  generalize (((((((w1.setCell ⟨w.heap.size + 1, 0, none⟩ (.int .i64 2)).setCell ⟨w.heap.size + 1, 1, none⟩ (.bool g)).setCell ⟨w.heap.size + 1, 2, none⟩ (.int .u64 H)).setCell ⟨w.heap.size + 1, 3, none⟩ (.int .u64 0)).setCell ⟨w.heap.size + 1, 4, none⟩ (.int .i64 x)).setCell ⟨w.heap.size + 1, 5, none⟩ (.bool mr)).setCell ⟨w.heap.size + 1, 6, none⟩ (.int .i64 fl)) = W2 at *
  have e0 : W2.cell? ⟨w.heap.size, 0, none⟩ = some (.int .i64 24) := J1.at 0
  have e1 : W2.cell? ⟨w.heap.size, 1, none⟩ = some (.int .i64 (-149)) := J1.at 1
  have e2 : W2.cell? ⟨w.heap.size, 2, none⟩ = some (.int .i64 104) := J1.at 2
  have d0 : W2.cell? ⟨w.heap.size + 1, 0, none⟩ = some (.int .i64 2) := J2.at 0
  have d1 : W2.cell? ⟨w.heap.size + 1, 1, none⟩ = some (.bool g) := J2.at 1
  have d2 : W2.cell? ⟨w.heap.size + 1, 2, none⟩ = some (.int .u64 H) := J2.at 2
  have d3 : W2.cell? ⟨w.heap.size + 1, 3, none⟩ = some (.int .u64 0) := J2.at 3
  have d4 : W2.cell? ⟨w.heap.size + 1, 4, none⟩ = some (.int .i64 x) := J2.at 4
  have d5 : W2.cell? ⟨w.heap.size + 1, 5, none⟩ = some (.bool mr) := J2.at 5
  have d6 : W2.cell? ⟨w.heap.size + 1, 6, none⟩ = some (.int .i64 fl) := J2.at 6
  refine (C _).mono ?_
  rintro r w3 ⟨rfl, rfl⟩
  go_wp2_with (first
    | (go_at_call 77; refine (leastNormal_s _).mono ?_; rintro r w4 ⟨rfl, b4⟩; replace J1 := J1.below b4 J1.lt; replace J2 := J2.below b4 J2.lt; replace pr2 := bel pr2 b4; clear b4; have e0 : w4.cell? ⟨w.heap.size, 0, none⟩ = some (.int .i64 24) := J1.at 0; have e1 : w4.cell? ⟨w.heap.size, 1, none⟩ = some (.int .i64 (-149)) := J1.at 1; have e2 : w4.cell? ⟨w.heap.size, 2, none⟩ = some (.int .i64 104) := J1.at 2; have d0 : w4.cell? ⟨w.heap.size + 1, 0, none⟩ = some (.int .i64 2) := J2.at 0; have d1 : w4.cell? ⟨w.heap.size + 1, 1, none⟩ = some (.bool g) := J2.at 1; have d2 : w4.cell? ⟨w.heap.size + 1, 2, none⟩ = some (.int .u64 H) := J2.at 2; have d3 : w4.cell? ⟨w.heap.size + 1, 3, none⟩ = some (.int .u64 0) := J2.at 3; have d4 : w4.cell? ⟨w.heap.size + 1, 4, none⟩ = some (.int .i64 x) := J2.at 4; have d5 : w4.cell? ⟨w.heap.size + 1, 5, none⟩ = some (.bool mr) := J2.at 5; have d6 : w4.cell? ⟨w.heap.size + 1, 6, none⟩ = some (.int .i64 fl) := J2.at 6)
    | fail)
  go_region_held3 (fun x => x.cell? ⟨w.heap.size, 0, none⟩ = some (.int .i64 24) ∧ x.cell? ⟨w.heap.size, 1, none⟩ = some (.int .i64 (-149)) ∧ x.cell? ⟨w.heap.size, 2, none⟩ = some (.int .i64 104) ∧ x.cell? ⟨w.heap.size + 1, 1, none⟩ = some (.bool g)) (go_keep) (first
    | (go_at_call 83; (with_reducible refine (finite_s g 8388608 X' _).mono ?_); rintro r w5 ⟨rfl, b5⟩; replace J1 := J1.below b5 J1.lt; replace J2 := J2.below b5 J2.lt; replace pr2 := bel pr2 b5; clear b5; have e0 : w5.cell? ⟨w.heap.size, 0, none⟩ = some (.int .i64 24) := J1.at 0; have e1 : w5.cell? ⟨w.heap.size, 1, none⟩ = some (.int .i64 (-149)) := J1.at 1; have e2 : w5.cell? ⟨w.heap.size, 2, none⟩ = some (.int .i64 104) := J1.at 2; have d1 : w5.cell? ⟨w.heap.size + 1, 1, none⟩ = some (.bool g) := J2.at 1)
    | (go_at_call 83; (with_reducible refine (finite_s g 8388608 X' _).mono ?_); rintro r w5 ⟨rfl, b5⟩; replace J1 := J1.below (below_undrew b5) J1.lt; replace J2 := J2.below (below_undrew b5) J2.lt; replace pr2 := bel pr2 (below_undrew b5); clear b5; have e0 : w5.cell? ⟨w.heap.size, 0, none⟩ = some (.int .i64 24) := J1.at 0; have e1 : w5.cell? ⟨w.heap.size, 1, none⟩ = some (.int .i64 (-149)) := J1.at 1; have e2 : w5.cell? ⟨w.heap.size, 2, none⟩ = some (.int .i64 104) := J1.at 2; have d1 : w5.cell? ⟨w.heap.size + 1, 1, none⟩ = some (.bool g) := J2.at 1)
    | (go_at_call 79; (with_reducible refine (PK _).mono ?_); rintro r w6 ⟨rfl, b5⟩; replace J1 := J1.below b5 J1.lt; replace J2 := J2.below b5 J2.lt; replace pr2 := bel pr2 b5; clear b5; have e0 : w6.cell? ⟨w.heap.size, 0, none⟩ = some (.int .i64 24) := J1.at 0; have e1 : w6.cell? ⟨w.heap.size, 1, none⟩ = some (.int .i64 (-149)) := J1.at 1; have e2 : w6.cell? ⟨w.heap.size, 2, none⟩ = some (.int .i64 104) := J1.at 2; have d1 : w6.cell? ⟨w.heap.size + 1, 1, none⟩ = some (.bool g) := J2.at 1)
    | (go_at_call 79; (with_reducible refine (PK _).mono ?_); rintro r w6 ⟨rfl, b5⟩; replace J1 := J1.below (below_undrew b5) J1.lt; replace J2 := J2.below (below_undrew b5) J2.lt; replace pr2 := bel pr2 (below_undrew b5); clear b5; have e0 : w6.cell? ⟨w.heap.size, 0, none⟩ = some (.int .i64 24) := J1.at 0; have e1 : w6.cell? ⟨w.heap.size, 1, none⟩ = some (.int .i64 (-149)) := J1.at 1; have e2 : w6.cell? ⟨w.heap.size, 2, none⟩ = some (.int .i64 104) := J1.at 2; have d1 : w6.cell? ⟨w.heap.size + 1, 1, none⟩ = some (.bool g) := J2.at 1)
    | fail)
  go_wp2
  exact bodyPost_ret (v := .tuple #[.int .u64 N, .int .i64 24]) (by simp [results, Try.results53, go_sem]) rfl ⟨rfl, pr2⟩
set_option maxRecDepth 100000 in
set_option maxHeartbeats 3200000 in
theorem round_s_carry_plain (g mr : Bool) (way h l E H x fl y1 y2 y3 X N : Int) (p : Nat) (hy1 : IntKind.i64.wrap (x + 128) = y1) (hy2 : IntKind.i64.wrap (y1 - 24) = y2) (hX : max y2 (-149) = X) (hy3 : IntKind.i64.wrap (X - x) = y3) (hP : IntKind.i64.wrap (y3 - 64) = (p : Int))
    (R : ∀ w, Calls Try.prog 80 #[.agg #[.int .i64 2, .bool g, .int .u64 h, .int .u64 l, .int .i64 E, .bool mr, .int .i64 fl]] w fun e w' => e = .returned (.agg #[.int .i64 2, .bool g, .int .u64 H, .int .u64 0, .int .i64 x, .bool mr, .int .i64 fl]) ∧ Below w.heap.size w w')
    (C : ∀ w, Calls Try.prog 81 #[.int .u64 H, .int .i64 p, .bool mr, .bool g, .int .i64 way] w fun e w' => e = .returned (.tuple #[.int .u64 16777216, .bool false]) ∧ w' = w) (X' : Int) (hX' : IntKind.i64.wrap (X + 1) = X') (o : X' ≤ 104)
    (PK : ∀ w, Calls Try.prog 79 #[fmtS, prt4 (finS g 8388608 X')] w fun e w' => e = .returned (.int .u64 N) ∧ Below w.heap.size w w') (s : decide (y1 < -125) = false) (w : World) :
    Calls Try.prog 53 #[.agg #[.int .i64 24, .int .i64 (-149), .int .i64 104], .agg #[.int .i64 2, .bool g, .int .u64 h, .int .u64 l, .int .i64 E, .bool mr, .int .i64 fl], .int .i64 way] w fun e w' => e = .returned (.tuple #[.int .u64 N, .int .i64 16]) ∧ Below w.heap.size w w' := by
  have o2 : ¬ (104 : Int) < X' := by omega
  have c1 : IntKind.i64.wrap (-149 + 24) = -125 := by decide
  go_enter Try.func53, Try.ntmps53
  have K1 : Blk ((w.alloc (.cells #[.int .i64 24, .int .i64 (-149), .int .i64 104] 72)).alloc (.cells #[.int .i64 2, .bool g, .int .u64 h, .int .u64 l, .int .i64 E, .bool mr, .int .i64 fl] 85)) w.heap.size #[.int .i64 24, .int .i64 (-149), .int .i64 104] 72 := (Blk.new w _ _).alloc _
  have K2 := Blk.new (w.alloc (.cells #[.int .i64 24, .int .i64 (-149), .int .i64 104] 72)) #[.int .i64 2, .bool g, .int .u64 h, .int .u64 l, .int .i64 E, .bool mr, .int .i64 fl] 85
  have pr : Below w.heap.size w ((w.alloc (.cells #[.int .i64 24, .int .i64 (-149), .int .i64 104] 72)).alloc (.cells #[.int .i64 2, .bool g, .int .u64 h, .int .u64 l, .int .i64 E, .bool mr, .int .i64 fl] 85)) := ((Below.refl _ _).alloc (Nat.le_refl _) _).alloc (by simp) _
  simp only [World.size_alloc] at K2
  go_wp2_with (first
    | (go_at_call 80; refine (R _).mono ?_; rintro e w1 ⟨rfl, b1⟩; replace K1 := K1.below b1 K1.lt; replace K2 := K2.below b1 K2.lt; replace pr := bel pr b1; clear b1; have e0 : w1.cell? ⟨w.heap.size, 0, none⟩ = some (.int .i64 24) := K1.at 0; have e1 : w1.cell? ⟨w.heap.size, 1, none⟩ = some (.int .i64 (-149)) := K1.at 1; have e2 : w1.cell? ⟨w.heap.size, 2, none⟩ = some (.int .i64 104) := K1.at 2; have d0 : w1.cell? ⟨w.heap.size + 1, 0, none⟩ = some (.int .i64 2) := K2.at 0; have d1 : w1.cell? ⟨w.heap.size + 1, 1, none⟩ = some (.bool g) := K2.at 1; have d2 : w1.cell? ⟨w.heap.size + 1, 2, none⟩ = some (.int .u64 h) := K2.at 2; have d3 : w1.cell? ⟨w.heap.size + 1, 3, none⟩ = some (.int .u64 l) := K2.at 3; have d4 : w1.cell? ⟨w.heap.size + 1, 4, none⟩ = some (.int .i64 E) := K2.at 4; have d5 : w1.cell? ⟨w.heap.size + 1, 5, none⟩ = some (.bool mr) := K2.at 5; have d6 : w1.cell? ⟨w.heap.size + 1, 6, none⟩ = some (.int .i64 fl) := K2.at 6; have g0 := K2.free 0; have g1 := K2.free 1; have g2 := K2.free 2; have g3 := K2.free 3; have g4 := K2.free 4; have g5 := K2.free 5; have g6 := K2.free 6)
    | fail)
  have J1 : Blk (((((((w1.setCell ⟨w.heap.size + 1, 0, none⟩ (.int .i64 2)).setCell ⟨w.heap.size + 1, 1, none⟩ (.bool g)).setCell ⟨w.heap.size + 1, 2, none⟩ (.int .u64 H)).setCell ⟨w.heap.size + 1, 3, none⟩ (.int .u64 0)).setCell ⟨w.heap.size + 1, 4, none⟩ (.int .i64 x)).setCell ⟨w.heap.size + 1, 5, none⟩ (.bool mr)).setCell ⟨w.heap.size + 1, 6, none⟩ (.int .i64 fl)) w.heap.size #[.int .i64 24, .int .i64 (-149), .int .i64 104] 72 := (blk_set_other (blk_set_other (blk_set_other (blk_set_other (blk_set_other (blk_set_other (blk_set_other K1 (Nat.ne_of_lt (Nat.lt_succ_self _))) (Nat.ne_of_lt (Nat.lt_succ_self _))) (Nat.ne_of_lt (Nat.lt_succ_self _))) (Nat.ne_of_lt (Nat.lt_succ_self _))) (Nat.ne_of_lt (Nat.lt_succ_self _))) (Nat.ne_of_lt (Nat.lt_succ_self _))) (Nat.ne_of_lt (Nat.lt_succ_self _)))
  have J2 : Blk (((((((w1.setCell ⟨w.heap.size + 1, 0, none⟩ (.int .i64 2)).setCell ⟨w.heap.size + 1, 1, none⟩ (.bool g)).setCell ⟨w.heap.size + 1, 2, none⟩ (.int .u64 H)).setCell ⟨w.heap.size + 1, 3, none⟩ (.int .u64 0)).setCell ⟨w.heap.size + 1, 4, none⟩ (.int .i64 x)).setCell ⟨w.heap.size + 1, 5, none⟩ (.bool mr)).setCell ⟨w.heap.size + 1, 6, none⟩ (.int .i64 fl)) (w.heap.size + 1) #[.int .i64 2, .bool g, .int .u64 H, .int .u64 0, .int .i64 x, .bool mr, .int .i64 fl] 85 := (blk_set (blk_set (blk_set (blk_set (blk_set (blk_set (blk_set K2)))))))
  have pr2 : Below w.heap.size w (((((((w1.setCell ⟨w.heap.size + 1, 0, none⟩ (.int .i64 2)).setCell ⟨w.heap.size + 1, 1, none⟩ (.bool g)).setCell ⟨w.heap.size + 1, 2, none⟩ (.int .u64 H)).setCell ⟨w.heap.size + 1, 3, none⟩ (.int .u64 0)).setCell ⟨w.heap.size + 1, 4, none⟩ (.int .i64 x)).setCell ⟨w.heap.size + 1, 5, none⟩ (.bool mr)).setCell ⟨w.heap.size + 1, 6, none⟩ (.int .i64 fl)) := (bel_set (bel_set (bel_set (bel_set (bel_set (bel_set (bel_set pr (Nat.le_succ _)) (Nat.le_succ _)) (Nat.le_succ _)) (Nat.le_succ _)) (Nat.le_succ _)) (Nat.le_succ _)) (Nat.le_succ _))
  clear K1 K2 pr e0 e1 e2 d0 d1 d2 d3 d4 d5 d6 g0 g1 g2 g3 g4 g5 g6
  generalize (((((((w1.setCell ⟨w.heap.size + 1, 0, none⟩ (.int .i64 2)).setCell ⟨w.heap.size + 1, 1, none⟩ (.bool g)).setCell ⟨w.heap.size + 1, 2, none⟩ (.int .u64 H)).setCell ⟨w.heap.size + 1, 3, none⟩ (.int .u64 0)).setCell ⟨w.heap.size + 1, 4, none⟩ (.int .i64 x)).setCell ⟨w.heap.size + 1, 5, none⟩ (.bool mr)).setCell ⟨w.heap.size + 1, 6, none⟩ (.int .i64 fl)) = W2 at *
  have e0 : W2.cell? ⟨w.heap.size, 0, none⟩ = some (.int .i64 24) := J1.at 0
  have e1 : W2.cell? ⟨w.heap.size, 1, none⟩ = some (.int .i64 (-149)) := J1.at 1
  have e2 : W2.cell? ⟨w.heap.size, 2, none⟩ = some (.int .i64 104) := J1.at 2
  have d0 : W2.cell? ⟨w.heap.size + 1, 0, none⟩ = some (.int .i64 2) := J2.at 0
  have d1 : W2.cell? ⟨w.heap.size + 1, 1, none⟩ = some (.bool g) := J2.at 1
  have d2 : W2.cell? ⟨w.heap.size + 1, 2, none⟩ = some (.int .u64 H) := J2.at 2
  have d3 : W2.cell? ⟨w.heap.size + 1, 3, none⟩ = some (.int .u64 0) := J2.at 3
  have d4 : W2.cell? ⟨w.heap.size + 1, 4, none⟩ = some (.int .i64 x) := J2.at 4
  have d5 : W2.cell? ⟨w.heap.size + 1, 5, none⟩ = some (.bool mr) := J2.at 5
  have d6 : W2.cell? ⟨w.heap.size + 1, 6, none⟩ = some (.int .i64 fl) := J2.at 6
  refine (C _).mono ?_
  rintro r w3 ⟨rfl, rfl⟩
  go_wp2_with (first
    | (go_at_call 77; refine (leastNormal_s _).mono ?_; rintro r w4 ⟨rfl, b4⟩; replace J1 := J1.below b4 J1.lt; replace J2 := J2.below b4 J2.lt; replace pr2 := bel pr2 b4; clear b4; have e0 : w4.cell? ⟨w.heap.size, 0, none⟩ = some (.int .i64 24) := J1.at 0; have e1 : w4.cell? ⟨w.heap.size, 1, none⟩ = some (.int .i64 (-149)) := J1.at 1; have e2 : w4.cell? ⟨w.heap.size, 2, none⟩ = some (.int .i64 104) := J1.at 2; have d0 : w4.cell? ⟨w.heap.size + 1, 0, none⟩ = some (.int .i64 2) := J2.at 0; have d1 : w4.cell? ⟨w.heap.size + 1, 1, none⟩ = some (.bool g) := J2.at 1; have d2 : w4.cell? ⟨w.heap.size + 1, 2, none⟩ = some (.int .u64 H) := J2.at 2; have d3 : w4.cell? ⟨w.heap.size + 1, 3, none⟩ = some (.int .u64 0) := J2.at 3; have d4 : w4.cell? ⟨w.heap.size + 1, 4, none⟩ = some (.int .i64 x) := J2.at 4; have d5 : w4.cell? ⟨w.heap.size + 1, 5, none⟩ = some (.bool mr) := J2.at 5; have d6 : w4.cell? ⟨w.heap.size + 1, 6, none⟩ = some (.int .i64 fl) := J2.at 6)
    | fail)
  go_region_held3 (fun x => x.cell? ⟨w.heap.size, 0, none⟩ = some (.int .i64 24) ∧ x.cell? ⟨w.heap.size, 1, none⟩ = some (.int .i64 (-149)) ∧ x.cell? ⟨w.heap.size, 2, none⟩ = some (.int .i64 104) ∧ x.cell? ⟨w.heap.size + 1, 1, none⟩ = some (.bool g)) (go_keep) (first
    | (go_at_call 83; (with_reducible refine (finite_s g 8388608 X' _).mono ?_); rintro r w5 ⟨rfl, b5⟩; replace J1 := J1.below b5 J1.lt; replace J2 := J2.below b5 J2.lt; replace pr2 := bel pr2 b5; clear b5; have e0 : w5.cell? ⟨w.heap.size, 0, none⟩ = some (.int .i64 24) := J1.at 0; have e1 : w5.cell? ⟨w.heap.size, 1, none⟩ = some (.int .i64 (-149)) := J1.at 1; have e2 : w5.cell? ⟨w.heap.size, 2, none⟩ = some (.int .i64 104) := J1.at 2; have d1 : w5.cell? ⟨w.heap.size + 1, 1, none⟩ = some (.bool g) := J2.at 1)
    | (go_at_call 83; (with_reducible refine (finite_s g 8388608 X' _).mono ?_); rintro r w5 ⟨rfl, b5⟩; replace J1 := J1.below (below_undrew b5) J1.lt; replace J2 := J2.below (below_undrew b5) J2.lt; replace pr2 := bel pr2 (below_undrew b5); clear b5; have e0 : w5.cell? ⟨w.heap.size, 0, none⟩ = some (.int .i64 24) := J1.at 0; have e1 : w5.cell? ⟨w.heap.size, 1, none⟩ = some (.int .i64 (-149)) := J1.at 1; have e2 : w5.cell? ⟨w.heap.size, 2, none⟩ = some (.int .i64 104) := J1.at 2; have d1 : w5.cell? ⟨w.heap.size + 1, 1, none⟩ = some (.bool g) := J2.at 1)
    | (go_at_call 79; (with_reducible refine (PK _).mono ?_); rintro r w6 ⟨rfl, b5⟩; replace J1 := J1.below b5 J1.lt; replace J2 := J2.below b5 J2.lt; replace pr2 := bel pr2 b5; clear b5; have e0 : w6.cell? ⟨w.heap.size, 0, none⟩ = some (.int .i64 24) := J1.at 0; have e1 : w6.cell? ⟨w.heap.size, 1, none⟩ = some (.int .i64 (-149)) := J1.at 1; have e2 : w6.cell? ⟨w.heap.size, 2, none⟩ = some (.int .i64 104) := J1.at 2; have d1 : w6.cell? ⟨w.heap.size + 1, 1, none⟩ = some (.bool g) := J2.at 1)
    | (go_at_call 79; (with_reducible refine (PK _).mono ?_); rintro r w6 ⟨rfl, b5⟩; replace J1 := J1.below (below_undrew b5) J1.lt; replace J2 := J2.below (below_undrew b5) J2.lt; replace pr2 := bel pr2 (below_undrew b5); clear b5; have e0 : w6.cell? ⟨w.heap.size, 0, none⟩ = some (.int .i64 24) := J1.at 0; have e1 : w6.cell? ⟨w.heap.size, 1, none⟩ = some (.int .i64 (-149)) := J1.at 1; have e2 : w6.cell? ⟨w.heap.size, 2, none⟩ = some (.int .i64 104) := J1.at 2; have d1 : w6.cell? ⟨w.heap.size + 1, 1, none⟩ = some (.bool g) := J2.at 1)
    | fail)
  go_wp2
  exact bodyPost_ret (v := .tuple #[.int .u64 N, .int .i64 16]) (by simp [results, Try.results53, go_sem]) rfl ⟨rfl, pr2⟩
end Go.Proofs.Ytfpmegfdopnnpaa

namespace Go.Proofs.Ytfpmegfdopnnpaa
open Go.RowKit Tn

theorem pow64_le {p : Nat} (h : 64 ≤ p) : (18446744073709551616 : Int) ≤ 2 ^ p := L.two_pow_le h
set_option maxRecDepth 100000 in
set_option maxHeartbeats 1600000 in
/-- float.cut, beyond 64 places. -/
theorem cut_far (mant : Int) (places : Nat) (more neg : Bool) (way : Int) (m0 : 0 < mant) (m1 : mant < 18446744073709551616) (p1 : 64 < places) (p2 : places < 4611686018427387904) (w : World) :
    Calls Try.prog 81 #[.int .u64 mant, .int .i64 places, .bool more, .bool neg, .int .i64 way] w fun e w' => e = .returned (.tuple #[.int .u64 (cutF mant places more neg way).1, .bool (cutF mant places more neg way).2]) ∧ w' = w := by
  have B := besideHalf_far mant places more (by omega) (by omega)
  have A := IsAway_any neg false (-1) way
  have t1 : (18446744073709551616 : Int) ≤ 2 ^ (places - 1) := pow64_le (by omega)
  have t2 : (18446744073709551616 : Int) ≤ 2 ^ places := pow64_le (by omega)
  have q1 : mant / 2 ^ places = 0 := Int.ediv_eq_zero_of_lt (by omega) (by omega)
  have q2 : mant % 2 ^ places = mant := Int.emod_eq_of_lt (by omega) (by omega)
  have q3 : besideF mant places more = -1 := by unfold besideF; rw [if_pos (by omega)]
  have e : cutF mant places more neg way = (if awayF way neg false (-1) = true then 1 else 0, false) := by
    unfold cutF
    rw [q1, q2, q3, if_neg (fun k => by omega)]
    rfl
  rw [e]
  have mn : min (places : Int).toNat IntKind.u64.bits = 64 := by simp [IntKind.bits]; omega
  have s1 : Op.shift .shr .u64 mant .i64 (places : Int) = pure (.int .u64 0) := by
    rw [shift_shr_any _ _ _ _ (by omega), mn, show mant / 2 ^ 64 = 0 from Int.ediv_eq_zero_of_lt (by omega) (by omega)]
  have s2 : Op.shift .shl .u64 0 .i64 (places : Int) = pure (.int .u64 0) := by
    rw [shift_shl_any _ _ _ _ (by omega), mn]; rfl
  have s3 : IntKind.u64.wrap mant = mant := wu64 _ (by omega) (by omega)
  have z : (mant == 0) = false := by rw [beq_eq_false_iff_ne]; omega
  have b1 : (bits .and .u64 0 1 == 1) = false := by decide
  clear e q1 q2 q3 t1 t2 mn
  generalize awayF way neg false (-1) = t at *
  cases t
  · simp only [Bool.false_eq_true, if_false]
    go_enter Try.func81, Try.ntmps81
    go_wp2_with (first
      | (go_at_call 106; refine (B _).mono ?_; rintro x w1 ⟨rfl, rfl⟩)
      | (go_at_call 105; refine (A _).mono ?_; rintro x w1 ⟨rfl, rfl⟩)
      | fail)
    exact bodyPost_ret (v := .tuple #[.int .u64 0, .bool false]) (by simp [results, Try.results81, go_sem]) rfl ⟨rfl, rfl⟩
  · simp only [if_true]
    go_enter Try.func81, Try.ntmps81
    go_wp2_with (first
      | (go_at_call 106; refine (B _).mono ?_; rintro x w1 ⟨rfl, rfl⟩)
      | (go_at_call 105; refine (A _).mono ?_; rintro x w1 ⟨rfl, rfl⟩)
      | fail)
    exact bodyPost_ret (v := .tuple #[.int .u64 1, .bool false]) (by simp [results, Try.results81, go_sem]) rfl ⟨rfl, rfl⟩
/-- float.cut, of any places. -/
theorem cut_all (mant : Int) (places : Nat) (more neg : Bool) (way : Int) (m0 : 0 < mant) (m1 : mant < 18446744073709551616) (p1 : 1 ≤ places) (p2 : places < 4611686018427387904) (w : World) :
    Calls Try.prog 81 #[.int .u64 mant, .int .i64 places, .bool more, .bool neg, .int .i64 way] w fun e w' => e = .returned (.tuple #[.int .u64 (cutF mant places more neg way).1, .bool (cutF mant places more neg way).2]) ∧ w' = w := by
  by_cases c : places ≤ 64
  · exact cut_any mant places more neg way (by omega) m1 p1 c w
  · exact cut_far mant places more neg way m0 m1 (by omega) p2 w
end Go.Proofs.Ytfpmegfdopnnpaa
