import Derived.Test.YtjgljcifnklmeaaPart19
import Derived.Test.YtjgljcifnklmeaaPart16
import Derived.Test.YtjgljcifnklmeaaPart18

namespace Go.Proofs.Ytjgljcifnklmeaa
open Go.RowKit Tn

set_option maxRecDepth 100000 in
set_option maxHeartbeats 3200000 in
/-- round of a power of two. -/
theorem round_one (E x1 x2 y1 y2 y3 X M N : Int) (P : Nat) (hx1 : IntKind.i64.wrap (E - 64) = x1) (hx2 : IntKind.i64.wrap (x1 - 63) = x2) (hy1 : IntKind.i64.wrap (x2 + 128) = y1) (hy2 : IntKind.i64.wrap (y1 - 53) = y2) (hX : (if y2 < -1074 then -1074 else y2) = X) (hy3 : IntKind.i64.wrap (X - x2) = y3) (hP : IntKind.i64.wrap (y3 - 64) = (P : Int)) (X1 : X ≤ 971)
    (C : ∀ w, Calls Try.prog 81 #[.int .u64 9223372036854775808, .int .i64 P, .bool false, .bool false, .int .i64 6] w fun e w' => e = .returned (.tuple #[.int .u64 M, .bool true]) ∧ w' = w) (hM : (M == 9007199254740992) = false)
    (PK : ∀ w, Calls Try.prog 79 #[fmtW, prt4 (finW false M X)] w fun e w' => e = .returned (.int .u64 N) ∧ Below w.heap.size w w') (w : World) :
    Calls Try.prog 53 #[.agg #[.int .i64 53, .int .i64 (-1074), .int .i64 971], .agg #[.int .i64 2, .bool false, .int .u64 0, .int .u64 1, .int .i64 E, .bool false, .int .i64 0], .int .i64 6] w fun e w' => e = .returned (.tuple #[.int .u64 N, .int .i64 0]) ∧ Below w.heap.size w w' := by
  have R := raised_one x1 x2 E hx1 hx2
  have X2 : ¬ (971 : Int) < X := by omega
  go_enter Try.func53, Try.ntmps53
  have K1 : Blk ((w.alloc (.cells #[.int .i64 53, .int .i64 (-1074), .int .i64 971] 72)).alloc (.cells #[.int .i64 2, .bool false, .int .u64 0, .int .u64 1, .int .i64 E, .bool false, .int .i64 0] 85)) w.heap.size #[.int .i64 53, .int .i64 (-1074), .int .i64 971] 72 := (Blk.new w _ _).alloc _
  have K2 := Blk.new (w.alloc (.cells #[.int .i64 53, .int .i64 (-1074), .int .i64 971] 72)) #[.int .i64 2, .bool false, .int .u64 0, .int .u64 1, .int .i64 E, .bool false, .int .i64 0] 85
  have pr : Below w.heap.size w ((w.alloc (.cells #[.int .i64 53, .int .i64 (-1074), .int .i64 971] 72)).alloc (.cells #[.int .i64 2, .bool false, .int .u64 0, .int .u64 1, .int .i64 E, .bool false, .int .i64 0] 85)) := ((Below.refl _ _).alloc (Nat.le_refl _) _).alloc (by simp) _
  simp only [World.size_alloc] at K2
  go_wp2_with (first
    | (go_at_call 80; refine (R _).mono ?_; rintro e w1 ⟨rfl, b1⟩; replace K1 := K1.below b1 K1.lt; replace K2 := K2.below b1 K2.lt; replace pr := bel pr b1; clear b1; have e0 : w1.cell? ⟨w.heap.size, 0, none⟩ = some (.int .i64 53) := K1.at 0; have e1 : w1.cell? ⟨w.heap.size, 1, none⟩ = some (.int .i64 (-1074)) := K1.at 1; have e2 : w1.cell? ⟨w.heap.size, 2, none⟩ = some (.int .i64 971) := K1.at 2; have d0 : w1.cell? ⟨w.heap.size + 1, 0, none⟩ = some (.int .i64 2) := K2.at 0; have d1 : w1.cell? ⟨w.heap.size + 1, 1, none⟩ = some (.bool false) := K2.at 1; have d2 : w1.cell? ⟨w.heap.size + 1, 2, none⟩ = some (.int .u64 0) := K2.at 2; have d3 : w1.cell? ⟨w.heap.size + 1, 3, none⟩ = some (.int .u64 1) := K2.at 3; have d4 : w1.cell? ⟨w.heap.size + 1, 4, none⟩ = some (.int .i64 E) := K2.at 4; have d5 : w1.cell? ⟨w.heap.size + 1, 5, none⟩ = some (.bool false) := K2.at 5; have d6 : w1.cell? ⟨w.heap.size + 1, 6, none⟩ = some (.int .i64 0) := K2.at 6; have g0 := K2.free 0; have g1 := K2.free 1; have g2 := K2.free 2; have g3 := K2.free 3; have g4 := K2.free 4; have g5 := K2.free 5; have g6 := K2.free 6)
    | fail)
  have J1 : Blk (((((((w1.setCell ⟨w.heap.size + 1, 0, none⟩ (.int .i64 2)).setCell ⟨w.heap.size + 1, 1, none⟩ (.bool false)).setCell ⟨w.heap.size + 1, 2, none⟩ (.int .u64 9223372036854775808)).setCell ⟨w.heap.size + 1, 3, none⟩ (.int .u64 0)).setCell ⟨w.heap.size + 1, 4, none⟩ (.int .i64 x2)).setCell ⟨w.heap.size + 1, 5, none⟩ (.bool false)).setCell ⟨w.heap.size + 1, 6, none⟩ (.int .i64 0)) w.heap.size #[.int .i64 53, .int .i64 (-1074), .int .i64 971] 72 := (blk_set_other (blk_set_other (blk_set_other (blk_set_other (blk_set_other (blk_set_other (blk_set_other K1 (Nat.ne_of_lt (Nat.lt_succ_self _))) (Nat.ne_of_lt (Nat.lt_succ_self _))) (Nat.ne_of_lt (Nat.lt_succ_self _))) (Nat.ne_of_lt (Nat.lt_succ_self _))) (Nat.ne_of_lt (Nat.lt_succ_self _))) (Nat.ne_of_lt (Nat.lt_succ_self _))) (Nat.ne_of_lt (Nat.lt_succ_self _)))
  have J2 : Blk (((((((w1.setCell ⟨w.heap.size + 1, 0, none⟩ (.int .i64 2)).setCell ⟨w.heap.size + 1, 1, none⟩ (.bool false)).setCell ⟨w.heap.size + 1, 2, none⟩ (.int .u64 9223372036854775808)).setCell ⟨w.heap.size + 1, 3, none⟩ (.int .u64 0)).setCell ⟨w.heap.size + 1, 4, none⟩ (.int .i64 x2)).setCell ⟨w.heap.size + 1, 5, none⟩ (.bool false)).setCell ⟨w.heap.size + 1, 6, none⟩ (.int .i64 0)) (w.heap.size + 1) #[.int .i64 2, .bool false, .int .u64 9223372036854775808, .int .u64 0, .int .i64 x2, .bool false, .int .i64 0] 85 := (blk_set (blk_set (blk_set (blk_set (blk_set (blk_set (blk_set K2)))))))
  have pr2 : Below w.heap.size w (((((((w1.setCell ⟨w.heap.size + 1, 0, none⟩ (.int .i64 2)).setCell ⟨w.heap.size + 1, 1, none⟩ (.bool false)).setCell ⟨w.heap.size + 1, 2, none⟩ (.int .u64 9223372036854775808)).setCell ⟨w.heap.size + 1, 3, none⟩ (.int .u64 0)).setCell ⟨w.heap.size + 1, 4, none⟩ (.int .i64 x2)).setCell ⟨w.heap.size + 1, 5, none⟩ (.bool false)).setCell ⟨w.heap.size + 1, 6, none⟩ (.int .i64 0)) := (bel_set (bel_set (bel_set (bel_set (bel_set (bel_set (bel_set pr (Nat.le_succ _)) (Nat.le_succ _)) (Nat.le_succ _)) (Nat.le_succ _)) (Nat.le_succ _)) (Nat.le_succ _)) (Nat.le_succ _))
  clear K1 K2 pr e0 e1 e2 d0 d1 d2 d3 d4 d5 d6 g0 g1 g2 g3 g4 g5 g6
  generalize (((((((w1.setCell ⟨w.heap.size + 1, 0, none⟩ (.int .i64 2)).setCell ⟨w.heap.size + 1, 1, none⟩ (.bool false)).setCell ⟨w.heap.size + 1, 2, none⟩ (.int .u64 9223372036854775808)).setCell ⟨w.heap.size + 1, 3, none⟩ (.int .u64 0)).setCell ⟨w.heap.size + 1, 4, none⟩ (.int .i64 x2)).setCell ⟨w.heap.size + 1, 5, none⟩ (.bool false)).setCell ⟨w.heap.size + 1, 6, none⟩ (.int .i64 0)) = W2 at *
  have e0 : W2.cell? ⟨w.heap.size, 0, none⟩ = some (.int .i64 53) := J1.at 0
  have e1 : W2.cell? ⟨w.heap.size, 1, none⟩ = some (.int .i64 (-1074)) := J1.at 1
  have e2 : W2.cell? ⟨w.heap.size, 2, none⟩ = some (.int .i64 971) := J1.at 2
  have d0 : W2.cell? ⟨w.heap.size + 1, 0, none⟩ = some (.int .i64 2) := J2.at 0
  have d1 : W2.cell? ⟨w.heap.size + 1, 1, none⟩ = some (.bool false) := J2.at 1
  have d2 : W2.cell? ⟨w.heap.size + 1, 2, none⟩ = some (.int .u64 9223372036854775808) := J2.at 2
  have d3 : W2.cell? ⟨w.heap.size + 1, 3, none⟩ = some (.int .u64 0) := J2.at 3
  have d4 : W2.cell? ⟨w.heap.size + 1, 4, none⟩ = some (.int .i64 x2) := J2.at 4
  have d5 : W2.cell? ⟨w.heap.size + 1, 5, none⟩ = some (.bool false) := J2.at 5
  have d6 : W2.cell? ⟨w.heap.size + 1, 6, none⟩ = some (.int .i64 0) := J2.at 6
  refine (C _).mono ?_
  rintro x w3 ⟨rfl, rfl⟩
  go_wp2_with (first
    | (go_at_call 77; refine (leastNormal_w _).mono ?_; rintro x w4 ⟨rfl, b4⟩; replace J1 := J1.below b4 J1.lt; replace J2 := J2.below b4 J2.lt; replace pr2 := bel pr2 b4; clear b4; have e0 : w4.cell? ⟨w.heap.size, 0, none⟩ = some (.int .i64 53) := J1.at 0; have e1 : w4.cell? ⟨w.heap.size, 1, none⟩ = some (.int .i64 (-1074)) := J1.at 1; have e2 : w4.cell? ⟨w.heap.size, 2, none⟩ = some (.int .i64 971) := J1.at 2; have d0 : w4.cell? ⟨w.heap.size + 1, 0, none⟩ = some (.int .i64 2) := J2.at 0; have d1 : w4.cell? ⟨w.heap.size + 1, 1, none⟩ = some (.bool false) := J2.at 1; have d2 : w4.cell? ⟨w.heap.size + 1, 2, none⟩ = some (.int .u64 9223372036854775808) := J2.at 2; have d3 : w4.cell? ⟨w.heap.size + 1, 3, none⟩ = some (.int .u64 0) := J2.at 3; have d4 : w4.cell? ⟨w.heap.size + 1, 4, none⟩ = some (.int .i64 x2) := J2.at 4; have d5 : w4.cell? ⟨w.heap.size + 1, 5, none⟩ = some (.bool false) := J2.at 5; have d6 : w4.cell? ⟨w.heap.size + 1, 6, none⟩ = some (.int .i64 0) := J2.at 6)
    | fail)
  go_region_held3 (fun x => x.cell? ⟨w.heap.size, 0, none⟩ = some (.int .i64 53) ∧ x.cell? ⟨w.heap.size, 1, none⟩ = some (.int .i64 (-1074)) ∧ x.cell? ⟨w.heap.size, 2, none⟩ = some (.int .i64 971) ∧ x.cell? ⟨w.heap.size + 1, 1, none⟩ = some (.bool false)) (go_keep) (first
    | (go_at_call 83; refine (finite_w false M X _).mono ?_; rintro x w5 ⟨rfl, b5⟩; replace J1 := J1.below b5 J1.lt; replace J2 := J2.below b5 J2.lt; replace pr2 := bel pr2 b5; clear b5; have e0 : w5.cell? ⟨w.heap.size, 0, none⟩ = some (.int .i64 53) := J1.at 0; have e1 : w5.cell? ⟨w.heap.size, 1, none⟩ = some (.int .i64 (-1074)) := J1.at 1; have e2 : w5.cell? ⟨w.heap.size, 2, none⟩ = some (.int .i64 971) := J1.at 2; have d1 : w5.cell? ⟨w.heap.size + 1, 1, none⟩ = some (.bool false) := J2.at 1)
    | (go_at_call 83; refine (finite_w false M X _).mono ?_; rintro x w5 ⟨rfl, b5⟩; replace J1 := J1.below (below_undrew b5) J1.lt; replace J2 := J2.below (below_undrew b5) J2.lt; replace pr2 := bel pr2 (below_undrew b5); clear b5; have e0 : w5.cell? ⟨w.heap.size, 0, none⟩ = some (.int .i64 53) := J1.at 0; have e1 : w5.cell? ⟨w.heap.size, 1, none⟩ = some (.int .i64 (-1074)) := J1.at 1; have e2 : w5.cell? ⟨w.heap.size, 2, none⟩ = some (.int .i64 971) := J1.at 2; have d1 : w5.cell? ⟨w.heap.size + 1, 1, none⟩ = some (.bool false) := J2.at 1)
    | (go_at_call 79; refine (PK _).mono ?_; rintro x w6 ⟨rfl, b5⟩; replace J1 := J1.below b5 J1.lt; replace J2 := J2.below b5 J2.lt; replace pr2 := bel pr2 b5; clear b5; have e0 : w6.cell? ⟨w.heap.size, 0, none⟩ = some (.int .i64 53) := J1.at 0; have e1 : w6.cell? ⟨w.heap.size, 1, none⟩ = some (.int .i64 (-1074)) := J1.at 1; have e2 : w6.cell? ⟨w.heap.size, 2, none⟩ = some (.int .i64 971) := J1.at 2; have d1 : w6.cell? ⟨w.heap.size + 1, 1, none⟩ = some (.bool false) := J2.at 1)
    | (go_at_call 79; refine (PK _).mono ?_; rintro x w6 ⟨rfl, b5⟩; replace J1 := J1.below (below_undrew b5) J1.lt; replace J2 := J2.below (below_undrew b5) J2.lt; replace pr2 := bel pr2 (below_undrew b5); clear b5; have e0 : w6.cell? ⟨w.heap.size, 0, none⟩ = some (.int .i64 53) := J1.at 0; have e1 : w6.cell? ⟨w.heap.size, 1, none⟩ = some (.int .i64 (-1074)) := J1.at 1; have e2 : w6.cell? ⟨w.heap.size, 2, none⟩ = some (.int .i64 971) := J1.at 2; have d1 : w6.cell? ⟨w.heap.size + 1, 1, none⟩ = some (.bool false) := J2.at 1)
    | fail)
  go_wp2
  exact bodyPost_ret (v := .tuple #[.int .u64 N, .int .i64 0]) (by simp [results, Try.results53, go_sem]) rfl ⟨rfl, pr2⟩
end Go.Proofs.Ytjgljcifnklmeaa

namespace Go.Proofs.Ytjgljcifnklmeaa
open Go.RowKit Tn

set_option maxRecDepth 100000 in
set_option maxHeartbeats 800000 in
theorem FSplit64 (n : Nat) (hn : n < 18446744073709551616) (w : World) :
    Calls Try.prog 8 #[.float .f64 n] w fun e w' => e = .returned (prt4 (splW n)) ∧ Below w.heap.size w w' := by
  have S := split_w n (by omega)
  generalize splW n = q at S ⊢
  obtain ⟨k, g, m, e⟩ := q
  have hb := f64bits n
  go_enter Try.func8, Try.ntmps8
  have K1 := Blk.new w #[.int .i64 0, .bool false, .int .u64 0, .int .i64 0] 25
  have pr : Below w.heap.size w (w.alloc (.cells #[.int .i64 0, .bool false, .int .u64 0, .int .i64 0] 25)) := (Below.refl _ _).alloc (Nat.le_refl _) _
  go_wp2_with (first
    | (go_at_call 40; refine (floats_any _).mono ?_; rintro e w1 ⟨rfl, b1⟩; replace K1 := K1.below b1 K1.lt; replace pr := bel pr b1; have hb1 := hb w1)
    | (go_at_call 41; refine (S _).mono ?_; rintro e w2 ⟨rfl, b2⟩; replace K1 := K1.below b2 K1.lt; replace pr := bel pr b2; have c0 : w2.cell? ⟨w.heap.size, 0, none⟩ = some (.int .i64 0) := K1.at 0; have c1 : w2.cell? ⟨w.heap.size, 1, none⟩ = some (.bool false) := K1.at 1; have c2 : w2.cell? ⟨w.heap.size, 2, none⟩ = some (.int .u64 0) := K1.at 2; have c3 : w2.cell? ⟨w.heap.size, 3, none⟩ = some (.int .i64 0) := K1.at 3; have z0 := K1.free 0; have z1 := K1.free 1; have z2 := K1.free 2; have z3 := K1.free 3)
    | fail)
  obtain ⟨F0, F1, F2, F3, FB⟩ := put4 (.int .i64 k) (.bool g) (.int .u64 m) (.int .i64 e) c0 c1 c2 c3
  exact bodyPost_ret (v := prt k g m e) (by simp [results, Try.results8, go_sem, F0, F1, F2, F3]) rfl ⟨rfl, FB _ _ (by omega) pr⟩
set_option maxRecDepth 100000 in
set_option maxHeartbeats 800000 in
theorem FJoin64 (k : Int) (g : Bool) (m e : Int) (j c : Nat) (jc : joiW (k, g, m, e) = ((j : Int), (c : Int))) (h0 : 0 ≤ m) (h1 : m < 18446744073709551616) (w : World) :
    Calls Try.prog 15 #[prt k g m e] w fun x w' => x = .returned (.tuple #[.float .f64 j, .int .i64 c]) ∧ Below w.heap.size w w' := by
  have S := join_w (k, g, m, e) h0 h1
  rw [jc] at S
  have hb := f64frombits j
  go_enter Try.func15, Try.ntmps15
  go_wp2_with fail
  have K1 := Blk.new w #[.int .i64 k, .bool g, .int .u64 m, .int .i64 e] 25
  have pr : Below w.heap.size w (w.alloc (.cells #[.int .i64 k, .bool g, .int .u64 m, .int .i64 e] 25)) := (Below.refl _ _).alloc (Nat.le_refl _) _
  generalize w.alloc (.cells #[.int .i64 k, .bool g, .int .u64 m, .int .i64 e] 25) = W at *
  have c0 : W.cell? ⟨w.heap.size, 0, none⟩ = some (.int .i64 k) := K1.at 0
  have c1 : W.cell? ⟨w.heap.size, 1, none⟩ = some (.bool g) := K1.at 1
  have c2 : W.cell? ⟨w.heap.size, 2, none⟩ = some (.int .u64 m) := K1.at 2
  have c3 : W.cell? ⟨w.heap.size, 3, none⟩ = some (.int .i64 e) := K1.at 3
  go_region_held3 (fun x => x.cell? ⟨w.heap.size, 0, none⟩ = some (.int .i64 k) ∧ x.cell? ⟨w.heap.size, 1, none⟩ = some (.bool g) ∧ x.cell? ⟨w.heap.size, 2, none⟩ = some (.int .u64 m) ∧ x.cell? ⟨w.heap.size, 3, none⟩ = some (.int .i64 e)) (go_keep) (first
    | (go_at_call 40; refine (floats_any _).mono ?_; rintro x w1 ⟨rfl, b1⟩; replace K1 := K1.below (below_undrew b1) K1.lt; replace pr := bel pr (below_undrew b1); clear b1; have c0 : w1.cell? ⟨w.heap.size, 0, none⟩ = some (.int .i64 k) := K1.at 0; have c1 : w1.cell? ⟨w.heap.size, 1, none⟩ = some (.bool g) := K1.at 1; have c2 : w1.cell? ⟨w.heap.size, 2, none⟩ = some (.int .u64 m) := K1.at 2; have c3 : w1.cell? ⟨w.heap.size, 3, none⟩ = some (.int .i64 e) := K1.at 3)
    | (go_at_call 47; refine (S _).mono ?_; rintro x w1 ⟨rfl, b1⟩; replace K1 := K1.below b1 K1.lt; replace pr := bel pr b1; clear b1; have c0 : w1.cell? ⟨w.heap.size, 0, none⟩ = some (.int .i64 k) := K1.at 0; have c1 : w1.cell? ⟨w.heap.size, 1, none⟩ = some (.bool g) := K1.at 1; have c2 : w1.cell? ⟨w.heap.size, 2, none⟩ = some (.int .u64 m) := K1.at 2; have c3 : w1.cell? ⟨w.heap.size, 3, none⟩ = some (.int .i64 e) := K1.at 3)
    | fail)
  go_wp2
  exact bodyPost_ret (v := .tuple #[.float .f64 j, .int .i64 c]) (by simp [results, Try.results15, go_sem]) rfl ⟨rfl, pr⟩
set_option maxRecDepth 100000 in
set_option maxHeartbeats 800000 in
theorem is64_yes (n : Nat) (w : World) :
    Calls Try.prog 18 #[.float .f64 n, .int .u64 n] w fun x w' => x = .returned (.bool true) ∧ w' = w := by
  have hb := f64bits n w
  go_enter Try.func18, Try.ntmps18
  go_wp2
  go_ret
  exact ⟨rfl, rfl⟩
set_option maxRecDepth 100000 in
set_option maxHeartbeats 800000 in
theorem FSplit32 (n : Nat) (hn : n < 4294967296) (w : World) :
    Calls Try.prog 12 #[.float .f32 n] w fun e w' => e = .returned (prt4 (splS n)) ∧ Below w.heap.size w w' := by
  have S := split_s n (by omega)
  generalize splS n = q at S ⊢
  obtain ⟨k, g, m, e⟩ := q
  have hb := f32bits n
  have hw : IntKind.u64.wrap (n : Int) = n := wu64 _ (by omega) (by omega)
  go_enter Try.func12, Try.ntmps12
  have K1 := Blk.new w #[.int .i64 0, .bool false, .int .u64 0, .int .i64 0] 25
  have pr : Below w.heap.size w (w.alloc (.cells #[.int .i64 0, .bool false, .int .u64 0, .int .i64 0] 25)) := (Below.refl _ _).alloc (Nat.le_refl _) _
  go_wp2_with (first
    | (go_at_call 45; refine (smallFloats_any _).mono ?_; rintro e w1 ⟨rfl, b1⟩; replace K1 := K1.below b1 K1.lt; replace pr := bel pr b1; have hb1 := hb w1)
    | (go_at_call 41; refine (S _).mono ?_; rintro e w2 ⟨rfl, b2⟩; replace K1 := K1.below b2 K1.lt; replace pr := bel pr b2; have c0 : w2.cell? ⟨w.heap.size, 0, none⟩ = some (.int .i64 0) := K1.at 0; have c1 : w2.cell? ⟨w.heap.size, 1, none⟩ = some (.bool false) := K1.at 1; have c2 : w2.cell? ⟨w.heap.size, 2, none⟩ = some (.int .u64 0) := K1.at 2; have c3 : w2.cell? ⟨w.heap.size, 3, none⟩ = some (.int .i64 0) := K1.at 3; have z0 := K1.free 0; have z1 := K1.free 1; have z2 := K1.free 2; have z3 := K1.free 3)
    | fail)
  obtain ⟨F0, F1, F2, F3, FB⟩ := put4 (.int .i64 k) (.bool g) (.int .u64 m) (.int .i64 e) c0 c1 c2 c3
  exact bodyPost_ret (v := prt k g m e) (by simp [results, Try.results12, go_sem, F0, F1, F2, F3]) rfl ⟨rfl, FB _ _ (by omega) pr⟩
set_option maxRecDepth 100000 in
set_option maxHeartbeats 800000 in
theorem FJoin32 (k : Int) (g : Bool) (m e : Int) (j c : Nat) (jc : joiS (k, g, m, e) = ((j : Int), (c : Int))) (hj : j < 4294967296) (h0 : 0 ≤ m) (h1 : m < 18446744073709551616) (w : World) :
    Calls Try.prog 16 #[prt k g m e] w fun x w' => x = .returned (.tuple #[.float .f32 j, .int .i64 c]) ∧ Below w.heap.size w w' := by
  have S := join_s (k, g, m, e) h0 h1
  rw [jc] at S
  have hb := f32frombits j
  have hw : IntKind.u32.wrap (j : Int) = (j : Int) := by simp [IntKind.wrap, IntKind.bits, IntKind.signed]; omega
  go_enter Try.func16, Try.ntmps16
  go_wp2_with fail
  have K1 := Blk.new w #[.int .i64 k, .bool g, .int .u64 m, .int .i64 e] 25
  have pr : Below w.heap.size w (w.alloc (.cells #[.int .i64 k, .bool g, .int .u64 m, .int .i64 e] 25)) := (Below.refl _ _).alloc (Nat.le_refl _) _
  generalize w.alloc (.cells #[.int .i64 k, .bool g, .int .u64 m, .int .i64 e] 25) = W at *
  have c0 : W.cell? ⟨w.heap.size, 0, none⟩ = some (.int .i64 k) := K1.at 0
  have c1 : W.cell? ⟨w.heap.size, 1, none⟩ = some (.bool g) := K1.at 1
  have c2 : W.cell? ⟨w.heap.size, 2, none⟩ = some (.int .u64 m) := K1.at 2
  have c3 : W.cell? ⟨w.heap.size, 3, none⟩ = some (.int .i64 e) := K1.at 3
  go_region_held3 (fun x => x.cell? ⟨w.heap.size, 0, none⟩ = some (.int .i64 k) ∧ x.cell? ⟨w.heap.size, 1, none⟩ = some (.bool g) ∧ x.cell? ⟨w.heap.size, 2, none⟩ = some (.int .u64 m) ∧ x.cell? ⟨w.heap.size, 3, none⟩ = some (.int .i64 e)) (go_keep) (first
    | (go_at_call 45; refine (smallFloats_any _).mono ?_; rintro x w1 ⟨rfl, b1⟩; replace K1 := K1.below (below_undrew b1) K1.lt; replace pr := bel pr (below_undrew b1); clear b1; have c0 : w1.cell? ⟨w.heap.size, 0, none⟩ = some (.int .i64 k) := K1.at 0; have c1 : w1.cell? ⟨w.heap.size, 1, none⟩ = some (.bool g) := K1.at 1; have c2 : w1.cell? ⟨w.heap.size, 2, none⟩ = some (.int .u64 m) := K1.at 2; have c3 : w1.cell? ⟨w.heap.size, 3, none⟩ = some (.int .i64 e) := K1.at 3)
    | (go_at_call 47; refine (S _).mono ?_; rintro x w1 ⟨rfl, b1⟩; replace K1 := K1.below b1 K1.lt; replace pr := bel pr b1; clear b1; have c0 : w1.cell? ⟨w.heap.size, 0, none⟩ = some (.int .i64 k) := K1.at 0; have c1 : w1.cell? ⟨w.heap.size, 1, none⟩ = some (.bool g) := K1.at 1; have c2 : w1.cell? ⟨w.heap.size, 2, none⟩ = some (.int .u64 m) := K1.at 2; have c3 : w1.cell? ⟨w.heap.size, 3, none⟩ = some (.int .i64 e) := K1.at 3)
    | fail)
  go_wp2
  exact bodyPost_ret (v := .tuple #[.float .f32 j, .int .i64 c]) (by simp [results, Try.results16, go_sem]) rfl ⟨rfl, pr⟩
set_option maxRecDepth 100000 in
set_option maxHeartbeats 800000 in
theorem is32_yes (n : Nat) (hn : n < 4294967296) (w : World) :
    Calls Try.prog 19 #[.float .f32 n, .int .u64 n] w fun x w' => x = .returned (.bool true) ∧ w' = w := by
  have hb := f32bits n w
  have hw : IntKind.u64.wrap (n : Int) = n := wu64 _ (by omega) (by omega)
  go_enter Try.func19, Try.ntmps19
  go_wp2
  go_ret
  exact ⟨rfl, rfl⟩
set_option maxRecDepth 100000 in
theorem names_any (w : World) : Calls Try.prog 7 #[] w fun x w' => x = .returned (.bool true) ∧ w' = w := by
  go_enter Try.func7, Try.ntmps7
  go_wp2
  go_ret
  exact ⟨rfl, rfl⟩

end Go.Proofs.Ytjgljcifnklmeaa

namespace Go.Proofs.Ytjgljcifnklmeaa
open Go.RowKit Tn

theorem field_least (w : World) : (Instr.field 72 (.agg #[.int .i64 53, .int .i64 (-1074), .int .i64 971]) 1).run Try.prog w = .ok (.int .i64 (-1074)) w := by
  simp [Instr.field, run_underlying Try.underlying72, asAgg, part, Try.sizeOf3, go_sem]
set_option maxRecDepth 100000 in
set_option maxHeartbeats 1600000 in
theorem isFinite_yes (k : Int) (g : Bool) (m e : Int) (h3 : (k != 3) = true) (h4 : (k != 4) = true) (w : World) : Calls Try.prog 65 #[.agg #[.int .i64 k, .bool g, .int .u64 m, .int .i64 e]] w fun e w' => e = .returned (.bool true) ∧ Below w.heap.size w w' := by
  go_enter Try.func65, Try.ntmps65
  go_wp2
  go_ret
  exact ⟨rfl, (Below.refl _ _).alloc (Nat.le_refl _) _⟩
set_option maxRecDepth 100000 in
set_option maxHeartbeats 1600000 in
theorem isFinite_no3 (k : Int) (g : Bool) (m e : Int) (h3 : (k != 3) = false) (w : World) : Calls Try.prog 65 #[.agg #[.int .i64 k, .bool g, .int .u64 m, .int .i64 e]] w fun e w' => e = .returned (.bool false) ∧ Below w.heap.size w w' := by
  go_enter Try.func65, Try.ntmps65
  go_wp2
  go_ret
  exact ⟨rfl, (Below.refl _ _).alloc (Nat.le_refl _) _⟩
set_option maxRecDepth 100000 in
set_option maxHeartbeats 1600000 in
theorem isFinite_no4 (k : Int) (g : Bool) (m e : Int) (h3 : (k != 3) = true) (h4 : (k != 4) = false) (w : World) : Calls Try.prog 65 #[.agg #[.int .i64 k, .bool g, .int .u64 m, .int .i64 e]] w fun e w' => e = .returned (.bool false) ∧ Below w.heap.size w w' := by
  go_enter Try.func65, Try.ntmps65
  go_wp2
  go_ret
  exact ⟨rfl, (Below.refl _ _).alloc (Nat.le_refl _) _⟩
set_option maxRecDepth 100000 in
set_option maxHeartbeats 1600000 in
theorem FGap_no (n : Nat) (k : Int) (g : Bool) (m e : Int) (S : ∀ w, Calls Try.prog 8 #[.float .f64 n] w fun x w' => x = .returned (.agg #[.int .i64 k, .bool g, .int .u64 m, .int .i64 e]) ∧ Below w.heap.size w w') (F : ∀ w, Calls Try.prog 65 #[.agg #[.int .i64 k, .bool g, .int .u64 m, .int .i64 e]] w fun x w' => x = .returned (.bool false) ∧ Below w.heap.size w w') (w : World) : Calls Try.prog 34 #[.float .f64 n] w fun x w' => x = .returned (.tuple #[.float .f64 0, .bool false]) ∧ Below w.heap.size w w' := by
  go_enter Try.func34, Try.ntmps34
  go_wp2_with (first
    | (go_at_call 8; refine (S _).mono ?_; rintro x w1 ⟨rfl, b1⟩; have pr := b1; clear b1; have m0 := Blk.new w1 #[.int .i64 k, .bool g, .int .u64 m, .int .i64 e] 25; have q0 : (w1.alloc (.cells #[.int .i64 k, .bool g, .int .u64 m, .int .i64 e] 25)).cell? ⟨w1.heap.size, 0, none⟩ = some (.int .i64 k) := m0.at 0; have q1 : (w1.alloc (.cells #[.int .i64 k, .bool g, .int .u64 m, .int .i64 e] 25)).cell? ⟨w1.heap.size, 1, none⟩ = some (.bool g) := m0.at 1; have q2 : (w1.alloc (.cells #[.int .i64 k, .bool g, .int .u64 m, .int .i64 e] 25)).cell? ⟨w1.heap.size, 2, none⟩ = some (.int .u64 m) := m0.at 2; have q3 : (w1.alloc (.cells #[.int .i64 k, .bool g, .int .u64 m, .int .i64 e] 25)).cell? ⟨w1.heap.size, 3, none⟩ = some (.int .i64 e) := m0.at 3; clear m0)
    | (go_at_call 65; refine (F _).mono ?_; rintro x w2 ⟨rfl, b2⟩; obtain ⟨b3, K⟩ := var4 b2; clear b2; replace pr := bel pr b3; clear b3; have q0 : w2.cell? ⟨w1.heap.size, 0, none⟩ = some (.int .i64 k) := K.at 0; have q1 : w2.cell? ⟨w1.heap.size, 1, none⟩ = some (.bool g) := K.at 1; have q2 : w2.cell? ⟨w1.heap.size, 2, none⟩ = some (.int .u64 m) := K.at 2; have q3 : w2.cell? ⟨w1.heap.size, 3, none⟩ = some (.int .i64 e) := K.at 3; have z3 := K.free 3)
    | fail)
  exact bodyPost_ret (v := .tuple #[.float .f64 0, .bool false]) (by simp [results, Try.results34, go_sem]) rfl ⟨rfl, pr⟩
set_option maxRecDepth 100000 in
set_option maxHeartbeats 3200000 in
theorem FGap_other (n : Nat) (k : Int) (g : Bool) (m e : Int) (S : ∀ w, Calls Try.prog 8 #[.float .f64 n] w fun x w' => x = .returned (.agg #[.int .i64 k, .bool g, .int .u64 m, .int .i64 e]) ∧ Below w.heap.size w w') (F : ∀ w, Calls Try.prog 65 #[.agg #[.int .i64 k, .bool g, .int .u64 m, .int .i64 e]] w fun x w' => x = .returned (.bool true) ∧ Below w.heap.size w w') (hk : (k == 0) = false) (N : Nat)
    (R : ∀ w, Calls Try.prog 53 #[.agg #[.int .i64 53, .int .i64 (-1074), .int .i64 971], .agg #[.int .i64 2, .bool false, .int .u64 0, .int .u64 1, .int .i64 e, .bool false, .int .i64 0], .int .i64 6] w fun x w' => x = .returned (.tuple #[.int .u64 N, .int .i64 0]) ∧ Below w.heap.size w w') (w : World) : Calls Try.prog 34 #[.float .f64 n] w fun x w' => x = .returned (.tuple #[.float .f64 N, .bool true]) ∧ Below w.heap.size w w' := by
  have fl := field_least
  have fb := f64frombits N
  go_enter Try.func34, Try.ntmps34
  go_wp2_with (first
    | (go_at_call 8; refine (S _).mono ?_; rintro x w1 ⟨rfl, b1⟩; have pr := b1; clear b1; have m0 := Blk.new w1 #[.int .i64 k, .bool g, .int .u64 m, .int .i64 e] 25; have q0 : (w1.alloc (.cells #[.int .i64 k, .bool g, .int .u64 m, .int .i64 e] 25)).cell? ⟨w1.heap.size, 0, none⟩ = some (.int .i64 k) := m0.at 0; have q1 : (w1.alloc (.cells #[.int .i64 k, .bool g, .int .u64 m, .int .i64 e] 25)).cell? ⟨w1.heap.size, 1, none⟩ = some (.bool g) := m0.at 1; have q2 : (w1.alloc (.cells #[.int .i64 k, .bool g, .int .u64 m, .int .i64 e] 25)).cell? ⟨w1.heap.size, 2, none⟩ = some (.int .u64 m) := m0.at 2; have q3 : (w1.alloc (.cells #[.int .i64 k, .bool g, .int .u64 m, .int .i64 e] 25)).cell? ⟨w1.heap.size, 3, none⟩ = some (.int .i64 e) := m0.at 3; clear m0)
    | (go_at_call 65; refine (F _).mono ?_; rintro x w2 ⟨rfl, b2⟩; obtain ⟨b3, K⟩ := var4 b2; clear b2; replace pr := bel pr b3; clear b3; have q0 : w2.cell? ⟨w1.heap.size, 0, none⟩ = some (.int .i64 k) := K.at 0; have q1 : w2.cell? ⟨w1.heap.size, 1, none⟩ = some (.bool g) := K.at 1; have q2 : w2.cell? ⟨w1.heap.size, 2, none⟩ = some (.int .u64 m) := K.at 2; have q3 : w2.cell? ⟨w1.heap.size, 3, none⟩ = some (.int .i64 e) := K.at 3; have z3 := K.free 3)
    | fail)
  have K3 : Blk w2 w1.heap.size #[.int .i64 k, .bool g, .int .u64 m, .int .i64 e] 25 := K
  have pr3 := pr
  clear q0 q1 q2 q3 z3 K pr
  generalize w2 = W at *
  have q3 : W.cell? ⟨w1.heap.size, 3, none⟩ = some (.int .i64 e) := K3.at 3
  have L0 := K3.lt
  go_region_held3 (fun x => x.cell? ⟨w1.heap.size, 3, none⟩ = some (.int .i64 e)) (go_keep) (first
    | (go_at_call 40; refine (floats_any _).mono ?_; rintro x w5 ⟨rfl, b5⟩; replace K3 := K3.below (below_undrew b5) K3.lt; replace pr3 := bel pr3 (below_undrew b5); clear b5; have q3 : w5.cell? ⟨w1.heap.size, 3, none⟩ = some (.int .i64 e) := K3.at 3)
    | (go_at_call 40; refine (floats_any _).mono ?_; rintro x w5 ⟨rfl, b5⟩; replace K3 := K3.below b5 K3.lt; replace pr3 := bel pr3 b5; clear b5; have q3 : w5.cell? ⟨w1.heap.size, 3, none⟩ = some (.int .i64 e) := K3.at 3)
    | (go_at_call 53; refine (R _).mono ?_; rintro x w6 ⟨rfl, b6⟩; replace K3 := K3.below b6 K3.lt; replace pr3 := bel pr3 b6; clear b6; have q3 : w6.cell? ⟨w1.heap.size, 3, none⟩ = some (.int .i64 e) := K3.at 3)
    | (go_at_call 53; refine (R _).mono ?_; rintro x w6 ⟨rfl, b6⟩; replace K3 := K3.below (below_undrew b6) K3.lt; replace pr3 := bel pr3 (below_undrew b6); clear b6; have q3 : w6.cell? ⟨w1.heap.size, 3, none⟩ = some (.int .i64 e) := K3.at 3)
    | fail)
  go_wp2
  exact bodyPost_ret (v := .tuple #[.float .f64 N, .bool true]) (by simp [results, Try.results34, go_sem]) rfl ⟨rfl, pr3⟩
set_option maxRecDepth 100000 in
set_option maxHeartbeats 3200000 in
theorem FGap_nought (n : Nat) (k : Int) (g : Bool) (m e : Int) (S : ∀ w, Calls Try.prog 8 #[.float .f64 n] w fun x w' => x = .returned (.agg #[.int .i64 k, .bool g, .int .u64 m, .int .i64 e]) ∧ Below w.heap.size w w') (F : ∀ w, Calls Try.prog 65 #[.agg #[.int .i64 k, .bool g, .int .u64 m, .int .i64 e]] w fun x w' => x = .returned (.bool true) ∧ Below w.heap.size w w') (hk : (k == 0) = true) (N : Nat)
    (R : ∀ w, Calls Try.prog 53 #[.agg #[.int .i64 53, .int .i64 (-1074), .int .i64 971], .agg #[.int .i64 2, .bool false, .int .u64 0, .int .u64 1, .int .i64 (-1074), .bool false, .int .i64 0], .int .i64 6] w fun x w' => x = .returned (.tuple #[.int .u64 N, .int .i64 0]) ∧ Below w.heap.size w w') (w : World) : Calls Try.prog 34 #[.float .f64 n] w fun x w' => x = .returned (.tuple #[.float .f64 N, .bool true]) ∧ Below w.heap.size w w' := by
  have fl := field_least
  have fb := f64frombits N
  go_enter Try.func34, Try.ntmps34
  go_wp2_with (first
    | (go_at_call 8; refine (S _).mono ?_; rintro x w1 ⟨rfl, b1⟩; have pr := b1; have hsz := b1.size; clear b1; have m0 := Blk.new w1 #[.int .i64 k, .bool g, .int .u64 m, .int .i64 e] 25; have q0 : (w1.alloc (.cells #[.int .i64 k, .bool g, .int .u64 m, .int .i64 e] 25)).cell? ⟨w1.heap.size, 0, none⟩ = some (.int .i64 k) := m0.at 0; have q1 : (w1.alloc (.cells #[.int .i64 k, .bool g, .int .u64 m, .int .i64 e] 25)).cell? ⟨w1.heap.size, 1, none⟩ = some (.bool g) := m0.at 1; have q2 : (w1.alloc (.cells #[.int .i64 k, .bool g, .int .u64 m, .int .i64 e] 25)).cell? ⟨w1.heap.size, 2, none⟩ = some (.int .u64 m) := m0.at 2; have q3 : (w1.alloc (.cells #[.int .i64 k, .bool g, .int .u64 m, .int .i64 e] 25)).cell? ⟨w1.heap.size, 3, none⟩ = some (.int .i64 e) := m0.at 3; clear m0)
    | (go_at_call 65; refine (F _).mono ?_; rintro x w2 ⟨rfl, b2⟩; obtain ⟨b3, K⟩ := var4 b2; clear b2; replace pr := bel pr b3; clear b3; have q0 : w2.cell? ⟨w1.heap.size, 0, none⟩ = some (.int .i64 k) := K.at 0; have q1 : w2.cell? ⟨w1.heap.size, 1, none⟩ = some (.bool g) := K.at 1; have q2 : w2.cell? ⟨w1.heap.size, 2, none⟩ = some (.int .u64 m) := K.at 2; have q3 : w2.cell? ⟨w1.heap.size, 3, none⟩ = some (.int .i64 e) := K.at 3; have z3 := K.free 3)
    | (go_at_call 40; refine (floats_any _).mono ?_; rintro x w3 ⟨rfl, b3⟩; replace K := K.below b3 K.lt; replace pr := bel pr b3; clear b3; have q0 : w3.cell? ⟨w1.heap.size, 0, none⟩ = some (.int .i64 k) := K.at 0; have q1 : w3.cell? ⟨w1.heap.size, 1, none⟩ = some (.bool g) := K.at 1; have q2 : w3.cell? ⟨w1.heap.size, 2, none⟩ = some (.int .u64 m) := K.at 2; have q3 : w3.cell? ⟨w1.heap.size, 3, none⟩ = some (.int .i64 e) := K.at 3; have z3 := K.free 3)
    | fail)
  have K3 : Blk (w3.setCell ⟨w1.heap.size, 3, none⟩ (.int .i64 (-1074))) w1.heap.size #[.int .i64 k, .bool g, .int .u64 m, .int .i64 (-1074)] 25 := blk_set K
  have pr3 : Below w.heap.size w (w3.setCell ⟨w1.heap.size, 3, none⟩ (.int .i64 (-1074))) := bel_set pr hsz
  clear q0 q1 q2 q3 z3 K pr
  generalize w3.setCell ⟨w1.heap.size, 3, none⟩ (.int .i64 (-1074)) = W at *
  have q3 : W.cell? ⟨w1.heap.size, 3, none⟩ = some (.int .i64 (-1074)) := K3.at 3
  have L0 := K3.lt
  go_region_held3 (fun x => x.cell? ⟨w1.heap.size, 3, none⟩ = some (.int .i64 (-1074))) (go_keep) (first
    | (go_at_call 40; refine (floats_any _).mono ?_; rintro x w5 ⟨rfl, b5⟩; replace K3 := K3.below (below_undrew b5) K3.lt; replace pr3 := bel pr3 (below_undrew b5); clear b5; have q3 : w5.cell? ⟨w1.heap.size, 3, none⟩ = some (.int .i64 (-1074)) := K3.at 3)
    | (go_at_call 40; refine (floats_any _).mono ?_; rintro x w5 ⟨rfl, b5⟩; replace K3 := K3.below b5 K3.lt; replace pr3 := bel pr3 b5; clear b5; have q3 : w5.cell? ⟨w1.heap.size, 3, none⟩ = some (.int .i64 (-1074)) := K3.at 3)
    | (go_at_call 53; refine (R _).mono ?_; rintro x w6 ⟨rfl, b6⟩; replace K3 := K3.below b6 K3.lt; replace pr3 := bel pr3 b6; clear b6; have q3 : w6.cell? ⟨w1.heap.size, 3, none⟩ = some (.int .i64 (-1074)) := K3.at 3)
    | (go_at_call 53; refine (R _).mono ?_; rintro x w6 ⟨rfl, b6⟩; replace K3 := K3.below (below_undrew b6) K3.lt; replace pr3 := bel pr3 (below_undrew b6); clear b6; have q3 : w6.cell? ⟨w1.heap.size, 3, none⟩ = some (.int .i64 (-1074)) := K3.at 3)
    | fail)
  go_wp2
  exact bodyPost_ret (v := .tuple #[.float .f64 N, .bool true]) (by simp [results, Try.results34, go_sem]) rfl ⟨rfl, pr3⟩
end Go.Proofs.Ytjgljcifnklmeaa

namespace Go.Proofs.Ytjgljcifnklmeaa
open Go.RowKit Tn

/-- How many places above the least one a float's last place stands. -/
def gapT (n : Nat) : Nat := if fdW n = 0 then 0 else fdW n - 1
theorem pow2 (a : Nat) : ((2 ^ a : Nat) : Int) = (2 : Int) ^ a := by simp
theorem cut_pow (P : Nat) (p1 : 1 ≤ P) (p2 : P ≤ 63) (w : World) : Calls Try.prog 81 #[.int .u64 9223372036854775808, .int .i64 P, .bool false, .bool false, .int .i64 6] w fun e w' => e = .returned (.tuple #[.int .u64 (2 ^ (63 - P)), .bool true]) ∧ w' = w := by
  refine (cut_any 9223372036854775808 P false false 6 (by decide) (by decide) p1 (by omega) w).mono ?_
  have e : (9223372036854775808 : Int) = 2 ^ (63 - P) * 2 ^ P := by
    rw [← Int.pow_add, show 63 - P + P = 63 from by omega]; decide
  have p0 : (0 : Int) < 2 ^ P := Int.pow_pos (by decide)
  have c : cutF 9223372036854775808 P false false 6 = (2 ^ (63 - P), true) := by
    unfold cutF
    rw [e, Int.mul_emod_left, Int.mul_ediv_cancel _ (by omega)]
    simp
  rw [c]
  rintro x w' ⟨rfl, rfl⟩
  exact ⟨rfl, rfl⟩
theorem fin_pow {T : Nat} {M X : Int} (hT : T ≤ 2045) (h : (T ≤ 51 ∧ M = 2 ^ T ∧ X = -1074) ∨ (52 ≤ T ∧ M = 4503599627370496 ∧ X = (T : Int) - 1126)) : OkW (finW false M X) ∧ pckW (finW false M X) = L.gapB T ∧ 0 ≤ (finW false M X).2.2.1 ∧ (finW false M X).2.2.1 < 18446744073709551616 := by
  rcases h with ⟨h, rfl, rfl⟩ | ⟨h, rfl, rfl⟩
  · have a := L.two_pow_pos T
    have b := L.two_pow_le h
    have t51 : (2 : Int) ^ 51 = 2251799813685248 := by decide
    have e : finW false (2 ^ T) (-1074) = (1, false, 2 ^ T, -1074) := by unfold finW; rw [if_neg (by omega), if_pos (by omega)]
    rw [e]
    refine ⟨Or.inr (Or.inl ⟨rfl, a, by show (2 : Int) ^ T < _; omega, rfl⟩), ?_, by show (0 : Int) ≤ 2 ^ T; omega, by show (2 : Int) ^ T < _; omega⟩
    unfold pckW L.gapB
    rw [if_pos h]
    simp
  · have e : finW false 4503599627370496 ((T : Int) - 1126) = (2, false, 4503599627370496, (T : Int) - 1126) := by unfold finW; rw [if_neg (by omega), if_neg (by omega)]
    rw [e]
    refine ⟨Or.inr (Or.inr (Or.inl ⟨rfl, by show (4503599627370496 : Int) ≤ 4503599627370496; decide, by show (4503599627370496 : Int) < 9007199254740992; decide, by show -1074 ≤ (T : Int) - 1126; omega, by show (T : Int) - 1126 ≤ 971; omega⟩)), ?_, by show (0 : Int) ≤ 4503599627370496; decide, by show (4503599627370496 : Int) < 18446744073709551616; decide⟩
    unfold pckW L.gapB
    rw [if_neg (by omega)]
    simp
    omega
/-- round of a power of two. -/
theorem round_pow (T : Nat) (hT : T ≤ 2045) : ∃ N : Nat, N < 18446744073709551616 ∧ (N : Int) = L.gapB T ∧ ∀ w : World, Calls Try.prog 53 #[.agg #[.int .i64 53, .int .i64 (-1074), .int .i64 971], .agg #[.int .i64 2, .bool false, .int .u64 0, .int .u64 1, .int .i64 ((T : Int) - 1074), .bool false, .int .i64 0], .int .i64 6] w fun x w' => x = .returned (.tuple #[.int .u64 N, .int .i64 0]) ∧ Below w.heap.size w w' := by
  obtain ⟨M, X, P, hP1, hP2, hX, hPX, hM, hMX⟩ : ∃ (M X : Int) (P : Nat), 1 ≤ P ∧ P ≤ 63 ∧ (if (T : Int) - 1126 < -1074 then -1074 else (T : Int) - 1126) = X ∧ X - ((T : Int) - 1201) - 64 = P ∧ M = 2 ^ (63 - P) ∧ ((T ≤ 51 ∧ M = 2 ^ T ∧ X = -1074) ∨ (52 ≤ T ∧ M = 4503599627370496 ∧ X = (T : Int) - 1126)) := by
    by_cases h : T ≤ 51
    · exact ⟨2 ^ T, -1074, 63 - T, by omega, by omega, by rw [if_pos (by omega)], by omega, by rw [show 63 - (63 - T) = T from by omega], Or.inl ⟨h, rfl, rfl⟩⟩
    · exact ⟨4503599627370496, (T : Int) - 1126, 11, by omega, by omega, by rw [if_neg (by omega)], by omega, by decide, Or.inr ⟨by omega, rfl, rfl⟩⟩
  obtain ⟨ok, pk, f0, f1⟩ := fin_pow hT hMX
  obtain ⟨N, hN, hp, PK⟩ := pack_w (finW false M X) f0 f1
  refine ⟨N, hN, (hp ok).trans pk, ?_⟩
  have hM2 : M ≤ 4503599627370496 := by
    rcases hMX with ⟨h, e, _⟩ | ⟨_, e, _⟩
    · have := L.two_pow_le h
      have t51 : (2 : Int) ^ 51 = 2251799813685248 := by decide
      omega
    · omega
  have hX1 : -1074 ≤ X ∧ X ≤ 971 := by rcases hMX with ⟨_, _, e⟩ | ⟨_, _, e⟩ <;> omega
  intro w
  exact round_one ((T : Int) - 1074) ((T : Int) - 1138) ((T : Int) - 1201) ((T : Int) - 1073) ((T : Int) - 1126) (X - ((T : Int) - 1201)) X M N P (by rw [show (T : Int) - 1074 - 64 = (T : Int) - 1138 from by omega]; exact w64 _ (by omega) (by omega)) (by rw [show (T : Int) - 1138 - 63 = (T : Int) - 1201 from by omega]; exact w64 _ (by omega) (by omega)) (by rw [show (T : Int) - 1201 + 128 = (T : Int) - 1073 from by omega]; exact w64 _ (by omega) (by omega)) (by rw [show (T : Int) - 1073 - 53 = (T : Int) - 1126 from by omega]; exact w64 _ (by omega) (by omega)) hX (w64 _ (by omega) (by omega)) (by rw [hPX]; exact w64 _ (by omega) (by omega)) hX1.2 (fun w => by rw [hM]; exact cut_pow P hP1 hP2 w) (by rw [beq_eq_false_iff_ne]; omega) PK w
/-- The bits of a float's gap. -/
def gap64 (n : Nat) : Nat := (L.gapB (gapT n)).toNat
theorem gapT_le (n : Nat) (h : fdW n ≠ 2047) : gapT n ≤ 2045 := by
  have h1 : fdW n < 2048 := Nat.mod_lt _ (by decide)
  unfold gapT
  split <;> omega
theorem gap64_eq (n N : Nat) (h : (N : Int) = L.gapB (gapT n)) : gap64 n = N := by unfold gap64; omega
/-- float.Gap. -/
theorem FGap64 (n : Nat) (hn : n < 18446744073709551616) (w : World) : Calls Try.prog 34 #[.float .f64 n] w fun x w' => x = .returned (if fdW n = 2047 then .tuple #[.float .f64 0, .bool false] else .tuple #[.float .f64 (gap64 n), .bool true]) ∧ Below w.heap.size w w' := by
  have S := fun w => FSplit64 n hn w
  by_cases h : fdW n = 2047
  · rw [if_pos h]
    by_cases hf : frW n = 0
    · have e : splW n = (3, sgW n, 0, 0) := by unfold splW; rw [if_pos h, if_pos hf]
      rw [e] at S
      exact FGap_no n 3 (sgW n) 0 0 S (fun w => isFinite_no3 3 (sgW n) 0 0 (by decide) w) w
    · have e : splW n = (4, false, 0, 0) := by unfold splW; rw [if_pos h, if_neg hf]
      rw [e] at S
      exact FGap_no n 4 false 0 0 S (fun w => isFinite_no4 4 false 0 0 (by decide) (by decide) w) w
  · rw [if_neg h]
    obtain ⟨N, _, eN, R⟩ := round_pow (gapT n) (gapT_le n h)
    rw [gap64_eq n N eN]
    by_cases h0 : fdW n = 0
    · have eT : gapT n = 0 := by unfold gapT; rw [if_pos h0]
      rw [eT] at R
      by_cases hf : frW n = 0
      · have e : splW n = (0, sgW n, 0, 0) := by unfold splW; rw [if_neg h, if_pos h0, if_pos hf]
        rw [e] at S
        exact FGap_nought n 0 (sgW n) 0 0 S (fun w => isFinite_yes 0 (sgW n) 0 0 (by decide) (by decide) w) (by decide) N R w
      · have e : splW n = (1, sgW n, (frW n : Int), -1074) := by unfold splW; rw [if_neg h, if_pos h0, if_neg hf]
        rw [e] at S
        exact FGap_other n 1 (sgW n) _ (-1074) S (fun w => isFinite_yes 1 (sgW n) _ (-1074) (by decide) (by decide) w) (by decide) N R w
    · have eT : (gapT n : Int) - 1074 = (fdW n : Int) - 1 - 1074 := by unfold gapT; rw [if_neg h0]; omega
      rw [eT] at R
      have e : splW n = (2, sgW n, (frW n : Int) + 4503599627370496, (fdW n : Int) - 1 - 1074) := by unfold splW; rw [if_neg h, if_neg h0]
      rw [e] at S
      exact FGap_other n 2 (sgW n) _ _ S (fun w => isFinite_yes 2 (sgW n) _ _ (by decide) (by decide) w) (by decide) N R w
/-- The reference's Gap. -/
theorem RGap64 (n : Nat) (hn : n < 18446744073709551616) (w : World) : Calls Try.prog 35 #[.int .u64 n] w fun x w' => x = .returned (if fdW n = 2047 then .tuple #[.int .u64 0, .bool false] else .tuple #[.int .u64 (gap64 n), .bool true]) ∧ Below w.heap.size w w' := by
  have S := fun w => Split_w n hn w
  have F := fun w => Finite_w n (fdW n) (decide (fdW n ≠ 2047)) (hdW n hn) (by rw [Bool.eq_iff_iff, decide_eq_true_iff, bne_iff_ne]; omega) w
  by_cases h : fdW n = 2047
  · rw [if_pos h]
    rw [decide_eq_false (show ¬ (fdW n ≠ 2047) from fun x => x h)] at F
    exact L.RGap_no n F w
  · rw [if_neg h]
    rw [decide_eq_true (show fdW n ≠ 2047 from h)] at F
    obtain ⟨N, _, eN, _⟩ := round_pow (gapT n) (gapT_le n h)
    rw [gap64_eq n N eN, eN]
    by_cases h0 : fdW n = 0
    · have eT : gapT n = 0 := by unfold gapT; rw [if_pos h0]
      rw [eT]
      by_cases hf : frW n = 0
      · have e : splW n = (0, sgW n, 0, 0) := by unfold splW; rw [if_neg h, if_pos h0, if_pos hf]
        rw [e] at S
        exact L.RGap_other n 0 (sgW n) 0 0 F S (by decide) w
      · have e : splW n = (1, sgW n, (frW n : Int), -1074) := by unfold splW; rw [if_neg h, if_pos h0, if_neg hf]
        rw [e] at S
        exact L.RGap_other n 1 (sgW n) _ _ F S (by decide) w
    · have eT : (fdW n : Int) - 1 - 1074 + 1074 = (gapT n : Int) := by unfold gapT; rw [if_neg h0]; omega
      have e : splW n = (2, sgW n, (frW n : Int) + 4503599627370496, (fdW n : Int) - 1 - 1074) := by unfold splW; rw [if_neg h, if_neg h0]
      rw [e] at S
      exact L.RGap_norm n (sgW n) _ _ (gapT n) F S eT (gapT_le n h) w
end Go.Proofs.Ytjgljcifnklmeaa
