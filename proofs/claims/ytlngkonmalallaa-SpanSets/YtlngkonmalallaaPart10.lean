import Derived.Test.YtlngkonmalallaaPart09
import Derived.Deep.CutBlock
import Derived.Deep.DeepCutAuto

namespace Go.Proofs.Ytlngkonmalallaa
open Go.RowKit Tn

set_option maxRecDepth 100000 in
set_option maxHeartbeats 3200000 in
theorem Infinite_w_pos (w : World) : Calls Try.prog 60 #[szW, .bool false] w fun e w' => e = .returned (.int .u64 9218868437227405312) ∧ Below w.heap.size w w' := by
  go_enter Try.func60, Try.ntmps60
  go_wp2_with fail
  have K0 := Blk.new w #[.int .i64 53, .int .i64 (-1074), .int .i64 971, .int .i64 52] 31
  have pr : Below w.heap.size w (w.alloc (.cells #[.int .i64 53, .int .i64 (-1074), .int .i64 971, .int .i64 52] 31)) := (Below.refl _ _).alloc (Nat.le_refl _) _
  generalize w.alloc (.cells #[.int .i64 53, .int .i64 (-1074), .int .i64 971, .int .i64 52] 31) = W at *
  have e0 : W.cell? ⟨w.heap.size, 0, none⟩ = some (.int .i64 53) := K0.at 0
  have e1 : W.cell? ⟨w.heap.size, 1, none⟩ = some (.int .i64 (-1074)) := K0.at 1
  have e2 : W.cell? ⟨w.heap.size, 2, none⟩ = some (.int .i64 971) := K0.at 2
  have e3 : W.cell? ⟨w.heap.size, 3, none⟩ = some (.int .i64 52) := K0.at 3
  have h3 : IntKind.u64.wrap 9218868437227405312 = 9218868437227405312 := by decide
  go_region_held3 (fun x => x.cell? ⟨w.heap.size, 0, none⟩ = some (.int .i64 53) ∧ x.cell? ⟨w.heap.size, 1, none⟩ = some (.int .i64 (-1074)) ∧ x.cell? ⟨w.heap.size, 2, none⟩ = some (.int .i64 971) ∧ x.cell? ⟨w.heap.size, 3, none⟩ = some (.int .i64 52)) (go_keep) (first
    | (go_at_call 54; refine (top_w _).mono ?_; rintro e w1 ⟨rfl, b1⟩; replace K0 := K0.below (below_undrew b1) K0.lt; replace pr := bel pr (below_undrew b1); have e0 : w1.cell? ⟨w.heap.size, 0, none⟩ = some (.int .i64 53) := K0.at 0; have e1 : w1.cell? ⟨w.heap.size, 1, none⟩ = some (.int .i64 (-1074)) := K0.at 1; have e2 : w1.cell? ⟨w.heap.size, 2, none⟩ = some (.int .i64 971) := K0.at 2; have e3 : w1.cell? ⟨w.heap.size, 3, none⟩ = some (.int .i64 52) := K0.at 3)
    | (go_at_call 61; refine (signed_w_pos _ _).mono ?_; rintro e w1 ⟨rfl, b1⟩; replace K0 := K0.below b1 K0.lt; replace pr := bel pr b1; have e0 : w1.cell? ⟨w.heap.size, 0, none⟩ = some (.int .i64 53) := K0.at 0; have e1 : w1.cell? ⟨w.heap.size, 1, none⟩ = some (.int .i64 (-1074)) := K0.at 1; have e2 : w1.cell? ⟨w.heap.size, 2, none⟩ = some (.int .i64 971) := K0.at 2; have e3 : w1.cell? ⟨w.heap.size, 3, none⟩ = some (.int .i64 52) := K0.at 3)
    | fail)
  go_wp2
  go_ret
  exact ⟨rfl, pr⟩
set_option maxRecDepth 100000 in
set_option maxHeartbeats 3200000 in
theorem Infinite_w_neg (w : World) : Calls Try.prog 60 #[szW, .bool true] w fun e w' => e = .returned (.int .u64 18442240474082181120) ∧ Below w.heap.size w w' := by
  go_enter Try.func60, Try.ntmps60
  go_wp2_with fail
  have K0 := Blk.new w #[.int .i64 53, .int .i64 (-1074), .int .i64 971, .int .i64 52] 31
  have pr : Below w.heap.size w (w.alloc (.cells #[.int .i64 53, .int .i64 (-1074), .int .i64 971, .int .i64 52] 31)) := (Below.refl _ _).alloc (Nat.le_refl _) _
  generalize w.alloc (.cells #[.int .i64 53, .int .i64 (-1074), .int .i64 971, .int .i64 52] 31) = W at *
  have e0 : W.cell? ⟨w.heap.size, 0, none⟩ = some (.int .i64 53) := K0.at 0
  have e1 : W.cell? ⟨w.heap.size, 1, none⟩ = some (.int .i64 (-1074)) := K0.at 1
  have e2 : W.cell? ⟨w.heap.size, 2, none⟩ = some (.int .i64 971) := K0.at 2
  have e3 : W.cell? ⟨w.heap.size, 3, none⟩ = some (.int .i64 52) := K0.at 3
  have h3 : IntKind.u64.wrap 9218868437227405312 = 9218868437227405312 := by decide
  have hn : bits .or .u64 9218868437227405312 9223372036854775808 = 18442240474082181120 := by decide
  go_region_held3 (fun x => x.cell? ⟨w.heap.size, 0, none⟩ = some (.int .i64 53) ∧ x.cell? ⟨w.heap.size, 1, none⟩ = some (.int .i64 (-1074)) ∧ x.cell? ⟨w.heap.size, 2, none⟩ = some (.int .i64 971) ∧ x.cell? ⟨w.heap.size, 3, none⟩ = some (.int .i64 52)) (go_keep) (first
    | (go_at_call 54; refine (top_w _).mono ?_; rintro e w1 ⟨rfl, b1⟩; replace K0 := K0.below (below_undrew b1) K0.lt; replace pr := bel pr (below_undrew b1); have e0 : w1.cell? ⟨w.heap.size, 0, none⟩ = some (.int .i64 53) := K0.at 0; have e1 : w1.cell? ⟨w.heap.size, 1, none⟩ = some (.int .i64 (-1074)) := K0.at 1; have e2 : w1.cell? ⟨w.heap.size, 2, none⟩ = some (.int .i64 971) := K0.at 2; have e3 : w1.cell? ⟨w.heap.size, 3, none⟩ = some (.int .i64 52) := K0.at 3)
    | (go_at_call 61; refine (signed_w_neg _ 18442240474082181120 hn _).mono ?_; rintro e w1 ⟨rfl, b1⟩; replace K0 := K0.below b1 K0.lt; replace pr := bel pr b1; have e0 : w1.cell? ⟨w.heap.size, 0, none⟩ = some (.int .i64 53) := K0.at 0; have e1 : w1.cell? ⟨w.heap.size, 1, none⟩ = some (.int .i64 (-1074)) := K0.at 1; have e2 : w1.cell? ⟨w.heap.size, 2, none⟩ = some (.int .i64 971) := K0.at 2; have e3 : w1.cell? ⟨w.heap.size, 3, none⟩ = some (.int .i64 52) := K0.at 3)
    | fail)
  go_wp2
  go_ret
  exact ⟨rfl, pr⟩
set_option maxRecDepth 100000 in
set_option maxHeartbeats 3200000 in
theorem Join_w_walk (k : Int) (g : Bool) (m e N : Int) (k' : Int) (g' : Bool) (m' e' : Int) (t : Bool) (x1 x2 x3 x4 f1 f2 r1 r2 : Int) (hx1 : IntKind.i64.wrap (e + 1074) = x1) (hx2 : IntKind.i64.wrap (x1 + 1) = x2) (hx3 : IntKind.u64.wrap x2 = x3) (hx4 : IntKind.u64.wrap (x3 * 4503599627370496) = x4) (hf1 : bits .and .u64 m 4503599627370495 = f1) (hf2 : bits .or .u64 f1 9223372036854775808 = f2) (hr1 : bits .or .u64 x4 f1 = r1) (hr2 : bits .or .u64 r1 9223372036854775808 = r2)
    (HN : (k = 4 ∧ N = 9221120237041090560)
      ∨ (k = 3 ∧ g = false ∧ N = 9218868437227405312)
      ∨ (k = 3 ∧ g = true ∧ N = 18442240474082181120)
      ∨ (k = 0 ∧ g = false ∧ N = 0)
      ∨ (k = 0 ∧ g = true ∧ N = 9223372036854775808)
      ∨ (k = 1 ∧ g = false ∧ N = f1)
      ∨ (k = 1 ∧ g = true ∧ N = f2)
      ∨ (k = 2 ∧ g = false ∧ N = r1 ∧ decide (-1074 ≤ e) = true ∧ decide (e ≤ 971) = true)
      ∨ (k = 2 ∧ g = true ∧ N = r2 ∧ decide (-1074 ≤ e) = true ∧ decide (e ≤ 971) = true)
      ∨ (k = 2 ∧ N = 0 ∧ decide (-1074 ≤ e) = false)
      ∨ (k = 2 ∧ N = 0 ∧ decide (-1074 ≤ e) = true ∧ decide (e ≤ 971) = false)
      ∨ (N = 0 ∧ (k == 4) = false ∧ (k == 3) = false ∧ (k == 0) = false ∧ (k == 1) = false ∧ (k == 2) = false))
    (hs : ∀ w : World, Calls Try.prog 12 #[szW, .int .u64 N] w fun e w' => e = .returned (prt k' g' m' e') ∧ Below w.heap.size w w')
    (ht : ((k' == k) = false ∧ t = false) ∨ (k' = k ∧ (g' == g) = false ∧ t = false) ∨ (k' = k ∧ g' = g ∧ (m' == m) = false ∧ t = false) ∨ (k' = k ∧ g' = g ∧ m' = m ∧ (e' == e) = false ∧ t = false) ∨ (k' = k ∧ g' = g ∧ m' = m ∧ e' = e ∧ t = true)) (w : World) :
    Calls Try.prog 18 #[szW, prt k g m e] w fun x w' => x = .returned (.tuple #[.int .u64 (bif t then N else 0), .int .i64 (bif t then 0 else 21)]) ∧ Below w.heap.size w w' := by
  go_enter Try.func18, Try.ntmps18
  have K0 : Blk ((w.alloc (.cells #[.int .i64 53, .int .i64 (-1074), .int .i64 971, .int .i64 52] 31)).alloc (.cells #[.int .i64 k, .bool g, .int .u64 m, .int .i64 e] 25)) w.heap.size #[.int .i64 53, .int .i64 (-1074), .int .i64 971, .int .i64 52] 31 := (Blk.new w _ _).alloc _
  have K1 := Blk.new (w.alloc (.cells #[.int .i64 53, .int .i64 (-1074), .int .i64 971, .int .i64 52] 31)) #[.int .i64 k, .bool g, .int .u64 m, .int .i64 e] 25
  have pr : Below w.heap.size w ((w.alloc (.cells #[.int .i64 53, .int .i64 (-1074), .int .i64 971, .int .i64 52] 31)).alloc (.cells #[.int .i64 k, .bool g, .int .u64 m, .int .i64 e] 25)) := ((Below.refl _ _).alloc (Nat.le_refl _) _).alloc (by simp) _
  simp only [World.size_alloc] at K1
  go_upto_block 0 with fail
  go_cut [6] (fun b wc => b = .int .u64 N ∧ Blk wc w.heap.size #[.int .i64 53, .int .i64 (-1074), .int .i64 971, .int .i64 52] 31 ∧ Blk wc (w.heap.size + 1) #[.int .i64 k, .bool g, .int .u64 m, .int .i64 e] 25 ∧ Below w.heap.size w wc)
  case first =>
    clear ht hs
    rcases HN with ⟨rfl, rfl⟩ | ⟨rfl, rfl, rfl⟩ | ⟨rfl, rfl, rfl⟩ | ⟨rfl, rfl, rfl⟩ | ⟨rfl, rfl, rfl⟩ | ⟨rfl, rfl, rfl⟩ | ⟨rfl, rfl, rfl⟩ | ⟨rfl, rfl, rfl, q1, q2⟩ | ⟨rfl, rfl, rfl, q1, q2⟩ | ⟨rfl, rfl, q1⟩ | ⟨rfl, rfl, q1, q2⟩ | ⟨rfl, q1, q2, q3, q4, q5⟩
    · go_wp2_with (first
        | (go_at_call 59; refine (None_w _).mono ?_; rintro e w1 ⟨rfl, b1⟩; replace K0 := K0.below b1 K0.lt; replace K1 := K1.below b1 K1.lt; replace pr := bel pr b1; clear b1; have e0 : w1.cell? ⟨w.heap.size, 0, none⟩ = some (.int .i64 53) := K0.at 0; have e1 : w1.cell? ⟨w.heap.size, 1, none⟩ = some (.int .i64 (-1074)) := K0.at 1; have e2 : w1.cell? ⟨w.heap.size, 2, none⟩ = some (.int .i64 971) := K0.at 2; have e3 : w1.cell? ⟨w.heap.size, 3, none⟩ = some (.int .i64 52) := K0.at 3; have c0 : w1.cell? ⟨w.heap.size + 1, 0, none⟩ = some (.int .i64 4) := K1.at 0; have c1 : w1.cell? ⟨w.heap.size + 1, 1, none⟩ = some (.bool g) := K1.at 1; have c2 : w1.cell? ⟨w.heap.size + 1, 2, none⟩ = some (.int .u64 m) := K1.at 2; have c3 : w1.cell? ⟨w.heap.size + 1, 3, none⟩ = some (.int .i64 e) := K1.at 3)
        | fail)
      go_meet
      case rel => exact ⟨rfl, K0, K1, pr⟩
    · go_wp2_with (first
        | (go_at_call 60; refine (Infinite_w_pos _).mono ?_; rintro e w1 ⟨rfl, b1⟩; replace K0 := K0.below b1 K0.lt; replace K1 := K1.below b1 K1.lt; replace pr := bel pr b1; clear b1; have e0 : w1.cell? ⟨w.heap.size, 0, none⟩ = some (.int .i64 53) := K0.at 0; have e1 : w1.cell? ⟨w.heap.size, 1, none⟩ = some (.int .i64 (-1074)) := K0.at 1; have e2 : w1.cell? ⟨w.heap.size, 2, none⟩ = some (.int .i64 971) := K0.at 2; have e3 : w1.cell? ⟨w.heap.size, 3, none⟩ = some (.int .i64 52) := K0.at 3; have c0 : w1.cell? ⟨w.heap.size + 1, 0, none⟩ = some (.int .i64 3) := K1.at 0; have c1 : w1.cell? ⟨w.heap.size + 1, 1, none⟩ = some (.bool false) := K1.at 1; have c2 : w1.cell? ⟨w.heap.size + 1, 2, none⟩ = some (.int .u64 m) := K1.at 2; have c3 : w1.cell? ⟨w.heap.size + 1, 3, none⟩ = some (.int .i64 e) := K1.at 3)
        | fail)
      go_meet
      case rel => exact ⟨rfl, K0, K1, pr⟩
    · go_wp2_with (first
        | (go_at_call 60; refine (Infinite_w_neg _).mono ?_; rintro e w1 ⟨rfl, b1⟩; replace K0 := K0.below b1 K0.lt; replace K1 := K1.below b1 K1.lt; replace pr := bel pr b1; clear b1; have e0 : w1.cell? ⟨w.heap.size, 0, none⟩ = some (.int .i64 53) := K0.at 0; have e1 : w1.cell? ⟨w.heap.size, 1, none⟩ = some (.int .i64 (-1074)) := K0.at 1; have e2 : w1.cell? ⟨w.heap.size, 2, none⟩ = some (.int .i64 971) := K0.at 2; have e3 : w1.cell? ⟨w.heap.size, 3, none⟩ = some (.int .i64 52) := K0.at 3; have c0 : w1.cell? ⟨w.heap.size + 1, 0, none⟩ = some (.int .i64 3) := K1.at 0; have c1 : w1.cell? ⟨w.heap.size + 1, 1, none⟩ = some (.bool true) := K1.at 1; have c2 : w1.cell? ⟨w.heap.size + 1, 2, none⟩ = some (.int .u64 m) := K1.at 2; have c3 : w1.cell? ⟨w.heap.size + 1, 3, none⟩ = some (.int .i64 e) := K1.at 3)
        | fail)
      go_meet
      case rel => exact ⟨rfl, K0, K1, pr⟩
    · go_wp2_with (first
        | (go_at_call 61; refine (signed_w_pos _ _).mono ?_; rintro e w1 ⟨rfl, b1⟩; replace K0 := K0.below b1 K0.lt; replace K1 := K1.below b1 K1.lt; replace pr := bel pr b1; clear b1; have e0 : w1.cell? ⟨w.heap.size, 0, none⟩ = some (.int .i64 53) := K0.at 0; have e1 : w1.cell? ⟨w.heap.size, 1, none⟩ = some (.int .i64 (-1074)) := K0.at 1; have e2 : w1.cell? ⟨w.heap.size, 2, none⟩ = some (.int .i64 971) := K0.at 2; have e3 : w1.cell? ⟨w.heap.size, 3, none⟩ = some (.int .i64 52) := K0.at 3; have c0 : w1.cell? ⟨w.heap.size + 1, 0, none⟩ = some (.int .i64 0) := K1.at 0; have c1 : w1.cell? ⟨w.heap.size + 1, 1, none⟩ = some (.bool false) := K1.at 1; have c2 : w1.cell? ⟨w.heap.size + 1, 2, none⟩ = some (.int .u64 m) := K1.at 2; have c3 : w1.cell? ⟨w.heap.size + 1, 3, none⟩ = some (.int .i64 e) := K1.at 3)
        | fail)
      go_meet
      case rel => exact ⟨rfl, K0, K1, pr⟩
    · go_wp2_with (first
        | (go_at_call 61; refine (signed_w_neg 0 9223372036854775808 (by decide) _).mono ?_; rintro e w1 ⟨rfl, b1⟩; replace K0 := K0.below b1 K0.lt; replace K1 := K1.below b1 K1.lt; replace pr := bel pr b1; clear b1; have e0 : w1.cell? ⟨w.heap.size, 0, none⟩ = some (.int .i64 53) := K0.at 0; have e1 : w1.cell? ⟨w.heap.size, 1, none⟩ = some (.int .i64 (-1074)) := K0.at 1; have e2 : w1.cell? ⟨w.heap.size, 2, none⟩ = some (.int .i64 971) := K0.at 2; have e3 : w1.cell? ⟨w.heap.size, 3, none⟩ = some (.int .i64 52) := K0.at 3; have c0 : w1.cell? ⟨w.heap.size + 1, 0, none⟩ = some (.int .i64 0) := K1.at 0; have c1 : w1.cell? ⟨w.heap.size + 1, 1, none⟩ = some (.bool true) := K1.at 1; have c2 : w1.cell? ⟨w.heap.size + 1, 2, none⟩ = some (.int .u64 m) := K1.at 2; have c3 : w1.cell? ⟨w.heap.size + 1, 3, none⟩ = some (.int .i64 e) := K1.at 3)
        | fail)
      go_meet
      case rel => exact ⟨rfl, K0, K1, pr⟩
    · go_wp2_with fail
      generalize ((w.alloc (.cells #[.int .i64 53, .int .i64 (-1074), .int .i64 971, .int .i64 52] 31)).alloc (.cells #[.int .i64 1, .bool false, .int .u64 m, .int .i64 e] 25)) = W at *
      have e0 : W.cell? ⟨w.heap.size, 0, none⟩ = some (.int .i64 53) := K0.at 0
      have e1 : W.cell? ⟨w.heap.size, 1, none⟩ = some (.int .i64 (-1074)) := K0.at 1
      have e2 : W.cell? ⟨w.heap.size, 2, none⟩ = some (.int .i64 971) := K0.at 2
      have e3 : W.cell? ⟨w.heap.size, 3, none⟩ = some (.int .i64 52) := K0.at 3
      have c0 : W.cell? ⟨w.heap.size + 1, 0, none⟩ = some (.int .i64 1) := K1.at 0
      have c1 : W.cell? ⟨w.heap.size + 1, 1, none⟩ = some (.bool false) := K1.at 1
      have c2 : W.cell? ⟨w.heap.size + 1, 2, none⟩ = some (.int .u64 m) := K1.at 2
      have c3 : W.cell? ⟨w.heap.size + 1, 3, none⟩ = some (.int .i64 e) := K1.at 3
      have h0 : IntKind.u64.wrap 4503599627370496 = 4503599627370496 := by decide
      have h1 : IntKind.u64.wrap 4503599627370495 = 4503599627370495 := by decide
      go_region_held3 (fun x => x.cell? ⟨w.heap.size, 0, none⟩ = some (.int .i64 53) ∧ x.cell? ⟨w.heap.size, 1, none⟩ = some (.int .i64 (-1074)) ∧ x.cell? ⟨w.heap.size, 2, none⟩ = some (.int .i64 971) ∧ x.cell? ⟨w.heap.size, 3, none⟩ = some (.int .i64 52) ∧ x.cell? ⟨w.heap.size + 1, 0, none⟩ = some (.int .i64 1) ∧ x.cell? ⟨w.heap.size + 1, 1, none⟩ = some (.bool false) ∧ x.cell? ⟨w.heap.size + 1, 2, none⟩ = some (.int .u64 m) ∧ x.cell? ⟨w.heap.size + 1, 3, none⟩ = some (.int .i64 e)) (go_keep) (first
        | (go_at_call 61; refine (signed_w_pos _ _).mono ?_; rintro e w1 ⟨rfl, b1⟩; replace K0 := K0.below (below_undrew b1) K0.lt; replace K1 := K1.below (below_undrew b1) K1.lt; replace pr := bel pr (below_undrew b1); clear b1; have e0 : w1.cell? ⟨w.heap.size, 0, none⟩ = some (.int .i64 53) := K0.at 0; have e1 : w1.cell? ⟨w.heap.size, 1, none⟩ = some (.int .i64 (-1074)) := K0.at 1; have e2 : w1.cell? ⟨w.heap.size, 2, none⟩ = some (.int .i64 971) := K0.at 2; have e3 : w1.cell? ⟨w.heap.size, 3, none⟩ = some (.int .i64 52) := K0.at 3; have c0 : w1.cell? ⟨w.heap.size + 1, 0, none⟩ = some (.int .i64 1) := K1.at 0; have c1 : w1.cell? ⟨w.heap.size + 1, 1, none⟩ = some (.bool false) := K1.at 1; have c2 : w1.cell? ⟨w.heap.size + 1, 2, none⟩ = some (.int .u64 m) := K1.at 2; have c3 : w1.cell? ⟨w.heap.size + 1, 3, none⟩ = some (.int .i64 e) := K1.at 3)
        | fail)
      go_wp2_with fail
      go_meet
      case rel => exact ⟨rfl, K0, K1, pr⟩
    · go_wp2_with fail
      generalize ((w.alloc (.cells #[.int .i64 53, .int .i64 (-1074), .int .i64 971, .int .i64 52] 31)).alloc (.cells #[.int .i64 1, .bool true, .int .u64 m, .int .i64 e] 25)) = W at *
      have e0 : W.cell? ⟨w.heap.size, 0, none⟩ = some (.int .i64 53) := K0.at 0
      have e1 : W.cell? ⟨w.heap.size, 1, none⟩ = some (.int .i64 (-1074)) := K0.at 1
      have e2 : W.cell? ⟨w.heap.size, 2, none⟩ = some (.int .i64 971) := K0.at 2
      have e3 : W.cell? ⟨w.heap.size, 3, none⟩ = some (.int .i64 52) := K0.at 3
      have c0 : W.cell? ⟨w.heap.size + 1, 0, none⟩ = some (.int .i64 1) := K1.at 0
      have c1 : W.cell? ⟨w.heap.size + 1, 1, none⟩ = some (.bool true) := K1.at 1
      have c2 : W.cell? ⟨w.heap.size + 1, 2, none⟩ = some (.int .u64 m) := K1.at 2
      have c3 : W.cell? ⟨w.heap.size + 1, 3, none⟩ = some (.int .i64 e) := K1.at 3
      have h0 : IntKind.u64.wrap 4503599627370496 = 4503599627370496 := by decide
      have h1 : IntKind.u64.wrap 4503599627370495 = 4503599627370495 := by decide
      go_region_held3 (fun x => x.cell? ⟨w.heap.size, 0, none⟩ = some (.int .i64 53) ∧ x.cell? ⟨w.heap.size, 1, none⟩ = some (.int .i64 (-1074)) ∧ x.cell? ⟨w.heap.size, 2, none⟩ = some (.int .i64 971) ∧ x.cell? ⟨w.heap.size, 3, none⟩ = some (.int .i64 52) ∧ x.cell? ⟨w.heap.size + 1, 0, none⟩ = some (.int .i64 1) ∧ x.cell? ⟨w.heap.size + 1, 1, none⟩ = some (.bool true) ∧ x.cell? ⟨w.heap.size + 1, 2, none⟩ = some (.int .u64 m) ∧ x.cell? ⟨w.heap.size + 1, 3, none⟩ = some (.int .i64 e)) (go_keep) (first
        | (go_at_call 61; refine (signed_w_neg f1 _ hf2 _).mono ?_; rintro e w1 ⟨rfl, b1⟩; replace K0 := K0.below (below_undrew b1) K0.lt; replace K1 := K1.below (below_undrew b1) K1.lt; replace pr := bel pr (below_undrew b1); clear b1; have e0 : w1.cell? ⟨w.heap.size, 0, none⟩ = some (.int .i64 53) := K0.at 0; have e1 : w1.cell? ⟨w.heap.size, 1, none⟩ = some (.int .i64 (-1074)) := K0.at 1; have e2 : w1.cell? ⟨w.heap.size, 2, none⟩ = some (.int .i64 971) := K0.at 2; have e3 : w1.cell? ⟨w.heap.size, 3, none⟩ = some (.int .i64 52) := K0.at 3; have c0 : w1.cell? ⟨w.heap.size + 1, 0, none⟩ = some (.int .i64 1) := K1.at 0; have c1 : w1.cell? ⟨w.heap.size + 1, 1, none⟩ = some (.bool true) := K1.at 1; have c2 : w1.cell? ⟨w.heap.size + 1, 2, none⟩ = some (.int .u64 m) := K1.at 2; have c3 : w1.cell? ⟨w.heap.size + 1, 3, none⟩ = some (.int .i64 e) := K1.at 3)
        | fail)
      go_wp2_with fail
      go_meet
      case rel => exact ⟨rfl, K0, K1, pr⟩
    · go_wp2_with fail
      generalize ((w.alloc (.cells #[.int .i64 53, .int .i64 (-1074), .int .i64 971, .int .i64 52] 31)).alloc (.cells #[.int .i64 2, .bool false, .int .u64 m, .int .i64 e] 25)) = W at *
      have e0 : W.cell? ⟨w.heap.size, 0, none⟩ = some (.int .i64 53) := K0.at 0
      have e1 : W.cell? ⟨w.heap.size, 1, none⟩ = some (.int .i64 (-1074)) := K0.at 1
      have e2 : W.cell? ⟨w.heap.size, 2, none⟩ = some (.int .i64 971) := K0.at 2
      have e3 : W.cell? ⟨w.heap.size, 3, none⟩ = some (.int .i64 52) := K0.at 3
      have c0 : W.cell? ⟨w.heap.size + 1, 0, none⟩ = some (.int .i64 2) := K1.at 0
      have c1 : W.cell? ⟨w.heap.size + 1, 1, none⟩ = some (.bool false) := K1.at 1
      have c2 : W.cell? ⟨w.heap.size + 1, 2, none⟩ = some (.int .u64 m) := K1.at 2
      have c3 : W.cell? ⟨w.heap.size + 1, 3, none⟩ = some (.int .i64 e) := K1.at 3
      have h0 : IntKind.u64.wrap 4503599627370496 = 4503599627370496 := by decide
      have h1 : IntKind.u64.wrap 4503599627370495 = 4503599627370495 := by decide
      go_region_held3 (fun x => x.cell? ⟨w.heap.size, 0, none⟩ = some (.int .i64 53) ∧ x.cell? ⟨w.heap.size, 1, none⟩ = some (.int .i64 (-1074)) ∧ x.cell? ⟨w.heap.size, 2, none⟩ = some (.int .i64 971) ∧ x.cell? ⟨w.heap.size, 3, none⟩ = some (.int .i64 52) ∧ x.cell? ⟨w.heap.size + 1, 0, none⟩ = some (.int .i64 2) ∧ x.cell? ⟨w.heap.size + 1, 1, none⟩ = some (.bool false) ∧ x.cell? ⟨w.heap.size + 1, 2, none⟩ = some (.int .u64 m) ∧ x.cell? ⟨w.heap.size + 1, 3, none⟩ = some (.int .i64 e)) (go_keep) (first
        | (go_at_call 61; refine (signed_w_pos _ _).mono ?_; rintro e w1 ⟨rfl, b1⟩; replace K0 := K0.below (below_undrew b1) K0.lt; replace K1 := K1.below (below_undrew b1) K1.lt; replace pr := bel pr (below_undrew b1); clear b1; have e0 : w1.cell? ⟨w.heap.size, 0, none⟩ = some (.int .i64 53) := K0.at 0; have e1 : w1.cell? ⟨w.heap.size, 1, none⟩ = some (.int .i64 (-1074)) := K0.at 1; have e2 : w1.cell? ⟨w.heap.size, 2, none⟩ = some (.int .i64 971) := K0.at 2; have e3 : w1.cell? ⟨w.heap.size, 3, none⟩ = some (.int .i64 52) := K0.at 3; have c0 : w1.cell? ⟨w.heap.size + 1, 0, none⟩ = some (.int .i64 2) := K1.at 0; have c1 : w1.cell? ⟨w.heap.size + 1, 1, none⟩ = some (.bool false) := K1.at 1; have c2 : w1.cell? ⟨w.heap.size + 1, 2, none⟩ = some (.int .u64 m) := K1.at 2; have c3 : w1.cell? ⟨w.heap.size + 1, 3, none⟩ = some (.int .i64 e) := K1.at 3)
        | fail)
      go_wp2_with fail
      go_meet
      case rel => exact ⟨rfl, K0, K1, pr⟩
    · go_wp2_with fail
      generalize ((w.alloc (.cells #[.int .i64 53, .int .i64 (-1074), .int .i64 971, .int .i64 52] 31)).alloc (.cells #[.int .i64 2, .bool true, .int .u64 m, .int .i64 e] 25)) = W at *
      have e0 : W.cell? ⟨w.heap.size, 0, none⟩ = some (.int .i64 53) := K0.at 0
      have e1 : W.cell? ⟨w.heap.size, 1, none⟩ = some (.int .i64 (-1074)) := K0.at 1
      have e2 : W.cell? ⟨w.heap.size, 2, none⟩ = some (.int .i64 971) := K0.at 2
      have e3 : W.cell? ⟨w.heap.size, 3, none⟩ = some (.int .i64 52) := K0.at 3
      have c0 : W.cell? ⟨w.heap.size + 1, 0, none⟩ = some (.int .i64 2) := K1.at 0
      have c1 : W.cell? ⟨w.heap.size + 1, 1, none⟩ = some (.bool true) := K1.at 1
      have c2 : W.cell? ⟨w.heap.size + 1, 2, none⟩ = some (.int .u64 m) := K1.at 2
      have c3 : W.cell? ⟨w.heap.size + 1, 3, none⟩ = some (.int .i64 e) := K1.at 3
      have h0 : IntKind.u64.wrap 4503599627370496 = 4503599627370496 := by decide
      have h1 : IntKind.u64.wrap 4503599627370495 = 4503599627370495 := by decide
      go_region_held3 (fun x => x.cell? ⟨w.heap.size, 0, none⟩ = some (.int .i64 53) ∧ x.cell? ⟨w.heap.size, 1, none⟩ = some (.int .i64 (-1074)) ∧ x.cell? ⟨w.heap.size, 2, none⟩ = some (.int .i64 971) ∧ x.cell? ⟨w.heap.size, 3, none⟩ = some (.int .i64 52) ∧ x.cell? ⟨w.heap.size + 1, 0, none⟩ = some (.int .i64 2) ∧ x.cell? ⟨w.heap.size + 1, 1, none⟩ = some (.bool true) ∧ x.cell? ⟨w.heap.size + 1, 2, none⟩ = some (.int .u64 m) ∧ x.cell? ⟨w.heap.size + 1, 3, none⟩ = some (.int .i64 e)) (go_keep) (first
        | (go_at_call 61; refine (signed_w_neg r1 _ hr2 _).mono ?_; rintro e w1 ⟨rfl, b1⟩; replace K0 := K0.below (below_undrew b1) K0.lt; replace K1 := K1.below (below_undrew b1) K1.lt; replace pr := bel pr (below_undrew b1); clear b1; have e0 : w1.cell? ⟨w.heap.size, 0, none⟩ = some (.int .i64 53) := K0.at 0; have e1 : w1.cell? ⟨w.heap.size, 1, none⟩ = some (.int .i64 (-1074)) := K0.at 1; have e2 : w1.cell? ⟨w.heap.size, 2, none⟩ = some (.int .i64 971) := K0.at 2; have e3 : w1.cell? ⟨w.heap.size, 3, none⟩ = some (.int .i64 52) := K0.at 3; have c0 : w1.cell? ⟨w.heap.size + 1, 0, none⟩ = some (.int .i64 2) := K1.at 0; have c1 : w1.cell? ⟨w.heap.size + 1, 1, none⟩ = some (.bool true) := K1.at 1; have c2 : w1.cell? ⟨w.heap.size + 1, 2, none⟩ = some (.int .u64 m) := K1.at 2; have c3 : w1.cell? ⟨w.heap.size + 1, 3, none⟩ = some (.int .i64 e) := K1.at 3)
        | fail)
      go_wp2_with fail
      go_meet
      case rel => exact ⟨rfl, K0, K1, pr⟩
    · go_wp2
      go_meet
      case rel => exact ⟨rfl, K0, K1, pr⟩
    · go_wp2
      go_meet
      case rel => exact ⟨rfl, K0, K1, pr⟩
    · go_wp2
      go_meet
      case rel => exact ⟨rfl, K0, K1, pr⟩
  case rest =>
    clear HN K0 K1 pr
    obtain ⟨rfl, K0, K1, pr⟩ := hcut
    rcases ht with ⟨t1, rfl⟩ | ⟨rfl, t1, rfl⟩ | ⟨rfl, rfl, t1, rfl⟩ | ⟨rfl, rfl, rfl, t1, rfl⟩ | ⟨rfl, rfl, rfl, rfl, rfl⟩
    · have e0 : wc.cell? ⟨w.heap.size, 0, none⟩ = some (.int .i64 53) := K0.at 0
      have e1 : wc.cell? ⟨w.heap.size, 1, none⟩ = some (.int .i64 (-1074)) := K0.at 1
      have e2 : wc.cell? ⟨w.heap.size, 2, none⟩ = some (.int .i64 971) := K0.at 2
      have e3 : wc.cell? ⟨w.heap.size, 3, none⟩ = some (.int .i64 52) := K0.at 3
      have c0 : wc.cell? ⟨w.heap.size + 1, 0, none⟩ = some (.int .i64 k) := K1.at 0
      have c1 : wc.cell? ⟨w.heap.size + 1, 1, none⟩ = some (.bool g) := K1.at 1
      have c2 : wc.cell? ⟨w.heap.size + 1, 2, none⟩ = some (.int .u64 m) := K1.at 2
      have c3 : wc.cell? ⟨w.heap.size + 1, 3, none⟩ = some (.int .i64 e) := K1.at 3
      go_wp2_with fail
      go_region_held3 (fun x => x.cell? ⟨w.heap.size, 0, none⟩ = some (.int .i64 53) ∧ x.cell? ⟨w.heap.size, 1, none⟩ = some (.int .i64 (-1074)) ∧ x.cell? ⟨w.heap.size, 2, none⟩ = some (.int .i64 971) ∧ x.cell? ⟨w.heap.size, 3, none⟩ = some (.int .i64 52) ∧ x.cell? ⟨w.heap.size + 1, 0, none⟩ = some (.int .i64 k) ∧ x.cell? ⟨w.heap.size + 1, 1, none⟩ = some (.bool g) ∧ x.cell? ⟨w.heap.size + 1, 2, none⟩ = some (.int .u64 m) ∧ x.cell? ⟨w.heap.size + 1, 3, none⟩ = some (.int .i64 e)) (go_keep) (first
        | (go_at_call 12; refine (hs _).mono ?_; rintro e w2 ⟨rfl, b2⟩; replace K0 := K0.below (below_undrew b2) K0.lt; replace K1 := K1.below (below_undrew b2) K1.lt; replace pr := bel pr (below_undrew b2); clear b2; have e0 : w2.cell? ⟨w.heap.size, 0, none⟩ = some (.int .i64 53) := K0.at 0; have e1 : w2.cell? ⟨w.heap.size, 1, none⟩ = some (.int .i64 (-1074)) := K0.at 1; have e2 : w2.cell? ⟨w.heap.size, 2, none⟩ = some (.int .i64 971) := K0.at 2; have e3 : w2.cell? ⟨w.heap.size, 3, none⟩ = some (.int .i64 52) := K0.at 3; have c0 : w2.cell? ⟨w.heap.size + 1, 0, none⟩ = some (.int .i64 k) := K1.at 0; have c1 : w2.cell? ⟨w.heap.size + 1, 1, none⟩ = some (.bool g) := K1.at 1; have c2 : w2.cell? ⟨w.heap.size + 1, 2, none⟩ = some (.int .u64 m) := K1.at 2; have c3 : w2.cell? ⟨w.heap.size + 1, 3, none⟩ = some (.int .i64 e) := K1.at 3)
        | fail)
      go_wp2
      exact bodyPost_ret (v := .tuple #[.int .u64 0, .int .i64 21]) (by simp [results, Try.results18, go_sem]) rfl ⟨rfl, pr⟩
    · have e0 : wc.cell? ⟨w.heap.size, 0, none⟩ = some (.int .i64 53) := K0.at 0
      have e1 : wc.cell? ⟨w.heap.size, 1, none⟩ = some (.int .i64 (-1074)) := K0.at 1
      have e2 : wc.cell? ⟨w.heap.size, 2, none⟩ = some (.int .i64 971) := K0.at 2
      have e3 : wc.cell? ⟨w.heap.size, 3, none⟩ = some (.int .i64 52) := K0.at 3
      have c0 : wc.cell? ⟨w.heap.size + 1, 0, none⟩ = some (.int .i64 k') := K1.at 0
      have c1 : wc.cell? ⟨w.heap.size + 1, 1, none⟩ = some (.bool g) := K1.at 1
      have c2 : wc.cell? ⟨w.heap.size + 1, 2, none⟩ = some (.int .u64 m) := K1.at 2
      have c3 : wc.cell? ⟨w.heap.size + 1, 3, none⟩ = some (.int .i64 e) := K1.at 3
      go_wp2_with fail
      go_region_held3 (fun x => x.cell? ⟨w.heap.size, 0, none⟩ = some (.int .i64 53) ∧ x.cell? ⟨w.heap.size, 1, none⟩ = some (.int .i64 (-1074)) ∧ x.cell? ⟨w.heap.size, 2, none⟩ = some (.int .i64 971) ∧ x.cell? ⟨w.heap.size, 3, none⟩ = some (.int .i64 52) ∧ x.cell? ⟨w.heap.size + 1, 0, none⟩ = some (.int .i64 k') ∧ x.cell? ⟨w.heap.size + 1, 1, none⟩ = some (.bool g) ∧ x.cell? ⟨w.heap.size + 1, 2, none⟩ = some (.int .u64 m) ∧ x.cell? ⟨w.heap.size + 1, 3, none⟩ = some (.int .i64 e)) (go_keep) (first
        | (go_at_call 12; refine (hs _).mono ?_; rintro e w2 ⟨rfl, b2⟩; replace K0 := K0.below (below_undrew b2) K0.lt; replace K1 := K1.below (below_undrew b2) K1.lt; replace pr := bel pr (below_undrew b2); clear b2; have e0 : w2.cell? ⟨w.heap.size, 0, none⟩ = some (.int .i64 53) := K0.at 0; have e1 : w2.cell? ⟨w.heap.size, 1, none⟩ = some (.int .i64 (-1074)) := K0.at 1; have e2 : w2.cell? ⟨w.heap.size, 2, none⟩ = some (.int .i64 971) := K0.at 2; have e3 : w2.cell? ⟨w.heap.size, 3, none⟩ = some (.int .i64 52) := K0.at 3; have c0 : w2.cell? ⟨w.heap.size + 1, 0, none⟩ = some (.int .i64 k') := K1.at 0; have c1 : w2.cell? ⟨w.heap.size + 1, 1, none⟩ = some (.bool g) := K1.at 1; have c2 : w2.cell? ⟨w.heap.size + 1, 2, none⟩ = some (.int .u64 m) := K1.at 2; have c3 : w2.cell? ⟨w.heap.size + 1, 3, none⟩ = some (.int .i64 e) := K1.at 3)
        | fail)
      go_wp2
      exact bodyPost_ret (v := .tuple #[.int .u64 0, .int .i64 21]) (by simp [results, Try.results18, go_sem]) rfl ⟨rfl, pr⟩
    · have e0 : wc.cell? ⟨w.heap.size, 0, none⟩ = some (.int .i64 53) := K0.at 0
      have e1 : wc.cell? ⟨w.heap.size, 1, none⟩ = some (.int .i64 (-1074)) := K0.at 1
      have e2 : wc.cell? ⟨w.heap.size, 2, none⟩ = some (.int .i64 971) := K0.at 2
      have e3 : wc.cell? ⟨w.heap.size, 3, none⟩ = some (.int .i64 52) := K0.at 3
      have c0 : wc.cell? ⟨w.heap.size + 1, 0, none⟩ = some (.int .i64 k') := K1.at 0
      have c1 : wc.cell? ⟨w.heap.size + 1, 1, none⟩ = some (.bool g') := K1.at 1
      have c2 : wc.cell? ⟨w.heap.size + 1, 2, none⟩ = some (.int .u64 m) := K1.at 2
      have c3 : wc.cell? ⟨w.heap.size + 1, 3, none⟩ = some (.int .i64 e) := K1.at 3
      go_wp2_with fail
      go_region_held3 (fun x => x.cell? ⟨w.heap.size, 0, none⟩ = some (.int .i64 53) ∧ x.cell? ⟨w.heap.size, 1, none⟩ = some (.int .i64 (-1074)) ∧ x.cell? ⟨w.heap.size, 2, none⟩ = some (.int .i64 971) ∧ x.cell? ⟨w.heap.size, 3, none⟩ = some (.int .i64 52) ∧ x.cell? ⟨w.heap.size + 1, 0, none⟩ = some (.int .i64 k') ∧ x.cell? ⟨w.heap.size + 1, 1, none⟩ = some (.bool g') ∧ x.cell? ⟨w.heap.size + 1, 2, none⟩ = some (.int .u64 m) ∧ x.cell? ⟨w.heap.size + 1, 3, none⟩ = some (.int .i64 e)) (go_keep) (first
        | (go_at_call 12; refine (hs _).mono ?_; rintro e w2 ⟨rfl, b2⟩; replace K0 := K0.below (below_undrew b2) K0.lt; replace K1 := K1.below (below_undrew b2) K1.lt; replace pr := bel pr (below_undrew b2); clear b2; have e0 : w2.cell? ⟨w.heap.size, 0, none⟩ = some (.int .i64 53) := K0.at 0; have e1 : w2.cell? ⟨w.heap.size, 1, none⟩ = some (.int .i64 (-1074)) := K0.at 1; have e2 : w2.cell? ⟨w.heap.size, 2, none⟩ = some (.int .i64 971) := K0.at 2; have e3 : w2.cell? ⟨w.heap.size, 3, none⟩ = some (.int .i64 52) := K0.at 3; have c0 : w2.cell? ⟨w.heap.size + 1, 0, none⟩ = some (.int .i64 k') := K1.at 0; have c1 : w2.cell? ⟨w.heap.size + 1, 1, none⟩ = some (.bool g') := K1.at 1; have c2 : w2.cell? ⟨w.heap.size + 1, 2, none⟩ = some (.int .u64 m) := K1.at 2; have c3 : w2.cell? ⟨w.heap.size + 1, 3, none⟩ = some (.int .i64 e) := K1.at 3)
        | fail)
      go_wp2
      exact bodyPost_ret (v := .tuple #[.int .u64 0, .int .i64 21]) (by simp [results, Try.results18, go_sem]) rfl ⟨rfl, pr⟩
    · have e0 : wc.cell? ⟨w.heap.size, 0, none⟩ = some (.int .i64 53) := K0.at 0
      have e1 : wc.cell? ⟨w.heap.size, 1, none⟩ = some (.int .i64 (-1074)) := K0.at 1
      have e2 : wc.cell? ⟨w.heap.size, 2, none⟩ = some (.int .i64 971) := K0.at 2
      have e3 : wc.cell? ⟨w.heap.size, 3, none⟩ = some (.int .i64 52) := K0.at 3
      have c0 : wc.cell? ⟨w.heap.size + 1, 0, none⟩ = some (.int .i64 k') := K1.at 0
      have c1 : wc.cell? ⟨w.heap.size + 1, 1, none⟩ = some (.bool g') := K1.at 1
      have c2 : wc.cell? ⟨w.heap.size + 1, 2, none⟩ = some (.int .u64 m') := K1.at 2
      have c3 : wc.cell? ⟨w.heap.size + 1, 3, none⟩ = some (.int .i64 e) := K1.at 3
      go_wp2_with fail
      go_region_held3 (fun x => x.cell? ⟨w.heap.size, 0, none⟩ = some (.int .i64 53) ∧ x.cell? ⟨w.heap.size, 1, none⟩ = some (.int .i64 (-1074)) ∧ x.cell? ⟨w.heap.size, 2, none⟩ = some (.int .i64 971) ∧ x.cell? ⟨w.heap.size, 3, none⟩ = some (.int .i64 52) ∧ x.cell? ⟨w.heap.size + 1, 0, none⟩ = some (.int .i64 k') ∧ x.cell? ⟨w.heap.size + 1, 1, none⟩ = some (.bool g') ∧ x.cell? ⟨w.heap.size + 1, 2, none⟩ = some (.int .u64 m') ∧ x.cell? ⟨w.heap.size + 1, 3, none⟩ = some (.int .i64 e)) (go_keep) (first
        | (go_at_call 12; refine (hs _).mono ?_; rintro e w2 ⟨rfl, b2⟩; replace K0 := K0.below (below_undrew b2) K0.lt; replace K1 := K1.below (below_undrew b2) K1.lt; replace pr := bel pr (below_undrew b2); clear b2; have e0 : w2.cell? ⟨w.heap.size, 0, none⟩ = some (.int .i64 53) := K0.at 0; have e1 : w2.cell? ⟨w.heap.size, 1, none⟩ = some (.int .i64 (-1074)) := K0.at 1; have e2 : w2.cell? ⟨w.heap.size, 2, none⟩ = some (.int .i64 971) := K0.at 2; have e3 : w2.cell? ⟨w.heap.size, 3, none⟩ = some (.int .i64 52) := K0.at 3; have c0 : w2.cell? ⟨w.heap.size + 1, 0, none⟩ = some (.int .i64 k') := K1.at 0; have c1 : w2.cell? ⟨w.heap.size + 1, 1, none⟩ = some (.bool g') := K1.at 1; have c2 : w2.cell? ⟨w.heap.size + 1, 2, none⟩ = some (.int .u64 m') := K1.at 2; have c3 : w2.cell? ⟨w.heap.size + 1, 3, none⟩ = some (.int .i64 e) := K1.at 3)
        | fail)
      go_wp2
      exact bodyPost_ret (v := .tuple #[.int .u64 0, .int .i64 21]) (by simp [results, Try.results18, go_sem]) rfl ⟨rfl, pr⟩
    · have e0 : wc.cell? ⟨w.heap.size, 0, none⟩ = some (.int .i64 53) := K0.at 0
      have e1 : wc.cell? ⟨w.heap.size, 1, none⟩ = some (.int .i64 (-1074)) := K0.at 1
      have e2 : wc.cell? ⟨w.heap.size, 2, none⟩ = some (.int .i64 971) := K0.at 2
      have e3 : wc.cell? ⟨w.heap.size, 3, none⟩ = some (.int .i64 52) := K0.at 3
      have c0 : wc.cell? ⟨w.heap.size + 1, 0, none⟩ = some (.int .i64 k') := K1.at 0
      have c1 : wc.cell? ⟨w.heap.size + 1, 1, none⟩ = some (.bool g') := K1.at 1
      have c2 : wc.cell? ⟨w.heap.size + 1, 2, none⟩ = some (.int .u64 m') := K1.at 2
      have c3 : wc.cell? ⟨w.heap.size + 1, 3, none⟩ = some (.int .i64 e') := K1.at 3
      go_wp2_with fail
      go_region_held3 (fun x => x.cell? ⟨w.heap.size, 0, none⟩ = some (.int .i64 53) ∧ x.cell? ⟨w.heap.size, 1, none⟩ = some (.int .i64 (-1074)) ∧ x.cell? ⟨w.heap.size, 2, none⟩ = some (.int .i64 971) ∧ x.cell? ⟨w.heap.size, 3, none⟩ = some (.int .i64 52) ∧ x.cell? ⟨w.heap.size + 1, 0, none⟩ = some (.int .i64 k') ∧ x.cell? ⟨w.heap.size + 1, 1, none⟩ = some (.bool g') ∧ x.cell? ⟨w.heap.size + 1, 2, none⟩ = some (.int .u64 m') ∧ x.cell? ⟨w.heap.size + 1, 3, none⟩ = some (.int .i64 e')) (go_keep) (first
        | (go_at_call 12; refine (hs _).mono ?_; rintro e w2 ⟨rfl, b2⟩; replace K0 := K0.below (below_undrew b2) K0.lt; replace K1 := K1.below (below_undrew b2) K1.lt; replace pr := bel pr (below_undrew b2); clear b2; have e0 : w2.cell? ⟨w.heap.size, 0, none⟩ = some (.int .i64 53) := K0.at 0; have e1 : w2.cell? ⟨w.heap.size, 1, none⟩ = some (.int .i64 (-1074)) := K0.at 1; have e2 : w2.cell? ⟨w.heap.size, 2, none⟩ = some (.int .i64 971) := K0.at 2; have e3 : w2.cell? ⟨w.heap.size, 3, none⟩ = some (.int .i64 52) := K0.at 3; have c0 : w2.cell? ⟨w.heap.size + 1, 0, none⟩ = some (.int .i64 k') := K1.at 0; have c1 : w2.cell? ⟨w.heap.size + 1, 1, none⟩ = some (.bool g') := K1.at 1; have c2 : w2.cell? ⟨w.heap.size + 1, 2, none⟩ = some (.int .u64 m') := K1.at 2; have c3 : w2.cell? ⟨w.heap.size + 1, 3, none⟩ = some (.int .i64 e') := K1.at 3)
        | fail)
      go_wp2
      exact bodyPost_ret (v := .tuple #[.int .u64 N, .int .i64 0]) (by simp [results, Try.results18, go_sem]) rfl ⟨rfl, pr⟩
set_option maxRecDepth 100000 in
set_option maxHeartbeats 3200000 in
theorem Infinite_s_pos (w : World) : Calls Try.prog 60 #[szS, .bool false] w fun e w' => e = .returned (.int .u64 2139095040) ∧ Below w.heap.size w w' := by
  go_enter Try.func60, Try.ntmps60
  go_wp2_with fail
  have K0 := Blk.new w #[.int .i64 24, .int .i64 (-149), .int .i64 104, .int .i64 23] 31
  have pr : Below w.heap.size w (w.alloc (.cells #[.int .i64 24, .int .i64 (-149), .int .i64 104, .int .i64 23] 31)) := (Below.refl _ _).alloc (Nat.le_refl _) _
  generalize w.alloc (.cells #[.int .i64 24, .int .i64 (-149), .int .i64 104, .int .i64 23] 31) = W at *
  have e0 : W.cell? ⟨w.heap.size, 0, none⟩ = some (.int .i64 24) := K0.at 0
  have e1 : W.cell? ⟨w.heap.size, 1, none⟩ = some (.int .i64 (-149)) := K0.at 1
  have e2 : W.cell? ⟨w.heap.size, 2, none⟩ = some (.int .i64 104) := K0.at 2
  have e3 : W.cell? ⟨w.heap.size, 3, none⟩ = some (.int .i64 23) := K0.at 3
  have h3 : IntKind.u64.wrap 2139095040 = 2139095040 := by decide
  go_region_held3 (fun x => x.cell? ⟨w.heap.size, 0, none⟩ = some (.int .i64 24) ∧ x.cell? ⟨w.heap.size, 1, none⟩ = some (.int .i64 (-149)) ∧ x.cell? ⟨w.heap.size, 2, none⟩ = some (.int .i64 104) ∧ x.cell? ⟨w.heap.size, 3, none⟩ = some (.int .i64 23)) (go_keep) (first
    | (go_at_call 54; refine (top_s _).mono ?_; rintro e w1 ⟨rfl, b1⟩; replace K0 := K0.below (below_undrew b1) K0.lt; replace pr := bel pr (below_undrew b1); have e0 : w1.cell? ⟨w.heap.size, 0, none⟩ = some (.int .i64 24) := K0.at 0; have e1 : w1.cell? ⟨w.heap.size, 1, none⟩ = some (.int .i64 (-149)) := K0.at 1; have e2 : w1.cell? ⟨w.heap.size, 2, none⟩ = some (.int .i64 104) := K0.at 2; have e3 : w1.cell? ⟨w.heap.size, 3, none⟩ = some (.int .i64 23) := K0.at 3)
    | (go_at_call 61; refine (signed_s_pos _ _).mono ?_; rintro e w1 ⟨rfl, b1⟩; replace K0 := K0.below b1 K0.lt; replace pr := bel pr b1; have e0 : w1.cell? ⟨w.heap.size, 0, none⟩ = some (.int .i64 24) := K0.at 0; have e1 : w1.cell? ⟨w.heap.size, 1, none⟩ = some (.int .i64 (-149)) := K0.at 1; have e2 : w1.cell? ⟨w.heap.size, 2, none⟩ = some (.int .i64 104) := K0.at 2; have e3 : w1.cell? ⟨w.heap.size, 3, none⟩ = some (.int .i64 23) := K0.at 3)
    | fail)
  go_wp2
  go_ret
  exact ⟨rfl, pr⟩
set_option maxRecDepth 100000 in
set_option maxHeartbeats 3200000 in
theorem Infinite_s_neg (w : World) : Calls Try.prog 60 #[szS, .bool true] w fun e w' => e = .returned (.int .u64 4286578688) ∧ Below w.heap.size w w' := by
  go_enter Try.func60, Try.ntmps60
  go_wp2_with fail
  have K0 := Blk.new w #[.int .i64 24, .int .i64 (-149), .int .i64 104, .int .i64 23] 31
  have pr : Below w.heap.size w (w.alloc (.cells #[.int .i64 24, .int .i64 (-149), .int .i64 104, .int .i64 23] 31)) := (Below.refl _ _).alloc (Nat.le_refl _) _
  generalize w.alloc (.cells #[.int .i64 24, .int .i64 (-149), .int .i64 104, .int .i64 23] 31) = W at *
  have e0 : W.cell? ⟨w.heap.size, 0, none⟩ = some (.int .i64 24) := K0.at 0
  have e1 : W.cell? ⟨w.heap.size, 1, none⟩ = some (.int .i64 (-149)) := K0.at 1
  have e2 : W.cell? ⟨w.heap.size, 2, none⟩ = some (.int .i64 104) := K0.at 2
  have e3 : W.cell? ⟨w.heap.size, 3, none⟩ = some (.int .i64 23) := K0.at 3
  have h3 : IntKind.u64.wrap 2139095040 = 2139095040 := by decide
  have hn : bits .or .u64 2139095040 2147483648 = 4286578688 := by decide
  go_region_held3 (fun x => x.cell? ⟨w.heap.size, 0, none⟩ = some (.int .i64 24) ∧ x.cell? ⟨w.heap.size, 1, none⟩ = some (.int .i64 (-149)) ∧ x.cell? ⟨w.heap.size, 2, none⟩ = some (.int .i64 104) ∧ x.cell? ⟨w.heap.size, 3, none⟩ = some (.int .i64 23)) (go_keep) (first
    | (go_at_call 54; refine (top_s _).mono ?_; rintro e w1 ⟨rfl, b1⟩; replace K0 := K0.below (below_undrew b1) K0.lt; replace pr := bel pr (below_undrew b1); have e0 : w1.cell? ⟨w.heap.size, 0, none⟩ = some (.int .i64 24) := K0.at 0; have e1 : w1.cell? ⟨w.heap.size, 1, none⟩ = some (.int .i64 (-149)) := K0.at 1; have e2 : w1.cell? ⟨w.heap.size, 2, none⟩ = some (.int .i64 104) := K0.at 2; have e3 : w1.cell? ⟨w.heap.size, 3, none⟩ = some (.int .i64 23) := K0.at 3)
    | (go_at_call 61; refine (signed_s_neg _ 4286578688 hn _).mono ?_; rintro e w1 ⟨rfl, b1⟩; replace K0 := K0.below b1 K0.lt; replace pr := bel pr b1; have e0 : w1.cell? ⟨w.heap.size, 0, none⟩ = some (.int .i64 24) := K0.at 0; have e1 : w1.cell? ⟨w.heap.size, 1, none⟩ = some (.int .i64 (-149)) := K0.at 1; have e2 : w1.cell? ⟨w.heap.size, 2, none⟩ = some (.int .i64 104) := K0.at 2; have e3 : w1.cell? ⟨w.heap.size, 3, none⟩ = some (.int .i64 23) := K0.at 3)
    | fail)
  go_wp2
  go_ret
  exact ⟨rfl, pr⟩
set_option maxRecDepth 100000 in
set_option maxHeartbeats 3200000 in
theorem Join_s_walk (k : Int) (g : Bool) (m e N : Int) (k' : Int) (g' : Bool) (m' e' : Int) (t : Bool) (x1 x2 x3 x4 f1 f2 r1 r2 : Int) (hx1 : IntKind.i64.wrap (e + 149) = x1) (hx2 : IntKind.i64.wrap (x1 + 1) = x2) (hx3 : IntKind.u64.wrap x2 = x3) (hx4 : IntKind.u64.wrap (x3 * 8388608) = x4) (hf1 : bits .and .u64 m 8388607 = f1) (hf2 : bits .or .u64 f1 2147483648 = f2) (hr1 : bits .or .u64 x4 f1 = r1) (hr2 : bits .or .u64 r1 2147483648 = r2)
    (HN : (k = 4 ∧ N = 2143289344)
      ∨ (k = 3 ∧ g = false ∧ N = 2139095040)
      ∨ (k = 3 ∧ g = true ∧ N = 4286578688)
      ∨ (k = 0 ∧ g = false ∧ N = 0)
      ∨ (k = 0 ∧ g = true ∧ N = 2147483648)
      ∨ (k = 1 ∧ g = false ∧ N = f1)
      ∨ (k = 1 ∧ g = true ∧ N = f2)
      ∨ (k = 2 ∧ g = false ∧ N = r1 ∧ decide (-149 ≤ e) = true ∧ decide (e ≤ 104) = true)
      ∨ (k = 2 ∧ g = true ∧ N = r2 ∧ decide (-149 ≤ e) = true ∧ decide (e ≤ 104) = true)
      ∨ (k = 2 ∧ N = 0 ∧ decide (-149 ≤ e) = false)
      ∨ (k = 2 ∧ N = 0 ∧ decide (-149 ≤ e) = true ∧ decide (e ≤ 104) = false)
      ∨ (N = 0 ∧ (k == 4) = false ∧ (k == 3) = false ∧ (k == 0) = false ∧ (k == 1) = false ∧ (k == 2) = false))
    (hs : ∀ w : World, Calls Try.prog 12 #[szS, .int .u64 N] w fun e w' => e = .returned (prt k' g' m' e') ∧ Below w.heap.size w w')
    (ht : ((k' == k) = false ∧ t = false) ∨ (k' = k ∧ (g' == g) = false ∧ t = false) ∨ (k' = k ∧ g' = g ∧ (m' == m) = false ∧ t = false) ∨ (k' = k ∧ g' = g ∧ m' = m ∧ (e' == e) = false ∧ t = false) ∨ (k' = k ∧ g' = g ∧ m' = m ∧ e' = e ∧ t = true)) (w : World) :
    Calls Try.prog 18 #[szS, prt k g m e] w fun x w' => x = .returned (.tuple #[.int .u64 (bif t then N else 0), .int .i64 (bif t then 0 else 21)]) ∧ Below w.heap.size w w' := by
  go_enter Try.func18, Try.ntmps18
  have K0 : Blk ((w.alloc (.cells #[.int .i64 24, .int .i64 (-149), .int .i64 104, .int .i64 23] 31)).alloc (.cells #[.int .i64 k, .bool g, .int .u64 m, .int .i64 e] 25)) w.heap.size #[.int .i64 24, .int .i64 (-149), .int .i64 104, .int .i64 23] 31 := (Blk.new w _ _).alloc _
  have K1 := Blk.new (w.alloc (.cells #[.int .i64 24, .int .i64 (-149), .int .i64 104, .int .i64 23] 31)) #[.int .i64 k, .bool g, .int .u64 m, .int .i64 e] 25
  have pr : Below w.heap.size w ((w.alloc (.cells #[.int .i64 24, .int .i64 (-149), .int .i64 104, .int .i64 23] 31)).alloc (.cells #[.int .i64 k, .bool g, .int .u64 m, .int .i64 e] 25)) := ((Below.refl _ _).alloc (Nat.le_refl _) _).alloc (by simp) _
  simp only [World.size_alloc] at K1
  go_upto_block 0 with fail
  go_cut [6] (fun b wc => b = .int .u64 N ∧ Blk wc w.heap.size #[.int .i64 24, .int .i64 (-149), .int .i64 104, .int .i64 23] 31 ∧ Blk wc (w.heap.size + 1) #[.int .i64 k, .bool g, .int .u64 m, .int .i64 e] 25 ∧ Below w.heap.size w wc)
  case first =>
    clear ht hs
    rcases HN with ⟨rfl, rfl⟩ | ⟨rfl, rfl, rfl⟩ | ⟨rfl, rfl, rfl⟩ | ⟨rfl, rfl, rfl⟩ | ⟨rfl, rfl, rfl⟩ | ⟨rfl, rfl, rfl⟩ | ⟨rfl, rfl, rfl⟩ | ⟨rfl, rfl, rfl, q1, q2⟩ | ⟨rfl, rfl, rfl, q1, q2⟩ | ⟨rfl, rfl, q1⟩ | ⟨rfl, rfl, q1, q2⟩ | ⟨rfl, q1, q2, q3, q4, q5⟩
    · go_wp2_with (first
        | (go_at_call 59; refine (None_s _).mono ?_; rintro e w1 ⟨rfl, b1⟩; replace K0 := K0.below b1 K0.lt; replace K1 := K1.below b1 K1.lt; replace pr := bel pr b1; clear b1; have e0 : w1.cell? ⟨w.heap.size, 0, none⟩ = some (.int .i64 24) := K0.at 0; have e1 : w1.cell? ⟨w.heap.size, 1, none⟩ = some (.int .i64 (-149)) := K0.at 1; have e2 : w1.cell? ⟨w.heap.size, 2, none⟩ = some (.int .i64 104) := K0.at 2; have e3 : w1.cell? ⟨w.heap.size, 3, none⟩ = some (.int .i64 23) := K0.at 3; have c0 : w1.cell? ⟨w.heap.size + 1, 0, none⟩ = some (.int .i64 4) := K1.at 0; have c1 : w1.cell? ⟨w.heap.size + 1, 1, none⟩ = some (.bool g) := K1.at 1; have c2 : w1.cell? ⟨w.heap.size + 1, 2, none⟩ = some (.int .u64 m) := K1.at 2; have c3 : w1.cell? ⟨w.heap.size + 1, 3, none⟩ = some (.int .i64 e) := K1.at 3)
        | fail)
      go_meet
      case rel => exact ⟨rfl, K0, K1, pr⟩
    · go_wp2_with (first
        | (go_at_call 60; refine (Infinite_s_pos _).mono ?_; rintro e w1 ⟨rfl, b1⟩; replace K0 := K0.below b1 K0.lt; replace K1 := K1.below b1 K1.lt; replace pr := bel pr b1; clear b1; have e0 : w1.cell? ⟨w.heap.size, 0, none⟩ = some (.int .i64 24) := K0.at 0; have e1 : w1.cell? ⟨w.heap.size, 1, none⟩ = some (.int .i64 (-149)) := K0.at 1; have e2 : w1.cell? ⟨w.heap.size, 2, none⟩ = some (.int .i64 104) := K0.at 2; have e3 : w1.cell? ⟨w.heap.size, 3, none⟩ = some (.int .i64 23) := K0.at 3; have c0 : w1.cell? ⟨w.heap.size + 1, 0, none⟩ = some (.int .i64 3) := K1.at 0; have c1 : w1.cell? ⟨w.heap.size + 1, 1, none⟩ = some (.bool false) := K1.at 1; have c2 : w1.cell? ⟨w.heap.size + 1, 2, none⟩ = some (.int .u64 m) := K1.at 2; have c3 : w1.cell? ⟨w.heap.size + 1, 3, none⟩ = some (.int .i64 e) := K1.at 3)
        | fail)
      go_meet
      case rel => exact ⟨rfl, K0, K1, pr⟩
    · go_wp2_with (first
        | (go_at_call 60; refine (Infinite_s_neg _).mono ?_; rintro e w1 ⟨rfl, b1⟩; replace K0 := K0.below b1 K0.lt; replace K1 := K1.below b1 K1.lt; replace pr := bel pr b1; clear b1; have e0 : w1.cell? ⟨w.heap.size, 0, none⟩ = some (.int .i64 24) := K0.at 0; have e1 : w1.cell? ⟨w.heap.size, 1, none⟩ = some (.int .i64 (-149)) := K0.at 1; have e2 : w1.cell? ⟨w.heap.size, 2, none⟩ = some (.int .i64 104) := K0.at 2; have e3 : w1.cell? ⟨w.heap.size, 3, none⟩ = some (.int .i64 23) := K0.at 3; have c0 : w1.cell? ⟨w.heap.size + 1, 0, none⟩ = some (.int .i64 3) := K1.at 0; have c1 : w1.cell? ⟨w.heap.size + 1, 1, none⟩ = some (.bool true) := K1.at 1; have c2 : w1.cell? ⟨w.heap.size + 1, 2, none⟩ = some (.int .u64 m) := K1.at 2; have c3 : w1.cell? ⟨w.heap.size + 1, 3, none⟩ = some (.int .i64 e) := K1.at 3)
        | fail)
      go_meet
      case rel => exact ⟨rfl, K0, K1, pr⟩
    · go_wp2_with (first
        | (go_at_call 61; refine (signed_s_pos _ _).mono ?_; rintro e w1 ⟨rfl, b1⟩; replace K0 := K0.below b1 K0.lt; replace K1 := K1.below b1 K1.lt; replace pr := bel pr b1; clear b1; have e0 : w1.cell? ⟨w.heap.size, 0, none⟩ = some (.int .i64 24) := K0.at 0; have e1 : w1.cell? ⟨w.heap.size, 1, none⟩ = some (.int .i64 (-149)) := K0.at 1; have e2 : w1.cell? ⟨w.heap.size, 2, none⟩ = some (.int .i64 104) := K0.at 2; have e3 : w1.cell? ⟨w.heap.size, 3, none⟩ = some (.int .i64 23) := K0.at 3; have c0 : w1.cell? ⟨w.heap.size + 1, 0, none⟩ = some (.int .i64 0) := K1.at 0; have c1 : w1.cell? ⟨w.heap.size + 1, 1, none⟩ = some (.bool false) := K1.at 1; have c2 : w1.cell? ⟨w.heap.size + 1, 2, none⟩ = some (.int .u64 m) := K1.at 2; have c3 : w1.cell? ⟨w.heap.size + 1, 3, none⟩ = some (.int .i64 e) := K1.at 3)
        | fail)
      go_meet
      case rel => exact ⟨rfl, K0, K1, pr⟩
    · go_wp2_with (first
        | (go_at_call 61; refine (signed_s_neg 0 2147483648 (by decide) _).mono ?_; rintro e w1 ⟨rfl, b1⟩; replace K0 := K0.below b1 K0.lt; replace K1 := K1.below b1 K1.lt; replace pr := bel pr b1; clear b1; have e0 : w1.cell? ⟨w.heap.size, 0, none⟩ = some (.int .i64 24) := K0.at 0; have e1 : w1.cell? ⟨w.heap.size, 1, none⟩ = some (.int .i64 (-149)) := K0.at 1; have e2 : w1.cell? ⟨w.heap.size, 2, none⟩ = some (.int .i64 104) := K0.at 2; have e3 : w1.cell? ⟨w.heap.size, 3, none⟩ = some (.int .i64 23) := K0.at 3; have c0 : w1.cell? ⟨w.heap.size + 1, 0, none⟩ = some (.int .i64 0) := K1.at 0; have c1 : w1.cell? ⟨w.heap.size + 1, 1, none⟩ = some (.bool true) := K1.at 1; have c2 : w1.cell? ⟨w.heap.size + 1, 2, none⟩ = some (.int .u64 m) := K1.at 2; have c3 : w1.cell? ⟨w.heap.size + 1, 3, none⟩ = some (.int .i64 e) := K1.at 3)
        | fail)
      go_meet
      case rel => exact ⟨rfl, K0, K1, pr⟩
    · go_wp2_with fail
      generalize ((w.alloc (.cells #[.int .i64 24, .int .i64 (-149), .int .i64 104, .int .i64 23] 31)).alloc (.cells #[.int .i64 1, .bool false, .int .u64 m, .int .i64 e] 25)) = W at *
      have e0 : W.cell? ⟨w.heap.size, 0, none⟩ = some (.int .i64 24) := K0.at 0
      have e1 : W.cell? ⟨w.heap.size, 1, none⟩ = some (.int .i64 (-149)) := K0.at 1
      have e2 : W.cell? ⟨w.heap.size, 2, none⟩ = some (.int .i64 104) := K0.at 2
      have e3 : W.cell? ⟨w.heap.size, 3, none⟩ = some (.int .i64 23) := K0.at 3
      have c0 : W.cell? ⟨w.heap.size + 1, 0, none⟩ = some (.int .i64 1) := K1.at 0
      have c1 : W.cell? ⟨w.heap.size + 1, 1, none⟩ = some (.bool false) := K1.at 1
      have c2 : W.cell? ⟨w.heap.size + 1, 2, none⟩ = some (.int .u64 m) := K1.at 2
      have c3 : W.cell? ⟨w.heap.size + 1, 3, none⟩ = some (.int .i64 e) := K1.at 3
      have h0 : IntKind.u64.wrap 8388608 = 8388608 := by decide
      have h1 : IntKind.u64.wrap 8388607 = 8388607 := by decide
      go_region_held3 (fun x => x.cell? ⟨w.heap.size, 0, none⟩ = some (.int .i64 24) ∧ x.cell? ⟨w.heap.size, 1, none⟩ = some (.int .i64 (-149)) ∧ x.cell? ⟨w.heap.size, 2, none⟩ = some (.int .i64 104) ∧ x.cell? ⟨w.heap.size, 3, none⟩ = some (.int .i64 23) ∧ x.cell? ⟨w.heap.size + 1, 0, none⟩ = some (.int .i64 1) ∧ x.cell? ⟨w.heap.size + 1, 1, none⟩ = some (.bool false) ∧ x.cell? ⟨w.heap.size + 1, 2, none⟩ = some (.int .u64 m) ∧ x.cell? ⟨w.heap.size + 1, 3, none⟩ = some (.int .i64 e)) (go_keep) (first
        | (go_at_call 61; refine (signed_s_pos _ _).mono ?_; rintro e w1 ⟨rfl, b1⟩; replace K0 := K0.below (below_undrew b1) K0.lt; replace K1 := K1.below (below_undrew b1) K1.lt; replace pr := bel pr (below_undrew b1); clear b1; have e0 : w1.cell? ⟨w.heap.size, 0, none⟩ = some (.int .i64 24) := K0.at 0; have e1 : w1.cell? ⟨w.heap.size, 1, none⟩ = some (.int .i64 (-149)) := K0.at 1; have e2 : w1.cell? ⟨w.heap.size, 2, none⟩ = some (.int .i64 104) := K0.at 2; have e3 : w1.cell? ⟨w.heap.size, 3, none⟩ = some (.int .i64 23) := K0.at 3; have c0 : w1.cell? ⟨w.heap.size + 1, 0, none⟩ = some (.int .i64 1) := K1.at 0; have c1 : w1.cell? ⟨w.heap.size + 1, 1, none⟩ = some (.bool false) := K1.at 1; have c2 : w1.cell? ⟨w.heap.size + 1, 2, none⟩ = some (.int .u64 m) := K1.at 2; have c3 : w1.cell? ⟨w.heap.size + 1, 3, none⟩ = some (.int .i64 e) := K1.at 3)
        | fail)
      go_wp2_with fail
      go_meet
      case rel => exact ⟨rfl, K0, K1, pr⟩
    · go_wp2_with fail
      generalize ((w.alloc (.cells #[.int .i64 24, .int .i64 (-149), .int .i64 104, .int .i64 23] 31)).alloc (.cells #[.int .i64 1, .bool true, .int .u64 m, .int .i64 e] 25)) = W at *
      have e0 : W.cell? ⟨w.heap.size, 0, none⟩ = some (.int .i64 24) := K0.at 0
      have e1 : W.cell? ⟨w.heap.size, 1, none⟩ = some (.int .i64 (-149)) := K0.at 1
      have e2 : W.cell? ⟨w.heap.size, 2, none⟩ = some (.int .i64 104) := K0.at 2
      have e3 : W.cell? ⟨w.heap.size, 3, none⟩ = some (.int .i64 23) := K0.at 3
      have c0 : W.cell? ⟨w.heap.size + 1, 0, none⟩ = some (.int .i64 1) := K1.at 0
      have c1 : W.cell? ⟨w.heap.size + 1, 1, none⟩ = some (.bool true) := K1.at 1
      have c2 : W.cell? ⟨w.heap.size + 1, 2, none⟩ = some (.int .u64 m) := K1.at 2
      have c3 : W.cell? ⟨w.heap.size + 1, 3, none⟩ = some (.int .i64 e) := K1.at 3
      have h0 : IntKind.u64.wrap 8388608 = 8388608 := by decide
      have h1 : IntKind.u64.wrap 8388607 = 8388607 := by decide
      go_region_held3 (fun x => x.cell? ⟨w.heap.size, 0, none⟩ = some (.int .i64 24) ∧ x.cell? ⟨w.heap.size, 1, none⟩ = some (.int .i64 (-149)) ∧ x.cell? ⟨w.heap.size, 2, none⟩ = some (.int .i64 104) ∧ x.cell? ⟨w.heap.size, 3, none⟩ = some (.int .i64 23) ∧ x.cell? ⟨w.heap.size + 1, 0, none⟩ = some (.int .i64 1) ∧ x.cell? ⟨w.heap.size + 1, 1, none⟩ = some (.bool true) ∧ x.cell? ⟨w.heap.size + 1, 2, none⟩ = some (.int .u64 m) ∧ x.cell? ⟨w.heap.size + 1, 3, none⟩ = some (.int .i64 e)) (go_keep) (first
        | (go_at_call 61; refine (signed_s_neg f1 _ hf2 _).mono ?_; rintro e w1 ⟨rfl, b1⟩; replace K0 := K0.below (below_undrew b1) K0.lt; replace K1 := K1.below (below_undrew b1) K1.lt; replace pr := bel pr (below_undrew b1); clear b1; have e0 : w1.cell? ⟨w.heap.size, 0, none⟩ = some (.int .i64 24) := K0.at 0; have e1 : w1.cell? ⟨w.heap.size, 1, none⟩ = some (.int .i64 (-149)) := K0.at 1; have e2 : w1.cell? ⟨w.heap.size, 2, none⟩ = some (.int .i64 104) := K0.at 2; have e3 : w1.cell? ⟨w.heap.size, 3, none⟩ = some (.int .i64 23) := K0.at 3; have c0 : w1.cell? ⟨w.heap.size + 1, 0, none⟩ = some (.int .i64 1) := K1.at 0; have c1 : w1.cell? ⟨w.heap.size + 1, 1, none⟩ = some (.bool true) := K1.at 1; have c2 : w1.cell? ⟨w.heap.size + 1, 2, none⟩ = some (.int .u64 m) := K1.at 2; have c3 : w1.cell? ⟨w.heap.size + 1, 3, none⟩ = some (.int .i64 e) := K1.at 3)
        | fail)
      go_wp2_with fail
      go_meet
      case rel => exact ⟨rfl, K0, K1, pr⟩
    · go_wp2_with fail
      generalize ((w.alloc (.cells #[.int .i64 24, .int .i64 (-149), .int .i64 104, .int .i64 23] 31)).alloc (.cells #[.int .i64 2, .bool false, .int .u64 m, .int .i64 e] 25)) = W at *
      have e0 : W.cell? ⟨w.heap.size, 0, none⟩ = some (.int .i64 24) := K0.at 0
      have e1 : W.cell? ⟨w.heap.size, 1, none⟩ = some (.int .i64 (-149)) := K0.at 1
      have e2 : W.cell? ⟨w.heap.size, 2, none⟩ = some (.int .i64 104) := K0.at 2
      have e3 : W.cell? ⟨w.heap.size, 3, none⟩ = some (.int .i64 23) := K0.at 3
      have c0 : W.cell? ⟨w.heap.size + 1, 0, none⟩ = some (.int .i64 2) := K1.at 0
      have c1 : W.cell? ⟨w.heap.size + 1, 1, none⟩ = some (.bool false) := K1.at 1
      have c2 : W.cell? ⟨w.heap.size + 1, 2, none⟩ = some (.int .u64 m) := K1.at 2
      have c3 : W.cell? ⟨w.heap.size + 1, 3, none⟩ = some (.int .i64 e) := K1.at 3
      have h0 : IntKind.u64.wrap 8388608 = 8388608 := by decide
      have h1 : IntKind.u64.wrap 8388607 = 8388607 := by decide
      go_region_held3 (fun x => x.cell? ⟨w.heap.size, 0, none⟩ = some (.int .i64 24) ∧ x.cell? ⟨w.heap.size, 1, none⟩ = some (.int .i64 (-149)) ∧ x.cell? ⟨w.heap.size, 2, none⟩ = some (.int .i64 104) ∧ x.cell? ⟨w.heap.size, 3, none⟩ = some (.int .i64 23) ∧ x.cell? ⟨w.heap.size + 1, 0, none⟩ = some (.int .i64 2) ∧ x.cell? ⟨w.heap.size + 1, 1, none⟩ = some (.bool false) ∧ x.cell? ⟨w.heap.size + 1, 2, none⟩ = some (.int .u64 m) ∧ x.cell? ⟨w.heap.size + 1, 3, none⟩ = some (.int .i64 e)) (go_keep) (first
        | (go_at_call 61; refine (signed_s_pos _ _).mono ?_; rintro e w1 ⟨rfl, b1⟩; replace K0 := K0.below (below_undrew b1) K0.lt; replace K1 := K1.below (below_undrew b1) K1.lt; replace pr := bel pr (below_undrew b1); clear b1; have e0 : w1.cell? ⟨w.heap.size, 0, none⟩ = some (.int .i64 24) := K0.at 0; have e1 : w1.cell? ⟨w.heap.size, 1, none⟩ = some (.int .i64 (-149)) := K0.at 1; have e2 : w1.cell? ⟨w.heap.size, 2, none⟩ = some (.int .i64 104) := K0.at 2; have e3 : w1.cell? ⟨w.heap.size, 3, none⟩ = some (.int .i64 23) := K0.at 3; have c0 : w1.cell? ⟨w.heap.size + 1, 0, none⟩ = some (.int .i64 2) := K1.at 0; have c1 : w1.cell? ⟨w.heap.size + 1, 1, none⟩ = some (.bool false) := K1.at 1; have c2 : w1.cell? ⟨w.heap.size + 1, 2, none⟩ = some (.int .u64 m) := K1.at 2; have c3 : w1.cell? ⟨w.heap.size + 1, 3, none⟩ = some (.int .i64 e) := K1.at 3)
        | fail)
      go_wp2_with fail
      go_meet
      case rel => exact ⟨rfl, K0, K1, pr⟩
    · go_wp2_with fail
      generalize ((w.alloc (.cells #[.int .i64 24, .int .i64 (-149), .int .i64 104, .int .i64 23] 31)).alloc (.cells #[.int .i64 2, .bool true, .int .u64 m, .int .i64 e] 25)) = W at *
      have e0 : W.cell? ⟨w.heap.size, 0, none⟩ = some (.int .i64 24) := K0.at 0
      have e1 : W.cell? ⟨w.heap.size, 1, none⟩ = some (.int .i64 (-149)) := K0.at 1
      have e2 : W.cell? ⟨w.heap.size, 2, none⟩ = some (.int .i64 104) := K0.at 2
      have e3 : W.cell? ⟨w.heap.size, 3, none⟩ = some (.int .i64 23) := K0.at 3
      have c0 : W.cell? ⟨w.heap.size + 1, 0, none⟩ = some (.int .i64 2) := K1.at 0
      have c1 : W.cell? ⟨w.heap.size + 1, 1, none⟩ = some (.bool true) := K1.at 1
      have c2 : W.cell? ⟨w.heap.size + 1, 2, none⟩ = some (.int .u64 m) := K1.at 2
      have c3 : W.cell? ⟨w.heap.size + 1, 3, none⟩ = some (.int .i64 e) := K1.at 3
      have h0 : IntKind.u64.wrap 8388608 = 8388608 := by decide
      have h1 : IntKind.u64.wrap 8388607 = 8388607 := by decide
      go_region_held3 (fun x => x.cell? ⟨w.heap.size, 0, none⟩ = some (.int .i64 24) ∧ x.cell? ⟨w.heap.size, 1, none⟩ = some (.int .i64 (-149)) ∧ x.cell? ⟨w.heap.size, 2, none⟩ = some (.int .i64 104) ∧ x.cell? ⟨w.heap.size, 3, none⟩ = some (.int .i64 23) ∧ x.cell? ⟨w.heap.size + 1, 0, none⟩ = some (.int .i64 2) ∧ x.cell? ⟨w.heap.size + 1, 1, none⟩ = some (.bool true) ∧ x.cell? ⟨w.heap.size + 1, 2, none⟩ = some (.int .u64 m) ∧ x.cell? ⟨w.heap.size + 1, 3, none⟩ = some (.int .i64 e)) (go_keep) (first
        | (go_at_call 61; refine (signed_s_neg r1 _ hr2 _).mono ?_; rintro e w1 ⟨rfl, b1⟩; replace K0 := K0.below (below_undrew b1) K0.lt; replace K1 := K1.below (below_undrew b1) K1.lt; replace pr := bel pr (below_undrew b1); clear b1; have e0 : w1.cell? ⟨w.heap.size, 0, none⟩ = some (.int .i64 24) := K0.at 0; have e1 : w1.cell? ⟨w.heap.size, 1, none⟩ = some (.int .i64 (-149)) := K0.at 1; have e2 : w1.cell? ⟨w.heap.size, 2, none⟩ = some (.int .i64 104) := K0.at 2; have e3 : w1.cell? ⟨w.heap.size, 3, none⟩ = some (.int .i64 23) := K0.at 3; have c0 : w1.cell? ⟨w.heap.size + 1, 0, none⟩ = some (.int .i64 2) := K1.at 0; have c1 : w1.cell? ⟨w.heap.size + 1, 1, none⟩ = some (.bool true) := K1.at 1; have c2 : w1.cell? ⟨w.heap.size + 1, 2, none⟩ = some (.int .u64 m) := K1.at 2; have c3 : w1.cell? ⟨w.heap.size + 1, 3, none⟩ = some (.int .i64 e) := K1.at 3)
        | fail)
      go_wp2_with fail
      go_meet
      case rel => exact ⟨rfl, K0, K1, pr⟩
    · go_wp2
      go_meet
      case rel => exact ⟨rfl, K0, K1, pr⟩
    · go_wp2
      go_meet
      case rel => exact ⟨rfl, K0, K1, pr⟩
    · go_wp2
      go_meet
      case rel => exact ⟨rfl, K0, K1, pr⟩
  case rest =>
    clear HN K0 K1 pr
    obtain ⟨rfl, K0, K1, pr⟩ := hcut
    rcases ht with ⟨t1, rfl⟩ | ⟨rfl, t1, rfl⟩ | ⟨rfl, rfl, t1, rfl⟩ | ⟨rfl, rfl, rfl, t1, rfl⟩ | ⟨rfl, rfl, rfl, rfl, rfl⟩
    · have e0 : wc.cell? ⟨w.heap.size, 0, none⟩ = some (.int .i64 24) := K0.at 0
      have e1 : wc.cell? ⟨w.heap.size, 1, none⟩ = some (.int .i64 (-149)) := K0.at 1
      have e2 : wc.cell? ⟨w.heap.size, 2, none⟩ = some (.int .i64 104) := K0.at 2
      have e3 : wc.cell? ⟨w.heap.size, 3, none⟩ = some (.int .i64 23) := K0.at 3
      have c0 : wc.cell? ⟨w.heap.size + 1, 0, none⟩ = some (.int .i64 k) := K1.at 0
      have c1 : wc.cell? ⟨w.heap.size + 1, 1, none⟩ = some (.bool g) := K1.at 1
      have c2 : wc.cell? ⟨w.heap.size + 1, 2, none⟩ = some (.int .u64 m) := K1.at 2
      have c3 : wc.cell? ⟨w.heap.size + 1, 3, none⟩ = some (.int .i64 e) := K1.at 3
      go_wp2_with fail
      go_region_held3 (fun x => x.cell? ⟨w.heap.size, 0, none⟩ = some (.int .i64 24) ∧ x.cell? ⟨w.heap.size, 1, none⟩ = some (.int .i64 (-149)) ∧ x.cell? ⟨w.heap.size, 2, none⟩ = some (.int .i64 104) ∧ x.cell? ⟨w.heap.size, 3, none⟩ = some (.int .i64 23) ∧ x.cell? ⟨w.heap.size + 1, 0, none⟩ = some (.int .i64 k) ∧ x.cell? ⟨w.heap.size + 1, 1, none⟩ = some (.bool g) ∧ x.cell? ⟨w.heap.size + 1, 2, none⟩ = some (.int .u64 m) ∧ x.cell? ⟨w.heap.size + 1, 3, none⟩ = some (.int .i64 e)) (go_keep) (first
        | (go_at_call 12; refine (hs _).mono ?_; rintro e w2 ⟨rfl, b2⟩; replace K0 := K0.below (below_undrew b2) K0.lt; replace K1 := K1.below (below_undrew b2) K1.lt; replace pr := bel pr (below_undrew b2); clear b2; have e0 : w2.cell? ⟨w.heap.size, 0, none⟩ = some (.int .i64 24) := K0.at 0; have e1 : w2.cell? ⟨w.heap.size, 1, none⟩ = some (.int .i64 (-149)) := K0.at 1; have e2 : w2.cell? ⟨w.heap.size, 2, none⟩ = some (.int .i64 104) := K0.at 2; have e3 : w2.cell? ⟨w.heap.size, 3, none⟩ = some (.int .i64 23) := K0.at 3; have c0 : w2.cell? ⟨w.heap.size + 1, 0, none⟩ = some (.int .i64 k) := K1.at 0; have c1 : w2.cell? ⟨w.heap.size + 1, 1, none⟩ = some (.bool g) := K1.at 1; have c2 : w2.cell? ⟨w.heap.size + 1, 2, none⟩ = some (.int .u64 m) := K1.at 2; have c3 : w2.cell? ⟨w.heap.size + 1, 3, none⟩ = some (.int .i64 e) := K1.at 3)
        | fail)
      go_wp2
      exact bodyPost_ret (v := .tuple #[.int .u64 0, .int .i64 21]) (by simp [results, Try.results18, go_sem]) rfl ⟨rfl, pr⟩
    · have e0 : wc.cell? ⟨w.heap.size, 0, none⟩ = some (.int .i64 24) := K0.at 0
      have e1 : wc.cell? ⟨w.heap.size, 1, none⟩ = some (.int .i64 (-149)) := K0.at 1
      have e2 : wc.cell? ⟨w.heap.size, 2, none⟩ = some (.int .i64 104) := K0.at 2
      have e3 : wc.cell? ⟨w.heap.size, 3, none⟩ = some (.int .i64 23) := K0.at 3
      have c0 : wc.cell? ⟨w.heap.size + 1, 0, none⟩ = some (.int .i64 k') := K1.at 0
      have c1 : wc.cell? ⟨w.heap.size + 1, 1, none⟩ = some (.bool g) := K1.at 1
      have c2 : wc.cell? ⟨w.heap.size + 1, 2, none⟩ = some (.int .u64 m) := K1.at 2
      have c3 : wc.cell? ⟨w.heap.size + 1, 3, none⟩ = some (.int .i64 e) := K1.at 3
      go_wp2_with fail
      go_region_held3 (fun x => x.cell? ⟨w.heap.size, 0, none⟩ = some (.int .i64 24) ∧ x.cell? ⟨w.heap.size, 1, none⟩ = some (.int .i64 (-149)) ∧ x.cell? ⟨w.heap.size, 2, none⟩ = some (.int .i64 104) ∧ x.cell? ⟨w.heap.size, 3, none⟩ = some (.int .i64 23) ∧ x.cell? ⟨w.heap.size + 1, 0, none⟩ = some (.int .i64 k') ∧ x.cell? ⟨w.heap.size + 1, 1, none⟩ = some (.bool g) ∧ x.cell? ⟨w.heap.size + 1, 2, none⟩ = some (.int .u64 m) ∧ x.cell? ⟨w.heap.size + 1, 3, none⟩ = some (.int .i64 e)) (go_keep) (first
        | (go_at_call 12; refine (hs _).mono ?_; rintro e w2 ⟨rfl, b2⟩; replace K0 := K0.below (below_undrew b2) K0.lt; replace K1 := K1.below (below_undrew b2) K1.lt; replace pr := bel pr (below_undrew b2); clear b2; have e0 : w2.cell? ⟨w.heap.size, 0, none⟩ = some (.int .i64 24) := K0.at 0; have e1 : w2.cell? ⟨w.heap.size, 1, none⟩ = some (.int .i64 (-149)) := K0.at 1; have e2 : w2.cell? ⟨w.heap.size, 2, none⟩ = some (.int .i64 104) := K0.at 2; have e3 : w2.cell? ⟨w.heap.size, 3, none⟩ = some (.int .i64 23) := K0.at 3; have c0 : w2.cell? ⟨w.heap.size + 1, 0, none⟩ = some (.int .i64 k') := K1.at 0; have c1 : w2.cell? ⟨w.heap.size + 1, 1, none⟩ = some (.bool g) := K1.at 1; have c2 : w2.cell? ⟨w.heap.size + 1, 2, none⟩ = some (.int .u64 m) := K1.at 2; have c3 : w2.cell? ⟨w.heap.size + 1, 3, none⟩ = some (.int .i64 e) := K1.at 3)
        | fail)
      go_wp2
      exact bodyPost_ret (v := .tuple #[.int .u64 0, .int .i64 21]) (by simp [results, Try.results18, go_sem]) rfl ⟨rfl, pr⟩
    · have e0 : wc.cell? ⟨w.heap.size, 0, none⟩ = some (.int .i64 24) := K0.at 0
      have e1 : wc.cell? ⟨w.heap.size, 1, none⟩ = some (.int .i64 (-149)) := K0.at 1
      have e2 : wc.cell? ⟨w.heap.size, 2, none⟩ = some (.int .i64 104) := K0.at 2
      have e3 : wc.cell? ⟨w.heap.size, 3, none⟩ = some (.int .i64 23) := K0.at 3
      have c0 : wc.cell? ⟨w.heap.size + 1, 0, none⟩ = some (.int .i64 k') := K1.at 0
      have c1 : wc.cell? ⟨w.heap.size + 1, 1, none⟩ = some (.bool g') := K1.at 1
      have c2 : wc.cell? ⟨w.heap.size + 1, 2, none⟩ = some (.int .u64 m) := K1.at 2
      have c3 : wc.cell? ⟨w.heap.size + 1, 3, none⟩ = some (.int .i64 e) := K1.at 3
      go_wp2_with fail
      go_region_held3 (fun x => x.cell? ⟨w.heap.size, 0, none⟩ = some (.int .i64 24) ∧ x.cell? ⟨w.heap.size, 1, none⟩ = some (.int .i64 (-149)) ∧ x.cell? ⟨w.heap.size, 2, none⟩ = some (.int .i64 104) ∧ x.cell? ⟨w.heap.size, 3, none⟩ = some (.int .i64 23) ∧ x.cell? ⟨w.heap.size + 1, 0, none⟩ = some (.int .i64 k') ∧ x.cell? ⟨w.heap.size + 1, 1, none⟩ = some (.bool g') ∧ x.cell? ⟨w.heap.size + 1, 2, none⟩ = some (.int .u64 m) ∧ x.cell? ⟨w.heap.size + 1, 3, none⟩ = some (.int .i64 e)) (go_keep) (first
        | (go_at_call 12; refine (hs _).mono ?_; rintro e w2 ⟨rfl, b2⟩; replace K0 := K0.below (below_undrew b2) K0.lt; replace K1 := K1.below (below_undrew b2) K1.lt; replace pr := bel pr (below_undrew b2); clear b2; have e0 : w2.cell? ⟨w.heap.size, 0, none⟩ = some (.int .i64 24) := K0.at 0; have e1 : w2.cell? ⟨w.heap.size, 1, none⟩ = some (.int .i64 (-149)) := K0.at 1; have e2 : w2.cell? ⟨w.heap.size, 2, none⟩ = some (.int .i64 104) := K0.at 2; have e3 : w2.cell? ⟨w.heap.size, 3, none⟩ = some (.int .i64 23) := K0.at 3; have c0 : w2.cell? ⟨w.heap.size + 1, 0, none⟩ = some (.int .i64 k') := K1.at 0; have c1 : w2.cell? ⟨w.heap.size + 1, 1, none⟩ = some (.bool g') := K1.at 1; have c2 : w2.cell? ⟨w.heap.size + 1, 2, none⟩ = some (.int .u64 m) := K1.at 2; have c3 : w2.cell? ⟨w.heap.size + 1, 3, none⟩ = some (.int .i64 e) := K1.at 3)
        | fail)
      go_wp2
      exact bodyPost_ret (v := .tuple #[.int .u64 0, .int .i64 21]) (by simp [results, Try.results18, go_sem]) rfl ⟨rfl, pr⟩
    · have e0 : wc.cell? ⟨w.heap.size, 0, none⟩ = some (.int .i64 24) := K0.at 0
      have e1 : wc.cell? ⟨w.heap.size, 1, none⟩ = some (.int .i64 (-149)) := K0.at 1
      have e2 : wc.cell? ⟨w.heap.size, 2, none⟩ = some (.int .i64 104) := K0.at 2
      have e3 : wc.cell? ⟨w.heap.size, 3, none⟩ = some (.int .i64 23) := K0.at 3
      have c0 : wc.cell? ⟨w.heap.size + 1, 0, none⟩ = some (.int .i64 k') := K1.at 0
      have c1 : wc.cell? ⟨w.heap.size + 1, 1, none⟩ = some (.bool g') := K1.at 1
      have c2 : wc.cell? ⟨w.heap.size + 1, 2, none⟩ = some (.int .u64 m') := K1.at 2
      have c3 : wc.cell? ⟨w.heap.size + 1, 3, none⟩ = some (.int .i64 e) := K1.at 3
      go_wp2_with fail
      go_region_held3 (fun x => x.cell? ⟨w.heap.size, 0, none⟩ = some (.int .i64 24) ∧ x.cell? ⟨w.heap.size, 1, none⟩ = some (.int .i64 (-149)) ∧ x.cell? ⟨w.heap.size, 2, none⟩ = some (.int .i64 104) ∧ x.cell? ⟨w.heap.size, 3, none⟩ = some (.int .i64 23) ∧ x.cell? ⟨w.heap.size + 1, 0, none⟩ = some (.int .i64 k') ∧ x.cell? ⟨w.heap.size + 1, 1, none⟩ = some (.bool g') ∧ x.cell? ⟨w.heap.size + 1, 2, none⟩ = some (.int .u64 m') ∧ x.cell? ⟨w.heap.size + 1, 3, none⟩ = some (.int .i64 e)) (go_keep) (first
        | (go_at_call 12; refine (hs _).mono ?_; rintro e w2 ⟨rfl, b2⟩; replace K0 := K0.below (below_undrew b2) K0.lt; replace K1 := K1.below (below_undrew b2) K1.lt; replace pr := bel pr (below_undrew b2); clear b2; have e0 : w2.cell? ⟨w.heap.size, 0, none⟩ = some (.int .i64 24) := K0.at 0; have e1 : w2.cell? ⟨w.heap.size, 1, none⟩ = some (.int .i64 (-149)) := K0.at 1; have e2 : w2.cell? ⟨w.heap.size, 2, none⟩ = some (.int .i64 104) := K0.at 2; have e3 : w2.cell? ⟨w.heap.size, 3, none⟩ = some (.int .i64 23) := K0.at 3; have c0 : w2.cell? ⟨w.heap.size + 1, 0, none⟩ = some (.int .i64 k') := K1.at 0; have c1 : w2.cell? ⟨w.heap.size + 1, 1, none⟩ = some (.bool g') := K1.at 1; have c2 : w2.cell? ⟨w.heap.size + 1, 2, none⟩ = some (.int .u64 m') := K1.at 2; have c3 : w2.cell? ⟨w.heap.size + 1, 3, none⟩ = some (.int .i64 e) := K1.at 3)
        | fail)
      go_wp2
      exact bodyPost_ret (v := .tuple #[.int .u64 0, .int .i64 21]) (by simp [results, Try.results18, go_sem]) rfl ⟨rfl, pr⟩
    · have e0 : wc.cell? ⟨w.heap.size, 0, none⟩ = some (.int .i64 24) := K0.at 0
      have e1 : wc.cell? ⟨w.heap.size, 1, none⟩ = some (.int .i64 (-149)) := K0.at 1
      have e2 : wc.cell? ⟨w.heap.size, 2, none⟩ = some (.int .i64 104) := K0.at 2
      have e3 : wc.cell? ⟨w.heap.size, 3, none⟩ = some (.int .i64 23) := K0.at 3
      have c0 : wc.cell? ⟨w.heap.size + 1, 0, none⟩ = some (.int .i64 k') := K1.at 0
      have c1 : wc.cell? ⟨w.heap.size + 1, 1, none⟩ = some (.bool g') := K1.at 1
      have c2 : wc.cell? ⟨w.heap.size + 1, 2, none⟩ = some (.int .u64 m') := K1.at 2
      have c3 : wc.cell? ⟨w.heap.size + 1, 3, none⟩ = some (.int .i64 e') := K1.at 3
      go_wp2_with fail
      go_region_held3 (fun x => x.cell? ⟨w.heap.size, 0, none⟩ = some (.int .i64 24) ∧ x.cell? ⟨w.heap.size, 1, none⟩ = some (.int .i64 (-149)) ∧ x.cell? ⟨w.heap.size, 2, none⟩ = some (.int .i64 104) ∧ x.cell? ⟨w.heap.size, 3, none⟩ = some (.int .i64 23) ∧ x.cell? ⟨w.heap.size + 1, 0, none⟩ = some (.int .i64 k') ∧ x.cell? ⟨w.heap.size + 1, 1, none⟩ = some (.bool g') ∧ x.cell? ⟨w.heap.size + 1, 2, none⟩ = some (.int .u64 m') ∧ x.cell? ⟨w.heap.size + 1, 3, none⟩ = some (.int .i64 e')) (go_keep) (first
        | (go_at_call 12; refine (hs _).mono ?_; rintro e w2 ⟨rfl, b2⟩; replace K0 := K0.below (below_undrew b2) K0.lt; replace K1 := K1.below (below_undrew b2) K1.lt; replace pr := bel pr (below_undrew b2); clear b2; have e0 : w2.cell? ⟨w.heap.size, 0, none⟩ = some (.int .i64 24) := K0.at 0; have e1 : w2.cell? ⟨w.heap.size, 1, none⟩ = some (.int .i64 (-149)) := K0.at 1; have e2 : w2.cell? ⟨w.heap.size, 2, none⟩ = some (.int .i64 104) := K0.at 2; have e3 : w2.cell? ⟨w.heap.size, 3, none⟩ = some (.int .i64 23) := K0.at 3; have c0 : w2.cell? ⟨w.heap.size + 1, 0, none⟩ = some (.int .i64 k') := K1.at 0; have c1 : w2.cell? ⟨w.heap.size + 1, 1, none⟩ = some (.bool g') := K1.at 1; have c2 : w2.cell? ⟨w.heap.size + 1, 2, none⟩ = some (.int .u64 m') := K1.at 2; have c3 : w2.cell? ⟨w.heap.size + 1, 3, none⟩ = some (.int .i64 e') := K1.at 3)
        | fail)
      go_wp2
      exact bodyPost_ret (v := .tuple #[.int .u64 N, .int .i64 0]) (by simp [results, Try.results18, go_sem]) rfl ⟨rfl, pr⟩
end Go.Proofs.Ytlngkonmalallaa
