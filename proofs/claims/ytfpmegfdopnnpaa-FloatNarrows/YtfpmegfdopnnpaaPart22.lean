import Derived.Test.YtfpmegfdopnnpaaPart21
import Derived.Test.YtfpmegfdopnnpaaPart19
import Derived.Test.YtfpmegfdopnnpaaPart08

namespace Go.Proofs.Ytfpmegfdopnnpaa.L
open Go.RowKit Tl

set_option maxHeartbeats 1600000 in
set_option maxRecDepth 100000 in
theorem Moved_w_none (P Lo Hi Fr b way m E : Int) (g : Bool) (S : ∀ w, Calls Try.prog 11 #[.agg #[.int .i64 P, .int .i64 Lo, .int .i64 Hi, .int .i64 Fr], .int .u64 b] w fun e w' => e = .returned (.agg #[.int .i64 4, .bool g, .int .u64 m, .int .i64 E]) ∧ Below w.heap.size w w') (w : World) :
    Calls Try.prog 23 #[.int .u64 b, .agg #[.int .i64 P, .int .i64 Lo, .int .i64 Hi, .int .i64 Fr], .agg #[.int .i64 53, .int .i64 (-1074), .int .i64 971, .int .i64 52], .int .i64 way] w fun r w' => r = .returned (.int .u64 9221120237041090560) ∧ Below w.heap.size w w' := by
  go_enter Try.func23, Try.ntmps23
  have K5 : Blk ((w.alloc (.cells #[.int .i64 P, .int .i64 Lo, .int .i64 Hi, .int .i64 Fr] 31)).alloc (.cells #[.int .i64 53, .int .i64 (-1074), .int .i64 971, .int .i64 52] 31)) w.heap.size #[.int .i64 P, .int .i64 Lo, .int .i64 Hi, .int .i64 Fr] 31 := (Blk.new w _ _).alloc _
  have K6 := Blk.new (w.alloc (.cells #[.int .i64 P, .int .i64 Lo, .int .i64 Hi, .int .i64 Fr] 31)) #[.int .i64 53, .int .i64 (-1074), .int .i64 971, .int .i64 52] 31
  have pr : Below w.heap.size w ((w.alloc (.cells #[.int .i64 P, .int .i64 Lo, .int .i64 Hi, .int .i64 Fr] 31)).alloc (.cells #[.int .i64 53, .int .i64 (-1074), .int .i64 971, .int .i64 52] 31)) := ((Below.refl _ _).alloc (Nat.le_refl _) _).alloc (by simp) _
  simp only [World.size_alloc] at K6
  go_wp2_with (first
    | (go_at_call 11; refine (S _).mono ?_; rintro r w1 ⟨rfl, b1⟩; replace K5 := (K5.below b1 K5.lt).alloc (.cells #[.int .i64 4, .bool g, .int .u64 m, .int .i64 E] 25); replace K6 := (K6.below b1 K6.lt).alloc (.cells #[.int .i64 4, .bool g, .int .u64 m, .int .i64 E] 25); replace pr := bel pr b1; replace pr := pr.alloc pr.size (.cells #[.int .i64 4, .bool g, .int .u64 m, .int .i64 E] 25); clear b1; have KP := Blk.new w1 #[.int .i64 4, .bool g, .int .u64 m, .int .i64 E] 25; have a0 : (w1.alloc (.cells #[.int .i64 4, .bool g, .int .u64 m, .int .i64 E] 25)).cell? ⟨w.heap.size, 0, none⟩ = some (.int .i64 P) := K5.at 0; have a1 : (w1.alloc (.cells #[.int .i64 4, .bool g, .int .u64 m, .int .i64 E] 25)).cell? ⟨w.heap.size, 1, none⟩ = some (.int .i64 Lo) := K5.at 1; have a2 : (w1.alloc (.cells #[.int .i64 4, .bool g, .int .u64 m, .int .i64 E] 25)).cell? ⟨w.heap.size, 2, none⟩ = some (.int .i64 Hi) := K5.at 2; have a3 : (w1.alloc (.cells #[.int .i64 4, .bool g, .int .u64 m, .int .i64 E] 25)).cell? ⟨w.heap.size, 3, none⟩ = some (.int .i64 Fr) := K5.at 3; have c0 : (w1.alloc (.cells #[.int .i64 4, .bool g, .int .u64 m, .int .i64 E] 25)).cell? ⟨w.heap.size + 1, 0, none⟩ = some (.int .i64 53) := K6.at 0; have c1 : (w1.alloc (.cells #[.int .i64 4, .bool g, .int .u64 m, .int .i64 E] 25)).cell? ⟨w.heap.size + 1, 1, none⟩ = some (.int .i64 (-1074)) := K6.at 1; have c2 : (w1.alloc (.cells #[.int .i64 4, .bool g, .int .u64 m, .int .i64 E] 25)).cell? ⟨w.heap.size + 1, 2, none⟩ = some (.int .i64 971) := K6.at 2; have c3 : (w1.alloc (.cells #[.int .i64 4, .bool g, .int .u64 m, .int .i64 E] 25)).cell? ⟨w.heap.size + 1, 3, none⟩ = some (.int .i64 52) := K6.at 3; have d0 : (w1.alloc (.cells #[.int .i64 4, .bool g, .int .u64 m, .int .i64 E] 25)).cell? ⟨w1.heap.size, 0, none⟩ = some (.int .i64 4) := KP.at 0; have d1 : (w1.alloc (.cells #[.int .i64 4, .bool g, .int .u64 m, .int .i64 E] 25)).cell? ⟨w1.heap.size, 1, none⟩ = some (.bool g) := KP.at 1)
    | (go_at_call 48; (refine (None_w _).mono ?_); rintro r w2 ⟨rfl, b2⟩; replace pr := bel pr b2)
    | fail)
  go_ret
  exact ⟨rfl, pr⟩
set_option maxHeartbeats 1600000 in
set_option maxRecDepth 100000 in
theorem Moved_w_inf (P Lo Hi Fr b way m E : Int) (g : Bool) (S : ∀ w, Calls Try.prog 11 #[.agg #[.int .i64 P, .int .i64 Lo, .int .i64 Hi, .int .i64 Fr], .int .u64 b] w fun e w' => e = .returned (.agg #[.int .i64 3, .bool g, .int .u64 m, .int .i64 E]) ∧ Below w.heap.size w w') (w : World) :
    Calls Try.prog 23 #[.int .u64 b, .agg #[.int .i64 P, .int .i64 Lo, .int .i64 Hi, .int .i64 Fr], .agg #[.int .i64 53, .int .i64 (-1074), .int .i64 971, .int .i64 52], .int .i64 way] w fun r w' => r = .returned (.int .u64 (sgnW g 9218868437227405312)) ∧ Below w.heap.size w w' := by
  go_enter Try.func23, Try.ntmps23
  have K5 : Blk ((w.alloc (.cells #[.int .i64 P, .int .i64 Lo, .int .i64 Hi, .int .i64 Fr] 31)).alloc (.cells #[.int .i64 53, .int .i64 (-1074), .int .i64 971, .int .i64 52] 31)) w.heap.size #[.int .i64 P, .int .i64 Lo, .int .i64 Hi, .int .i64 Fr] 31 := (Blk.new w _ _).alloc _
  have K6 := Blk.new (w.alloc (.cells #[.int .i64 P, .int .i64 Lo, .int .i64 Hi, .int .i64 Fr] 31)) #[.int .i64 53, .int .i64 (-1074), .int .i64 971, .int .i64 52] 31
  have pr : Below w.heap.size w ((w.alloc (.cells #[.int .i64 P, .int .i64 Lo, .int .i64 Hi, .int .i64 Fr] 31)).alloc (.cells #[.int .i64 53, .int .i64 (-1074), .int .i64 971, .int .i64 52] 31)) := ((Below.refl _ _).alloc (Nat.le_refl _) _).alloc (by simp) _
  simp only [World.size_alloc] at K6
  go_wp2_with (first
    | (go_at_call 11; refine (S _).mono ?_; rintro r w1 ⟨rfl, b1⟩; replace K5 := (K5.below b1 K5.lt).alloc (.cells #[.int .i64 3, .bool g, .int .u64 m, .int .i64 E] 25); replace K6 := (K6.below b1 K6.lt).alloc (.cells #[.int .i64 3, .bool g, .int .u64 m, .int .i64 E] 25); replace pr := bel pr b1; replace pr := pr.alloc pr.size (.cells #[.int .i64 3, .bool g, .int .u64 m, .int .i64 E] 25); clear b1; have KP := Blk.new w1 #[.int .i64 3, .bool g, .int .u64 m, .int .i64 E] 25; have a0 : (w1.alloc (.cells #[.int .i64 3, .bool g, .int .u64 m, .int .i64 E] 25)).cell? ⟨w.heap.size, 0, none⟩ = some (.int .i64 P) := K5.at 0; have a1 : (w1.alloc (.cells #[.int .i64 3, .bool g, .int .u64 m, .int .i64 E] 25)).cell? ⟨w.heap.size, 1, none⟩ = some (.int .i64 Lo) := K5.at 1; have a2 : (w1.alloc (.cells #[.int .i64 3, .bool g, .int .u64 m, .int .i64 E] 25)).cell? ⟨w.heap.size, 2, none⟩ = some (.int .i64 Hi) := K5.at 2; have a3 : (w1.alloc (.cells #[.int .i64 3, .bool g, .int .u64 m, .int .i64 E] 25)).cell? ⟨w.heap.size, 3, none⟩ = some (.int .i64 Fr) := K5.at 3; have c0 : (w1.alloc (.cells #[.int .i64 3, .bool g, .int .u64 m, .int .i64 E] 25)).cell? ⟨w.heap.size + 1, 0, none⟩ = some (.int .i64 53) := K6.at 0; have c1 : (w1.alloc (.cells #[.int .i64 3, .bool g, .int .u64 m, .int .i64 E] 25)).cell? ⟨w.heap.size + 1, 1, none⟩ = some (.int .i64 (-1074)) := K6.at 1; have c2 : (w1.alloc (.cells #[.int .i64 3, .bool g, .int .u64 m, .int .i64 E] 25)).cell? ⟨w.heap.size + 1, 2, none⟩ = some (.int .i64 971) := K6.at 2; have c3 : (w1.alloc (.cells #[.int .i64 3, .bool g, .int .u64 m, .int .i64 E] 25)).cell? ⟨w.heap.size + 1, 3, none⟩ = some (.int .i64 52) := K6.at 3; have d0 : (w1.alloc (.cells #[.int .i64 3, .bool g, .int .u64 m, .int .i64 E] 25)).cell? ⟨w1.heap.size, 0, none⟩ = some (.int .i64 3) := KP.at 0; have d1 : (w1.alloc (.cells #[.int .i64 3, .bool g, .int .u64 m, .int .i64 E] 25)).cell? ⟨w1.heap.size, 1, none⟩ = some (.bool g) := KP.at 1)
    | (go_at_call 49; (refine (Infinite_w_any g _).mono ?_); rintro r w2 ⟨rfl, b2⟩; replace pr := bel pr b2)
    | fail)
  go_ret
  exact ⟨rfl, pr⟩
set_option maxHeartbeats 1600000 in
set_option maxRecDepth 100000 in
theorem Moved_w_nought (P Lo Hi Fr b way m E : Int) (g : Bool) (S : ∀ w, Calls Try.prog 11 #[.agg #[.int .i64 P, .int .i64 Lo, .int .i64 Hi, .int .i64 Fr], .int .u64 b] w fun e w' => e = .returned (.agg #[.int .i64 0, .bool g, .int .u64 m, .int .i64 E]) ∧ Below w.heap.size w w') (w : World) :
    Calls Try.prog 23 #[.int .u64 b, .agg #[.int .i64 P, .int .i64 Lo, .int .i64 Hi, .int .i64 Fr], .agg #[.int .i64 53, .int .i64 (-1074), .int .i64 971, .int .i64 52], .int .i64 way] w fun r w' => r = .returned (.int .u64 (sgnW g 0)) ∧ Below w.heap.size w w' := by
  go_enter Try.func23, Try.ntmps23
  have K5 : Blk ((w.alloc (.cells #[.int .i64 P, .int .i64 Lo, .int .i64 Hi, .int .i64 Fr] 31)).alloc (.cells #[.int .i64 53, .int .i64 (-1074), .int .i64 971, .int .i64 52] 31)) w.heap.size #[.int .i64 P, .int .i64 Lo, .int .i64 Hi, .int .i64 Fr] 31 := (Blk.new w _ _).alloc _
  have K6 := Blk.new (w.alloc (.cells #[.int .i64 P, .int .i64 Lo, .int .i64 Hi, .int .i64 Fr] 31)) #[.int .i64 53, .int .i64 (-1074), .int .i64 971, .int .i64 52] 31
  have pr : Below w.heap.size w ((w.alloc (.cells #[.int .i64 P, .int .i64 Lo, .int .i64 Hi, .int .i64 Fr] 31)).alloc (.cells #[.int .i64 53, .int .i64 (-1074), .int .i64 971, .int .i64 52] 31)) := ((Below.refl _ _).alloc (Nat.le_refl _) _).alloc (by simp) _
  simp only [World.size_alloc] at K6
  go_wp2_with (first
    | (go_at_call 11; refine (S _).mono ?_; rintro r w1 ⟨rfl, b1⟩; replace K5 := (K5.below b1 K5.lt).alloc (.cells #[.int .i64 0, .bool g, .int .u64 m, .int .i64 E] 25); replace K6 := (K6.below b1 K6.lt).alloc (.cells #[.int .i64 0, .bool g, .int .u64 m, .int .i64 E] 25); replace pr := bel pr b1; replace pr := pr.alloc pr.size (.cells #[.int .i64 0, .bool g, .int .u64 m, .int .i64 E] 25); clear b1; have KP := Blk.new w1 #[.int .i64 0, .bool g, .int .u64 m, .int .i64 E] 25; have a0 : (w1.alloc (.cells #[.int .i64 0, .bool g, .int .u64 m, .int .i64 E] 25)).cell? ⟨w.heap.size, 0, none⟩ = some (.int .i64 P) := K5.at 0; have a1 : (w1.alloc (.cells #[.int .i64 0, .bool g, .int .u64 m, .int .i64 E] 25)).cell? ⟨w.heap.size, 1, none⟩ = some (.int .i64 Lo) := K5.at 1; have a2 : (w1.alloc (.cells #[.int .i64 0, .bool g, .int .u64 m, .int .i64 E] 25)).cell? ⟨w.heap.size, 2, none⟩ = some (.int .i64 Hi) := K5.at 2; have a3 : (w1.alloc (.cells #[.int .i64 0, .bool g, .int .u64 m, .int .i64 E] 25)).cell? ⟨w.heap.size, 3, none⟩ = some (.int .i64 Fr) := K5.at 3; have c0 : (w1.alloc (.cells #[.int .i64 0, .bool g, .int .u64 m, .int .i64 E] 25)).cell? ⟨w.heap.size + 1, 0, none⟩ = some (.int .i64 53) := K6.at 0; have c1 : (w1.alloc (.cells #[.int .i64 0, .bool g, .int .u64 m, .int .i64 E] 25)).cell? ⟨w.heap.size + 1, 1, none⟩ = some (.int .i64 (-1074)) := K6.at 1; have c2 : (w1.alloc (.cells #[.int .i64 0, .bool g, .int .u64 m, .int .i64 E] 25)).cell? ⟨w.heap.size + 1, 2, none⟩ = some (.int .i64 971) := K6.at 2; have c3 : (w1.alloc (.cells #[.int .i64 0, .bool g, .int .u64 m, .int .i64 E] 25)).cell? ⟨w.heap.size + 1, 3, none⟩ = some (.int .i64 52) := K6.at 3; have d0 : (w1.alloc (.cells #[.int .i64 0, .bool g, .int .u64 m, .int .i64 E] 25)).cell? ⟨w1.heap.size, 0, none⟩ = some (.int .i64 0) := KP.at 0; have d1 : (w1.alloc (.cells #[.int .i64 0, .bool g, .int .u64 m, .int .i64 E] 25)).cell? ⟨w1.heap.size, 1, none⟩ = some (.bool g) := KP.at 1)
    | (go_at_call 50; (refine (signed_w_any g 0 (by decide) (by decide) _).mono ?_); rintro r w2 ⟨rfl, b2⟩; replace pr := bel pr b2)
    | fail)
  go_ret
  exact ⟨rfl, pr⟩
set_option maxHeartbeats 3200000 in
set_option maxRecDepth 100000 in
theorem Moved_w_some (k : Int) (P Lo Hi Fr b way m E : Int) (g : Bool) (x y : Nat) (S : ∀ w, Calls Try.prog 11 #[.agg #[.int .i64 P, .int .i64 Lo, .int .i64 Hi, .int .i64 Fr], .int .u64 b] w fun e w' => e = .returned (.agg #[.int .i64 k, .bool g, .int .u64 m, .int .i64 E]) ∧ Below w.heap.size w w')
    (NB : ∀ w, Calls Try.prog 57 #[.agg #[.int .i64 P, .int .i64 Lo, .int .i64 Hi, .int .i64 Fr], .int .u64 b] w fun r w' => ∃ u1 u2 ns ds, r = .returned (.agg #[.bool g, u1, u2]) ∧ Rd w' u1 ns ∧ Nm ns ∧ Rd w' u2 ds ∧ Nm ds ∧ NumOf ns ds m x y ∧ Below w.heap.size w w')
    (k4 : (k == 4) = false) (k3 : (k == 3) = false) (k0 : (k == 0) = false) (w : World) :
    Calls Try.prog 23 #[.int .u64 b, .agg #[.int .i64 P, .int .i64 Lo, .int .i64 Hi, .int .i64 Fr], .agg #[.int .i64 53, .int .i64 (-1074), .int .i64 971, .int .i64 52], .int .i64 way] w fun r w' => ∃ (ns ds : List Int) (e mm q : Int), NumOf ns ds m x y ∧ Fl (val ns) (val ds) e mm q ∧ 0 ≤ mm ∧ mm < 9007199254740992 ∧ -1074 ≤ e ∧ (e = -1074 ∨ 4503599627370496 ≤ mm) ∧ r = .returned (.int .u64 (laidW g (rnd g way mm q (val ds * 2 ^ e.toNat)) e way).1) ∧ Below w.heap.size w w' := by
  go_enter Try.func23, Try.ntmps23
  have K5 : Blk ((w.alloc (.cells #[.int .i64 P, .int .i64 Lo, .int .i64 Hi, .int .i64 Fr] 31)).alloc (.cells #[.int .i64 53, .int .i64 (-1074), .int .i64 971, .int .i64 52] 31)) w.heap.size #[.int .i64 P, .int .i64 Lo, .int .i64 Hi, .int .i64 Fr] 31 := (Blk.new w _ _).alloc _
  have K6 := Blk.new (w.alloc (.cells #[.int .i64 P, .int .i64 Lo, .int .i64 Hi, .int .i64 Fr] 31)) #[.int .i64 53, .int .i64 (-1074), .int .i64 971, .int .i64 52] 31
  have pr : Below w.heap.size w ((w.alloc (.cells #[.int .i64 P, .int .i64 Lo, .int .i64 Hi, .int .i64 Fr] 31)).alloc (.cells #[.int .i64 53, .int .i64 (-1074), .int .i64 971, .int .i64 52] 31)) := ((Below.refl _ _).alloc (Nat.le_refl _) _).alloc (by simp) _
  simp only [World.size_alloc] at K6
  go_upto_region 9 with (first
    | (go_at_call 11; refine (S _).mono ?_; rintro r w1 ⟨rfl, b1⟩; replace K5 := (K5.below b1 K5.lt).alloc (.cells #[.int .i64 k, .bool g, .int .u64 m, .int .i64 E] 25); replace K6 := (K6.below b1 K6.lt).alloc (.cells #[.int .i64 k, .bool g, .int .u64 m, .int .i64 E] 25); replace pr := bel pr b1; replace pr := pr.alloc pr.size (.cells #[.int .i64 k, .bool g, .int .u64 m, .int .i64 E] 25); clear b1; have KP := Blk.new w1 #[.int .i64 k, .bool g, .int .u64 m, .int .i64 E] 25; have a0 : (w1.alloc (.cells #[.int .i64 k, .bool g, .int .u64 m, .int .i64 E] 25)).cell? ⟨w.heap.size, 0, none⟩ = some (.int .i64 P) := K5.at 0; have a1 : (w1.alloc (.cells #[.int .i64 k, .bool g, .int .u64 m, .int .i64 E] 25)).cell? ⟨w.heap.size, 1, none⟩ = some (.int .i64 Lo) := K5.at 1; have a2 : (w1.alloc (.cells #[.int .i64 k, .bool g, .int .u64 m, .int .i64 E] 25)).cell? ⟨w.heap.size, 2, none⟩ = some (.int .i64 Hi) := K5.at 2; have a3 : (w1.alloc (.cells #[.int .i64 k, .bool g, .int .u64 m, .int .i64 E] 25)).cell? ⟨w.heap.size, 3, none⟩ = some (.int .i64 Fr) := K5.at 3; have c0 : (w1.alloc (.cells #[.int .i64 k, .bool g, .int .u64 m, .int .i64 E] 25)).cell? ⟨w.heap.size + 1, 0, none⟩ = some (.int .i64 53) := K6.at 0; have c1 : (w1.alloc (.cells #[.int .i64 k, .bool g, .int .u64 m, .int .i64 E] 25)).cell? ⟨w.heap.size + 1, 1, none⟩ = some (.int .i64 (-1074)) := K6.at 1; have c2 : (w1.alloc (.cells #[.int .i64 k, .bool g, .int .u64 m, .int .i64 E] 25)).cell? ⟨w.heap.size + 1, 2, none⟩ = some (.int .i64 971) := K6.at 2; have c3 : (w1.alloc (.cells #[.int .i64 k, .bool g, .int .u64 m, .int .i64 E] 25)).cell? ⟨w.heap.size + 1, 3, none⟩ = some (.int .i64 52) := K6.at 3; have d0 : (w1.alloc (.cells #[.int .i64 k, .bool g, .int .u64 m, .int .i64 E] 25)).cell? ⟨w1.heap.size, 0, none⟩ = some (.int .i64 k) := KP.at 0; have d1 : (w1.alloc (.cells #[.int .i64 k, .bool g, .int .u64 m, .int .i64 E] 25)).cell? ⟨w1.heap.size, 1, none⟩ = some (.bool g) := KP.at 1)
    | fail)
  generalize (w1.alloc (.cells #[.int .i64 k, .bool g, .int .u64 m, .int .i64 E] 25)) = W at *
  go_region_held3 (fun x => x.cell? ⟨w.heap.size, 0, none⟩ = some (.int .i64 P) ∧ x.cell? ⟨w.heap.size, 1, none⟩ = some (.int .i64 Lo) ∧ x.cell? ⟨w.heap.size, 2, none⟩ = some (.int .i64 Hi) ∧ x.cell? ⟨w.heap.size, 3, none⟩ = some (.int .i64 Fr) ∧ x.cell? ⟨w.heap.size + 1, 0, none⟩ = some (.int .i64 53) ∧ x.cell? ⟨w.heap.size + 1, 1, none⟩ = some (.int .i64 (-1074)) ∧ x.cell? ⟨w.heap.size + 1, 2, none⟩ = some (.int .i64 971) ∧ x.cell? ⟨w.heap.size + 1, 3, none⟩ = some (.int .i64 52)) (go_keep) (first
    | (go_at_call 57; ((with_reducible refine (NB _).mono ?_)); (rintro r w3 ⟨u1, u2, ns, ds, rfl, h1, n1, h2, n2, no, b3⟩; have l1 : ns.length ≤ 900 := (by have h9 := no.l1; omega); have l2 : ds.length ≤ 900 := (by have h9 := no.l2; omega); replace K5 := K5.below b3 K5.lt; replace K6 := K6.below b3 K6.lt; replace pr := bel pr b3; have a0 : w3.cell? ⟨w.heap.size, 0, none⟩ = some (.int .i64 P) := K5.at 0; have a1 : w3.cell? ⟨w.heap.size, 1, none⟩ = some (.int .i64 Lo) := K5.at 1; have a2 : w3.cell? ⟨w.heap.size, 2, none⟩ = some (.int .i64 Hi) := K5.at 2; have a3 : w3.cell? ⟨w.heap.size, 3, none⟩ = some (.int .i64 Fr) := K5.at 3; have c0 : w3.cell? ⟨w.heap.size + 1, 0, none⟩ = some (.int .i64 53) := K6.at 0; have c1 : w3.cell? ⟨w.heap.size + 1, 1, none⟩ = some (.int .i64 (-1074)) := K6.at 1; have c2 : w3.cell? ⟨w.heap.size + 1, 2, none⟩ = some (.int .i64 971) := K6.at 2; have c3 : w3.cell? ⟨w.heap.size + 1, 3, none⟩ = some (.int .i64 52) := K6.at 3; clear b3))
    | (go_at_call 57; ((with_reducible refine (NB _).mono ?_)); (rintro r w3 ⟨u1, u2, ns, ds, rfl, h1, n1, h2, n2, no, b3⟩; have l1 : ns.length ≤ 900 := (by have h9 := no.l1; omega); have l2 : ds.length ≤ 900 := (by have h9 := no.l2; omega); replace K5 := K5.below (below_undrew b3) K5.lt; replace K6 := K6.below (below_undrew b3) K6.lt; replace pr := bel pr (below_undrew b3); have a0 : w3.cell? ⟨w.heap.size, 0, none⟩ = some (.int .i64 P) := K5.at 0; have a1 : w3.cell? ⟨w.heap.size, 1, none⟩ = some (.int .i64 Lo) := K5.at 1; have a2 : w3.cell? ⟨w.heap.size, 2, none⟩ = some (.int .i64 Hi) := K5.at 2; have a3 : w3.cell? ⟨w.heap.size, 3, none⟩ = some (.int .i64 Fr) := K5.at 3; have c0 : w3.cell? ⟨w.heap.size + 1, 0, none⟩ = some (.int .i64 53) := K6.at 0; have c1 : w3.cell? ⟨w.heap.size + 1, 1, none⟩ = some (.int .i64 (-1074)) := K6.at 1; have c2 : w3.cell? ⟨w.heap.size + 1, 2, none⟩ = some (.int .i64 971) := K6.at 2; have c3 : w3.cell? ⟨w.heap.size + 1, 3, none⟩ = some (.int .i64 52) := K6.at 3; clear b3))
    | (go_at_call 56; ((with_reducible refine (Rounded_w_any g _ _ ns ds way _ h1 h2 n1 n2 l1 l2 no.n0 no.d0).mono ?_)); (rintro r w4 ⟨e, mm, q, fl, m0, m1, e0, st, rfl, b4⟩; replace K5 := K5.below b4 K5.lt; replace K6 := K6.below b4 K6.lt; replace pr := bel pr b4; have a0 : w4.cell? ⟨w.heap.size, 0, none⟩ = some (.int .i64 P) := K5.at 0; have a1 : w4.cell? ⟨w.heap.size, 1, none⟩ = some (.int .i64 Lo) := K5.at 1; have a2 : w4.cell? ⟨w.heap.size, 2, none⟩ = some (.int .i64 Hi) := K5.at 2; have a3 : w4.cell? ⟨w.heap.size, 3, none⟩ = some (.int .i64 Fr) := K5.at 3; have c0 : w4.cell? ⟨w.heap.size + 1, 0, none⟩ = some (.int .i64 53) := K6.at 0; have c1 : w4.cell? ⟨w.heap.size + 1, 1, none⟩ = some (.int .i64 (-1074)) := K6.at 1; have c2 : w4.cell? ⟨w.heap.size + 1, 2, none⟩ = some (.int .i64 971) := K6.at 2; have c3 : w4.cell? ⟨w.heap.size + 1, 3, none⟩ = some (.int .i64 52) := K6.at 3; clear b4))
    | (go_at_call 56; ((with_reducible refine (Rounded_w_any g _ _ ns ds way _ h1.drew h2.drew n1 n2 l1 l2 no.n0 no.d0).mono ?_)); (rintro r w4 ⟨e, mm, q, fl, m0, m1, e0, st, rfl, b4⟩; replace K5 := K5.below (below_undrew b4) K5.lt; replace K6 := K6.below (below_undrew b4) K6.lt; replace pr := bel pr (below_undrew b4); have a0 : w4.cell? ⟨w.heap.size, 0, none⟩ = some (.int .i64 P) := K5.at 0; have a1 : w4.cell? ⟨w.heap.size, 1, none⟩ = some (.int .i64 Lo) := K5.at 1; have a2 : w4.cell? ⟨w.heap.size, 2, none⟩ = some (.int .i64 Hi) := K5.at 2; have a3 : w4.cell? ⟨w.heap.size, 3, none⟩ = some (.int .i64 Fr) := K5.at 3; have c0 : w4.cell? ⟨w.heap.size + 1, 0, none⟩ = some (.int .i64 53) := K6.at 0; have c1 : w4.cell? ⟨w.heap.size + 1, 1, none⟩ = some (.int .i64 (-1074)) := K6.at 1; have c2 : w4.cell? ⟨w.heap.size + 1, 2, none⟩ = some (.int .i64 971) := K6.at 2; have c3 : w4.cell? ⟨w.heap.size + 1, 3, none⟩ = some (.int .i64 52) := K6.at 3; clear b4))
    | fail)
  go_wp2_with fail
  exact bodyPost_ret (v := .int .u64 (laidW g (rnd g way mm q (val ds * 2 ^ e.toNat)) e way).1) (by simp [results, Try.results23, go_sem]) rfl ⟨ns, ds, e, mm, q, no, fl, m0, m1, e0, st, rfl, pr⟩
set_option maxHeartbeats 1600000 in
set_option maxRecDepth 100000 in
theorem Moved_s_none (P Lo Hi Fr b way m E : Int) (g : Bool) (S : ∀ w, Calls Try.prog 11 #[.agg #[.int .i64 P, .int .i64 Lo, .int .i64 Hi, .int .i64 Fr], .int .u64 b] w fun e w' => e = .returned (.agg #[.int .i64 4, .bool g, .int .u64 m, .int .i64 E]) ∧ Below w.heap.size w w') (w : World) :
    Calls Try.prog 23 #[.int .u64 b, .agg #[.int .i64 P, .int .i64 Lo, .int .i64 Hi, .int .i64 Fr], .agg #[.int .i64 24, .int .i64 (-149), .int .i64 104, .int .i64 23], .int .i64 way] w fun r w' => r = .returned (.int .u64 2143289344) ∧ Below w.heap.size w w' := by
  go_enter Try.func23, Try.ntmps23
  have K5 : Blk ((w.alloc (.cells #[.int .i64 P, .int .i64 Lo, .int .i64 Hi, .int .i64 Fr] 31)).alloc (.cells #[.int .i64 24, .int .i64 (-149), .int .i64 104, .int .i64 23] 31)) w.heap.size #[.int .i64 P, .int .i64 Lo, .int .i64 Hi, .int .i64 Fr] 31 := (Blk.new w _ _).alloc _
  have K6 := Blk.new (w.alloc (.cells #[.int .i64 P, .int .i64 Lo, .int .i64 Hi, .int .i64 Fr] 31)) #[.int .i64 24, .int .i64 (-149), .int .i64 104, .int .i64 23] 31
  have pr : Below w.heap.size w ((w.alloc (.cells #[.int .i64 P, .int .i64 Lo, .int .i64 Hi, .int .i64 Fr] 31)).alloc (.cells #[.int .i64 24, .int .i64 (-149), .int .i64 104, .int .i64 23] 31)) := ((Below.refl _ _).alloc (Nat.le_refl _) _).alloc (by simp) _
  simp only [World.size_alloc] at K6
  go_wp2_with (first
    | (go_at_call 11; refine (S _).mono ?_; rintro r w1 ⟨rfl, b1⟩; replace K5 := (K5.below b1 K5.lt).alloc (.cells #[.int .i64 4, .bool g, .int .u64 m, .int .i64 E] 25); replace K6 := (K6.below b1 K6.lt).alloc (.cells #[.int .i64 4, .bool g, .int .u64 m, .int .i64 E] 25); replace pr := bel pr b1; replace pr := pr.alloc pr.size (.cells #[.int .i64 4, .bool g, .int .u64 m, .int .i64 E] 25); clear b1; have KP := Blk.new w1 #[.int .i64 4, .bool g, .int .u64 m, .int .i64 E] 25; have a0 : (w1.alloc (.cells #[.int .i64 4, .bool g, .int .u64 m, .int .i64 E] 25)).cell? ⟨w.heap.size, 0, none⟩ = some (.int .i64 P) := K5.at 0; have a1 : (w1.alloc (.cells #[.int .i64 4, .bool g, .int .u64 m, .int .i64 E] 25)).cell? ⟨w.heap.size, 1, none⟩ = some (.int .i64 Lo) := K5.at 1; have a2 : (w1.alloc (.cells #[.int .i64 4, .bool g, .int .u64 m, .int .i64 E] 25)).cell? ⟨w.heap.size, 2, none⟩ = some (.int .i64 Hi) := K5.at 2; have a3 : (w1.alloc (.cells #[.int .i64 4, .bool g, .int .u64 m, .int .i64 E] 25)).cell? ⟨w.heap.size, 3, none⟩ = some (.int .i64 Fr) := K5.at 3; have c0 : (w1.alloc (.cells #[.int .i64 4, .bool g, .int .u64 m, .int .i64 E] 25)).cell? ⟨w.heap.size + 1, 0, none⟩ = some (.int .i64 24) := K6.at 0; have c1 : (w1.alloc (.cells #[.int .i64 4, .bool g, .int .u64 m, .int .i64 E] 25)).cell? ⟨w.heap.size + 1, 1, none⟩ = some (.int .i64 (-149)) := K6.at 1; have c2 : (w1.alloc (.cells #[.int .i64 4, .bool g, .int .u64 m, .int .i64 E] 25)).cell? ⟨w.heap.size + 1, 2, none⟩ = some (.int .i64 104) := K6.at 2; have c3 : (w1.alloc (.cells #[.int .i64 4, .bool g, .int .u64 m, .int .i64 E] 25)).cell? ⟨w.heap.size + 1, 3, none⟩ = some (.int .i64 23) := K6.at 3; have d0 : (w1.alloc (.cells #[.int .i64 4, .bool g, .int .u64 m, .int .i64 E] 25)).cell? ⟨w1.heap.size, 0, none⟩ = some (.int .i64 4) := KP.at 0; have d1 : (w1.alloc (.cells #[.int .i64 4, .bool g, .int .u64 m, .int .i64 E] 25)).cell? ⟨w1.heap.size, 1, none⟩ = some (.bool g) := KP.at 1)
    | (go_at_call 48; (refine (None_s _).mono ?_); rintro r w2 ⟨rfl, b2⟩; replace pr := bel pr b2)
    | fail)
  go_ret
  exact ⟨rfl, pr⟩
set_option maxHeartbeats 1600000 in
set_option maxRecDepth 100000 in
theorem Moved_s_inf (P Lo Hi Fr b way m E : Int) (g : Bool) (S : ∀ w, Calls Try.prog 11 #[.agg #[.int .i64 P, .int .i64 Lo, .int .i64 Hi, .int .i64 Fr], .int .u64 b] w fun e w' => e = .returned (.agg #[.int .i64 3, .bool g, .int .u64 m, .int .i64 E]) ∧ Below w.heap.size w w') (w : World) :
    Calls Try.prog 23 #[.int .u64 b, .agg #[.int .i64 P, .int .i64 Lo, .int .i64 Hi, .int .i64 Fr], .agg #[.int .i64 24, .int .i64 (-149), .int .i64 104, .int .i64 23], .int .i64 way] w fun r w' => r = .returned (.int .u64 (sgnS g 2139095040)) ∧ Below w.heap.size w w' := by
  go_enter Try.func23, Try.ntmps23
  have K5 : Blk ((w.alloc (.cells #[.int .i64 P, .int .i64 Lo, .int .i64 Hi, .int .i64 Fr] 31)).alloc (.cells #[.int .i64 24, .int .i64 (-149), .int .i64 104, .int .i64 23] 31)) w.heap.size #[.int .i64 P, .int .i64 Lo, .int .i64 Hi, .int .i64 Fr] 31 := (Blk.new w _ _).alloc _
  have K6 := Blk.new (w.alloc (.cells #[.int .i64 P, .int .i64 Lo, .int .i64 Hi, .int .i64 Fr] 31)) #[.int .i64 24, .int .i64 (-149), .int .i64 104, .int .i64 23] 31
  have pr : Below w.heap.size w ((w.alloc (.cells #[.int .i64 P, .int .i64 Lo, .int .i64 Hi, .int .i64 Fr] 31)).alloc (.cells #[.int .i64 24, .int .i64 (-149), .int .i64 104, .int .i64 23] 31)) := ((Below.refl _ _).alloc (Nat.le_refl _) _).alloc (by simp) _
  simp only [World.size_alloc] at K6
  go_wp2_with (first
    | (go_at_call 11; refine (S _).mono ?_; rintro r w1 ⟨rfl, b1⟩; replace K5 := (K5.below b1 K5.lt).alloc (.cells #[.int .i64 3, .bool g, .int .u64 m, .int .i64 E] 25); replace K6 := (K6.below b1 K6.lt).alloc (.cells #[.int .i64 3, .bool g, .int .u64 m, .int .i64 E] 25); replace pr := bel pr b1; replace pr := pr.alloc pr.size (.cells #[.int .i64 3, .bool g, .int .u64 m, .int .i64 E] 25); clear b1; have KP := Blk.new w1 #[.int .i64 3, .bool g, .int .u64 m, .int .i64 E] 25; have a0 : (w1.alloc (.cells #[.int .i64 3, .bool g, .int .u64 m, .int .i64 E] 25)).cell? ⟨w.heap.size, 0, none⟩ = some (.int .i64 P) := K5.at 0; have a1 : (w1.alloc (.cells #[.int .i64 3, .bool g, .int .u64 m, .int .i64 E] 25)).cell? ⟨w.heap.size, 1, none⟩ = some (.int .i64 Lo) := K5.at 1; have a2 : (w1.alloc (.cells #[.int .i64 3, .bool g, .int .u64 m, .int .i64 E] 25)).cell? ⟨w.heap.size, 2, none⟩ = some (.int .i64 Hi) := K5.at 2; have a3 : (w1.alloc (.cells #[.int .i64 3, .bool g, .int .u64 m, .int .i64 E] 25)).cell? ⟨w.heap.size, 3, none⟩ = some (.int .i64 Fr) := K5.at 3; have c0 : (w1.alloc (.cells #[.int .i64 3, .bool g, .int .u64 m, .int .i64 E] 25)).cell? ⟨w.heap.size + 1, 0, none⟩ = some (.int .i64 24) := K6.at 0; have c1 : (w1.alloc (.cells #[.int .i64 3, .bool g, .int .u64 m, .int .i64 E] 25)).cell? ⟨w.heap.size + 1, 1, none⟩ = some (.int .i64 (-149)) := K6.at 1; have c2 : (w1.alloc (.cells #[.int .i64 3, .bool g, .int .u64 m, .int .i64 E] 25)).cell? ⟨w.heap.size + 1, 2, none⟩ = some (.int .i64 104) := K6.at 2; have c3 : (w1.alloc (.cells #[.int .i64 3, .bool g, .int .u64 m, .int .i64 E] 25)).cell? ⟨w.heap.size + 1, 3, none⟩ = some (.int .i64 23) := K6.at 3; have d0 : (w1.alloc (.cells #[.int .i64 3, .bool g, .int .u64 m, .int .i64 E] 25)).cell? ⟨w1.heap.size, 0, none⟩ = some (.int .i64 3) := KP.at 0; have d1 : (w1.alloc (.cells #[.int .i64 3, .bool g, .int .u64 m, .int .i64 E] 25)).cell? ⟨w1.heap.size, 1, none⟩ = some (.bool g) := KP.at 1)
    | (go_at_call 49; (refine (Infinite_s_any g _).mono ?_); rintro r w2 ⟨rfl, b2⟩; replace pr := bel pr b2)
    | fail)
  go_ret
  exact ⟨rfl, pr⟩
set_option maxHeartbeats 1600000 in
set_option maxRecDepth 100000 in
theorem Moved_s_nought (P Lo Hi Fr b way m E : Int) (g : Bool) (S : ∀ w, Calls Try.prog 11 #[.agg #[.int .i64 P, .int .i64 Lo, .int .i64 Hi, .int .i64 Fr], .int .u64 b] w fun e w' => e = .returned (.agg #[.int .i64 0, .bool g, .int .u64 m, .int .i64 E]) ∧ Below w.heap.size w w') (w : World) :
    Calls Try.prog 23 #[.int .u64 b, .agg #[.int .i64 P, .int .i64 Lo, .int .i64 Hi, .int .i64 Fr], .agg #[.int .i64 24, .int .i64 (-149), .int .i64 104, .int .i64 23], .int .i64 way] w fun r w' => r = .returned (.int .u64 (sgnS g 0)) ∧ Below w.heap.size w w' := by
  go_enter Try.func23, Try.ntmps23
  have K5 : Blk ((w.alloc (.cells #[.int .i64 P, .int .i64 Lo, .int .i64 Hi, .int .i64 Fr] 31)).alloc (.cells #[.int .i64 24, .int .i64 (-149), .int .i64 104, .int .i64 23] 31)) w.heap.size #[.int .i64 P, .int .i64 Lo, .int .i64 Hi, .int .i64 Fr] 31 := (Blk.new w _ _).alloc _
  have K6 := Blk.new (w.alloc (.cells #[.int .i64 P, .int .i64 Lo, .int .i64 Hi, .int .i64 Fr] 31)) #[.int .i64 24, .int .i64 (-149), .int .i64 104, .int .i64 23] 31
  have pr : Below w.heap.size w ((w.alloc (.cells #[.int .i64 P, .int .i64 Lo, .int .i64 Hi, .int .i64 Fr] 31)).alloc (.cells #[.int .i64 24, .int .i64 (-149), .int .i64 104, .int .i64 23] 31)) := ((Below.refl _ _).alloc (Nat.le_refl _) _).alloc (by simp) _
  simp only [World.size_alloc] at K6
  go_wp2_with (first
    | (go_at_call 11; refine (S _).mono ?_; rintro r w1 ⟨rfl, b1⟩; replace K5 := (K5.below b1 K5.lt).alloc (.cells #[.int .i64 0, .bool g, .int .u64 m, .int .i64 E] 25); replace K6 := (K6.below b1 K6.lt).alloc (.cells #[.int .i64 0, .bool g, .int .u64 m, .int .i64 E] 25); replace pr := bel pr b1; replace pr := pr.alloc pr.size (.cells #[.int .i64 0, .bool g, .int .u64 m, .int .i64 E] 25); clear b1; have KP := Blk.new w1 #[.int .i64 0, .bool g, .int .u64 m, .int .i64 E] 25; have a0 : (w1.alloc (.cells #[.int .i64 0, .bool g, .int .u64 m, .int .i64 E] 25)).cell? ⟨w.heap.size, 0, none⟩ = some (.int .i64 P) := K5.at 0; have a1 : (w1.alloc (.cells #[.int .i64 0, .bool g, .int .u64 m, .int .i64 E] 25)).cell? ⟨w.heap.size, 1, none⟩ = some (.int .i64 Lo) := K5.at 1; have a2 : (w1.alloc (.cells #[.int .i64 0, .bool g, .int .u64 m, .int .i64 E] 25)).cell? ⟨w.heap.size, 2, none⟩ = some (.int .i64 Hi) := K5.at 2; have a3 : (w1.alloc (.cells #[.int .i64 0, .bool g, .int .u64 m, .int .i64 E] 25)).cell? ⟨w.heap.size, 3, none⟩ = some (.int .i64 Fr) := K5.at 3; have c0 : (w1.alloc (.cells #[.int .i64 0, .bool g, .int .u64 m, .int .i64 E] 25)).cell? ⟨w.heap.size + 1, 0, none⟩ = some (.int .i64 24) := K6.at 0; have c1 : (w1.alloc (.cells #[.int .i64 0, .bool g, .int .u64 m, .int .i64 E] 25)).cell? ⟨w.heap.size + 1, 1, none⟩ = some (.int .i64 (-149)) := K6.at 1; have c2 : (w1.alloc (.cells #[.int .i64 0, .bool g, .int .u64 m, .int .i64 E] 25)).cell? ⟨w.heap.size + 1, 2, none⟩ = some (.int .i64 104) := K6.at 2; have c3 : (w1.alloc (.cells #[.int .i64 0, .bool g, .int .u64 m, .int .i64 E] 25)).cell? ⟨w.heap.size + 1, 3, none⟩ = some (.int .i64 23) := K6.at 3; have d0 : (w1.alloc (.cells #[.int .i64 0, .bool g, .int .u64 m, .int .i64 E] 25)).cell? ⟨w1.heap.size, 0, none⟩ = some (.int .i64 0) := KP.at 0; have d1 : (w1.alloc (.cells #[.int .i64 0, .bool g, .int .u64 m, .int .i64 E] 25)).cell? ⟨w1.heap.size, 1, none⟩ = some (.bool g) := KP.at 1)
    | (go_at_call 50; (refine (signed_s_any g 0 (by decide) (by decide) _).mono ?_); rintro r w2 ⟨rfl, b2⟩; replace pr := bel pr b2)
    | fail)
  go_ret
  exact ⟨rfl, pr⟩
set_option maxHeartbeats 3200000 in
set_option maxRecDepth 100000 in
theorem Moved_s_some (k : Int) (P Lo Hi Fr b way m E : Int) (g : Bool) (x y : Nat) (S : ∀ w, Calls Try.prog 11 #[.agg #[.int .i64 P, .int .i64 Lo, .int .i64 Hi, .int .i64 Fr], .int .u64 b] w fun e w' => e = .returned (.agg #[.int .i64 k, .bool g, .int .u64 m, .int .i64 E]) ∧ Below w.heap.size w w')
    (NB : ∀ w, Calls Try.prog 57 #[.agg #[.int .i64 P, .int .i64 Lo, .int .i64 Hi, .int .i64 Fr], .int .u64 b] w fun r w' => ∃ u1 u2 ns ds, r = .returned (.agg #[.bool g, u1, u2]) ∧ Rd w' u1 ns ∧ Nm ns ∧ Rd w' u2 ds ∧ Nm ds ∧ NumOf ns ds m x y ∧ Below w.heap.size w w')
    (k4 : (k == 4) = false) (k3 : (k == 3) = false) (k0 : (k == 0) = false) (w : World) :
    Calls Try.prog 23 #[.int .u64 b, .agg #[.int .i64 P, .int .i64 Lo, .int .i64 Hi, .int .i64 Fr], .agg #[.int .i64 24, .int .i64 (-149), .int .i64 104, .int .i64 23], .int .i64 way] w fun r w' => ∃ (ns ds : List Int) (e mm q : Int), NumOf ns ds m x y ∧ Fl (val ns) (val ds) e mm q ∧ 0 ≤ mm ∧ mm < 16777216 ∧ -149 ≤ e ∧ (e = -149 ∨ 8388608 ≤ mm) ∧ r = .returned (.int .u64 (laidS g (rnd g way mm q (val ds * 2 ^ e.toNat)) e way).1) ∧ Below w.heap.size w w' := by
  go_enter Try.func23, Try.ntmps23
  have K5 : Blk ((w.alloc (.cells #[.int .i64 P, .int .i64 Lo, .int .i64 Hi, .int .i64 Fr] 31)).alloc (.cells #[.int .i64 24, .int .i64 (-149), .int .i64 104, .int .i64 23] 31)) w.heap.size #[.int .i64 P, .int .i64 Lo, .int .i64 Hi, .int .i64 Fr] 31 := (Blk.new w _ _).alloc _
  have K6 := Blk.new (w.alloc (.cells #[.int .i64 P, .int .i64 Lo, .int .i64 Hi, .int .i64 Fr] 31)) #[.int .i64 24, .int .i64 (-149), .int .i64 104, .int .i64 23] 31
  have pr : Below w.heap.size w ((w.alloc (.cells #[.int .i64 P, .int .i64 Lo, .int .i64 Hi, .int .i64 Fr] 31)).alloc (.cells #[.int .i64 24, .int .i64 (-149), .int .i64 104, .int .i64 23] 31)) := ((Below.refl _ _).alloc (Nat.le_refl _) _).alloc (by simp) _
  simp only [World.size_alloc] at K6
  go_upto_region 9 with (first
    | (go_at_call 11; refine (S _).mono ?_; rintro r w1 ⟨rfl, b1⟩; replace K5 := (K5.below b1 K5.lt).alloc (.cells #[.int .i64 k, .bool g, .int .u64 m, .int .i64 E] 25); replace K6 := (K6.below b1 K6.lt).alloc (.cells #[.int .i64 k, .bool g, .int .u64 m, .int .i64 E] 25); replace pr := bel pr b1; replace pr := pr.alloc pr.size (.cells #[.int .i64 k, .bool g, .int .u64 m, .int .i64 E] 25); clear b1; have KP := Blk.new w1 #[.int .i64 k, .bool g, .int .u64 m, .int .i64 E] 25; have a0 : (w1.alloc (.cells #[.int .i64 k, .bool g, .int .u64 m, .int .i64 E] 25)).cell? ⟨w.heap.size, 0, none⟩ = some (.int .i64 P) := K5.at 0; have a1 : (w1.alloc (.cells #[.int .i64 k, .bool g, .int .u64 m, .int .i64 E] 25)).cell? ⟨w.heap.size, 1, none⟩ = some (.int .i64 Lo) := K5.at 1; have a2 : (w1.alloc (.cells #[.int .i64 k, .bool g, .int .u64 m, .int .i64 E] 25)).cell? ⟨w.heap.size, 2, none⟩ = some (.int .i64 Hi) := K5.at 2; have a3 : (w1.alloc (.cells #[.int .i64 k, .bool g, .int .u64 m, .int .i64 E] 25)).cell? ⟨w.heap.size, 3, none⟩ = some (.int .i64 Fr) := K5.at 3; have c0 : (w1.alloc (.cells #[.int .i64 k, .bool g, .int .u64 m, .int .i64 E] 25)).cell? ⟨w.heap.size + 1, 0, none⟩ = some (.int .i64 24) := K6.at 0; have c1 : (w1.alloc (.cells #[.int .i64 k, .bool g, .int .u64 m, .int .i64 E] 25)).cell? ⟨w.heap.size + 1, 1, none⟩ = some (.int .i64 (-149)) := K6.at 1; have c2 : (w1.alloc (.cells #[.int .i64 k, .bool g, .int .u64 m, .int .i64 E] 25)).cell? ⟨w.heap.size + 1, 2, none⟩ = some (.int .i64 104) := K6.at 2; have c3 : (w1.alloc (.cells #[.int .i64 k, .bool g, .int .u64 m, .int .i64 E] 25)).cell? ⟨w.heap.size + 1, 3, none⟩ = some (.int .i64 23) := K6.at 3; have d0 : (w1.alloc (.cells #[.int .i64 k, .bool g, .int .u64 m, .int .i64 E] 25)).cell? ⟨w1.heap.size, 0, none⟩ = some (.int .i64 k) := KP.at 0; have d1 : (w1.alloc (.cells #[.int .i64 k, .bool g, .int .u64 m, .int .i64 E] 25)).cell? ⟨w1.heap.size, 1, none⟩ = some (.bool g) := KP.at 1)
    | fail)
  generalize (w1.alloc (.cells #[.int .i64 k, .bool g, .int .u64 m, .int .i64 E] 25)) = W at *
  go_region_held3 (fun x => x.cell? ⟨w.heap.size, 0, none⟩ = some (.int .i64 P) ∧ x.cell? ⟨w.heap.size, 1, none⟩ = some (.int .i64 Lo) ∧ x.cell? ⟨w.heap.size, 2, none⟩ = some (.int .i64 Hi) ∧ x.cell? ⟨w.heap.size, 3, none⟩ = some (.int .i64 Fr) ∧ x.cell? ⟨w.heap.size + 1, 0, none⟩ = some (.int .i64 24) ∧ x.cell? ⟨w.heap.size + 1, 1, none⟩ = some (.int .i64 (-149)) ∧ x.cell? ⟨w.heap.size + 1, 2, none⟩ = some (.int .i64 104) ∧ x.cell? ⟨w.heap.size + 1, 3, none⟩ = some (.int .i64 23)) (go_keep) (first
    | (go_at_call 57; ((with_reducible refine (NB _).mono ?_)); (rintro r w3 ⟨u1, u2, ns, ds, rfl, h1, n1, h2, n2, no, b3⟩; have l1 : ns.length ≤ 900 := (by have h9 := no.l1; omega); have l2 : ds.length ≤ 900 := (by have h9 := no.l2; omega); replace K5 := K5.below b3 K5.lt; replace K6 := K6.below b3 K6.lt; replace pr := bel pr b3; have a0 : w3.cell? ⟨w.heap.size, 0, none⟩ = some (.int .i64 P) := K5.at 0; have a1 : w3.cell? ⟨w.heap.size, 1, none⟩ = some (.int .i64 Lo) := K5.at 1; have a2 : w3.cell? ⟨w.heap.size, 2, none⟩ = some (.int .i64 Hi) := K5.at 2; have a3 : w3.cell? ⟨w.heap.size, 3, none⟩ = some (.int .i64 Fr) := K5.at 3; have c0 : w3.cell? ⟨w.heap.size + 1, 0, none⟩ = some (.int .i64 24) := K6.at 0; have c1 : w3.cell? ⟨w.heap.size + 1, 1, none⟩ = some (.int .i64 (-149)) := K6.at 1; have c2 : w3.cell? ⟨w.heap.size + 1, 2, none⟩ = some (.int .i64 104) := K6.at 2; have c3 : w3.cell? ⟨w.heap.size + 1, 3, none⟩ = some (.int .i64 23) := K6.at 3; clear b3))
    | (go_at_call 57; ((with_reducible refine (NB _).mono ?_)); (rintro r w3 ⟨u1, u2, ns, ds, rfl, h1, n1, h2, n2, no, b3⟩; have l1 : ns.length ≤ 900 := (by have h9 := no.l1; omega); have l2 : ds.length ≤ 900 := (by have h9 := no.l2; omega); replace K5 := K5.below (below_undrew b3) K5.lt; replace K6 := K6.below (below_undrew b3) K6.lt; replace pr := bel pr (below_undrew b3); have a0 : w3.cell? ⟨w.heap.size, 0, none⟩ = some (.int .i64 P) := K5.at 0; have a1 : w3.cell? ⟨w.heap.size, 1, none⟩ = some (.int .i64 Lo) := K5.at 1; have a2 : w3.cell? ⟨w.heap.size, 2, none⟩ = some (.int .i64 Hi) := K5.at 2; have a3 : w3.cell? ⟨w.heap.size, 3, none⟩ = some (.int .i64 Fr) := K5.at 3; have c0 : w3.cell? ⟨w.heap.size + 1, 0, none⟩ = some (.int .i64 24) := K6.at 0; have c1 : w3.cell? ⟨w.heap.size + 1, 1, none⟩ = some (.int .i64 (-149)) := K6.at 1; have c2 : w3.cell? ⟨w.heap.size + 1, 2, none⟩ = some (.int .i64 104) := K6.at 2; have c3 : w3.cell? ⟨w.heap.size + 1, 3, none⟩ = some (.int .i64 23) := K6.at 3; clear b3))
    | (go_at_call 56; ((with_reducible refine (Rounded_s_any g _ _ ns ds way _ h1 h2 n1 n2 l1 l2 no.n0 no.d0).mono ?_)); (rintro r w4 ⟨e, mm, q, fl, m0, m1, e0, st, rfl, b4⟩; replace K5 := K5.below b4 K5.lt; replace K6 := K6.below b4 K6.lt; replace pr := bel pr b4; have a0 : w4.cell? ⟨w.heap.size, 0, none⟩ = some (.int .i64 P) := K5.at 0; have a1 : w4.cell? ⟨w.heap.size, 1, none⟩ = some (.int .i64 Lo) := K5.at 1; have a2 : w4.cell? ⟨w.heap.size, 2, none⟩ = some (.int .i64 Hi) := K5.at 2; have a3 : w4.cell? ⟨w.heap.size, 3, none⟩ = some (.int .i64 Fr) := K5.at 3; have c0 : w4.cell? ⟨w.heap.size + 1, 0, none⟩ = some (.int .i64 24) := K6.at 0; have c1 : w4.cell? ⟨w.heap.size + 1, 1, none⟩ = some (.int .i64 (-149)) := K6.at 1; have c2 : w4.cell? ⟨w.heap.size + 1, 2, none⟩ = some (.int .i64 104) := K6.at 2; have c3 : w4.cell? ⟨w.heap.size + 1, 3, none⟩ = some (.int .i64 23) := K6.at 3; clear b4))
    | (go_at_call 56; ((with_reducible refine (Rounded_s_any g _ _ ns ds way _ h1.drew h2.drew n1 n2 l1 l2 no.n0 no.d0).mono ?_)); (rintro r w4 ⟨e, mm, q, fl, m0, m1, e0, st, rfl, b4⟩; replace K5 := K5.below (below_undrew b4) K5.lt; replace K6 := K6.below (below_undrew b4) K6.lt; replace pr := bel pr (below_undrew b4); have a0 : w4.cell? ⟨w.heap.size, 0, none⟩ = some (.int .i64 P) := K5.at 0; have a1 : w4.cell? ⟨w.heap.size, 1, none⟩ = some (.int .i64 Lo) := K5.at 1; have a2 : w4.cell? ⟨w.heap.size, 2, none⟩ = some (.int .i64 Hi) := K5.at 2; have a3 : w4.cell? ⟨w.heap.size, 3, none⟩ = some (.int .i64 Fr) := K5.at 3; have c0 : w4.cell? ⟨w.heap.size + 1, 0, none⟩ = some (.int .i64 24) := K6.at 0; have c1 : w4.cell? ⟨w.heap.size + 1, 1, none⟩ = some (.int .i64 (-149)) := K6.at 1; have c2 : w4.cell? ⟨w.heap.size + 1, 2, none⟩ = some (.int .i64 104) := K6.at 2; have c3 : w4.cell? ⟨w.heap.size + 1, 3, none⟩ = some (.int .i64 23) := K6.at 3; clear b4))
    | fail)
  go_wp2_with fail
  exact bodyPost_ret (v := .int .u64 (laidS g (rnd g way mm q (val ds * 2 ^ e.toNat)) e way).1) (by simp [results, Try.results23, go_sem]) rfl ⟨ns, ds, e, mm, q, no, fl, m0, m1, e0, st, rfl, pr⟩
end Go.Proofs.Ytfpmegfdopnnpaa.L

namespace Go.Proofs.Ytfpmegfdopnnpaa
open Go.RowKit Tn

set_option maxRecDepth 100000 in
set_option maxHeartbeats 1600000 in
theorem nought_any (g : Bool) (w : World) : Calls Try.prog 102 #[.bool g] w fun e w' => e = .returned (.agg #[.int .i64 0, .bool g, .int .u64 0, .int .u64 0, .int .i64 0, .bool false, .int .i64 0]) ∧ Below w.heap.size w w' := by
  go_enter Try.func102, Try.ntmps102
  go_wp2
  exact bodyPost_ret (v := .agg #[.int .i64 0, .bool g, .int .u64 0, .int .u64 0, .int .i64 0, .bool false, .int .i64 0]) (by simp [results, Try.results102, go_sem]) rfl ⟨rfl, (Below.refl _ _).alloc (Nat.le_refl _) _⟩
set_option maxRecDepth 100000 in
set_option maxHeartbeats 1600000 in
theorem ofSize_some (g : Bool) (s : Int) (hs : (s == 0) = false) (w : World) : Calls Try.prog 73 #[.bool g, .int .u64 s] w fun e w' => e = .returned (.agg #[.int .i64 2, .bool g, .int .u64 0, .int .u64 s, .int .i64 0, .bool false, .int .i64 0]) ∧ Below w.heap.size w w' := by
  go_enter Try.func73, Try.ntmps73
  go_wp2
  exact bodyPost_ret (v := .agg #[.int .i64 2, .bool g, .int .u64 0, .int .u64 s, .int .i64 0, .bool false, .int .i64 0]) (by simp [results, Try.results73, go_sem]) rfl ⟨rfl, (Below.refl _ _).alloc (Nat.le_refl _) _⟩
set_option maxRecDepth 100000 in
set_option maxHeartbeats 1600000 in
theorem ofSize_zero (g : Bool) (w : World) : Calls Try.prog 73 #[.bool g, .int .u64 0] w fun e w' => e = .returned (.agg #[.int .i64 0, .bool false, .int .u64 0, .int .u64 0, .int .i64 0, .bool false, .int .i64 0]) ∧ Below w.heap.size w w' := by
  have K := Blk.new w #[.int .i64 0, .bool false, .int .u64 0, .int .u64 0, .int .i64 0, .bool false, .int .i64 0] 85
  have pr : Below w.heap.size w (w.alloc (.cells #[.int .i64 0, .bool false, .int .u64 0, .int .u64 0, .int .i64 0, .bool false, .int .i64 0] 85)) := (Below.refl _ _).alloc (Nat.le_refl _) _
  go_enter Try.func73, Try.ntmps73
  go_wp2_with (first
    | (go_at_call 102; refine (nought_any false _).mono ?_; rintro x w1 ⟨rfl, b1⟩; replace K := K.below b1 K.lt; replace pr := bel pr b1; clear b1; have e0 : w1.cell? ⟨w.heap.size, 0, none⟩ = some (.int .i64 0) := K.at 0; have e1 : w1.cell? ⟨w.heap.size, 1, none⟩ = some (.bool false) := K.at 1; have e2 : w1.cell? ⟨w.heap.size, 2, none⟩ = some (.int .u64 0) := K.at 2; have e3 : w1.cell? ⟨w.heap.size, 3, none⟩ = some (.int .u64 0) := K.at 3; have e4 : w1.cell? ⟨w.heap.size, 4, none⟩ = some (.int .i64 0) := K.at 4; have e5 : w1.cell? ⟨w.heap.size, 5, none⟩ = some (.bool false) := K.at 5; have e6 : w1.cell? ⟨w.heap.size, 6, none⟩ = some (.int .i64 0) := K.at 6; have g0 := K.free 0; have g1 := K.free 1; have g2 := K.free 2; have g3 := K.free 3; have g4 := K.free 4; have g5 := K.free 5; have g6 := K.free 6)
    | fail)
  have JF : Blk (((((((w1.setCell ⟨w.heap.size, 0, none⟩ (.int .i64 0)).setCell ⟨w.heap.size, 1, none⟩ (.bool false)).setCell ⟨w.heap.size, 2, none⟩ (.int .u64 0)).setCell ⟨w.heap.size, 3, none⟩ (.int .u64 0)).setCell ⟨w.heap.size, 4, none⟩ (.int .i64 0)).setCell ⟨w.heap.size, 5, none⟩ (.bool false)).setCell ⟨w.heap.size, 6, none⟩ (.int .i64 0)) w.heap.size #[.int .i64 0, .bool false, .int .u64 0, .int .u64 0, .int .i64 0, .bool false, .int .i64 0] 85 := (blk_set (blk_set (blk_set (blk_set (blk_set (blk_set (blk_set K)))))))
  have F0 : (((((((w1.setCell ⟨w.heap.size, 0, none⟩ (.int .i64 0)).setCell ⟨w.heap.size, 1, none⟩ (.bool false)).setCell ⟨w.heap.size, 2, none⟩ (.int .u64 0)).setCell ⟨w.heap.size, 3, none⟩ (.int .u64 0)).setCell ⟨w.heap.size, 4, none⟩ (.int .i64 0)).setCell ⟨w.heap.size, 5, none⟩ (.bool false)).setCell ⟨w.heap.size, 6, none⟩ (.int .i64 0)).cell? ⟨w.heap.size, 0, none⟩ = some (.int .i64 0) := JF.at 0
  have F1 : (((((((w1.setCell ⟨w.heap.size, 0, none⟩ (.int .i64 0)).setCell ⟨w.heap.size, 1, none⟩ (.bool false)).setCell ⟨w.heap.size, 2, none⟩ (.int .u64 0)).setCell ⟨w.heap.size, 3, none⟩ (.int .u64 0)).setCell ⟨w.heap.size, 4, none⟩ (.int .i64 0)).setCell ⟨w.heap.size, 5, none⟩ (.bool false)).setCell ⟨w.heap.size, 6, none⟩ (.int .i64 0)).cell? ⟨w.heap.size, 1, none⟩ = some (.bool false) := JF.at 1
  have F2 : (((((((w1.setCell ⟨w.heap.size, 0, none⟩ (.int .i64 0)).setCell ⟨w.heap.size, 1, none⟩ (.bool false)).setCell ⟨w.heap.size, 2, none⟩ (.int .u64 0)).setCell ⟨w.heap.size, 3, none⟩ (.int .u64 0)).setCell ⟨w.heap.size, 4, none⟩ (.int .i64 0)).setCell ⟨w.heap.size, 5, none⟩ (.bool false)).setCell ⟨w.heap.size, 6, none⟩ (.int .i64 0)).cell? ⟨w.heap.size, 2, none⟩ = some (.int .u64 0) := JF.at 2
  have F3 : (((((((w1.setCell ⟨w.heap.size, 0, none⟩ (.int .i64 0)).setCell ⟨w.heap.size, 1, none⟩ (.bool false)).setCell ⟨w.heap.size, 2, none⟩ (.int .u64 0)).setCell ⟨w.heap.size, 3, none⟩ (.int .u64 0)).setCell ⟨w.heap.size, 4, none⟩ (.int .i64 0)).setCell ⟨w.heap.size, 5, none⟩ (.bool false)).setCell ⟨w.heap.size, 6, none⟩ (.int .i64 0)).cell? ⟨w.heap.size, 3, none⟩ = some (.int .u64 0) := JF.at 3
  have F4 : (((((((w1.setCell ⟨w.heap.size, 0, none⟩ (.int .i64 0)).setCell ⟨w.heap.size, 1, none⟩ (.bool false)).setCell ⟨w.heap.size, 2, none⟩ (.int .u64 0)).setCell ⟨w.heap.size, 3, none⟩ (.int .u64 0)).setCell ⟨w.heap.size, 4, none⟩ (.int .i64 0)).setCell ⟨w.heap.size, 5, none⟩ (.bool false)).setCell ⟨w.heap.size, 6, none⟩ (.int .i64 0)).cell? ⟨w.heap.size, 4, none⟩ = some (.int .i64 0) := JF.at 4
  have F5 : (((((((w1.setCell ⟨w.heap.size, 0, none⟩ (.int .i64 0)).setCell ⟨w.heap.size, 1, none⟩ (.bool false)).setCell ⟨w.heap.size, 2, none⟩ (.int .u64 0)).setCell ⟨w.heap.size, 3, none⟩ (.int .u64 0)).setCell ⟨w.heap.size, 4, none⟩ (.int .i64 0)).setCell ⟨w.heap.size, 5, none⟩ (.bool false)).setCell ⟨w.heap.size, 6, none⟩ (.int .i64 0)).cell? ⟨w.heap.size, 5, none⟩ = some (.bool false) := JF.at 5
  have F6 : (((((((w1.setCell ⟨w.heap.size, 0, none⟩ (.int .i64 0)).setCell ⟨w.heap.size, 1, none⟩ (.bool false)).setCell ⟨w.heap.size, 2, none⟩ (.int .u64 0)).setCell ⟨w.heap.size, 3, none⟩ (.int .u64 0)).setCell ⟨w.heap.size, 4, none⟩ (.int .i64 0)).setCell ⟨w.heap.size, 5, none⟩ (.bool false)).setCell ⟨w.heap.size, 6, none⟩ (.int .i64 0)).cell? ⟨w.heap.size, 6, none⟩ = some (.int .i64 0) := JF.at 6
  exact bodyPost_ret (v := .agg #[.int .i64 0, .bool false, .int .u64 0, .int .u64 0, .int .i64 0, .bool false, .int .i64 0]) (by simp [results, Try.results73, go_sem, F0, F1, F2, F3, F4, F5, F6]) rfl ⟨rfl, (bel_set (bel_set (bel_set (bel_set (bel_set (bel_set (bel_set pr (Nat.le_refl _)) (Nat.le_refl _)) (Nat.le_refl _)) (Nat.le_refl _)) (Nat.le_refl _)) (Nat.le_refl _)) (Nat.le_refl _))⟩
end Go.Proofs.Ytfpmegfdopnnpaa

namespace Go.Proofs.Ytfpmegfdopnnpaa
open Go.RowKit Tn

set_option maxRecDepth 100000 in
set_option maxHeartbeats 800000 in
theorem FSplit64 (n : Nat) (hn : n < 18446744073709551616) (w : World) :
    Calls Try.prog 8 #[.float .f64 n] w fun e w' => e = .returned (prt4 (splW n)) ∧ Below w.heap.size w w' := by
  have S := split_w n (by omega)
  generalize splW n = q at S ⊢
  obtain ⟨k, g, m, e⟩ := q
  have hb := f64bits n
  go_enter Try.func8, Try.ntmps8
  have K1 := Blk.new w #[.int .i64 0, .bool false, .int .u64 0, .int .i64 0] 25
  have pr : Below w.heap.size w (w.alloc (.cells #[.int .i64 0, .bool false, .int .u64 0, .int .i64 0] 25)) := (Below.refl _ _).alloc (Nat.le_refl _) _
  go_wp2_with (first
    | (go_at_call 40; refine (floats_any _).mono ?_; rintro e w1 ⟨rfl, b1⟩; replace K1 := K1.below b1 K1.lt; replace pr := bel pr b1; have hb1 := hb w1)
    | (go_at_call 41; refine (S _).mono ?_; rintro e w2 ⟨rfl, b2⟩; replace K1 := K1.below b2 K1.lt; replace pr := bel pr b2; have c0 : w2.cell? ⟨w.heap.size, 0, none⟩ = some (.int .i64 0) := K1.at 0; have c1 : w2.cell? ⟨w.heap.size, 1, none⟩ = some (.bool false) := K1.at 1; have c2 : w2.cell? ⟨w.heap.size, 2, none⟩ = some (.int .u64 0) := K1.at 2; have c3 : w2.cell? ⟨w.heap.size, 3, none⟩ = some (.int .i64 0) := K1.at 3; have z0 := K1.free 0; have z1 := K1.free 1; have z2 := K1.free 2; have z3 := K1.free 3)
    | fail)
  obtain ⟨F0, F1, F2, F3, FB⟩ := put4 (.int .i64 k) (.bool g) (.int .u64 m) (.int .i64 e) c0 c1 c2 c3
  exact bodyPost_ret (v := prt k g m e) (by simp [results, Try.results8, go_sem, F0, F1, F2, F3]) rfl ⟨rfl, FB _ _ (by omega) pr⟩
set_option maxRecDepth 100000 in
set_option maxHeartbeats 800000 in
theorem FJoin64 (k : Int) (g : Bool) (m e : Int) (j c : Nat) (jc : joiW (k, g, m, e) = ((j : Int), (c : Int))) (h0 : 0 ≤ m) (h1 : m < 18446744073709551616) (w : World) :
    Calls Try.prog 15 #[prt k g m e] w fun x w' => x = .returned (.tuple #[.float .f64 j, .int .i64 c]) ∧ Below w.heap.size w w' := by
  have S := join_w (k, g, m, e) h0 h1
  rw [jc] at S
  have hb := f64frombits j
  go_enter Try.func15, Try.ntmps15
  go_wp2_with fail
  have K1 := Blk.new w #[.int .i64 k, .bool g, .int .u64 m, .int .i64 e] 25
  have pr : Below w.heap.size w (w.alloc (.cells #[.int .i64 k, .bool g, .int .u64 m, .int .i64 e] 25)) := (Below.refl _ _).alloc (Nat.le_refl _) _
  generalize w.alloc (.cells #[.int .i64 k, .bool g, .int .u64 m, .int .i64 e] 25) = W at *
  have c0 : W.cell? ⟨w.heap.size, 0, none⟩ = some (.int .i64 k) := K1.at 0
  have c1 : W.cell? ⟨w.heap.size, 1, none⟩ = some (.bool g) := K1.at 1
  have c2 : W.cell? ⟨w.heap.size, 2, none⟩ = some (.int .u64 m) := K1.at 2
  have c3 : W.cell? ⟨w.heap.size, 3, none⟩ = some (.int .i64 e) := K1.at 3
  go_region_held3 (fun x => x.cell? ⟨w.heap.size, 0, none⟩ = some (.int .i64 k) ∧ x.cell? ⟨w.heap.size, 1, none⟩ = some (.bool g) ∧ x.cell? ⟨w.heap.size, 2, none⟩ = some (.int .u64 m) ∧ x.cell? ⟨w.heap.size, 3, none⟩ = some (.int .i64 e)) (go_keep) (first
    | (go_at_call 40; refine (floats_any _).mono ?_; rintro x w1 ⟨rfl, b1⟩; replace K1 := K1.below (below_undrew b1) K1.lt; replace pr := bel pr (below_undrew b1); clear b1; have c0 : w1.cell? ⟨w.heap.size, 0, none⟩ = some (.int .i64 k) := K1.at 0; have c1 : w1.cell? ⟨w.heap.size, 1, none⟩ = some (.bool g) := K1.at 1; have c2 : w1.cell? ⟨w.heap.size, 2, none⟩ = some (.int .u64 m) := K1.at 2; have c3 : w1.cell? ⟨w.heap.size, 3, none⟩ = some (.int .i64 e) := K1.at 3)
    | (go_at_call 47; refine (S _).mono ?_; rintro x w1 ⟨rfl, b1⟩; replace K1 := K1.below b1 K1.lt; replace pr := bel pr b1; clear b1; have c0 : w1.cell? ⟨w.heap.size, 0, none⟩ = some (.int .i64 k) := K1.at 0; have c1 : w1.cell? ⟨w.heap.size, 1, none⟩ = some (.bool g) := K1.at 1; have c2 : w1.cell? ⟨w.heap.size, 2, none⟩ = some (.int .u64 m) := K1.at 2; have c3 : w1.cell? ⟨w.heap.size, 3, none⟩ = some (.int .i64 e) := K1.at 3)
    | fail)
  go_wp2
  exact bodyPost_ret (v := .tuple #[.float .f64 j, .int .i64 c]) (by simp [results, Try.results15, go_sem]) rfl ⟨rfl, pr⟩
set_option maxRecDepth 100000 in
set_option maxHeartbeats 800000 in
theorem is64_yes (n : Nat) (w : World) :
    Calls Try.prog 18 #[.float .f64 n, .int .u64 n] w fun x w' => x = .returned (.bool true) ∧ w' = w := by
  have hb := f64bits n w
  go_enter Try.func18, Try.ntmps18
  go_wp2
  go_ret
  exact ⟨rfl, rfl⟩
set_option maxRecDepth 100000 in
set_option maxHeartbeats 800000 in
theorem FSplit32 (n : Nat) (hn : n < 4294967296) (w : World) :
    Calls Try.prog 12 #[.float .f32 n] w fun e w' => e = .returned (prt4 (splS n)) ∧ Below w.heap.size w w' := by
  have S := split_s n (by omega)
  generalize splS n = q at S ⊢
  obtain ⟨k, g, m, e⟩ := q
  have hb := f32bits n
  have hw : IntKind.u64.wrap (n : Int) = n := wu64 _ (by omega) (by omega)
  go_enter Try.func12, Try.ntmps12
  have K1 := Blk.new w #[.int .i64 0, .bool false, .int .u64 0, .int .i64 0] 25
  have pr : Below w.heap.size w (w.alloc (.cells #[.int .i64 0, .bool false, .int .u64 0, .int .i64 0] 25)) := (Below.refl _ _).alloc (Nat.le_refl _) _
  go_wp2_with (first
    | (go_at_call 45; refine (smallFloats_any _).mono ?_; rintro e w1 ⟨rfl, b1⟩; replace K1 := K1.below b1 K1.lt; replace pr := bel pr b1; have hb1 := hb w1)
    | (go_at_call 41; refine (S _).mono ?_; rintro e w2 ⟨rfl, b2⟩; replace K1 := K1.below b2 K1.lt; replace pr := bel pr b2; have c0 : w2.cell? ⟨w.heap.size, 0, none⟩ = some (.int .i64 0) := K1.at 0; have c1 : w2.cell? ⟨w.heap.size, 1, none⟩ = some (.bool false) := K1.at 1; have c2 : w2.cell? ⟨w.heap.size, 2, none⟩ = some (.int .u64 0) := K1.at 2; have c3 : w2.cell? ⟨w.heap.size, 3, none⟩ = some (.int .i64 0) := K1.at 3; have z0 := K1.free 0; have z1 := K1.free 1; have z2 := K1.free 2; have z3 := K1.free 3)
    | fail)
  obtain ⟨F0, F1, F2, F3, FB⟩ := put4 (.int .i64 k) (.bool g) (.int .u64 m) (.int .i64 e) c0 c1 c2 c3
  exact bodyPost_ret (v := prt k g m e) (by simp [results, Try.results12, go_sem, F0, F1, F2, F3]) rfl ⟨rfl, FB _ _ (by omega) pr⟩
set_option maxRecDepth 100000 in
set_option maxHeartbeats 800000 in
theorem FJoin32 (k : Int) (g : Bool) (m e : Int) (j c : Nat) (jc : joiS (k, g, m, e) = ((j : Int), (c : Int))) (hj : j < 4294967296) (h0 : 0 ≤ m) (h1 : m < 18446744073709551616) (w : World) :
    Calls Try.prog 16 #[prt k g m e] w fun x w' => x = .returned (.tuple #[.float .f32 j, .int .i64 c]) ∧ Below w.heap.size w w' := by
  have S := join_s (k, g, m, e) h0 h1
  rw [jc] at S
  have hb := f32frombits j
  have hw : IntKind.u32.wrap (j : Int) = (j : Int) := by simp [IntKind.wrap, IntKind.bits, IntKind.signed]; omega
  go_enter Try.func16, Try.ntmps16
  go_wp2_with fail
  have K1 := Blk.new w #[.int .i64 k, .bool g, .int .u64 m, .int .i64 e] 25
  have pr : Below w.heap.size w (w.alloc (.cells #[.int .i64 k, .bool g, .int .u64 m, .int .i64 e] 25)) := (Below.refl _ _).alloc (Nat.le_refl _) _
  generalize w.alloc (.cells #[.int .i64 k, .bool g, .int .u64 m, .int .i64 e] 25) = W at *
  have c0 : W.cell? ⟨w.heap.size, 0, none⟩ = some (.int .i64 k) := K1.at 0
  have c1 : W.cell? ⟨w.heap.size, 1, none⟩ = some (.bool g) := K1.at 1
  have c2 : W.cell? ⟨w.heap.size, 2, none⟩ = some (.int .u64 m) := K1.at 2
  have c3 : W.cell? ⟨w.heap.size, 3, none⟩ = some (.int .i64 e) := K1.at 3
  go_region_held3 (fun x => x.cell? ⟨w.heap.size, 0, none⟩ = some (.int .i64 k) ∧ x.cell? ⟨w.heap.size, 1, none⟩ = some (.bool g) ∧ x.cell? ⟨w.heap.size, 2, none⟩ = some (.int .u64 m) ∧ x.cell? ⟨w.heap.size, 3, none⟩ = some (.int .i64 e)) (go_keep) (first
    | (go_at_call 45; refine (smallFloats_any _).mono ?_; rintro x w1 ⟨rfl, b1⟩; replace K1 := K1.below (below_undrew b1) K1.lt; replace pr := bel pr (below_undrew b1); clear b1; have c0 : w1.cell? ⟨w.heap.size, 0, none⟩ = some (.int .i64 k) := K1.at 0; have c1 : w1.cell? ⟨w.heap.size, 1, none⟩ = some (.bool g) := K1.at 1; have c2 : w1.cell? ⟨w.heap.size, 2, none⟩ = some (.int .u64 m) := K1.at 2; have c3 : w1.cell? ⟨w.heap.size, 3, none⟩ = some (.int .i64 e) := K1.at 3)
    | (go_at_call 47; refine (S _).mono ?_; rintro x w1 ⟨rfl, b1⟩; replace K1 := K1.below b1 K1.lt; replace pr := bel pr b1; clear b1; have c0 : w1.cell? ⟨w.heap.size, 0, none⟩ = some (.int .i64 k) := K1.at 0; have c1 : w1.cell? ⟨w.heap.size, 1, none⟩ = some (.bool g) := K1.at 1; have c2 : w1.cell? ⟨w.heap.size, 2, none⟩ = some (.int .u64 m) := K1.at 2; have c3 : w1.cell? ⟨w.heap.size, 3, none⟩ = some (.int .i64 e) := K1.at 3)
    | fail)
  go_wp2
  exact bodyPost_ret (v := .tuple #[.float .f32 j, .int .i64 c]) (by simp [results, Try.results16, go_sem]) rfl ⟨rfl, pr⟩
set_option maxRecDepth 100000 in
set_option maxHeartbeats 800000 in
theorem is32_yes (n : Nat) (hn : n < 4294967296) (w : World) :
    Calls Try.prog 19 #[.float .f32 n, .int .u64 n] w fun x w' => x = .returned (.bool true) ∧ w' = w := by
  have hb := f32bits n w
  have hw : IntKind.u64.wrap (n : Int) = n := wu64 _ (by omega) (by omega)
  go_enter Try.func19, Try.ntmps19
  go_wp2
  go_ret
  exact ⟨rfl, rfl⟩
set_option maxRecDepth 100000 in
theorem names_any (w : World) : Calls Try.prog 7 #[] w fun x w' => x = .returned (.bool true) ∧ w' = w := by
  go_enter Try.func7, Try.ntmps7
  go_wp2
  go_ret
  exact ⟨rfl, rfl⟩

end Go.Proofs.Ytfpmegfdopnnpaa
