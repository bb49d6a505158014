import Derived.Test.YtfpmegfdopnnpaaPart21
import Derived.Test.YtfpmegfdopnnpaaPart16

namespace Go.Proofs.Ytfpmegfdopnnpaa
open Go.RowKit Tn

set_option maxRecDepth 100000 in
set_option maxHeartbeats 1600000 in
theorem take_other (n : Nat) (k m e : Int) (g : Bool) (S : ∀ w, Calls Try.prog 8 #[.float .f64 n] w fun e' w' => e' = .returned (prt k g m e) ∧ Below w.heap.size w w') (hk : (k == 1) = false) (w : World) :
    Calls Try.prog 54 #[.float .f64 n] w fun r w' => r = .returned (nmb k g 0 m e false 0) ∧ Below w.heap.size w w' := by
  have K := Blk.new w #[.int .i64 0, .bool false, .int .u64 0, .int .u64 0, .int .i64 0, .bool false, .int .i64 0] 85
  have pr : Below w.heap.size w (w.alloc (.cells #[.int .i64 0, .bool false, .int .u64 0, .int .u64 0, .int .i64 0, .bool false, .int .i64 0] 85)) := (Below.refl _ _).alloc (Nat.le_refl _) _
  go_enter Try.func54, Try.ntmps54
  go_wp2_with (first
    | (go_at_call 8; refine (S _).mono ?_; rintro r w1 ⟨rfl, b1⟩; replace K := ((K.below b1 K.lt).alloc (.cells #[.int .i64 k, .bool g, .int .u64 m, .int .i64 e] 25)).alloc (.cells #[.int .i64 k, .bool g, .int .u64 0, .int .u64 m, .int .i64 e, .bool false, .int .i64 0] 85); replace pr := bel pr b1; have hs := pr.size; replace pr := (pr.alloc pr.size (.cells #[.int .i64 k, .bool g, .int .u64 m, .int .i64 e] 25)).alloc (by simp; omega) (.cells #[.int .i64 k, .bool g, .int .u64 0, .int .u64 m, .int .i64 e, .bool false, .int .i64 0] 85); clear b1; have e0 : ((w1.alloc (.cells #[.int .i64 k, .bool g, .int .u64 m, .int .i64 e] 25)).alloc (.cells #[.int .i64 k, .bool g, .int .u64 0, .int .u64 m, .int .i64 e, .bool false, .int .i64 0] 85)).cell? ⟨w.heap.size, 0, none⟩ = some (.int .i64 0) := K.at 0; have f0 := K.free 0; have e1 : ((w1.alloc (.cells #[.int .i64 k, .bool g, .int .u64 m, .int .i64 e] 25)).alloc (.cells #[.int .i64 k, .bool g, .int .u64 0, .int .u64 m, .int .i64 e, .bool false, .int .i64 0] 85)).cell? ⟨w.heap.size, 1, none⟩ = some (.bool false) := K.at 1; have f1 := K.free 1; have e2 : ((w1.alloc (.cells #[.int .i64 k, .bool g, .int .u64 m, .int .i64 e] 25)).alloc (.cells #[.int .i64 k, .bool g, .int .u64 0, .int .u64 m, .int .i64 e, .bool false, .int .i64 0] 85)).cell? ⟨w.heap.size, 2, none⟩ = some (.int .u64 0) := K.at 2; have f2 := K.free 2; have e3 : ((w1.alloc (.cells #[.int .i64 k, .bool g, .int .u64 m, .int .i64 e] 25)).alloc (.cells #[.int .i64 k, .bool g, .int .u64 0, .int .u64 m, .int .i64 e, .bool false, .int .i64 0] 85)).cell? ⟨w.heap.size, 3, none⟩ = some (.int .u64 0) := K.at 3; have f3 := K.free 3; have e4 : ((w1.alloc (.cells #[.int .i64 k, .bool g, .int .u64 m, .int .i64 e] 25)).alloc (.cells #[.int .i64 k, .bool g, .int .u64 0, .int .u64 m, .int .i64 e, .bool false, .int .i64 0] 85)).cell? ⟨w.heap.size, 4, none⟩ = some (.int .i64 0) := K.at 4; have f4 := K.free 4; have e5 : ((w1.alloc (.cells #[.int .i64 k, .bool g, .int .u64 m, .int .i64 e] 25)).alloc (.cells #[.int .i64 k, .bool g, .int .u64 0, .int .u64 m, .int .i64 e, .bool false, .int .i64 0] 85)).cell? ⟨w.heap.size, 5, none⟩ = some (.bool false) := K.at 5; have f5 := K.free 5; have e6 : ((w1.alloc (.cells #[.int .i64 k, .bool g, .int .u64 m, .int .i64 e] 25)).alloc (.cells #[.int .i64 k, .bool g, .int .u64 0, .int .u64 m, .int .i64 e, .bool false, .int .i64 0] 85)).cell? ⟨w.heap.size, 6, none⟩ = some (.int .i64 0) := K.at 6; have f6 := K.free 6)
    | fail)
  have JF : Blk (((((((((w1.alloc (.cells #[.int .i64 k, .bool g, .int .u64 m, .int .i64 e] 25)).alloc (.cells #[.int .i64 k, .bool g, .int .u64 0, .int .u64 m, .int .i64 e, .bool false, .int .i64 0] 85)).setCell ⟨w.heap.size, 0, none⟩ (.int .i64 k)).setCell ⟨w.heap.size, 1, none⟩ (.bool g)).setCell ⟨w.heap.size, 2, none⟩ (.int .u64 0)).setCell ⟨w.heap.size, 3, none⟩ (.int .u64 m)).setCell ⟨w.heap.size, 4, none⟩ (.int .i64 e)).setCell ⟨w.heap.size, 5, none⟩ (.bool false)).setCell ⟨w.heap.size, 6, none⟩ (.int .i64 0)) w.heap.size #[.int .i64 k, .bool g, .int .u64 0, .int .u64 m, .int .i64 e, .bool false, .int .i64 0] 85 := (blk_set (blk_set (blk_set (blk_set (blk_set (blk_set (blk_set K)))))))
  have F0 : (((((((((w1.alloc (.cells #[.int .i64 k, .bool g, .int .u64 m, .int .i64 e] 25)).alloc (.cells #[.int .i64 k, .bool g, .int .u64 0, .int .u64 m, .int .i64 e, .bool false, .int .i64 0] 85)).setCell ⟨w.heap.size, 0, none⟩ (.int .i64 k)).setCell ⟨w.heap.size, 1, none⟩ (.bool g)).setCell ⟨w.heap.size, 2, none⟩ (.int .u64 0)).setCell ⟨w.heap.size, 3, none⟩ (.int .u64 m)).setCell ⟨w.heap.size, 4, none⟩ (.int .i64 e)).setCell ⟨w.heap.size, 5, none⟩ (.bool false)).setCell ⟨w.heap.size, 6, none⟩ (.int .i64 0)).cell? ⟨w.heap.size, 0, none⟩ = some (.int .i64 k) := JF.at 0
  have F1 : (((((((((w1.alloc (.cells #[.int .i64 k, .bool g, .int .u64 m, .int .i64 e] 25)).alloc (.cells #[.int .i64 k, .bool g, .int .u64 0, .int .u64 m, .int .i64 e, .bool false, .int .i64 0] 85)).setCell ⟨w.heap.size, 0, none⟩ (.int .i64 k)).setCell ⟨w.heap.size, 1, none⟩ (.bool g)).setCell ⟨w.heap.size, 2, none⟩ (.int .u64 0)).setCell ⟨w.heap.size, 3, none⟩ (.int .u64 m)).setCell ⟨w.heap.size, 4, none⟩ (.int .i64 e)).setCell ⟨w.heap.size, 5, none⟩ (.bool false)).setCell ⟨w.heap.size, 6, none⟩ (.int .i64 0)).cell? ⟨w.heap.size, 1, none⟩ = some (.bool g) := JF.at 1
  have F2 : (((((((((w1.alloc (.cells #[.int .i64 k, .bool g, .int .u64 m, .int .i64 e] 25)).alloc (.cells #[.int .i64 k, .bool g, .int .u64 0, .int .u64 m, .int .i64 e, .bool false, .int .i64 0] 85)).setCell ⟨w.heap.size, 0, none⟩ (.int .i64 k)).setCell ⟨w.heap.size, 1, none⟩ (.bool g)).setCell ⟨w.heap.size, 2, none⟩ (.int .u64 0)).setCell ⟨w.heap.size, 3, none⟩ (.int .u64 m)).setCell ⟨w.heap.size, 4, none⟩ (.int .i64 e)).setCell ⟨w.heap.size, 5, none⟩ (.bool false)).setCell ⟨w.heap.size, 6, none⟩ (.int .i64 0)).cell? ⟨w.heap.size, 2, none⟩ = some (.int .u64 0) := JF.at 2
  have F3 : (((((((((w1.alloc (.cells #[.int .i64 k, .bool g, .int .u64 m, .int .i64 e] 25)).alloc (.cells #[.int .i64 k, .bool g, .int .u64 0, .int .u64 m, .int .i64 e, .bool false, .int .i64 0] 85)).setCell ⟨w.heap.size, 0, none⟩ (.int .i64 k)).setCell ⟨w.heap.size, 1, none⟩ (.bool g)).setCell ⟨w.heap.size, 2, none⟩ (.int .u64 0)).setCell ⟨w.heap.size, 3, none⟩ (.int .u64 m)).setCell ⟨w.heap.size, 4, none⟩ (.int .i64 e)).setCell ⟨w.heap.size, 5, none⟩ (.bool false)).setCell ⟨w.heap.size, 6, none⟩ (.int .i64 0)).cell? ⟨w.heap.size, 3, none⟩ = some (.int .u64 m) := JF.at 3
  have F4 : (((((((((w1.alloc (.cells #[.int .i64 k, .bool g, .int .u64 m, .int .i64 e] 25)).alloc (.cells #[.int .i64 k, .bool g, .int .u64 0, .int .u64 m, .int .i64 e, .bool false, .int .i64 0] 85)).setCell ⟨w.heap.size, 0, none⟩ (.int .i64 k)).setCell ⟨w.heap.size, 1, none⟩ (.bool g)).setCell ⟨w.heap.size, 2, none⟩ (.int .u64 0)).setCell ⟨w.heap.size, 3, none⟩ (.int .u64 m)).setCell ⟨w.heap.size, 4, none⟩ (.int .i64 e)).setCell ⟨w.heap.size, 5, none⟩ (.bool false)).setCell ⟨w.heap.size, 6, none⟩ (.int .i64 0)).cell? ⟨w.heap.size, 4, none⟩ = some (.int .i64 e) := JF.at 4
  have F5 : (((((((((w1.alloc (.cells #[.int .i64 k, .bool g, .int .u64 m, .int .i64 e] 25)).alloc (.cells #[.int .i64 k, .bool g, .int .u64 0, .int .u64 m, .int .i64 e, .bool false, .int .i64 0] 85)).setCell ⟨w.heap.size, 0, none⟩ (.int .i64 k)).setCell ⟨w.heap.size, 1, none⟩ (.bool g)).setCell ⟨w.heap.size, 2, none⟩ (.int .u64 0)).setCell ⟨w.heap.size, 3, none⟩ (.int .u64 m)).setCell ⟨w.heap.size, 4, none⟩ (.int .i64 e)).setCell ⟨w.heap.size, 5, none⟩ (.bool false)).setCell ⟨w.heap.size, 6, none⟩ (.int .i64 0)).cell? ⟨w.heap.size, 5, none⟩ = some (.bool false) := JF.at 5
  have F6 : (((((((((w1.alloc (.cells #[.int .i64 k, .bool g, .int .u64 m, .int .i64 e] 25)).alloc (.cells #[.int .i64 k, .bool g, .int .u64 0, .int .u64 m, .int .i64 e, .bool false, .int .i64 0] 85)).setCell ⟨w.heap.size, 0, none⟩ (.int .i64 k)).setCell ⟨w.heap.size, 1, none⟩ (.bool g)).setCell ⟨w.heap.size, 2, none⟩ (.int .u64 0)).setCell ⟨w.heap.size, 3, none⟩ (.int .u64 m)).setCell ⟨w.heap.size, 4, none⟩ (.int .i64 e)).setCell ⟨w.heap.size, 5, none⟩ (.bool false)).setCell ⟨w.heap.size, 6, none⟩ (.int .i64 0)).cell? ⟨w.heap.size, 6, none⟩ = some (.int .i64 0) := JF.at 6
  exact bodyPost_ret (v := nmb k g 0 m e false 0) (by simp [results, Try.results54, go_sem, F0, F1, F2, F3, F4, F5, F6]) rfl ⟨rfl, (bel_set (bel_set (bel_set (bel_set (bel_set (bel_set (bel_set pr (Nat.le_refl _)) (Nat.le_refl _)) (Nat.le_refl _)) (Nat.le_refl _)) (Nat.le_refl _)) (Nat.le_refl _)) (Nat.le_refl _))⟩
set_option maxRecDepth 100000 in
set_option maxHeartbeats 1600000 in
theorem take_small (n : Nat) (m e : Int) (g : Bool) (S : ∀ w, Calls Try.prog 8 #[.float .f64 n] w fun e' w' => e' = .returned (prt 1 g m e) ∧ Below w.heap.size w w') (w : World) :
    Calls Try.prog 54 #[.float .f64 n] w fun r w' => r = .returned (nmb 2 g 0 m e false 0) ∧ Below w.heap.size w w' := by
  have K := Blk.new w #[.int .i64 0, .bool false, .int .u64 0, .int .u64 0, .int .i64 0, .bool false, .int .i64 0] 85
  have pr : Below w.heap.size w (w.alloc (.cells #[.int .i64 0, .bool false, .int .u64 0, .int .u64 0, .int .i64 0, .bool false, .int .i64 0] 85)) := (Below.refl _ _).alloc (Nat.le_refl _) _
  go_enter Try.func54, Try.ntmps54
  go_wp2_with (first
    | (go_at_call 8; refine (S _).mono ?_; rintro r w1 ⟨rfl, b1⟩; replace K := ((K.below b1 K.lt).alloc (.cells #[.int .i64 1, .bool g, .int .u64 m, .int .i64 e] 25)).alloc (.cells #[.int .i64 2, .bool g, .int .u64 0, .int .u64 m, .int .i64 e, .bool false, .int .i64 0] 85); replace pr := bel pr b1; have hs := pr.size; replace pr := (pr.alloc pr.size (.cells #[.int .i64 1, .bool g, .int .u64 m, .int .i64 e] 25)).alloc (by simp; omega) (.cells #[.int .i64 2, .bool g, .int .u64 0, .int .u64 m, .int .i64 e, .bool false, .int .i64 0] 85); clear b1; have e0 : ((w1.alloc (.cells #[.int .i64 1, .bool g, .int .u64 m, .int .i64 e] 25)).alloc (.cells #[.int .i64 2, .bool g, .int .u64 0, .int .u64 m, .int .i64 e, .bool false, .int .i64 0] 85)).cell? ⟨w.heap.size, 0, none⟩ = some (.int .i64 0) := K.at 0; have f0 := K.free 0; have e1 : ((w1.alloc (.cells #[.int .i64 1, .bool g, .int .u64 m, .int .i64 e] 25)).alloc (.cells #[.int .i64 2, .bool g, .int .u64 0, .int .u64 m, .int .i64 e, .bool false, .int .i64 0] 85)).cell? ⟨w.heap.size, 1, none⟩ = some (.bool false) := K.at 1; have f1 := K.free 1; have e2 : ((w1.alloc (.cells #[.int .i64 1, .bool g, .int .u64 m, .int .i64 e] 25)).alloc (.cells #[.int .i64 2, .bool g, .int .u64 0, .int .u64 m, .int .i64 e, .bool false, .int .i64 0] 85)).cell? ⟨w.heap.size, 2, none⟩ = some (.int .u64 0) := K.at 2; have f2 := K.free 2; have e3 : ((w1.alloc (.cells #[.int .i64 1, .bool g, .int .u64 m, .int .i64 e] 25)).alloc (.cells #[.int .i64 2, .bool g, .int .u64 0, .int .u64 m, .int .i64 e, .bool false, .int .i64 0] 85)).cell? ⟨w.heap.size, 3, none⟩ = some (.int .u64 0) := K.at 3; have f3 := K.free 3; have e4 : ((w1.alloc (.cells #[.int .i64 1, .bool g, .int .u64 m, .int .i64 e] 25)).alloc (.cells #[.int .i64 2, .bool g, .int .u64 0, .int .u64 m, .int .i64 e, .bool false, .int .i64 0] 85)).cell? ⟨w.heap.size, 4, none⟩ = some (.int .i64 0) := K.at 4; have f4 := K.free 4; have e5 : ((w1.alloc (.cells #[.int .i64 1, .bool g, .int .u64 m, .int .i64 e] 25)).alloc (.cells #[.int .i64 2, .bool g, .int .u64 0, .int .u64 m, .int .i64 e, .bool false, .int .i64 0] 85)).cell? ⟨w.heap.size, 5, none⟩ = some (.bool false) := K.at 5; have f5 := K.free 5; have e6 : ((w1.alloc (.cells #[.int .i64 1, .bool g, .int .u64 m, .int .i64 e] 25)).alloc (.cells #[.int .i64 2, .bool g, .int .u64 0, .int .u64 m, .int .i64 e, .bool false, .int .i64 0] 85)).cell? ⟨w.heap.size, 6, none⟩ = some (.int .i64 0) := K.at 6; have f6 := K.free 6)
    | fail)
  have JF : Blk (((((((((w1.alloc (.cells #[.int .i64 1, .bool g, .int .u64 m, .int .i64 e] 25)).alloc (.cells #[.int .i64 2, .bool g, .int .u64 0, .int .u64 m, .int .i64 e, .bool false, .int .i64 0] 85)).setCell ⟨w.heap.size, 0, none⟩ (.int .i64 2)).setCell ⟨w.heap.size, 1, none⟩ (.bool g)).setCell ⟨w.heap.size, 2, none⟩ (.int .u64 0)).setCell ⟨w.heap.size, 3, none⟩ (.int .u64 m)).setCell ⟨w.heap.size, 4, none⟩ (.int .i64 e)).setCell ⟨w.heap.size, 5, none⟩ (.bool false)).setCell ⟨w.heap.size, 6, none⟩ (.int .i64 0)) w.heap.size #[.int .i64 2, .bool g, .int .u64 0, .int .u64 m, .int .i64 e, .bool false, .int .i64 0] 85 := (blk_set (blk_set (blk_set (blk_set (blk_set (blk_set (blk_set K)))))))
  have F0 : (((((((((w1.alloc (.cells #[.int .i64 1, .bool g, .int .u64 m, .int .i64 e] 25)).alloc (.cells #[.int .i64 2, .bool g, .int .u64 0, .int .u64 m, .int .i64 e, .bool false, .int .i64 0] 85)).setCell ⟨w.heap.size, 0, none⟩ (.int .i64 2)).setCell ⟨w.heap.size, 1, none⟩ (.bool g)).setCell ⟨w.heap.size, 2, none⟩ (.int .u64 0)).setCell ⟨w.heap.size, 3, none⟩ (.int .u64 m)).setCell ⟨w.heap.size, 4, none⟩ (.int .i64 e)).setCell ⟨w.heap.size, 5, none⟩ (.bool false)).setCell ⟨w.heap.size, 6, none⟩ (.int .i64 0)).cell? ⟨w.heap.size, 0, none⟩ = some (.int .i64 2) := JF.at 0
  have F1 : (((((((((w1.alloc (.cells #[.int .i64 1, .bool g, .int .u64 m, .int .i64 e] 25)).alloc (.cells #[.int .i64 2, .bool g, .int .u64 0, .int .u64 m, .int .i64 e, .bool false, .int .i64 0] 85)).setCell ⟨w.heap.size, 0, none⟩ (.int .i64 2)).setCell ⟨w.heap.size, 1, none⟩ (.bool g)).setCell ⟨w.heap.size, 2, none⟩ (.int .u64 0)).setCell ⟨w.heap.size, 3, none⟩ (.int .u64 m)).setCell ⟨w.heap.size, 4, none⟩ (.int .i64 e)).setCell ⟨w.heap.size, 5, none⟩ (.bool false)).setCell ⟨w.heap.size, 6, none⟩ (.int .i64 0)).cell? ⟨w.heap.size, 1, none⟩ = some (.bool g) := JF.at 1
  have F2 : (((((((((w1.alloc (.cells #[.int .i64 1, .bool g, .int .u64 m, .int .i64 e] 25)).alloc (.cells #[.int .i64 2, .bool g, .int .u64 0, .int .u64 m, .int .i64 e, .bool false, .int .i64 0] 85)).setCell ⟨w.heap.size, 0, none⟩ (.int .i64 2)).setCell ⟨w.heap.size, 1, none⟩ (.bool g)).setCell ⟨w.heap.size, 2, none⟩ (.int .u64 0)).setCell ⟨w.heap.size, 3, none⟩ (.int .u64 m)).setCell ⟨w.heap.size, 4, none⟩ (.int .i64 e)).setCell ⟨w.heap.size, 5, none⟩ (.bool false)).setCell ⟨w.heap.size, 6, none⟩ (.int .i64 0)).cell? ⟨w.heap.size, 2, none⟩ = some (.int .u64 0) := JF.at 2
  have F3 : (((((((((w1.alloc (.cells #[.int .i64 1, .bool g, .int .u64 m, .int .i64 e] 25)).alloc (.cells #[.int .i64 2, .bool g, .int .u64 0, .int .u64 m, .int .i64 e, .bool false, .int .i64 0] 85)).setCell ⟨w.heap.size, 0, none⟩ (.int .i64 2)).setCell ⟨w.heap.size, 1, none⟩ (.bool g)).setCell ⟨w.heap.size, 2, none⟩ (.int .u64 0)).setCell ⟨w.heap.size, 3, none⟩ (.int .u64 m)).setCell ⟨w.heap.size, 4, none⟩ (.int .i64 e)).setCell ⟨w.heap.size, 5, none⟩ (.bool false)).setCell ⟨w.heap.size, 6, none⟩ (.int .i64 0)).cell? ⟨w.heap.size, 3, none⟩ = some (.int .u64 m) := JF.at 3
  have F4 : (((((((((w1.alloc (.cells #[.int .i64 1, .bool g, .int .u64 m, .int .i64 e] 25)).alloc (.cells #[.int .i64 2, .bool g, .int .u64 0, .int .u64 m, .int .i64 e, .bool false, .int .i64 0] 85)).setCell ⟨w.heap.size, 0, none⟩ (.int .i64 2)).setCell ⟨w.heap.size, 1, none⟩ (.bool g)).setCell ⟨w.heap.size, 2, none⟩ (.int .u64 0)).setCell ⟨w.heap.size, 3, none⟩ (.int .u64 m)).setCell ⟨w.heap.size, 4, none⟩ (.int .i64 e)).setCell ⟨w.heap.size, 5, none⟩ (.bool false)).setCell ⟨w.heap.size, 6, none⟩ (.int .i64 0)).cell? ⟨w.heap.size, 4, none⟩ = some (.int .i64 e) := JF.at 4
  have F5 : (((((((((w1.alloc (.cells #[.int .i64 1, .bool g, .int .u64 m, .int .i64 e] 25)).alloc (.cells #[.int .i64 2, .bool g, .int .u64 0, .int .u64 m, .int .i64 e, .bool false, .int .i64 0] 85)).setCell ⟨w.heap.size, 0, none⟩ (.int .i64 2)).setCell ⟨w.heap.size, 1, none⟩ (.bool g)).setCell ⟨w.heap.size, 2, none⟩ (.int .u64 0)).setCell ⟨w.heap.size, 3, none⟩ (.int .u64 m)).setCell ⟨w.heap.size, 4, none⟩ (.int .i64 e)).setCell ⟨w.heap.size, 5, none⟩ (.bool false)).setCell ⟨w.heap.size, 6, none⟩ (.int .i64 0)).cell? ⟨w.heap.size, 5, none⟩ = some (.bool false) := JF.at 5
  have F6 : (((((((((w1.alloc (.cells #[.int .i64 1, .bool g, .int .u64 m, .int .i64 e] 25)).alloc (.cells #[.int .i64 2, .bool g, .int .u64 0, .int .u64 m, .int .i64 e, .bool false, .int .i64 0] 85)).setCell ⟨w.heap.size, 0, none⟩ (.int .i64 2)).setCell ⟨w.heap.size, 1, none⟩ (.bool g)).setCell ⟨w.heap.size, 2, none⟩ (.int .u64 0)).setCell ⟨w.heap.size, 3, none⟩ (.int .u64 m)).setCell ⟨w.heap.size, 4, none⟩ (.int .i64 e)).setCell ⟨w.heap.size, 5, none⟩ (.bool false)).setCell ⟨w.heap.size, 6, none⟩ (.int .i64 0)).cell? ⟨w.heap.size, 6, none⟩ = some (.int .i64 0) := JF.at 6
  exact bodyPost_ret (v := nmb 2 g 0 m e false 0) (by simp [results, Try.results54, go_sem, F0, F1, F2, F3, F4, F5, F6]) rfl ⟨rfl, (bel_set (bel_set (bel_set (bel_set (bel_set (bel_set (bel_set pr (Nat.le_refl _)) (Nat.le_refl _)) (Nat.le_refl _)) (Nat.le_refl _)) (Nat.le_refl _)) (Nat.le_refl _)) (Nat.le_refl _))⟩
end Go.Proofs.Ytfpmegfdopnnpaa

namespace Go.Proofs.Ytfpmegfdopnnpaa
open Go.RowKit Tn

/-- Parts of a finite one or of any other. -/
def Prt (p : Int × Bool × Int × Int) : Prop := p.1 = 4 ∨ p.1 = 3 ∨ p.1 = 0 ∨ ((p.1 = 1 ∨ p.1 = 2) ∧ 0 < p.2.2.1 ∧ p.2.2.1 < 18446744073709551616 ∧ -2100 ≤ p.2.2.2 ∧ p.2.2.2 ≤ 2100)
theorem prt_w (n : Nat) : Prt (splW n) := by
  have h := splW_ok n
  unfold OkW at h
  unfold Prt
  omega
theorem laid_bd_w (g : Bool) (M e way : Int) (m0 : 0 ≤ M) (m1 : M ≤ 9007199254740992) (e0 : -1074 ≤ e) : 0 ≤ (L.laidW g M e way).1 ∧ (L.laidW g M e way).1 < 18446744073709551616 := by
  have sg : ∀ b : Int, 0 ≤ b → b < 9223372036854775808 → 0 ≤ L.sgnW g b ∧ L.sgnW g b < 18446744073709551616 := by
    intro b b0 b1
    unfold L.sgnW
    split <;> omega
  have en : ∀ m x : Int, 0 ≤ m → m < 9007199254740992 → -1074 ≤ x → 0 ≤ (L.endW g m x way).1 ∧ (L.endW g m x way).1 < 18446744073709551616 := by
    intro m x h0 h1 h2
    unfold L.endW
    by_cases c : 971 < x
    · rw [if_pos c]
      exact sg _ (by split <;> decide) (by split <;> decide)
    · rw [if_neg c]
      have b := L.layW_bd h0 h1 h2 (by omega)
      exact sg _ b.1 b.2
  unfold L.laidW
  by_cases c : M = 9007199254740992
  · rw [if_pos c]; exact en _ _ (by decide) (by decide) (by omega)
  · rw [if_neg c]; exact en _ _ m0 (by omega) e0
theorem rou_bd_w (g : Bool) (m E way : Int) (m0 : 0 < m) (m1 : m < 18446744073709551616) : 0 ≤ rouW g m E way ∧ rouW g m E way < 18446744073709551616 := by
  obtain ⟨b1, b2⟩ := L.bl_le64 m0 m1
  obtain ⟨h0, h1⟩ := raised_size m m0 m1
  unfold rouW
  have hx : L.canW m E = max (E + L.bl m - 53) (-1074) := rfl
  generalize L.canW m E = X at *
  obtain ⟨p, hp⟩ : ∃ p : Nat, p = (X - E + (64 - L.bl m : Nat)).toNat := ⟨_, rfl⟩
  rw [← hp]
  generalize m * 2 ^ (64 - L.bl m) = H at *
  obtain ⟨k1, -⟩ := cutF_1 H p false g way
  have q0 : 0 ≤ H / 2 ^ p := Int.ediv_nonneg (by omega) (Int.le_of_lt (L.two_pow_pos p))
  have q1 : H / 2 ^ p < 9007199254740992 := by
    apply Int.ediv_lt_of_lt_mul (L.two_pow_pos p)
    have := L.two_pow_le (show 11 ≤ p by omega)
    have t : (2 : Int) ^ 11 = 2048 := by decide
    omega
  exact laid_bd_w g _ X way (by omega) (by omega) (by omega)
theorem mov_bd_w (p : Int × Bool × Int × Int) (way : Int) (h : Prt p) : 0 ≤ movW p way ∧ movW p way < 18446744073709551616 := by
  unfold movW
  have sg : ∀ (g : Bool) (b : Int), 0 ≤ b → b < 9223372036854775808 → 0 ≤ L.sgnW g b ∧ L.sgnW g b < 18446744073709551616 := by
    intro g b b0 b1
    unfold L.sgnW
    split <;> omega
  by_cases a : p.1 = 4
  · rw [if_pos a]; decide
  rw [if_neg a]
  by_cases b : p.1 = 3
  · rw [if_pos b]; exact sg _ _ (by decide) (by decide)
  rw [if_neg b]
  by_cases c : p.1 = 0
  · rw [if_pos c]; exact sg _ _ (by decide) (by decide)
  rw [if_neg c]
  unfold Prt at h
  exact rou_bd_w _ _ _ _ (by omega) (by omega)
/-- The reference's Moved, from any size. -/
theorem Moved_to_w (P Lo Hi Fr b way : Int) (p : Int × Bool × Int × Int) (hp : Prt p) (S : ∀ w, Calls Try.prog 11 #[.agg #[.int .i64 P, .int .i64 Lo, .int .i64 Hi, .int .i64 Fr], .int .u64 b] w fun e w' => e = .returned (prt4 p) ∧ Below w.heap.size w w') (w : World) :
    Calls Try.prog 23 #[.int .u64 b, .agg #[.int .i64 P, .int .i64 Lo, .int .i64 Hi, .int .i64 Fr], szW, .int .i64 way] w fun r w' => r = .returned (.int .u64 (movW p way)) ∧ Below w.heap.size w w' := by
  obtain ⟨k, g, m, E⟩ := p
  unfold movW
  simp only at S ⊢
  by_cases a : k = 4
  · subst a
    rw [if_pos rfl]
    exact L.Moved_w_none P Lo Hi Fr b way m E g S w
  rw [if_neg a]
  by_cases c : k = 3
  · subst c
    rw [if_pos rfl]
    exact L.Moved_w_inf P Lo Hi Fr b way m E g S w
  rw [if_neg c]
  by_cases d : k = 0
  · subst d
    rw [if_pos rfl]
    exact L.Moved_w_nought P Lo Hi Fr b way m E g S w
  rw [if_neg d]
  unfold Prt at hp
  simp only at hp
  have m0 : 0 < m := by omega
  have m1 : m < 18446744073709551616 := by omega
  have fin : ∀ (x y : Nat), x = E.toNat → y = (-E).toNat → (∀ w, Calls Try.prog 57 #[.agg #[.int .i64 P, .int .i64 Lo, .int .i64 Hi, .int .i64 Fr], .int .u64 b] w fun r w' => ∃ u1 u2 ns ds, r = .returned (.agg #[.bool g, u1, u2]) ∧ L.Rd w' u1 ns ∧ Tl.Nm ns ∧ L.Rd w' u2 ds ∧ Tl.Nm ds ∧ L.NumOf ns ds m x y ∧ Below w.heap.size w w') →
      Calls Try.prog 23 #[.int .u64 b, .agg #[.int .i64 P, .int .i64 Lo, .int .i64 Hi, .int .i64 Fr], szW, .int .i64 way] w fun r w' => r = .returned (.int .u64 (rouW g m E way)) ∧ Below w.heap.size w w' := by
    intro x y hx hy NB
    refine (L.Moved_w_some k P Lo Hi Fr b way m E g x y S NB (by rw [beq_eq_false_iff_ne]; exact a) (by rw [beq_eq_false_iff_ne]; exact c) (by rw [beq_eq_false_iff_ne]; exact d) w).mono ?_
    rintro r w' ⟨ns, ds, e, mm, q, no, fl, c0, c1, c2, c3, rfl, bb⟩
    refine ⟨?_, bb⟩
    have hc := no.eq
    rw [hx, hy] at hc
    have he := L.can_w m0 no.d0 fl hc c0 c1 c2 c3
    obtain ⟨b1, b2⟩ := L.bl_le64 m0 m1
    have hX : L.canW m E = max (E + L.bl m - 53) (-1074) := rfl
    obtain ⟨p, hp⟩ : ∃ p : Nat, p = (L.canW m E - E + (64 - L.bl m : Nat)).toNat := ⟨_, rfl⟩
    have hr := L.rnd_w (lz := 64 - L.bl m) (p := p) g way no.d0 fl hc (by omega) (by omega)
    rw [hr, he, hp]
    rfl
  by_cases e : 0 ≤ E
  · obtain ⟨T, rfl⟩ := Int.eq_ofNat_of_zero_le e
    exact fin T 0 (by omega) (by omega) (L.Number_pos P Lo Hi Fr b k m g T S m0 m1 (by omega))
  · exact fin 0 (-E).toNat (by omega) rfl (L.Number_neg P Lo Hi Fr b k m E g (-E).toNat S m0 m1 (by omega) (by omega) (by omega))
set_option maxRecDepth 100000 in
set_option maxHeartbeats 1600000 in
/-- round, of what is no number but nought. -/
theorem round_other_w (k h l E fl way N : Int) (g mr : Bool) (hk : (k == 2) = false) (PK : ∀ w, Calls Try.prog 79 #[fmtW, prt k g 0 0] w fun e w' => e = .returned (.int .u64 N) ∧ Below w.heap.size w w') (w : World) :
    Calls Try.prog 53 #[.agg #[.int .i64 53, .int .i64 (-1074), .int .i64 971], nmb k g h l E mr fl, .int .i64 way] w fun r w' => r = .returned (.tuple #[.int .u64 N, .int .i64 0]) ∧ Below w.heap.size w w' := by
  have pr : Below w.heap.size w ((w.alloc (.cells #[.int .i64 53, .int .i64 (-1074), .int .i64 971] 72)).alloc (.cells #[.int .i64 k, .bool g, .int .u64 h, .int .u64 l, .int .i64 E, .bool mr, .int .i64 fl] 85)) := ((Below.refl _ _).alloc (Nat.le_refl _) _).alloc (by simp) _
  go_enter Try.func53, Try.ntmps53
  go_wp2_with (first
    | (go_at_call 79; refine (PK _).mono ?_; rintro r w1 ⟨rfl, b1⟩; replace pr := bel pr b1)
    | fail)
  exact bodyPost_ret (v := .tuple #[.int .u64 N, .int .i64 0]) (by simp [results, Try.results53, go_sem]) rfl ⟨rfl, pr⟩
/-- round, of what is taken of parts. -/
theorem round_parts_w (p : Int × Bool × Int × Int) (hp : Prt p) (ht : p.1 = 4 → p.2.1 = false) (way : Int) (w1 : 1 ≤ way) (w2 : way ≤ 6) (w : World) :
    Calls Try.prog 53 #[.agg #[.int .i64 53, .int .i64 (-1074), .int .i64 971], nmb (if p.1 = 1 then 2 else p.1) p.2.1 0 p.2.2.1 p.2.2.2 false 0, .int .i64 way] w fun r w' => ∃ F : Int, r = .returned (.tuple #[.int .u64 (movW p way), .int .i64 F]) ∧ Below w.heap.size w w' := by
  obtain ⟨k, g, m, E⟩ := p
  unfold Prt at hp
  unfold movW
  simp only at hp ht ⊢
  by_cases a : k = 4
  · subst a
    have := ht rfl
    subst this
    rw [if_pos rfl]
    exact (round_other_w 4 0 m E 0 way _ false false rfl (pack_ok_w (4, false, 0, 0) (by simp [OkW])) w).mono (fun r w' k => ⟨0, k⟩)
  rw [if_neg a]
  by_cases c : k = 3
  · subst c
    rw [if_pos rfl]
    have e : pckW (3, g, 0, 0) = L.sgnW g 9218868437227405312 := by cases g <;> rfl
    have PK := pack_ok_w (3, g, 0, 0) (by simp [OkW])
    rw [e] at PK
    exact (round_other_w 3 0 m E 0 way _ g false rfl PK w).mono (fun r w' k => ⟨0, k⟩)
  rw [if_neg c]
  by_cases d : k = 0
  · subst d
    rw [if_pos rfl]
    have e : pckW (0, g, 0, 0) = L.sgnW g 0 := by cases g <;> rfl
    have PK := pack_ok_w (0, g, 0, 0) (by simp [OkW])
    rw [e] at PK
    exact (round_other_w 0 0 m E 0 way _ g false rfl PK w).mono (fun r w' k => ⟨0, k⟩)
  rw [if_neg d, show (if k = 1 then (2 : Int) else k) = 2 from by split <;> omega]
  exact round_w g false way m E 0 (by omega) (by omega) (by omega) (by omega) w1 w2 w
theorem prt_s (n : Nat) : Prt (splS n) := by
  have h := splS_ok n
  unfold OkS at h
  unfold Prt
  omega
theorem laid_bd_s (g : Bool) (M e way : Int) (m0 : 0 ≤ M) (m1 : M ≤ 16777216) (e0 : -149 ≤ e) : 0 ≤ (L.laidS g M e way).1 ∧ (L.laidS g M e way).1 < 4294967296 := by
  have sg : ∀ b : Int, 0 ≤ b → b < 2147483648 → 0 ≤ L.sgnS g b ∧ L.sgnS g b < 4294967296 := by
    intro b b0 b1
    unfold L.sgnS
    split <;> omega
  have en : ∀ m x : Int, 0 ≤ m → m < 16777216 → -149 ≤ x → 0 ≤ (L.endS g m x way).1 ∧ (L.endS g m x way).1 < 4294967296 := by
    intro m x h0 h1 h2
    unfold L.endS
    by_cases c : 104 < x
    · rw [if_pos c]
      exact sg _ (by split <;> decide) (by split <;> decide)
    · rw [if_neg c]
      have b := L.layS_bd h0 h1 h2 (by omega)
      exact sg _ b.1 b.2
  unfold L.laidS
  by_cases c : M = 16777216
  · rw [if_pos c]; exact en _ _ (by decide) (by decide) (by omega)
  · rw [if_neg c]; exact en _ _ m0 (by omega) e0
theorem rou_bd_s (g : Bool) (m E way : Int) (m0 : 0 < m) (m1 : m < 18446744073709551616) : 0 ≤ rouS g m E way ∧ rouS g m E way < 4294967296 := by
  obtain ⟨b1, b2⟩ := L.bl_le64 m0 m1
  obtain ⟨h0, h1⟩ := raised_size m m0 m1
  unfold rouS
  have hx : L.canS m E = max (E + L.bl m - 24) (-149) := rfl
  generalize L.canS m E = X at *
  obtain ⟨p, hp⟩ : ∃ p : Nat, p = (X - E + (64 - L.bl m : Nat)).toNat := ⟨_, rfl⟩
  rw [← hp]
  generalize m * 2 ^ (64 - L.bl m) = H at *
  obtain ⟨k1, -⟩ := cutF_1 H p false g way
  have q0 : 0 ≤ H / 2 ^ p := Int.ediv_nonneg (by omega) (Int.le_of_lt (L.two_pow_pos p))
  have q1 : H / 2 ^ p < 16777216 := by
    apply Int.ediv_lt_of_lt_mul (L.two_pow_pos p)
    have := L.two_pow_le (show 40 ≤ p by omega)
    have t : (2 : Int) ^ 40 = 1099511627776 := by decide
    omega
  exact laid_bd_s g _ X way (by omega) (by omega) (by omega)
theorem mov_bd_s (p : Int × Bool × Int × Int) (way : Int) (h : Prt p) : 0 ≤ movS p way ∧ movS p way < 4294967296 := by
  unfold movS
  have sg : ∀ (g : Bool) (b : Int), 0 ≤ b → b < 2147483648 → 0 ≤ L.sgnS g b ∧ L.sgnS g b < 4294967296 := by
    intro g b b0 b1
    unfold L.sgnS
    split <;> omega
  by_cases a : p.1 = 4
  · rw [if_pos a]; decide
  rw [if_neg a]
  by_cases b : p.1 = 3
  · rw [if_pos b]; exact sg _ _ (by decide) (by decide)
  rw [if_neg b]
  by_cases c : p.1 = 0
  · rw [if_pos c]; exact sg _ _ (by decide) (by decide)
  rw [if_neg c]
  unfold Prt at h
  exact rou_bd_s _ _ _ _ (by omega) (by omega)
/-- The reference's Moved, from any size. -/
theorem Moved_to_s (P Lo Hi Fr b way : Int) (p : Int × Bool × Int × Int) (hp : Prt p) (S : ∀ w, Calls Try.prog 11 #[.agg #[.int .i64 P, .int .i64 Lo, .int .i64 Hi, .int .i64 Fr], .int .u64 b] w fun e w' => e = .returned (prt4 p) ∧ Below w.heap.size w w') (w : World) :
    Calls Try.prog 23 #[.int .u64 b, .agg #[.int .i64 P, .int .i64 Lo, .int .i64 Hi, .int .i64 Fr], szS, .int .i64 way] w fun r w' => r = .returned (.int .u64 (movS p way)) ∧ Below w.heap.size w w' := by
  obtain ⟨k, g, m, E⟩ := p
  unfold movS
  simp only at S ⊢
  by_cases a : k = 4
  · subst a
    rw [if_pos rfl]
    exact L.Moved_s_none P Lo Hi Fr b way m E g S w
  rw [if_neg a]
  by_cases c : k = 3
  · subst c
    rw [if_pos rfl]
    exact L.Moved_s_inf P Lo Hi Fr b way m E g S w
  rw [if_neg c]
  by_cases d : k = 0
  · subst d
    rw [if_pos rfl]
    exact L.Moved_s_nought P Lo Hi Fr b way m E g S w
  rw [if_neg d]
  unfold Prt at hp
  simp only at hp
  have m0 : 0 < m := by omega
  have m1 : m < 18446744073709551616 := by omega
  have fin : ∀ (x y : Nat), x = E.toNat → y = (-E).toNat → (∀ w, Calls Try.prog 57 #[.agg #[.int .i64 P, .int .i64 Lo, .int .i64 Hi, .int .i64 Fr], .int .u64 b] w fun r w' => ∃ u1 u2 ns ds, r = .returned (.agg #[.bool g, u1, u2]) ∧ L.Rd w' u1 ns ∧ Tl.Nm ns ∧ L.Rd w' u2 ds ∧ Tl.Nm ds ∧ L.NumOf ns ds m x y ∧ Below w.heap.size w w') →
      Calls Try.prog 23 #[.int .u64 b, .agg #[.int .i64 P, .int .i64 Lo, .int .i64 Hi, .int .i64 Fr], szS, .int .i64 way] w fun r w' => r = .returned (.int .u64 (rouS g m E way)) ∧ Below w.heap.size w w' := by
    intro x y hx hy NB
    refine (L.Moved_s_some k P Lo Hi Fr b way m E g x y S NB (by rw [beq_eq_false_iff_ne]; exact a) (by rw [beq_eq_false_iff_ne]; exact c) (by rw [beq_eq_false_iff_ne]; exact d) w).mono ?_
    rintro r w' ⟨ns, ds, e, mm, q, no, fl, c0, c1, c2, c3, rfl, bb⟩
    refine ⟨?_, bb⟩
    have hc := no.eq
    rw [hx, hy] at hc
    have he := L.can_s m0 no.d0 fl hc c0 c1 c2 c3
    obtain ⟨b1, b2⟩ := L.bl_le64 m0 m1
    have hX : L.canS m E = max (E + L.bl m - 24) (-149) := rfl
    obtain ⟨p, hp⟩ : ∃ p : Nat, p = (L.canS m E - E + (64 - L.bl m : Nat)).toNat := ⟨_, rfl⟩
    have hr := L.rnd_s (lz := 64 - L.bl m) (p := p) g way no.d0 fl hc (by omega) (by omega)
    rw [hr, he, hp]
    rfl
  by_cases e : 0 ≤ E
  · obtain ⟨T, rfl⟩ := Int.eq_ofNat_of_zero_le e
    exact fin T 0 (by omega) (by omega) (L.Number_pos P Lo Hi Fr b k m g T S m0 m1 (by omega))
  · exact fin 0 (-E).toNat (by omega) rfl (L.Number_neg P Lo Hi Fr b k m E g (-E).toNat S m0 m1 (by omega) (by omega) (by omega))
set_option maxRecDepth 100000 in
set_option maxHeartbeats 1600000 in
/-- round, of what is no number but nought. -/
theorem round_other_s (k h l E fl way N : Int) (g mr : Bool) (hk : (k == 2) = false) (PK : ∀ w, Calls Try.prog 79 #[fmtS, prt k g 0 0] w fun e w' => e = .returned (.int .u64 N) ∧ Below w.heap.size w w') (w : World) :
    Calls Try.prog 53 #[.agg #[.int .i64 24, .int .i64 (-149), .int .i64 104], nmb k g h l E mr fl, .int .i64 way] w fun r w' => r = .returned (.tuple #[.int .u64 N, .int .i64 0]) ∧ Below w.heap.size w w' := by
  have pr : Below w.heap.size w ((w.alloc (.cells #[.int .i64 24, .int .i64 (-149), .int .i64 104] 72)).alloc (.cells #[.int .i64 k, .bool g, .int .u64 h, .int .u64 l, .int .i64 E, .bool mr, .int .i64 fl] 85)) := ((Below.refl _ _).alloc (Nat.le_refl _) _).alloc (by simp) _
  go_enter Try.func53, Try.ntmps53
  go_wp2_with (first
    | (go_at_call 79; refine (PK _).mono ?_; rintro r w1 ⟨rfl, b1⟩; replace pr := bel pr b1)
    | fail)
  exact bodyPost_ret (v := .tuple #[.int .u64 N, .int .i64 0]) (by simp [results, Try.results53, go_sem]) rfl ⟨rfl, pr⟩
/-- round, of what is taken of parts. -/
theorem round_parts_s (p : Int × Bool × Int × Int) (hp : Prt p) (ht : p.1 = 4 → p.2.1 = false) (way : Int) (w1 : 1 ≤ way) (w2 : way ≤ 6) (w : World) :
    Calls Try.prog 53 #[.agg #[.int .i64 24, .int .i64 (-149), .int .i64 104], nmb (if p.1 = 1 then 2 else p.1) p.2.1 0 p.2.2.1 p.2.2.2 false 0, .int .i64 way] w fun r w' => ∃ F : Int, r = .returned (.tuple #[.int .u64 (movS p way), .int .i64 F]) ∧ Below w.heap.size w w' := by
  obtain ⟨k, g, m, E⟩ := p
  unfold Prt at hp
  unfold movS
  simp only at hp ht ⊢
  by_cases a : k = 4
  · subst a
    have := ht rfl
    subst this
    rw [if_pos rfl]
    exact (round_other_s 4 0 m E 0 way _ false false rfl (pack_ok_s (4, false, 0, 0) (by simp [OkS])) w).mono (fun r w' k => ⟨0, k⟩)
  rw [if_neg a]
  by_cases c : k = 3
  · subst c
    rw [if_pos rfl]
    have e : pckS (3, g, 0, 0) = L.sgnS g 2139095040 := by cases g <;> rfl
    have PK := pack_ok_s (3, g, 0, 0) (by simp [OkS])
    rw [e] at PK
    exact (round_other_s 3 0 m E 0 way _ g false rfl PK w).mono (fun r w' k => ⟨0, k⟩)
  rw [if_neg c]
  by_cases d : k = 0
  · subst d
    rw [if_pos rfl]
    have e : pckS (0, g, 0, 0) = L.sgnS g 0 := by cases g <;> rfl
    have PK := pack_ok_s (0, g, 0, 0) (by simp [OkS])
    rw [e] at PK
    exact (round_other_s 0 0 m E 0 way _ g false rfl PK w).mono (fun r w' k => ⟨0, k⟩)
  rw [if_neg d, show (if k = 1 then (2 : Int) else k) = 2 from by split <;> omega]
  exact round_s g false way m E 0 (by omega) (by omega) (by omega) (by omega) w1 w2 w
theorem splW_4 (n : Nat) : (splW n).1 = 4 → (splW n).2.1 = false := by
  have h := splW_ok n
  unfold OkW at h
  intro k
  rcases h with h | h | h | h | h
  · exfalso; omega
  · exfalso; omega
  · exfalso; omega
  · exfalso; omega
  · exact h.2.1
theorem take_any (n : Nat) (hn : n < 18446744073709551616) (w : World) :
    Calls Try.prog 54 #[.float .f64 n] w fun r w' => r = .returned (nmb (if (splW n).1 = 1 then 2 else (splW n).1) (splW n).2.1 0 (splW n).2.2.1 (splW n).2.2.2 false 0) ∧ Below w.heap.size w w' := by
  have S := FSplit64 n hn
  generalize splW n = p at *
  obtain ⟨k, g, m, e⟩ := p
  simp only at S ⊢
  by_cases c : k = 1
  · subst c
    exact take_small n m e g S w
  · rw [if_neg c]
    exact take_other n k m e g S (by rw [beq_eq_false_iff_ne]; exact c) w
end Go.Proofs.Ytfpmegfdopnnpaa

namespace Go.Proofs.Ytfpmegfdopnnpaa
open Go.RowKit Tn

theorem way_cases (P : Int → Prop) (yes : ∀ way, 1 ≤ way → way ≤ 6 → P way) (low : ∀ way, way < 1 → P way) (high : ∀ way, 6 < way → P way) (way : Int) : P way := by
  by_cases a : 1 ≤ way
  · by_cases b : way ≤ 6
    · exact yes way a b
    · exact high way (by omega)
  · exact low way (by omega)
theorem IsWay_no (way : Int) (h : ¬ (1 ≤ way ∧ way ≤ 6)) (w : World) : Calls Try.prog 52 #[.int .i64 way] w fun e w' => e = .returned (.bool false) ∧ w' = w := by
  by_cases a : way < 1
  · exact IsWay_low way a w
  · exact IsWay_high way (by omega) w
theorem Mode_no (way : Int) (h : ¬ (1 ≤ way ∧ way ≤ 6)) (w : World) : Calls Try.prog 55 #[.int .i64 way] w fun e w' => e = .returned (.bool false) ∧ w' = w := by
  by_cases a : way < 1
  · exact L.Mode_low way a w
  · exact L.Mode_high way (by omega) w
set_option maxRecDepth 100000 in
set_option maxHeartbeats 1600000 in
theorem Narrow_no (n : Nat) (way : Int) (I : ∀ w, Calls Try.prog 52 #[.int .i64 way] w fun e w' => e = .returned (.bool false) ∧ w' = w) (w : World) :
    Calls Try.prog 20 #[.float .f64 n, .int .i64 way] w fun r w' => r = .returned (.tuple #[.float .f32 0, .int .i64 1]) ∧ Below w.heap.size w w' := by
  go_enter Try.func20, Try.ntmps20
  go_wp2_with (first
    | (go_at_call 52; refine (I _).mono ?_; rintro r w1 ⟨rfl, rfl⟩)
    | fail)
  exact bodyPost_ret (v := .tuple #[.float .f32 0, .int .i64 1]) (by simp [results, Try.results20, go_sem]) rfl ⟨rfl, Below.refl _ _⟩
set_option maxRecDepth 100000 in
set_option maxHeartbeats 1600000 in
theorem Narrow_ex (n N : Nat) (way : Int) (v : Value) (hN : N < 4294967296) (I : ∀ w, Calls Try.prog 52 #[.int .i64 way] w fun e w' => e = .returned (.bool true) ∧ w' = w)
    (T : ∀ w, Calls Try.prog 54 #[.float .f64 n] w fun r w' => r = .returned v ∧ Below w.heap.size w w')
    (R : ∀ w, Calls Try.prog 53 #[fmtS, v, .int .i64 way] w fun r w' => ∃ F : Int, r = .returned (.tuple #[.int .u64 N, .int .i64 F]) ∧ Below w.heap.size w w') (w : World) :
    Calls Try.prog 20 #[.float .f64 n, .int .i64 way] w fun r w' => r = .returned (.tuple #[.float .f32 N, .int .i64 0]) ∧ Below w.heap.size w w' := by
  have hw : IntKind.u32.wrap (N : Int) = (N : Int) := by simp [IntKind.wrap, IntKind.bits, IntKind.signed]; omega
  have hb := f32frombits N
  have pr := Below.refl w.heap.size w
  go_enter Try.func20, Try.ntmps20
  go_wp2_with (first
    | (go_at_call 52; refine (I _).mono ?_; rintro r w1 ⟨rfl, rfl⟩)
    | (go_at_call 45; refine (smallFloats_any _).mono ?_; rintro r w2 ⟨rfl, b2⟩; replace pr := bel pr b2; clear b2)
    | (go_at_call 54; refine (T _).mono ?_; rintro r w3 ⟨rfl, b3⟩; replace pr := bel pr b3; clear b3)
    | (go_at_call 53; refine (R _).mono ?_; rintro r w4 ⟨F, rfl, b4⟩; replace pr := bel pr b4; clear b4)
    | fail)
  exact bodyPost_ret (v := .tuple #[.float .f32 N, .int .i64 0]) (by simp [results, Try.results20, go_sem]) rfl ⟨rfl, pr⟩
set_option maxRecDepth 100000 in
set_option maxHeartbeats 1600000 in
theorem RNarrow_no (b way : Int) (M : ∀ w, Calls Try.prog 55 #[.int .i64 way] w fun e w' => e = .returned (.bool false) ∧ w' = w) (w : World) :
    Calls Try.prog 21 #[.int .u64 b, .int .i64 way] w fun r w' => r = .returned (.tuple #[.int .u64 0, .int .i64 1]) ∧ Below w.heap.size w w' := by
  go_enter Try.func21, Try.ntmps21
  go_wp2_with (first
    | (go_at_call 55; refine (M _).mono ?_; rintro r w1 ⟨rfl, rfl⟩)
    | fail)
  exact bodyPost_ret (v := .tuple #[.int .u64 0, .int .i64 1]) (by simp [results, Try.results21, go_sem]) rfl ⟨rfl, Below.refl _ _⟩
set_option maxRecDepth 100000 in
set_option maxHeartbeats 1600000 in
theorem RNarrow_yes (b way N : Int) (M : ∀ w, Calls Try.prog 55 #[.int .i64 way] w fun e w' => e = .returned (.bool true) ∧ w' = w)
    (V : ∀ w, Calls Try.prog 23 #[.int .u64 b, szW, szS, .int .i64 way] w fun r w' => r = .returned (.int .u64 N) ∧ Below w.heap.size w w') (w : World) :
    Calls Try.prog 21 #[.int .u64 b, .int .i64 way] w fun r w' => r = .returned (.tuple #[.int .u64 N, .int .i64 0]) ∧ Below w.heap.size w w' := by
  have pr := Below.refl w.heap.size w
  go_enter Try.func21, Try.ntmps21
  go_wp2_with (first
    | (go_at_call 55; refine (M _).mono ?_; rintro r w1 ⟨rfl, rfl⟩)
    | (go_at_call 10; refine (Wide_any _).mono ?_; rintro r w2 ⟨rfl, b2⟩; replace pr := bel pr b2; clear b2)
    | (go_at_call 14; refine (Small_any _).mono ?_; rintro r w3 ⟨rfl, b3⟩; replace pr := bel pr b3; clear b3)
    | (go_at_call 23; refine (V _).mono ?_; rintro r w4 ⟨rfl, b4⟩; replace pr := bel pr b4; clear b4)
    | fail)
  exact bodyPost_ret (v := .tuple #[.int .u64 N, .int .i64 0]) (by simp [results, Try.results21, go_sem]) rfl ⟨rfl, pr⟩
set_option maxRecDepth 100000 in
theorem Widen_num (x r : Nat) (h : floatToFloatBits .f32 x .f64 = some r) (w : World) :
    Calls Try.prog 22 #[.float .f32 x] w fun e w' => e = .returned (.float .f64 r) ∧ Below w.heap.size w w' := by
  have hc : ∀ w, (convert 35 28 (.float .f32 x)).run Try.prog w = .ok (.float .f64 r) w := fun w => run_convert_float_float w 35 28 .f32 .f64 x r (by rw [Try.underlying35]; rfl) Try.underlying28 h
  go_enter Try.func22, Try.ntmps22
  go_wp2_with (simp only [hc])
  go_ret
  exact ⟨rfl, Below.refl _ _⟩
theorem nan_cut (t : Nat) : t % 2 * 2 ^ 63 + 9218868437227405312 + 1 + t / 2 % (2 ^ 52 - 1) < 18446744073709551616 ∧ nan64 (t % 2 * 2 ^ 63 + 9218868437227405312 + 1 + t / 2 % (2 ^ 52 - 1)) = true := by
  have e1 : (2 : Nat) ^ 63 = 9223372036854775808 := by decide
  have e2 : (2 : Nat) ^ 52 - 1 = 4503599627370495 := by decide
  rw [e1, e2]
  have h := Nat.mod_lt (t / 2) (show 0 < 4503599627370495 by decide)
  generalize t / 2 % 4503599627370495 = a at *
  unfold nan64 rg64
  rw [decide_eq_true_eq]
  omega
theorem conv_nan (x : Nat) (h : (splS x).1 = 4) (w : World) : ∃ r : Nat, r < 18446744073709551616 ∧ nan64 r = true ∧ (convert 35 28 (.float .f32 x)).run Try.prog w = .ok (.float .f64 r) w.drew := by
  have rd : FloatKind.f32.decode x = Ieee.single.read x := rfl
  have f1 : fdS x < 256 := Nat.mod_lt _ (by decide)
  have f2 : frS x < 8388608 := Nat.mod_lt _ (by decide)
  have d1 : x % 2147483648 = fdS x * 8388608 + frS x := by unfold fdS frS; omega
  have a : fdS x = 255 ∧ frS x ≠ 0 := by
    unfold splS at h
    by_cases a : fdS x = 255
    · refine ⟨a, fun b => ?_⟩
      rw [if_pos a, if_pos b] at h; simp at h
    · rw [if_neg a] at h
      split at h
      · split at h <;> simp at h
      · simp at h
  rw [read32, if_neg (by omega), if_neg (by omega), if_neg (by omega)] at rd
  have n := nan_cut (w.tape w.drawn (.nanConv .f64 x))
  refine ⟨_, n.1, n.2, ?_⟩
  simp [convert, run_underlying Try.underlying35, run_underlying Try.underlying28, Conv.floatToFloat, rd]
  rfl
set_option maxRecDepth 100000 in
theorem Widen_nan (x : Nat) (h : (splS x).1 = 4) (w : World) :
    Calls Try.prog 22 #[.float .f32 x] w fun e w' => ∃ r : Nat, (r < 18446744073709551616 ∧ nan64 r = true) ∧ e = .returned (.float .f64 r) ∧ Below w.heap.size w w' := by
  obtain ⟨r, r1, r2, hc⟩ := conv_nan x h w
  go_enter Try.func22, Try.ntmps22
  go_wp2_with (simp only [hc])
  go_ret
  exact ⟨r, ⟨r1, r2⟩, rfl, (Below.refl _ _).drew⟩
set_option maxRecDepth 100000 in
set_option maxHeartbeats 800000 in
theorem is64_nan (n m : Nat) (hm : m < 18446744073709551616) (h1 : nan64 n = true) (h2 : nan64 m = true) (w : World) :
    Calls Try.prog 18 #[.float .f64 n, .int .u64 m] w fun x w' => x = .returned (.bool true) ∧ Below w.heap.size w w' := by
  by_cases c : n = m
  · subst c
    exact (is64_yes n w).mono (fun x w' k => ⟨k.1, by rw [k.2]; exact Below.refl _ _⟩)
  · have hb := f64bits n w
    have ho := order_self n
    rw [h1] at ho
    have N := IsNone64 m hm
    rw [h2] at N
    have hc : ((n : Int) == (m : Int)) = false := by rw [beq_eq_false_iff_ne]; omega
    clear c h1 h2
    have pr := Below.refl w.heap.size w
    go_enter Try.func18, Try.ntmps18
    go_wp2_with (first
      | (go_at_call 10; refine (Wide_any _).mono ?_; rintro r w2 ⟨rfl, b2⟩; replace pr := bel pr b2; clear b2)
      | (go_at_call 51; refine (N _).mono ?_; rintro r w3 ⟨rfl, b3⟩; replace pr := bel pr b3; clear b3)
      | fail)
    go_ret
    exact ⟨rfl, pr⟩
end Go.Proofs.Ytfpmegfdopnnpaa

namespace Go.Proofs.Ytfpmegfdopnnpaa
open Go.RowKit Tn

set_option maxRecDepth 100000 in
set_option maxHeartbeats 3200000 in
theorem narrows_walk (b c x : Nat) (way e N : Int) (hx : x < 4294967296) (hc : c < 4294967296) (ok : Nat → Prop)
    (h1 : ∀ w, Calls Try.prog 20 #[.float .f64 b, .int .i64 way] w fun r w' => r = .returned (.tuple #[.float .f32 x, .int .i64 e]) ∧ Below w.heap.size w w')
    (h2 : ∀ w, Calls Try.prog 21 #[.int .u64 b, .int .i64 way] w fun r w' => r = .returned (.tuple #[.int .u64 x, .int .i64 e]) ∧ Below w.heap.size w w')
    (h3 : ∀ w, Calls Try.prog 22 #[.float .f32 c] w fun r w' => ∃ q : Nat, ok q ∧ r = .returned (.float .f64 q) ∧ Below w.heap.size w w')
    (h4 : ∀ w, Calls Try.prog 23 #[.int .u64 c, szS, szW, .int .i64 1] w fun r w' => r = .returned (.int .u64 N) ∧ Below w.heap.size w w')
    (h5 : ∀ q, ok q → ∀ w, Calls Try.prog 18 #[.float .f64 q, .int .u64 N] w fun r w' => r = .returned (.bool true) ∧ Below w.heap.size w w') (w : World) :
    Calls Try.prog 4 #[.int .u64 b, .int .u32 c, .int .i64 way] w fun r w' => r = .returned (.bool true) ∧ Below w.heap.size w w' := by
  have f1 := f64frombits b
  have f2 := f32frombits c
  have i1 := is32_yes x hx
  have hw : IntKind.u64.wrap (c : Int) = c := wu64 _ (by omega) (by omega)
  have h6 := Widen_num 1056964608 4602678819172646912 (by kernel_rfl)
  have ho : (FloatKind.f64.format.order 4602678819172646912 4602678819172646912 == some Ordering.eq) = true := by kernel_rfl
  have pr := Below.refl w.heap.size w
  go_enter Try.func4, Try.ntmps4
  go_wp2_with (first
    | (go_at_call 20; (with_reducible refine (h1 _).mono ?_); rintro r w1 ⟨rfl, b1⟩; replace pr := bel pr b1; clear b1)
    | (go_at_call 21; (with_reducible refine (h2 _).mono ?_); rintro r w1 ⟨rfl, b1⟩; replace pr := bel pr b1; clear b1)
    | (go_at_call 19; (with_reducible refine (i1 _).mono ?_); rintro r w1 ⟨rfl, rfl⟩)
    | (go_at_call 22; (with_reducible refine (h3 _).mono ?_); rintro r w1 ⟨q, hq, rfl, b1⟩; replace pr := bel pr b1; clear b1)
    | (go_at_call 22; (with_reducible refine (h6 _).mono ?_); rintro r w1 ⟨rfl, b1⟩; replace pr := bel pr b1; clear b1)
    | (go_at_call 14; (with_reducible refine (Small_any _).mono ?_); rintro r w1 ⟨rfl, b1⟩; replace pr := bel pr b1; clear b1)
    | (go_at_call 10; (with_reducible refine (Wide_any _).mono ?_); rintro r w1 ⟨rfl, b1⟩; replace pr := bel pr b1; clear b1)
    | (go_at_call 23; (with_reducible refine (h4 _).mono ?_); rintro r w1 ⟨rfl, b1⟩; replace pr := bel pr b1; clear b1)
    | (go_at_call 18; (with_reducible refine (h5 q hq _).mono ?_); rintro r w1 ⟨rfl, b1⟩; replace pr := bel pr b1; clear b1)
    | fail)
  go_ret
  exact ⟨rfl, pr⟩
theorem narrows_any (b c : Nat) (way : Int) (hb : b < 18446744073709551616) (hc : c < 4294967296) (w : World) :
    Calls Try.prog 4 #[.int .u64 b, .int .u32 c, .int .i64 way] w fun r w' => r = .returned (.bool true) ∧ Below w.heap.size w w' := by
  have pc := prt_s c
  have pb := prt_w b
  have V := Moved_to_w 24 (-149) 104 23 c 1 (splS c) pc (Split_s c (by omega))
  have bd := mov_bd_w (splS c) 1 pc
  obtain ⟨ok, h3, h5⟩ : ∃ ok : Nat → Prop, (∀ w, Calls Try.prog 22 #[.float .f32 c] w fun r w' => ∃ q : Nat, ok q ∧ r = .returned (.float .f64 q) ∧ Below w.heap.size w w') ∧ (∀ q, ok q → ∀ w, Calls Try.prog 18 #[.float .f64 q, .int .u64 (movW (splS c) 1)] w fun r w' => r = .returned (.bool true) ∧ Below w.heap.size w w') := by
    by_cases k : (splS c).1 = 4
    · refine ⟨fun q => q < 18446744073709551616 ∧ nan64 q = true, Widen_nan c k, ?_⟩
      intro q hq w
      have e : movW (splS c) 1 = ((9221120237041090560 : Nat) : Int) := by unfold movW; rw [if_pos k]; rfl
      rw [e]
      exact is64_nan q _ (by decide) hq.2 (by decide) w
    · obtain ⟨d0, d1, d2⟩ := widen_bits c k 1
      refine ⟨fun q => q = (movW (splS c) 1).toNat, fun w => (Widen_num c _ d2 w).mono (fun r w' h => ⟨_, rfl, h⟩), ?_⟩
      rintro q rfl w
      have := is64_yes (movW (splS c) 1).toNat w
      rw [Int.toNat_of_nonneg d0] at this
      exact this.mono (fun x w' k => ⟨k.1, by rw [k.2]; exact Below.refl _ _⟩)
  by_cases hw : 1 ≤ way ∧ way ≤ 6
  · have sb := mov_bd_s (splW b) way pb
    obtain ⟨N, hN⟩ := Int.eq_ofNat_of_zero_le sb.1
    have R := round_parts_s (splW b) pb (splW_4 b) way hw.1 hw.2
    have M := Moved_to_s 53 (-1074) 971 52 b way (splW b) pb (Split_w b hb)
    rw [hN] at sb R M
    have h1 : ∀ w, Calls Try.prog 20 #[.float .f64 b, .int .i64 way] w fun r w' => r = .returned (.tuple #[.float .f32 N, .int .i64 0]) ∧ Below w.heap.size w w' := fun w => Narrow_ex b N way _ (by omega) (IsWay_yes way hw.1 hw.2) (take_any b hb) R w
    exact narrows_walk b c N way 0 _ (by omega) hc ok h1 (RNarrow_yes b way N (L.Mode_yes way hw.1 hw.2) M) h3 V h5 w
  · exact narrows_walk b c 0 way 1 _ (by decide) hc ok (Narrow_no b way (IsWay_no way hw)) (RNarrow_no b way (Mode_no way hw)) h3 V h5 w
end Go.Proofs.Ytfpmegfdopnnpaa
