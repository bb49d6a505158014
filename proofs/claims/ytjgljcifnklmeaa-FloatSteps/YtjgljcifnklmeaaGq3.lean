import Derived.Test.YtjgljcifnklmeaaGq2
import Derived.Test.YtjgljcifnklmeaaFl11
namespace Go.Proofs.Ytjgljcifnklmeaa
open Go.RowKit Tn

theorem field_least (w : World) : (Instr.field 72 (.agg #[.int .i64 53, .int .i64 (-1074), .int .i64 971]) 1).run Try.prog w = .ok (.int .i64 (-1074)) w := by
  simp [Instr.field, run_underlying Try.underlying72, asAgg, part, Try.sizeOf3, go_sem]
set_option maxRecDepth 100000 in
set_option maxHeartbeats 1600000 in
theorem isFinite_yes (k : Int) (g : Bool) (m e : Int) (h3 : (k != 3) = true) (h4 : (k != 4) = true) (w : World) : Calls Try.prog 65 #[.agg #[.int .i64 k, .bool g, .int .u64 m, .int .i64 e]] w fun e w' => e = .returned (.bool true) ∧ Below w.heap.size w w' := by
  go_enter Try.func65, Try.ntmps65
  go_wp2
  go_ret
  exact ⟨rfl, (Below.refl _ _).alloc (Nat.le_refl _) _⟩
set_option maxRecDepth 100000 in
set_option maxHeartbeats 1600000 in
theorem isFinite_no3 (k : Int) (g : Bool) (m e : Int) (h3 : (k != 3) = false) (w : World) : Calls Try.prog 65 #[.agg #[.int .i64 k, .bool g, .int .u64 m, .int .i64 e]] w fun e w' => e = .returned (.bool false) ∧ Below w.heap.size w w' := by
  go_enter Try.func65, Try.ntmps65
  go_wp2
  go_ret
  exact ⟨rfl, (Below.refl _ _).alloc (Nat.le_refl _) _⟩
set_option maxRecDepth 100000 in
set_option maxHeartbeats 1600000 in
theorem isFinite_no4 (k : Int) (g : Bool) (m e : Int) (h3 : (k != 3) = true) (h4 : (k != 4) = false) (w : World) : Calls Try.prog 65 #[.agg #[.int .i64 k, .bool g, .int .u64 m, .int .i64 e]] w fun e w' => e = .returned (.bool false) ∧ Below w.heap.size w w' := by
  go_enter Try.func65, Try.ntmps65
  go_wp2
  go_ret
  exact ⟨rfl, (Below.refl _ _).alloc (Nat.le_refl _) _⟩
set_option maxRecDepth 100000 in
set_option maxHeartbeats 1600000 in
theorem FGap_no (n : Nat) (k : Int) (g : Bool) (m e : Int) (S : ∀ w, Calls Try.prog 8 #[.float .f64 n] w fun x w' => x = .returned (.agg #[.int .i64 k, .bool g, .int .u64 m, .int .i64 e]) ∧ Below w.heap.size w w') (F : ∀ w, Calls Try.prog 65 #[.agg #[.int .i64 k, .bool g, .int .u64 m, .int .i64 e]] w fun x w' => x = .returned (.bool false) ∧ Below w.heap.size w w') (w : World) : Calls Try.prog 34 #[.float .f64 n] w fun x w' => x = .returned (.tuple #[.float .f64 0, .bool false]) ∧ Below w.heap.size w w' := by
  go_enter Try.func34, Try.ntmps34
  go_wp2_with (first
    | (go_at_call 8; refine (S _).mono ?_; rintro x w1 ⟨rfl, b1⟩; have pr := b1; clear b1; have m0 := Blk.new w1 #[.int .i64 k, .bool g, .int .u64 m, .int .i64 e] 25; have q0 : (w1.alloc (.cells #[.int .i64 k, .bool g, .int .u64 m, .int .i64 e] 25)).cell? ⟨w1.heap.size, 0, none⟩ = some (.int .i64 k) := m0.at 0; have q1 : (w1.alloc (.cells #[.int .i64 k, .bool g, .int .u64 m, .int .i64 e] 25)).cell? ⟨w1.heap.size, 1, none⟩ = some (.bool g) := m0.at 1; have q2 : (w1.alloc (.cells #[.int .i64 k, .bool g, .int .u64 m, .int .i64 e] 25)).cell? ⟨w1.heap.size, 2, none⟩ = some (.int .u64 m) := m0.at 2; have q3 : (w1.alloc (.cells #[.int .i64 k, .bool g, .int .u64 m, .int .i64 e] 25)).cell? ⟨w1.heap.size, 3, none⟩ = some (.int .i64 e) := m0.at 3; clear m0)
    | (go_at_call 65; refine (F _).mono ?_; rintro x w2 ⟨rfl, b2⟩; obtain ⟨b3, K⟩ := var4 b2; clear b2; replace pr := bel pr b3; clear b3; have q0 : w2.cell? ⟨w1.heap.size, 0, none⟩ = some (.int .i64 k) := K.at 0; have q1 : w2.cell? ⟨w1.heap.size, 1, none⟩ = some (.bool g) := K.at 1; have q2 : w2.cell? ⟨w1.heap.size, 2, none⟩ = some (.int .u64 m) := K.at 2; have q3 : w2.cell? ⟨w1.heap.size, 3, none⟩ = some (.int .i64 e) := K.at 3; have z3 := K.free 3)
    | fail)
  exact bodyPost_ret (v := .tuple #[.float .f64 0, .bool false]) (by simp [results, Try.results34, go_sem]) rfl ⟨rfl, pr⟩
set_option maxRecDepth 100000 in
set_option maxHeartbeats 3200000 in
theorem FGap_other (n : Nat) (k : Int) (g : Bool) (m e : Int) (S : ∀ w, Calls Try.prog 8 #[.float .f64 n] w fun x w' => x = .returned (.agg #[.int .i64 k, .bool g, .int .u64 m, .int .i64 e]) ∧ Below w.heap.size w w') (F : ∀ w, Calls Try.prog 65 #[.agg #[.int .i64 k, .bool g, .int .u64 m, .int .i64 e]] w fun x w' => x = .returned (.bool true) ∧ Below w.heap.size w w') (hk : (k == 0) = false) (N : Nat)
    (R : ∀ w, Calls Try.prog 53 #[.agg #[.int .i64 53, .int .i64 (-1074), .int .i64 971], .agg #[.int .i64 2, .bool false, .int .u64 0, .int .u64 1, .int .i64 e, .bool false, .int .i64 0], .int .i64 6] w fun x w' => x = .returned (.tuple #[.int .u64 N, .int .i64 0]) ∧ Below w.heap.size w w') (w : World) : Calls Try.prog 34 #[.float .f64 n] w fun x w' => x = .returned (.tuple #[.float .f64 N, .bool true]) ∧ Below w.heap.size w w' := by
  have fl := field_least
  have fb := f64frombits N
  go_enter Try.func34, Try.ntmps34
  go_wp2_with (first
    | (go_at_call 8; refine (S _).mono ?_; rintro x w1 ⟨rfl, b1⟩; have pr := b1; clear b1; have m0 := Blk.new w1 #[.int .i64 k, .bool g, .int .u64 m, .int .i64 e] 25; have q0 : (w1.alloc (.cells #[.int .i64 k, .bool g, .int .u64 m, .int .i64 e] 25)).cell? ⟨w1.heap.size, 0, none⟩ = some (.int .i64 k) := m0.at 0; have q1 : (w1.alloc (.cells #[.int .i64 k, .bool g, .int .u64 m, .int .i64 e] 25)).cell? ⟨w1.heap.size, 1, none⟩ = some (.bool g) := m0.at 1; have q2 : (w1.alloc (.cells #[.int .i64 k, .bool g, .int .u64 m, .int .i64 e] 25)).cell? ⟨w1.heap.size, 2, none⟩ = some (.int .u64 m) := m0.at 2; have q3 : (w1.alloc (.cells #[.int .i64 k, .bool g, .int .u64 m, .int .i64 e] 25)).cell? ⟨w1.heap.size, 3, none⟩ = some (.int .i64 e) := m0.at 3; clear m0)
    | (go_at_call 65; refine (F _).mono ?_; rintro x w2 ⟨rfl, b2⟩; obtain ⟨b3, K⟩ := var4 b2; clear b2; replace pr := bel pr b3; clear b3; have q0 : w2.cell? ⟨w1.heap.size, 0, none⟩ = some (.int .i64 k) := K.at 0; have q1 : w2.cell? ⟨w1.heap.size, 1, none⟩ = some (.bool g) := K.at 1; have q2 : w2.cell? ⟨w1.heap.size, 2, none⟩ = some (.int .u64 m) := K.at 2; have q3 : w2.cell? ⟨w1.heap.size, 3, none⟩ = some (.int .i64 e) := K.at 3; have z3 := K.free 3)
    | fail)
  have K3 : Blk w2 w1.heap.size #[.int .i64 k, .bool g, .int .u64 m, .int .i64 e] 25 := K
  have pr3 := pr
  clear q0 q1 q2 q3 z3 K pr
  generalize w2 = W at *
  have q3 : W.cell? ⟨w1.heap.size, 3, none⟩ = some (.int .i64 e) := K3.at 3
  have L0 := K3.lt
  go_region_held3 (fun x => x.cell? ⟨w1.heap.size, 3, none⟩ = some (.int .i64 e)) (go_keep) (first
    | (go_at_call 40; refine (floats_any _).mono ?_; rintro x w5 ⟨rfl, b5⟩; replace K3 := K3.below (below_undrew b5) K3.lt; replace pr3 := bel pr3 (below_undrew b5); clear b5; have q3 : w5.cell? ⟨w1.heap.size, 3, none⟩ = some (.int .i64 e) := K3.at 3)
    | (go_at_call 40; refine (floats_any _).mono ?_; rintro x w5 ⟨rfl, b5⟩; replace K3 := K3.below b5 K3.lt; replace pr3 := bel pr3 b5; clear b5; have q3 : w5.cell? ⟨w1.heap.size, 3, none⟩ = some (.int .i64 e) := K3.at 3)
    | (go_at_call 53; refine (R _).mono ?_; rintro x w6 ⟨rfl, b6⟩; replace K3 := K3.below b6 K3.lt; replace pr3 := bel pr3 b6; clear b6; have q3 : w6.cell? ⟨w1.heap.size, 3, none⟩ = some (.int .i64 e) := K3.at 3)
    | (go_at_call 53; refine (R _).mono ?_; rintro x w6 ⟨rfl, b6⟩; replace K3 := K3.below (below_undrew b6) K3.lt; replace pr3 := bel pr3 (below_undrew b6); clear b6; have q3 : w6.cell? ⟨w1.heap.size, 3, none⟩ = some (.int .i64 e) := K3.at 3)
    | fail)
  go_wp2
  exact bodyPost_ret (v := .tuple #[.float .f64 N, .bool true]) (by simp [results, Try.results34, go_sem]) rfl ⟨rfl, pr3⟩
set_option maxRecDepth 100000 in
set_option maxHeartbeats 3200000 in
theorem FGap_nought (n : Nat) (k : Int) (g : Bool) (m e : Int) (S : ∀ w, Calls Try.prog 8 #[.float .f64 n] w fun x w' => x = .returned (.agg #[.int .i64 k, .bool g, .int .u64 m, .int .i64 e]) ∧ Below w.heap.size w w') (F : ∀ w, Calls Try.prog 65 #[.agg #[.int .i64 k, .bool g, .int .u64 m, .int .i64 e]] w fun x w' => x = .returned (.bool true) ∧ Below w.heap.size w w') (hk : (k == 0) = true) (N : Nat)
    (R : ∀ w, Calls Try.prog 53 #[.agg #[.int .i64 53, .int .i64 (-1074), .int .i64 971], .agg #[.int .i64 2, .bool false, .int .u64 0, .int .u64 1, .int .i64 (-1074), .bool false, .int .i64 0], .int .i64 6] w fun x w' => x = .returned (.tuple #[.int .u64 N, .int .i64 0]) ∧ Below w.heap.size w w') (w : World) : Calls Try.prog 34 #[.float .f64 n] w fun x w' => x = .returned (.tuple #[.float .f64 N, .bool true]) ∧ Below w.heap.size w w' := by
  have fl := field_least
  have fb := f64frombits N
  go_enter Try.func34, Try.ntmps34
  go_wp2_with (first
    | (go_at_call 8; refine (S _).mono ?_; rintro x w1 ⟨rfl, b1⟩; have pr := b1; have hsz := b1.size; clear b1; have m0 := Blk.new w1 #[.int .i64 k, .bool g, .int .u64 m, .int .i64 e] 25; have q0 : (w1.alloc (.cells #[.int .i64 k, .bool g, .int .u64 m, .int .i64 e] 25)).cell? ⟨w1.heap.size, 0, none⟩ = some (.int .i64 k) := m0.at 0; have q1 : (w1.alloc (.cells #[.int .i64 k, .bool g, .int .u64 m, .int .i64 e] 25)).cell? ⟨w1.heap.size, 1, none⟩ = some (.bool g) := m0.at 1; have q2 : (w1.alloc (.cells #[.int .i64 k, .bool g, .int .u64 m, .int .i64 e] 25)).cell? ⟨w1.heap.size, 2, none⟩ = some (.int .u64 m) := m0.at 2; have q3 : (w1.alloc (.cells #[.int .i64 k, .bool g, .int .u64 m, .int .i64 e] 25)).cell? ⟨w1.heap.size, 3, none⟩ = some (.int .i64 e) := m0.at 3; clear m0)
    | (go_at_call 65; refine (F _).mono ?_; rintro x w2 ⟨rfl, b2⟩; obtain ⟨b3, K⟩ := var4 b2; clear b2; replace pr := bel pr b3; clear b3; have q0 : w2.cell? ⟨w1.heap.size, 0, none⟩ = some (.int .i64 k) := K.at 0; have q1 : w2.cell? ⟨w1.heap.size, 1, none⟩ = some (.bool g) := K.at 1; have q2 : w2.cell? ⟨w1.heap.size, 2, none⟩ = some (.int .u64 m) := K.at 2; have q3 : w2.cell? ⟨w1.heap.size, 3, none⟩ = some (.int .i64 e) := K.at 3; have z3 := K.free 3)
    | (go_at_call 40; refine (floats_any _).mono ?_; rintro x w3 ⟨rfl, b3⟩; replace K := K.below b3 K.lt; replace pr := bel pr b3; clear b3; have q0 : w3.cell? ⟨w1.heap.size, 0, none⟩ = some (.int .i64 k) := K.at 0; have q1 : w3.cell? ⟨w1.heap.size, 1, none⟩ = some (.bool g) := K.at 1; have q2 : w3.cell? ⟨w1.heap.size, 2, none⟩ = some (.int .u64 m) := K.at 2; have q3 : w3.cell? ⟨w1.heap.size, 3, none⟩ = some (.int .i64 e) := K.at 3; have z3 := K.free 3)
    | fail)
  have K3 : Blk (w3.setCell ⟨w1.heap.size, 3, none⟩ (.int .i64 (-1074))) w1.heap.size #[.int .i64 k, .bool g, .int .u64 m, .int .i64 (-1074)] 25 := blk_set K
  have pr3 : Below w.heap.size w (w3.setCell ⟨w1.heap.size, 3, none⟩ (.int .i64 (-1074))) := bel_set pr hsz
  clear q0 q1 q2 q3 z3 K pr
  generalize w3.setCell ⟨w1.heap.size, 3, none⟩ (.int .i64 (-1074)) = W at *
  have q3 : W.cell? ⟨w1.heap.size, 3, none⟩ = some (.int .i64 (-1074)) := K3.at 3
  have L0 := K3.lt
  go_region_held3 (fun x => x.cell? ⟨w1.heap.size, 3, none⟩ = some (.int .i64 (-1074))) (go_keep) (first
    | (go_at_call 40; refine (floats_any _).mono ?_; rintro x w5 ⟨rfl, b5⟩; replace K3 := K3.below (below_undrew b5) K3.lt; replace pr3 := bel pr3 (below_undrew b5); clear b5; have q3 : w5.cell? ⟨w1.heap.size, 3, none⟩ = some (.int .i64 (-1074)) := K3.at 3)
    | (go_at_call 40; refine (floats_any _).mono ?_; rintro x w5 ⟨rfl, b5⟩; replace K3 := K3.below b5 K3.lt; replace pr3 := bel pr3 b5; clear b5; have q3 : w5.cell? ⟨w1.heap.size, 3, none⟩ = some (.int .i64 (-1074)) := K3.at 3)
    | (go_at_call 53; refine (R _).mono ?_; rintro x w6 ⟨rfl, b6⟩; replace K3 := K3.below b6 K3.lt; replace pr3 := bel pr3 b6; clear b6; have q3 : w6.cell? ⟨w1.heap.size, 3, none⟩ = some (.int .i64 (-1074)) := K3.at 3)
    | (go_at_call 53; refine (R _).mono ?_; rintro x w6 ⟨rfl, b6⟩; replace K3 := K3.below (below_undrew b6) K3.lt; replace pr3 := bel pr3 (below_undrew b6); clear b6; have q3 : w6.cell? ⟨w1.heap.size, 3, none⟩ = some (.int .i64 (-1074)) := K3.at 3)
    | fail)
  go_wp2
  exact bodyPost_ret (v := .tuple #[.float .f64 N, .bool true]) (by simp [results, Try.results34, go_sem]) rfl ⟨rfl, pr3⟩
end Go.Proofs.Ytjgljcifnklmeaa
