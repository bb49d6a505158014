import Derived.Test.YtjgljcifnklmeaaFl10
namespace Go.Proofs.Ytjgljcifnklmeaa
open Go.RowKit Tn

set_option maxRecDepth 100000 in
set_option maxHeartbeats 800000 in
theorem FSplit64 (n : Nat) (hn : n < 18446744073709551616) (w : World) :
    Calls Try.prog 8 #[.float .f64 n] w fun e w' => e = .returned (prt4 (splW n)) ∧ Below w.heap.size w w' := by
  have S := split_w n (by omega)
  generalize splW n = q at S ⊢
  obtain ⟨k, g, m, e⟩ := q
  have hb := f64bits n
  go_enter Try.func8, Try.ntmps8
  have K1 := Blk.new w #[.int .i64 0, .bool false, .int .u64 0, .int .i64 0] 25
  have pr : Below w.heap.size w (w.alloc (.cells #[.int .i64 0, .bool false, .int .u64 0, .int .i64 0] 25)) := (Below.refl _ _).alloc (Nat.le_refl _) _
  go_wp2_with (first
    | (go_at_call 40; refine (floats_any _).mono ?_; rintro e w1 ⟨rfl, b1⟩; replace K1 := K1.below b1 K1.lt; replace pr := bel pr b1; have hb1 := hb w1)
    | (go_at_call 41; refine (S _).mono ?_; rintro e w2 ⟨rfl, b2⟩; replace K1 := K1.below b2 K1.lt; replace pr := bel pr b2; have c0 : w2.cell? ⟨w.heap.size, 0, none⟩ = some (.int .i64 0) := K1.at 0; have c1 : w2.cell? ⟨w.heap.size, 1, none⟩ = some (.bool false) := K1.at 1; have c2 : w2.cell? ⟨w.heap.size, 2, none⟩ = some (.int .u64 0) := K1.at 2; have c3 : w2.cell? ⟨w.heap.size, 3, none⟩ = some (.int .i64 0) := K1.at 3; have z0 := K1.free 0; have z1 := K1.free 1; have z2 := K1.free 2; have z3 := K1.free 3)
    | fail)
  obtain ⟨F0, F1, F2, F3, FB⟩ := put4 (.int .i64 k) (.bool g) (.int .u64 m) (.int .i64 e) c0 c1 c2 c3
  exact bodyPost_ret (v := prt k g m e) (by simp [results, Try.results8, go_sem, F0, F1, F2, F3]) rfl ⟨rfl, FB _ _ (by omega) pr⟩
set_option maxRecDepth 100000 in
set_option maxHeartbeats 800000 in
theorem FJoin64 (k : Int) (g : Bool) (m e : Int) (j c : Nat) (jc : joiW (k, g, m, e) = ((j : Int), (c : Int))) (h0 : 0 ≤ m) (h1 : m < 18446744073709551616) (w : World) :
    Calls Try.prog 15 #[prt k g m e] w fun x w' => x = .returned (.tuple #[.float .f64 j, .int .i64 c]) ∧ Below w.heap.size w w' := by
  have S := join_w (k, g, m, e) h0 h1
  rw [jc] at S
  have hb := f64frombits j
  go_enter Try.func15, Try.ntmps15
  go_wp2_with fail
  have K1 := Blk.new w #[.int .i64 k, .bool g, .int .u64 m, .int .i64 e] 25
  have pr : Below w.heap.size w (w.alloc (.cells #[.int .i64 k, .bool g, .int .u64 m, .int .i64 e] 25)) := (Below.refl _ _).alloc (Nat.le_refl _) _
  generalize w.alloc (.cells #[.int .i64 k, .bool g, .int .u64 m, .int .i64 e] 25) = W at *
  have c0 : W.cell? ⟨w.heap.size, 0, none⟩ = some (.int .i64 k) := K1.at 0
  have c1 : W.cell? ⟨w.heap.size, 1, none⟩ = some (.bool g) := K1.at 1
  have c2 : W.cell? ⟨w.heap.size, 2, none⟩ = some (.int .u64 m) := K1.at 2
  have c3 : W.cell? ⟨w.heap.size, 3, none⟩ = some (.int .i64 e) := K1.at 3
  go_region_held3 (fun x => x.cell? ⟨w.heap.size, 0, none⟩ = some (.int .i64 k) ∧ x.cell? ⟨w.heap.size, 1, none⟩ = some (.bool g) ∧ x.cell? ⟨w.heap.size, 2, none⟩ = some (.int .u64 m) ∧ x.cell? ⟨w.heap.size, 3, none⟩ = some (.int .i64 e)) (go_keep) (first
    | (go_at_call 40; refine (floats_any _).mono ?_; rintro x w1 ⟨rfl, b1⟩; replace K1 := K1.below (below_undrew b1) K1.lt; replace pr := bel pr (below_undrew b1); clear b1; have c0 : w1.cell? ⟨w.heap.size, 0, none⟩ = some (.int .i64 k) := K1.at 0; have c1 : w1.cell? ⟨w.heap.size, 1, none⟩ = some (.bool g) := K1.at 1; have c2 : w1.cell? ⟨w.heap.size, 2, none⟩ = some (.int .u64 m) := K1.at 2; have c3 : w1.cell? ⟨w.heap.size, 3, none⟩ = some (.int .i64 e) := K1.at 3)
    | (go_at_call 47; refine (S _).mono ?_; rintro x w1 ⟨rfl, b1⟩; replace K1 := K1.below b1 K1.lt; replace pr := bel pr b1; clear b1; have c0 : w1.cell? ⟨w.heap.size, 0, none⟩ = some (.int .i64 k) := K1.at 0; have c1 : w1.cell? ⟨w.heap.size, 1, none⟩ = some (.bool g) := K1.at 1; have c2 : w1.cell? ⟨w.heap.size, 2, none⟩ = some (.int .u64 m) := K1.at 2; have c3 : w1.cell? ⟨w.heap.size, 3, none⟩ = some (.int .i64 e) := K1.at 3)
    | fail)
  go_wp2
  exact bodyPost_ret (v := .tuple #[.float .f64 j, .int .i64 c]) (by simp [results, Try.results15, go_sem]) rfl ⟨rfl, pr⟩
set_option maxRecDepth 100000 in
set_option maxHeartbeats 800000 in
theorem is64_yes (n : Nat) (w : World) :
    Calls Try.prog 18 #[.float .f64 n, .int .u64 n] w fun x w' => x = .returned (.bool true) ∧ w' = w := by
  have hb := f64bits n w
  go_enter Try.func18, Try.ntmps18
  go_wp2
  go_ret
  exact ⟨rfl, rfl⟩
set_option maxRecDepth 100000 in
set_option maxHeartbeats 800000 in
theorem FSplit32 (n : Nat) (hn : n < 4294967296) (w : World) :
    Calls Try.prog 12 #[.float .f32 n] w fun e w' => e = .returned (prt4 (splS n)) ∧ Below w.heap.size w w' := by
  have S := split_s n (by omega)
  generalize splS n = q at S ⊢
  obtain ⟨k, g, m, e⟩ := q
  have hb := f32bits n
  have hw : IntKind.u64.wrap (n : Int) = n := wu64 _ (by omega) (by omega)
  go_enter Try.func12, Try.ntmps12
  have K1 := Blk.new w #[.int .i64 0, .bool false, .int .u64 0, .int .i64 0] 25
  have pr : Below w.heap.size w (w.alloc (.cells #[.int .i64 0, .bool false, .int .u64 0, .int .i64 0] 25)) := (Below.refl _ _).alloc (Nat.le_refl _) _
  go_wp2_with (first
    | (go_at_call 45; refine (smallFloats_any _).mono ?_; rintro e w1 ⟨rfl, b1⟩; replace K1 := K1.below b1 K1.lt; replace pr := bel pr b1; have hb1 := hb w1)
    | (go_at_call 41; refine (S _).mono ?_; rintro e w2 ⟨rfl, b2⟩; replace K1 := K1.below b2 K1.lt; replace pr := bel pr b2; have c0 : w2.cell? ⟨w.heap.size, 0, none⟩ = some (.int .i64 0) := K1.at 0; have c1 : w2.cell? ⟨w.heap.size, 1, none⟩ = some (.bool false) := K1.at 1; have c2 : w2.cell? ⟨w.heap.size, 2, none⟩ = some (.int .u64 0) := K1.at 2; have c3 : w2.cell? ⟨w.heap.size, 3, none⟩ = some (.int .i64 0) := K1.at 3; have z0 := K1.free 0; have z1 := K1.free 1; have z2 := K1.free 2; have z3 := K1.free 3)
    | fail)
  obtain ⟨F0, F1, F2, F3, FB⟩ := put4 (.int .i64 k) (.bool g) (.int .u64 m) (.int .i64 e) c0 c1 c2 c3
  exact bodyPost_ret (v := prt k g m e) (by simp [results, Try.results12, go_sem, F0, F1, F2, F3]) rfl ⟨rfl, FB _ _ (by omega) pr⟩
set_option maxRecDepth 100000 in
set_option maxHeartbeats 800000 in
theorem FJoin32 (k : Int) (g : Bool) (m e : Int) (j c : Nat) (jc : joiS (k, g, m, e) = ((j : Int), (c : Int))) (hj : j < 4294967296) (h0 : 0 ≤ m) (h1 : m < 18446744073709551616) (w : World) :
    Calls Try.prog 16 #[prt k g m e] w fun x w' => x = .returned (.tuple #[.float .f32 j, .int .i64 c]) ∧ Below w.heap.size w w' := by
  have S := join_s (k, g, m, e) h0 h1
  rw [jc] at S
  have hb := f32frombits j
  have hw : IntKind.u32.wrap (j : Int) = (j : Int) := by simp [IntKind.wrap, IntKind.bits, IntKind.signed]; omega
  go_enter Try.func16, Try.ntmps16
  go_wp2_with fail
  have K1 := Blk.new w #[.int .i64 k, .bool g, .int .u64 m, .int .i64 e] 25
  have pr : Below w.heap.size w (w.alloc (.cells #[.int .i64 k, .bool g, .int .u64 m, .int .i64 e] 25)) := (Below.refl _ _).alloc (Nat.le_refl _) _
  generalize w.alloc (.cells #[.int .i64 k, .bool g, .int .u64 m, .int .i64 e] 25) = W at *
  have c0 : W.cell? ⟨w.heap.size, 0, none⟩ = some (.int .i64 k) := K1.at 0
  have c1 : W.cell? ⟨w.heap.size, 1, none⟩ = some (.bool g) := K1.at 1
  have c2 : W.cell? ⟨w.heap.size, 2, none⟩ = some (.int .u64 m) := K1.at 2
  have c3 : W.cell? ⟨w.heap.size, 3, none⟩ = some (.int .i64 e) := K1.at 3
  go_region_held3 (fun x => x.cell? ⟨w.heap.size, 0, none⟩ = some (.int .i64 k) ∧ x.cell? ⟨w.heap.size, 1, none⟩ = some (.bool g) ∧ x.cell? ⟨w.heap.size, 2, none⟩ = some (.int .u64 m) ∧ x.cell? ⟨w.heap.size, 3, none⟩ = some (.int .i64 e)) (go_keep) (first
    | (go_at_call 45; refine (smallFloats_any _).mono ?_; rintro x w1 ⟨rfl, b1⟩; replace K1 := K1.below (below_undrew b1) K1.lt; replace pr := bel pr (below_undrew b1); clear b1; have c0 : w1.cell? ⟨w.heap.size, 0, none⟩ = some (.int .i64 k) := K1.at 0; have c1 : w1.cell? ⟨w.heap.size, 1, none⟩ = some (.bool g) := K1.at 1; have c2 : w1.cell? ⟨w.heap.size, 2, none⟩ = some (.int .u64 m) := K1.at 2; have c3 : w1.cell? ⟨w.heap.size, 3, none⟩ = some (.int .i64 e) := K1.at 3)
    | (go_at_call 47; refine (S _).mono ?_; rintro x w1 ⟨rfl, b1⟩; replace K1 := K1.below b1 K1.lt; replace pr := bel pr b1; clear b1; have c0 : w1.cell? ⟨w.heap.size, 0, none⟩ = some (.int .i64 k) := K1.at 0; have c1 : w1.cell? ⟨w.heap.size, 1, none⟩ = some (.bool g) := K1.at 1; have c2 : w1.cell? ⟨w.heap.size, 2, none⟩ = some (.int .u64 m) := K1.at 2; have c3 : w1.cell? ⟨w.heap.size, 3, none⟩ = some (.int .i64 e) := K1.at 3)
    | fail)
  go_wp2
  exact bodyPost_ret (v := .tuple #[.float .f32 j, .int .i64 c]) (by simp [results, Try.results16, go_sem]) rfl ⟨rfl, pr⟩
set_option maxRecDepth 100000 in
set_option maxHeartbeats 800000 in
theorem is32_yes (n : Nat) (hn : n < 4294967296) (w : World) :
    Calls Try.prog 19 #[.float .f32 n, .int .u64 n] w fun x w' => x = .returned (.bool true) ∧ w' = w := by
  have hb := f32bits n w
  have hw : IntKind.u64.wrap (n : Int) = n := wu64 _ (by omega) (by omega)
  go_enter Try.func19, Try.ntmps19
  go_wp2
  go_ret
  exact ⟨rfl, rfl⟩
set_option maxRecDepth 100000 in
theorem names_any (w : World) : Calls Try.prog 7 #[] w fun x w' => x = .returned (.bool true) ∧ w' = w := by
  go_enter Try.func7, Try.ntmps7
  go_wp2
  go_ret
  exact ⟨rfl, rfl⟩

end Go.Proofs.Ytjgljcifnklmeaa
