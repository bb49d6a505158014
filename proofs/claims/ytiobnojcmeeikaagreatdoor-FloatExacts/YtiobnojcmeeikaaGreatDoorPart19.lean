import Derived.Test.YtiobnojcmeeikaaGreatDoorPart18
import Derived.Deep.CutBlock
import Derived.Deep.DeepCutAuto
import Derived.Laws.Externs

namespace Go.Proofs.YtiobnojcmeeikaaGreatDoor
open Go.RowKit Tn

end Go.Proofs.YtiobnojcmeeikaaGreatDoor

namespace Go.Proofs.YtiobnojcmeeikaaGreatDoor
open Go.RowKit Tn

end Go.Proofs.YtiobnojcmeeikaaGreatDoor

namespace Go.Proofs.YtiobnojcmeeikaaGreatDoor
open Go.RowKit Tn

theorem f64bits (b : Nat) (w : World) : (callFunc 22 #[.float .f64 b]).run Tryz.prog w = .ok (.value (.int .u64 b)) w :=
  run_callFunc_extern (e := Extern.MathFloatBits.float64bits) Tryz.func22 (by kernel_rfl) rfl (by kernel_rfl) (by kernel_rfl) _ w
theorem f64frombits (b : Nat) (w : World) : (callFunc 5 #[.int .u64 b]).run Tryz.prog w = .ok (.value (.float .f64 b)) w :=
  run_callFunc_extern (e := Extern.MathFloatBits.float64frombits) Tryz.func5 (by kernel_rfl) rfl (by kernel_rfl) (by kernel_rfl) _ w
theorem f32bits (b : Nat) (w : World) : (callFunc 24 #[.float .f32 b]).run Tryz.prog w = .ok (.value (.int .u32 b)) w :=
  run_callFunc_extern (e := Extern.MathFloatBits.float32bits) Tryz.func24 (by kernel_rfl) rfl (by kernel_rfl) (by kernel_rfl) _ w
theorem f32frombits (b : Nat) (w : World) : (callFunc 7 #[.int .u32 b]).run Tryz.prog w = .ok (.value (.float .f32 b)) w :=
  run_callFunc_extern (e := Extern.MathFloatBits.float32frombits) Tryz.func7 (by kernel_rfl) rfl (by kernel_rfl) (by kernel_rfl) _ w
end Go.Proofs.YtiobnojcmeeikaaGreatDoor

namespace Go.Proofs.YtiobnojcmeeikaaGreatDoor
open Go.RowKit Tn

set_option maxRecDepth 100000 in
set_option maxHeartbeats 800000 in
theorem FSplit64 (n : Nat) (hn : n < 18446744073709551616) (w : World) :
    Calls Tryz.prog 12 #[.float .f64 n] w fun e w' => e = .returned (prt4 (splW n)) ∧ Below w.heap.size w w' := by
  have S := split_w n (by omega)
  generalize splW n = q at S ⊢
  obtain ⟨k, g, m, e⟩ := q
  have hb := f64bits n
  go_enter Tryz.func12, Tryz.ntmps12
  have K1 := Blk.new w #[.int .i64 0, .bool false, .int .u64 0, .int .i64 0] 42
  have pr : Below w.heap.size w (w.alloc (.cells #[.int .i64 0, .bool false, .int .u64 0, .int .i64 0] 42)) := (Below.refl _ _).alloc (Nat.le_refl _) _
  go_wp2_with (first
    | (go_at_call 20; refine (floats_any _).mono ?_; rintro e w1 ⟨rfl, b1⟩; replace K1 := K1.below b1 K1.lt; replace pr := bel pr b1; have hb1 := hb w1)
    | (go_at_call 21; refine (S _).mono ?_; rintro e w2 ⟨rfl, b2⟩; replace K1 := K1.below b2 K1.lt; replace pr := bel pr b2; have c0 : w2.cell? ⟨w.heap.size, 0, none⟩ = some (.int .i64 0) := K1.at 0; have c1 : w2.cell? ⟨w.heap.size, 1, none⟩ = some (.bool false) := K1.at 1; have c2 : w2.cell? ⟨w.heap.size, 2, none⟩ = some (.int .u64 0) := K1.at 2; have c3 : w2.cell? ⟨w.heap.size, 3, none⟩ = some (.int .i64 0) := K1.at 3; have z0 := K1.free 0; have z1 := K1.free 1; have z2 := K1.free 2; have z3 := K1.free 3)
    | fail)
  obtain ⟨F0, F1, F2, F3, FB⟩ := put4 (.int .i64 k) (.bool g) (.int .u64 m) (.int .i64 e) c0 c1 c2 c3
  exact bodyPost_ret (v := prt k g m e) (by simp [results, Tryz.results12, go_sem, F0, F1, F2, F3]) rfl ⟨rfl, FB _ _ (by omega) pr⟩
set_option maxRecDepth 100000 in
set_option maxHeartbeats 800000 in
theorem FSplit32 (n : Nat) (hn : n < 4294967296) (w : World) :
    Calls Tryz.prog 13 #[.float .f32 n] w fun e w' => e = .returned (prt4 (splS n)) ∧ Below w.heap.size w w' := by
  have S := split_s n (by omega)
  generalize splS n = q at S ⊢
  obtain ⟨k, g, m, e⟩ := q
  have hb := f32bits n
  have hw : IntKind.u64.wrap (n : Int) = n := wu64 _ (by omega) (by omega)
  go_enter Tryz.func13, Tryz.ntmps13
  have K1 := Blk.new w #[.int .i64 0, .bool false, .int .u64 0, .int .i64 0] 42
  have pr : Below w.heap.size w (w.alloc (.cells #[.int .i64 0, .bool false, .int .u64 0, .int .i64 0] 42)) := (Below.refl _ _).alloc (Nat.le_refl _) _
  go_wp2_with (first
    | (go_at_call 23; refine (smallFloats_any _).mono ?_; rintro e w1 ⟨rfl, b1⟩; replace K1 := K1.below b1 K1.lt; replace pr := bel pr b1; have hb1 := hb w1)
    | (go_at_call 21; refine (S _).mono ?_; rintro e w2 ⟨rfl, b2⟩; replace K1 := K1.below b2 K1.lt; replace pr := bel pr b2; have c0 : w2.cell? ⟨w.heap.size, 0, none⟩ = some (.int .i64 0) := K1.at 0; have c1 : w2.cell? ⟨w.heap.size, 1, none⟩ = some (.bool false) := K1.at 1; have c2 : w2.cell? ⟨w.heap.size, 2, none⟩ = some (.int .u64 0) := K1.at 2; have c3 : w2.cell? ⟨w.heap.size, 3, none⟩ = some (.int .i64 0) := K1.at 3; have z0 := K1.free 0; have z1 := K1.free 1; have z2 := K1.free 2; have z3 := K1.free 3)
    | fail)
  obtain ⟨F0, F1, F2, F3, FB⟩ := put4 (.int .i64 k) (.bool g) (.int .u64 m) (.int .i64 e) c0 c1 c2 c3
  exact bodyPost_ret (v := prt k g m e) (by simp [results, Tryz.results13, go_sem, F0, F1, F2, F3]) rfl ⟨rfl, FB _ _ (by omega) pr⟩
end Go.Proofs.YtiobnojcmeeikaaGreatDoor
