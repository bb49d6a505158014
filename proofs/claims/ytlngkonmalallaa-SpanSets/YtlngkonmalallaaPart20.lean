import Derived.Test.YtlngkonmalallaaPart19
import Derived.Deep.RegionHeld3
import Derived.LoopN

namespace Go.Proofs.Ytlngkonmalallaa
open Go.RowKit Tn

set_option maxRecDepth 100000 in
set_option maxHeartbeats 1600000 in
theorem told_up (way : Int) (g : Bool) (a1 : Option Addr) (l1 c1 : Nat) (a2 : Option Addr) (l2 c2 : Nat) (w : World) : Calls Try.prog 125 #[env 1 g a1 l1 c1 a2 l2 c2, .int .i64 way] w fun x w' => x = .returned (.float .f64 9218868437227405312) ∧ Below w.heap.size w w' := by
  have hb : ∀ w, (callFunc 10 #[.int .u64 9218868437227405312]).run Try.prog w = .ok (.value (.float .f64 9218868437227405312)) w := f64frombits 9218868437227405312
  have KA := Blk.new w #[.int .i64 1, .bool g, .slice a1 l1 c1, .slice a2 l2 c2] 123
  have pr : Below w.heap.size w (w.alloc (.cells #[.int .i64 1, .bool g, .slice a1 l1 c1, .slice a2 l2 c2] 123)) := (Below.refl _ _).alloc (Nat.le_refl _) _
  go_enter Try.func125, Try.ntmps125
  go_wp2_with (first
    | (go_at_call 11; go_must (refine (Wide_any _).mono ?_; rintro r w1 ⟨rfl, bb⟩; replace KA := (KA.below bb KA.lt).alloc (.cells #[.int .i64 53, .int .i64 (-1074), .int .i64 971, .int .i64 52] 31); have KZ := Blk.new w1 #[.int .i64 53, .int .i64 (-1074), .int .i64 971, .int .i64 52] 31; replace pr := (bel pr bb).alloc (bel pr bb).size (.cells #[.int .i64 53, .int .i64 (-1074), .int .i64 971, .int .i64 52] 31); clear bb; have x0 : (w1.alloc (.cells #[.int .i64 53, .int .i64 (-1074), .int .i64 971, .int .i64 52] 31)).cell? ⟨w.heap.size, 0, none⟩ = some (.int .i64 1) := KA.at 0; have x1 : (w1.alloc (.cells #[.int .i64 53, .int .i64 (-1074), .int .i64 971, .int .i64 52] 31)).cell? ⟨w.heap.size, 1, none⟩ = some (.bool g) := KA.at 1; have x2 : (w1.alloc (.cells #[.int .i64 53, .int .i64 (-1074), .int .i64 971, .int .i64 52] 31)).cell? ⟨w.heap.size, 2, none⟩ = some (.slice a1 l1 c1) := KA.at 2; have x3 : (w1.alloc (.cells #[.int .i64 53, .int .i64 (-1074), .int .i64 971, .int .i64 52] 31)).cell? ⟨w.heap.size, 3, none⟩ = some (.slice a2 l2 c2) := KA.at 3))
    | (go_at_call 60; go_must (refine (Infinite_w_pos _).mono ?_; rintro r w2 ⟨rfl, bb⟩; replace pr := bel pr bb; clear bb))
    | fail)
  go_ret
  exact ⟨rfl, pr⟩
set_option maxRecDepth 100000 in
set_option maxHeartbeats 1600000 in
theorem told_dn (way : Int) (g : Bool) (a1 : Option Addr) (l1 c1 : Nat) (a2 : Option Addr) (l2 c2 : Nat) (w : World) : Calls Try.prog 125 #[env (-1) g a1 l1 c1 a2 l2 c2, .int .i64 way] w fun x w' => x = .returned (.float .f64 18442240474082181120) ∧ Below w.heap.size w w' := by
  have hb : ∀ w, (callFunc 10 #[.int .u64 18442240474082181120]).run Try.prog w = .ok (.value (.float .f64 18442240474082181120)) w := f64frombits 18442240474082181120
  have KA := Blk.new w #[.int .i64 (-1), .bool g, .slice a1 l1 c1, .slice a2 l2 c2] 123
  have pr : Below w.heap.size w (w.alloc (.cells #[.int .i64 (-1), .bool g, .slice a1 l1 c1, .slice a2 l2 c2] 123)) := (Below.refl _ _).alloc (Nat.le_refl _) _
  go_enter Try.func125, Try.ntmps125
  go_wp2_with (first
    | (go_at_call 11; go_must (refine (Wide_any _).mono ?_; rintro r w1 ⟨rfl, bb⟩; replace KA := (KA.below bb KA.lt).alloc (.cells #[.int .i64 53, .int .i64 (-1074), .int .i64 971, .int .i64 52] 31); have KZ := Blk.new w1 #[.int .i64 53, .int .i64 (-1074), .int .i64 971, .int .i64 52] 31; replace pr := (bel pr bb).alloc (bel pr bb).size (.cells #[.int .i64 53, .int .i64 (-1074), .int .i64 971, .int .i64 52] 31); clear bb; have x0 : (w1.alloc (.cells #[.int .i64 53, .int .i64 (-1074), .int .i64 971, .int .i64 52] 31)).cell? ⟨w.heap.size, 0, none⟩ = some (.int .i64 (-1)) := KA.at 0; have x1 : (w1.alloc (.cells #[.int .i64 53, .int .i64 (-1074), .int .i64 971, .int .i64 52] 31)).cell? ⟨w.heap.size, 1, none⟩ = some (.bool g) := KA.at 1; have x2 : (w1.alloc (.cells #[.int .i64 53, .int .i64 (-1074), .int .i64 971, .int .i64 52] 31)).cell? ⟨w.heap.size, 2, none⟩ = some (.slice a1 l1 c1) := KA.at 2; have x3 : (w1.alloc (.cells #[.int .i64 53, .int .i64 (-1074), .int .i64 971, .int .i64 52] 31)).cell? ⟨w.heap.size, 3, none⟩ = some (.slice a2 l2 c2) := KA.at 3))
    | (go_at_call 60; go_must (refine (Infinite_w_neg _).mono ?_; rintro r w2 ⟨rfl, bb⟩; replace pr := bel pr bb; clear bb))
    | fail)
  go_ret
  exact ⟨rfl, pr⟩
set_option maxRecDepth 100000 in
set_option maxHeartbeats 1600000 in
theorem told_fin (way : Int) (g : Bool) (a1 : Option Addr) (l1 c1 : Nat) (a2 : Option Addr) (l2 c2 : Nat) (n : Nat) (hn : n < 18446744073709551616) (h : rg64 n < 9218868437227405312) (ok : okEnd n = true) (w : World) (q : L.IsQ w (.agg #[.bool g, .slice a1 l1 c1, .slice a2 l2 c2]) (mkRat (vl64 n) (2 ^ 1074))) : Calls Try.prog 125 #[env 0 g a1 l1 c1 a2 l2 c2, .int .i64 way] w fun x w' => x = .returned (.float .f64 n) ∧ Below w.heap.size w w' := by
  have hb := f64frombits n
  have nz : (if rg64 n = 0 then 0 else (n : Int)) = n := by
    split
    · have k : ng64 n = false := by unfold okEnd at ok; rename_i z; rw [decide_eq_true z] at ok; simp at ok; exact ok.2
      rcases ng_split n hn with ⟨c, -⟩ | ⟨-, c⟩
      · rw [c] at k; simp at k
      · omega
    · rfl
  have ne : ((n : Int) == 9223372036854775808) = false := by
    rw [beq_eq_false_iff_ne]
    intro c
    have c2 : n = 9223372036854775808 := by omega
    subst c2
    revert ok; decide
  clear ok
  have KA := Blk.new w #[.int .i64 0, .bool g, .slice a1 l1 c1, .slice a2 l2 c2] 123
  have pr : Below w.heap.size w (w.alloc (.cells #[.int .i64 0, .bool g, .slice a1 l1 c1, .slice a2 l2 c2] 123)) := (Below.refl _ _).alloc (Nat.le_refl _) _
  go_enter Try.func125, Try.ntmps125
  go_wp2_with (first
    | (go_at_call 11; go_must (refine (Wide_any _).mono ?_; rintro r w1 ⟨rfl, bb⟩; replace KA := (KA.below bb KA.lt).alloc (.cells #[.int .i64 53, .int .i64 (-1074), .int .i64 971, .int .i64 52] 31); have KZ := Blk.new w1 #[.int .i64 53, .int .i64 (-1074), .int .i64 971, .int .i64 52] 31; replace pr := (bel pr bb).alloc (bel pr bb).size (.cells #[.int .i64 53, .int .i64 (-1074), .int .i64 971, .int .i64 52] 31); clear bb; have x0 : (w1.alloc (.cells #[.int .i64 53, .int .i64 (-1074), .int .i64 971, .int .i64 52] 31)).cell? ⟨w.heap.size, 0, none⟩ = some (.int .i64 0) := KA.at 0; have x1 : (w1.alloc (.cells #[.int .i64 53, .int .i64 (-1074), .int .i64 971, .int .i64 52] 31)).cell? ⟨w.heap.size, 1, none⟩ = some (.bool g) := KA.at 1; have x2 : (w1.alloc (.cells #[.int .i64 53, .int .i64 (-1074), .int .i64 971, .int .i64 52] 31)).cell? ⟨w.heap.size, 2, none⟩ = some (.slice a1 l1 c1) := KA.at 2; have x3 : (w1.alloc (.cells #[.int .i64 53, .int .i64 (-1074), .int .i64 971, .int .i64 52] 31)).cell? ⟨w.heap.size, 3, none⟩ = some (.slice a2 l2 c2) := KA.at 3))
    | (go_at_call 67; go_must (refine (rounded_own n hn h way _ _ (q.grow pr)).mono ?_; rintro r w2 ⟨rfl, bb⟩; replace pr := bel pr bb; clear bb; rw [nz]))
    | fail)
  go_ret
  exact ⟨rfl, pr⟩
/-- The reference's told, of an end that is no -0: the end itself. -/
theorem told_any (n : Nat) (v : Value) (way : Int) (hn : n < 18446744073709551616) (ok : okEnd n = true) (w : World) (hv : IsE w v n) :
    Calls Try.prog 125 #[v, .int .i64 way] w fun x w' => x = .returned (.float .f64 n) ∧ Below w.heap.size w w' := by
  obtain ⟨g, a1, a2, l1, c1, l2, c2, rfl, q⟩ := hv
  have an := okEnd_nan ok
  by_cases e1 : n = 9218868437227405312
  · subst e1; exact told_up way g a1 l1 c1 a2 l2 c2 w
  · by_cases e2 : n = 18442240474082181120
    · subst e2; exact told_dn way g a1 l1 c1 a2 l2 c2 w
    · have i : infI n = 0 := by unfold infI; rw [if_neg e1, if_neg e2]
      rw [i]
      exact told_fin way g a1 l1 c1 a2 l2 c2 n hn (fin_of hn an i) ok w (q i)
theorem set2_o {w : World} {n m i : Nat} {u v0 v1 : Value} (h : w.cell? ⟨n, i, none⟩ = some u) (hn : n ≠ m) : ((w.setCell ⟨m, 0, none⟩ v0).setCell ⟨m, 1, none⟩ v1).cell? ⟨n, i, none⟩ = some u := by
  have c0 : (⟨m, 0, none⟩ : Addr) ≠ ⟨n, i, none⟩ := by intro e; cases e; exact hn rfl
  have c1 : (⟨m, 1, none⟩ : Addr) ≠ ⟨n, i, none⟩ := by intro e; cases e; exact hn rfl
  rw [World.cell?_setCell_other _ _ _ _ c1, World.cell?_setCell_other _ _ _ _ c0]; exact h
set_option maxRecDepth 100000 in
set_option maxHeartbeats 1600000 in
theorem tight_walk (n m : Nat) (i j : Int) (g : Bool) (a1 : Option Addr) (l1 c1 : Nat) (a2 : Option Addr) (l2 c2 : Nat) (h : Bool) (d1 : Option Addr) (k1 e1 : Nat) (d2 : Option Addr) (k2 e2 : Nat) (w : World)
    (T1 : ∀ w', Below w.heap.size w w' → Calls Try.prog 125 #[env i g a1 l1 c1 a2 l2 c2, .int .i64 1] w' fun x w'' => x = .returned (.float .f64 n) ∧ Below w'.heap.size w' w'')
    (T2 : ∀ w', Below w.heap.size w w' → Calls Try.prog 125 #[env j h d1 k1 e1 d2 k2 e2, .int .i64 2] w' fun x w'' => x = .returned (.float .f64 m) ∧ Below w'.heap.size w' w'') :
    Calls Try.prog 93 #[env i g a1 l1 c1 a2 l2 c2, env j h d1 k1 e1 d2 k2 e2] w fun x w' => x = .returned (spn n m) ∧ Below w.heap.size w w' := by
  have sf := fun w a n m => run_store_f Try.prog w a .f64 n m
  have KA := ((Blk.new w #[.int .i64 i, .bool g, .slice a1 l1 c1, .slice a2 l2 c2] 123).alloc (.cells #[.int .i64 j, .bool h, .slice d1 k1 e1, .slice d2 k2 e2] 123)).alloc (.cells #[.float .f64 0, .float .f64 0] 72)
  have KB := (Blk.new (w.alloc (.cells #[.int .i64 i, .bool g, .slice a1 l1 c1, .slice a2 l2 c2] 123)) #[.int .i64 j, .bool h, .slice d1 k1 e1, .slice d2 k2 e2] 123).alloc (.cells #[.float .f64 0, .float .f64 0] 72)
  have KR := Blk.new ((w.alloc (.cells #[.int .i64 i, .bool g, .slice a1 l1 c1, .slice a2 l2 c2] 123)).alloc (.cells #[.int .i64 j, .bool h, .slice d1 k1 e1, .slice d2 k2 e2] 123)) #[.float .f64 0, .float .f64 0] 72
  simp only [World.size_alloc] at KA KB KR
  have pr : Below w.heap.size w (((w.alloc (.cells #[.int .i64 i, .bool g, .slice a1 l1 c1, .slice a2 l2 c2] 123)).alloc (.cells #[.int .i64 j, .bool h, .slice d1 k1 e1, .slice d2 k2 e2] 123)).alloc (.cells #[.float .f64 0, .float .f64 0] 72)) := (((Below.refl _ _).alloc (Nat.le_refl _) _).alloc (by simp) _).alloc (by simp; omega) _
  go_enter Try.func93, Try.ntmps93
  go_wp2_with fail
  generalize ((w.alloc (.cells #[.int .i64 i, .bool g, .slice a1 l1 c1, .slice a2 l2 c2] 123)).alloc (.cells #[.int .i64 j, .bool h, .slice d1 k1 e1, .slice d2 k2 e2] 123)).alloc (.cells #[.float .f64 0, .float .f64 0] 72) = W at *
  have x0 : W.cell? ⟨w.heap.size, 0, none⟩ = some (.int .i64 i) := KA.at 0
  have x1 : W.cell? ⟨w.heap.size, 1, none⟩ = some (.bool g) := KA.at 1
  have x2 : W.cell? ⟨w.heap.size, 2, none⟩ = some (.slice a1 l1 c1) := KA.at 2
  have x3 : W.cell? ⟨w.heap.size, 3, none⟩ = some (.slice a2 l2 c2) := KA.at 3
  have y0 : W.cell? ⟨w.heap.size + 1, 0, none⟩ = some (.int .i64 j) := KB.at 0
  have y1 : W.cell? ⟨w.heap.size + 1, 1, none⟩ = some (.bool h) := KB.at 1
  have y2 : W.cell? ⟨w.heap.size + 1, 2, none⟩ = some (.slice d1 k1 e1) := KB.at 2
  have y3 : W.cell? ⟨w.heap.size + 1, 3, none⟩ = some (.slice d2 k2 e2) := KB.at 3
  have r0 : W.cell? ⟨w.heap.size + 1 + 1, 0, none⟩ = some (.float .f64 0) := KR.at 0
  have f0 := KR.free 0
  have r1 : W.cell? ⟨w.heap.size + 1 + 1, 1, none⟩ = some (.float .f64 0) := KR.at 1
  have f1 := KR.free 1
  have n0 : w.heap.size ≠ w.heap.size + 1 + 1 := by omega
  have n1 : w.heap.size + 1 ≠ w.heap.size + 1 + 1 := by omega
  go_region_held3 (fun x => x.cell? ⟨w.heap.size, 0, none⟩ = some (.int .i64 i) ∧ x.cell? ⟨w.heap.size, 1, none⟩ = some (.bool g) ∧ x.cell? ⟨w.heap.size, 2, none⟩ = some (.slice a1 l1 c1) ∧ x.cell? ⟨w.heap.size, 3, none⟩ = some (.slice a2 l2 c2) ∧ x.cell? ⟨w.heap.size + 1, 0, none⟩ = some (.int .i64 j) ∧ x.cell? ⟨w.heap.size + 1, 1, none⟩ = some (.bool h) ∧ x.cell? ⟨w.heap.size + 1, 2, none⟩ = some (.slice d1 k1 e1) ∧ x.cell? ⟨w.heap.size + 1, 3, none⟩ = some (.slice d2 k2 e2)) (first | exact ⟨set2_o x0 n0, set2_o x1 n0, set2_o x2 n0, set2_o x3 n0, set2_o y0 n1, set2_o y1 n1, set2_o y2 n1, set2_o y3 n1⟩ | go_keep) (first
    | (go_at_call 125; (with_reducible refine (T1 _ pr).mono ?_); rintro r w1 ⟨rfl, bb⟩; replace KA := KA.below bb KA.lt; replace KB := KB.below bb KB.lt; replace KR := KR.below bb KR.lt; replace pr := bel pr bb; clear bb; have x0 : w1.cell? ⟨w.heap.size, 0, none⟩ = some (.int .i64 i) := KA.at 0; have x1 : w1.cell? ⟨w.heap.size, 1, none⟩ = some (.bool g) := KA.at 1; have x2 : w1.cell? ⟨w.heap.size, 2, none⟩ = some (.slice a1 l1 c1) := KA.at 2; have x3 : w1.cell? ⟨w.heap.size, 3, none⟩ = some (.slice a2 l2 c2) := KA.at 3; have y0 : w1.cell? ⟨w.heap.size + 1, 0, none⟩ = some (.int .i64 j) := KB.at 0; have y1 : w1.cell? ⟨w.heap.size + 1, 1, none⟩ = some (.bool h) := KB.at 1; have y2 : w1.cell? ⟨w.heap.size + 1, 2, none⟩ = some (.slice d1 k1 e1) := KB.at 2; have y3 : w1.cell? ⟨w.heap.size + 1, 3, none⟩ = some (.slice d2 k2 e2) := KB.at 3; have r0 : w1.cell? ⟨w.heap.size + 1 + 1, 0, none⟩ = some (.float .f64 0) := KR.at 0; have f0 := KR.free 0; have r1 : w1.cell? ⟨w.heap.size + 1 + 1, 1, none⟩ = some (.float .f64 0) := KR.at 1; have f1 := KR.free 1)
    | (go_at_call 125; (with_reducible refine (T1 _ pr.drew).mono ?_); rintro r w1 ⟨rfl, bb⟩; replace KA := KA.below (below_undrew bb) KA.lt; replace KB := KB.below (below_undrew bb) KB.lt; replace KR := KR.below (below_undrew bb) KR.lt; replace pr := bel pr (below_undrew bb); clear bb; have x0 : w1.cell? ⟨w.heap.size, 0, none⟩ = some (.int .i64 i) := KA.at 0; have x1 : w1.cell? ⟨w.heap.size, 1, none⟩ = some (.bool g) := KA.at 1; have x2 : w1.cell? ⟨w.heap.size, 2, none⟩ = some (.slice a1 l1 c1) := KA.at 2; have x3 : w1.cell? ⟨w.heap.size, 3, none⟩ = some (.slice a2 l2 c2) := KA.at 3; have y0 : w1.cell? ⟨w.heap.size + 1, 0, none⟩ = some (.int .i64 j) := KB.at 0; have y1 : w1.cell? ⟨w.heap.size + 1, 1, none⟩ = some (.bool h) := KB.at 1; have y2 : w1.cell? ⟨w.heap.size + 1, 2, none⟩ = some (.slice d1 k1 e1) := KB.at 2; have y3 : w1.cell? ⟨w.heap.size + 1, 3, none⟩ = some (.slice d2 k2 e2) := KB.at 3; have r0 : w1.cell? ⟨w.heap.size + 1 + 1, 0, none⟩ = some (.float .f64 0) := KR.at 0; have f0 := KR.free 0; have r1 : w1.cell? ⟨w.heap.size + 1 + 1, 1, none⟩ = some (.float .f64 0) := KR.at 1; have f1 := KR.free 1)
    | (go_at_call 125; (with_reducible refine (T2 _ pr).mono ?_); rintro r w2 ⟨rfl, bb⟩; replace KA := KA.below bb KA.lt; replace KB := KB.below bb KB.lt; replace KR := KR.below bb KR.lt; replace pr := bel pr bb; clear bb; have x0 : w2.cell? ⟨w.heap.size, 0, none⟩ = some (.int .i64 i) := KA.at 0; have x1 : w2.cell? ⟨w.heap.size, 1, none⟩ = some (.bool g) := KA.at 1; have x2 : w2.cell? ⟨w.heap.size, 2, none⟩ = some (.slice a1 l1 c1) := KA.at 2; have x3 : w2.cell? ⟨w.heap.size, 3, none⟩ = some (.slice a2 l2 c2) := KA.at 3; have y0 : w2.cell? ⟨w.heap.size + 1, 0, none⟩ = some (.int .i64 j) := KB.at 0; have y1 : w2.cell? ⟨w.heap.size + 1, 1, none⟩ = some (.bool h) := KB.at 1; have y2 : w2.cell? ⟨w.heap.size + 1, 2, none⟩ = some (.slice d1 k1 e1) := KB.at 2; have y3 : w2.cell? ⟨w.heap.size + 1, 3, none⟩ = some (.slice d2 k2 e2) := KB.at 3; have r0 : w2.cell? ⟨w.heap.size + 1 + 1, 0, none⟩ = some (.float .f64 0) := KR.at 0; have f0 := KR.free 0; have r1 : w2.cell? ⟨w.heap.size + 1 + 1, 1, none⟩ = some (.float .f64 0) := KR.at 1; have f1 := KR.free 1)
    | (go_at_call 125; (with_reducible refine (T2 _ pr.drew).mono ?_); rintro r w2 ⟨rfl, bb⟩; replace KA := KA.below (below_undrew bb) KA.lt; replace KB := KB.below (below_undrew bb) KB.lt; replace KR := KR.below (below_undrew bb) KR.lt; replace pr := bel pr (below_undrew bb); clear bb; have x0 : w2.cell? ⟨w.heap.size, 0, none⟩ = some (.int .i64 i) := KA.at 0; have x1 : w2.cell? ⟨w.heap.size, 1, none⟩ = some (.bool g) := KA.at 1; have x2 : w2.cell? ⟨w.heap.size, 2, none⟩ = some (.slice a1 l1 c1) := KA.at 2; have x3 : w2.cell? ⟨w.heap.size, 3, none⟩ = some (.slice a2 l2 c2) := KA.at 3; have y0 : w2.cell? ⟨w.heap.size + 1, 0, none⟩ = some (.int .i64 j) := KB.at 0; have y1 : w2.cell? ⟨w.heap.size + 1, 1, none⟩ = some (.bool h) := KB.at 1; have y2 : w2.cell? ⟨w.heap.size + 1, 2, none⟩ = some (.slice d1 k1 e1) := KB.at 2; have y3 : w2.cell? ⟨w.heap.size + 1, 3, none⟩ = some (.slice d2 k2 e2) := KB.at 3; have r0 : w2.cell? ⟨w.heap.size + 1 + 1, 0, none⟩ = some (.float .f64 0) := KR.at 0; have f0 := KR.free 0; have r1 : w2.cell? ⟨w.heap.size + 1 + 1, 1, none⟩ = some (.float .f64 0) := KR.at 1; have f1 := KR.free 1)
    | fail)
  go_wp2_with fail
  have ZZ : Blk ((w2.setCell ⟨w.heap.size + 1 + 1, 0, none⟩ (.float .f64 n)).setCell ⟨w.heap.size + 1 + 1, 1, none⟩ (.float .f64 m)) (w.heap.size + 1 + 1) #[.float .f64 n, .float .f64 m] 72 := kset (kset KR)
  have F0 := ZZ.at 0
  have F1 := ZZ.at 1
  simp only [List.getElem?_toArray, List.getElem?_cons_zero, List.getElem?_cons_succ] at F0 F1
  exact bodyPost_ret (v := spn n m) (by simp [results, Try.results93, go_sem, F0, F1]) rfl ⟨rfl, pset (pset pr (by omega)) (by omega)⟩
/-- The reference's tight, of two ends that are no -0. -/
theorem tight_any (n m : Nat) (v u : Value) (hn : n < 18446744073709551616) (hm : m < 18446744073709551616) (on : okEnd n = true) (om : okEnd m = true) (w : World) (hv : IsE w v n) (hu : IsE w u m) :
    Calls Try.prog 93 #[v, u] w fun x w' => x = .returned (spn n m) ∧ Below w.heap.size w w' := by
  have T1 : ∀ w', Below w.heap.size w w' → Calls Try.prog 125 #[v, .int .i64 1] w' fun x w'' => x = .returned (.float .f64 n) ∧ Below w'.heap.size w' w'' := fun w' b => told_any n v 1 hn on w' (hv.grow b)
  have T2 : ∀ w', Below w.heap.size w w' → Calls Try.prog 125 #[u, .int .i64 2] w' fun x w'' => x = .returned (.float .f64 m) ∧ Below w'.heap.size w' w'' := fun w' b => told_any m u 2 hm om w' (hu.grow b)
  obtain ⟨g, a1, a2, l1, c1, l2, c2, rfl, -⟩ := hv
  obtain ⟨h, d1, d2, k1, e1, k2, e2, rfl, -⟩ := hu
  exact tight_walk n m _ _ g a1 l1 c1 a2 l2 c2 h d1 k1 e1 d2 k2 e2 w T1 T2
end Go.Proofs.Ytlngkonmalallaa

namespace Go.Proofs.Ytlngkonmalallaa
open Go.RowKit Tn

set_option maxRecDepth 100000 in
set_option maxHeartbeats 1600000 in
theorem least_no (i j : Int) (g : Bool) (a1 : Option Addr) (l1 c1 : Nat) (a2 : Option Addr) (l2 c2 : Nat) (h : Bool) (d1 : Option Addr) (k1 e1 : Nat) (d2 : Option Addr) (k2 e2 : Nat) (c : Int) (B : Nat) (w : World) (hc : (decide (c < 0)) = false) (K : Blk w B #[.int .i64 i, .bool g, .slice a1 l1 c1, .slice a2 l2 c2, .int .i64 j, .bool h, .slice d1 k1 e1, .slice d2 k2 e2] 123)
    (C : ∀ w', Below w.heap.size w w' → Calls Try.prog 92 #[env j h d1 k1 e1 d2 k2 e2, env i g a1 l1 c1 a2 l2 c2] w' fun x w'' => x = .returned (.int .i64 c) ∧ Below w'.heap.size w' w'') :
    Calls Try.prog 91 #[.slice (some ⟨B, 0, none⟩) 2 2] w fun x w' => x = .returned (env i g a1 l1 c1 a2 l2 c2) ∧ Below w.heap.size w w' := by
  have hb := K.lt
  have KR := (Blk.new w #[.int .i64 0, .bool false, .slice none 0 0, .slice none 0 0] 123).alloc (.cells #[.int .i64 i, .bool g, .slice a1 l1 c1, .slice a2 l2 c2] 123)
  have KM := Blk.new (w.alloc (.cells #[.int .i64 0, .bool false, .slice none 0 0, .slice none 0 0] 123)) #[.int .i64 i, .bool g, .slice a1 l1 c1, .slice a2 l2 c2] 123
  simp only [World.size_alloc] at KM
  have pr : Below w.heap.size w ((w.alloc (.cells #[.int .i64 0, .bool false, .slice none 0 0, .slice none 0 0] 123)).alloc (.cells #[.int .i64 i, .bool g, .slice a1 l1 c1, .slice a2 l2 c2] 123)) := ((Below.refl _ _).alloc (Nat.le_refl _) _).alloc (by simp) _
  have x0 : w.cell? ⟨B, 0, none⟩ = some (.int .i64 i) := K.at 0
  have x1 : w.cell? ⟨B, 1, none⟩ = some (.bool g) := K.at 1
  have x2 : w.cell? ⟨B, 2, none⟩ = some (.slice a1 l1 c1) := K.at 2
  have x3 : w.cell? ⟨B, 3, none⟩ = some (.slice a2 l2 c2) := K.at 3
  go_enter Try.func91, Try.ntmps91
  go_wp2_with fail
  replace K := K.below pr hb
  clear x0 x1 x2 x3
  generalize (w.alloc (.cells #[.int .i64 0, .bool false, .slice none 0 0, .slice none 0 0] 123)).alloc (.cells #[.int .i64 i, .bool g, .slice a1 l1 c1, .slice a2 l2 c2] 123) = W at *
  have x0 : W.cell? ⟨B, 0, none⟩ = some (.int .i64 i) := K.at 0
  have x1 : W.cell? ⟨B, 1, none⟩ = some (.bool g) := K.at 1
  have x2 : W.cell? ⟨B, 2, none⟩ = some (.slice a1 l1 c1) := K.at 2
  have x3 : W.cell? ⟨B, 3, none⟩ = some (.slice a2 l2 c2) := K.at 3
  have x4 : W.cell? ⟨B, 4, none⟩ = some (.int .i64 j) := K.at 4
  have x5 : W.cell? ⟨B, 5, none⟩ = some (.bool h) := K.at 5
  have x6 : W.cell? ⟨B, 6, none⟩ = some (.slice d1 k1 e1) := K.at 6
  have x7 : W.cell? ⟨B, 7, none⟩ = some (.slice d2 k2 e2) := K.at 7
  have m0 : W.cell? ⟨w.heap.size + 1, 0, none⟩ = some (.int .i64 i) := KM.at 0
  have m1 : W.cell? ⟨w.heap.size + 1, 1, none⟩ = some (.bool g) := KM.at 1
  have m2 : W.cell? ⟨w.heap.size + 1, 2, none⟩ = some (.slice a1 l1 c1) := KM.at 2
  have m3 : W.cell? ⟨w.heap.size + 1, 3, none⟩ = some (.slice a2 l2 c2) := KM.at 3
  refine wp_loop_rounds 2 ?_
  rw [rounds_succ]
  go_wp2_with fail
  go_region_held3 (fun x => x.cell? ⟨B, 4, none⟩ = some (.int .i64 j) ∧ x.cell? ⟨B, 5, none⟩ = some (.bool h) ∧ x.cell? ⟨B, 6, none⟩ = some (.slice d1 k1 e1) ∧ x.cell? ⟨B, 7, none⟩ = some (.slice d2 k2 e2) ∧ x.cell? ⟨w.heap.size + 1, 0, none⟩ = some (.int .i64 i) ∧ x.cell? ⟨w.heap.size + 1, 1, none⟩ = some (.bool g) ∧ x.cell? ⟨w.heap.size + 1, 2, none⟩ = some (.slice a1 l1 c1) ∧ x.cell? ⟨w.heap.size + 1, 3, none⟩ = some (.slice a2 l2 c2)) (go_keep) (first
    | (go_at_call 92; (with_reducible refine (C _ pr).mono ?_); rintro r w1 ⟨rfl, bb⟩; have lW := pr.size; replace K := K.below bb (Nat.lt_of_lt_of_le hb lW); replace KM := KM.below bb KM.lt; replace KR := KR.below bb KR.lt; replace pr := bel pr bb; clear bb lW; have x0 : w1.cell? ⟨B, 0, none⟩ = some (.int .i64 i) := K.at 0; have x1 : w1.cell? ⟨B, 1, none⟩ = some (.bool g) := K.at 1; have x2 : w1.cell? ⟨B, 2, none⟩ = some (.slice a1 l1 c1) := K.at 2; have x3 : w1.cell? ⟨B, 3, none⟩ = some (.slice a2 l2 c2) := K.at 3; have x4 : w1.cell? ⟨B, 4, none⟩ = some (.int .i64 j) := K.at 4; have x5 : w1.cell? ⟨B, 5, none⟩ = some (.bool h) := K.at 5; have x6 : w1.cell? ⟨B, 6, none⟩ = some (.slice d1 k1 e1) := K.at 6; have x7 : w1.cell? ⟨B, 7, none⟩ = some (.slice d2 k2 e2) := K.at 7; have m0 : w1.cell? ⟨w.heap.size + 1, 0, none⟩ = some (.int .i64 i) := KM.at 0; have m1 : w1.cell? ⟨w.heap.size + 1, 1, none⟩ = some (.bool g) := KM.at 1; have m2 : w1.cell? ⟨w.heap.size + 1, 2, none⟩ = some (.slice a1 l1 c1) := KM.at 2; have m3 : w1.cell? ⟨w.heap.size + 1, 3, none⟩ = some (.slice a2 l2 c2) := KM.at 3; have r0 : w1.cell? ⟨w.heap.size, 0, none⟩ = some (.int .i64 0) := KR.at 0; have r1 : w1.cell? ⟨w.heap.size, 1, none⟩ = some (.bool false) := KR.at 1; have r2 : w1.cell? ⟨w.heap.size, 2, none⟩ = some (.slice none 0 0) := KR.at 2; have r3 : w1.cell? ⟨w.heap.size, 3, none⟩ = some (.slice none 0 0) := KR.at 3; have fm0 := KM.free 0; have fm1 := KM.free 1; have fm2 := KM.free 2; have fm3 := KM.free 3; have fr0 := KR.free 0; have fr1 := KR.free 1; have fr2 := KR.free 2; have fr3 := KR.free 3)
    | (go_at_call 92; (with_reducible refine (C _ pr.drew).mono ?_); rintro r w1 ⟨rfl, bb⟩; have lW := pr.size; replace K := K.below (below_undrew bb) (Nat.lt_of_lt_of_le hb lW); replace KM := KM.below (below_undrew bb) KM.lt; replace KR := KR.below (below_undrew bb) KR.lt; replace pr := bel pr (below_undrew bb); clear bb lW; have x0 : w1.cell? ⟨B, 0, none⟩ = some (.int .i64 i) := K.at 0; have x1 : w1.cell? ⟨B, 1, none⟩ = some (.bool g) := K.at 1; have x2 : w1.cell? ⟨B, 2, none⟩ = some (.slice a1 l1 c1) := K.at 2; have x3 : w1.cell? ⟨B, 3, none⟩ = some (.slice a2 l2 c2) := K.at 3; have x4 : w1.cell? ⟨B, 4, none⟩ = some (.int .i64 j) := K.at 4; have x5 : w1.cell? ⟨B, 5, none⟩ = some (.bool h) := K.at 5; have x6 : w1.cell? ⟨B, 6, none⟩ = some (.slice d1 k1 e1) := K.at 6; have x7 : w1.cell? ⟨B, 7, none⟩ = some (.slice d2 k2 e2) := K.at 7; have m0 : w1.cell? ⟨w.heap.size + 1, 0, none⟩ = some (.int .i64 i) := KM.at 0; have m1 : w1.cell? ⟨w.heap.size + 1, 1, none⟩ = some (.bool g) := KM.at 1; have m2 : w1.cell? ⟨w.heap.size + 1, 2, none⟩ = some (.slice a1 l1 c1) := KM.at 2; have m3 : w1.cell? ⟨w.heap.size + 1, 3, none⟩ = some (.slice a2 l2 c2) := KM.at 3; have r0 : w1.cell? ⟨w.heap.size, 0, none⟩ = some (.int .i64 0) := KR.at 0; have r1 : w1.cell? ⟨w.heap.size, 1, none⟩ = some (.bool false) := KR.at 1; have r2 : w1.cell? ⟨w.heap.size, 2, none⟩ = some (.slice none 0 0) := KR.at 2; have r3 : w1.cell? ⟨w.heap.size, 3, none⟩ = some (.slice none 0 0) := KR.at 3; have fm0 := KM.free 0; have fm1 := KM.free 1; have fm2 := KM.free 2; have fm3 := KM.free 3; have fr0 := KR.free 0; have fr1 := KR.free 1; have fr2 := KR.free 2; have fr3 := KR.free 3)
    | fail)
  go_wp2_with fail
  rw [rounds_succ]
  go_wp2_with fail
  have ZZ : Blk (((((w1).setCell ⟨w.heap.size, 0, none⟩ (.int .i64 i)).setCell ⟨w.heap.size, 1, none⟩ (.bool g)).setCell ⟨w.heap.size, 2, none⟩ (.slice a1 l1 c1)).setCell ⟨w.heap.size, 3, none⟩ (.slice a2 l2 c2)) w.heap.size #[.int .i64 i, .bool g, .slice a1 l1 c1, .slice a2 l2 c2] 123 := kset (kset (kset (kset KR)))
  have F0 := ZZ.at 0
  have F1 := ZZ.at 1
  have F2 := ZZ.at 2
  have F3 := ZZ.at 3
  simp only [List.getElem?_toArray, List.getElem?_cons_zero, List.getElem?_cons_succ] at F0 F1 F2 F3
  exact bodyPost_ret (v := env i g a1 l1 c1 a2 l2 c2) (by simp [results, Try.results91, go_sem, F0, F1, F2, F3]) rfl ⟨rfl, pset (pset (pset (pset pr (by omega)) (by omega)) (by omega)) (by omega)⟩
set_option maxRecDepth 100000 in
set_option maxHeartbeats 1600000 in
theorem least_yes (i j : Int) (g : Bool) (a1 : Option Addr) (l1 c1 : Nat) (a2 : Option Addr) (l2 c2 : Nat) (h : Bool) (d1 : Option Addr) (k1 e1 : Nat) (d2 : Option Addr) (k2 e2 : Nat) (c : Int) (B : Nat) (w : World) (hc : (decide (c < 0)) = true) (K : Blk w B #[.int .i64 i, .bool g, .slice a1 l1 c1, .slice a2 l2 c2, .int .i64 j, .bool h, .slice d1 k1 e1, .slice d2 k2 e2] 123)
    (C : ∀ w', Below w.heap.size w w' → Calls Try.prog 92 #[env j h d1 k1 e1 d2 k2 e2, env i g a1 l1 c1 a2 l2 c2] w' fun x w'' => x = .returned (.int .i64 c) ∧ Below w'.heap.size w' w'') :
    Calls Try.prog 91 #[.slice (some ⟨B, 0, none⟩) 2 2] w fun x w' => x = .returned (env j h d1 k1 e1 d2 k2 e2) ∧ Below w.heap.size w w' := by
  have hb := K.lt
  have KR := (Blk.new w #[.int .i64 0, .bool false, .slice none 0 0, .slice none 0 0] 123).alloc (.cells #[.int .i64 i, .bool g, .slice a1 l1 c1, .slice a2 l2 c2] 123)
  have KM := Blk.new (w.alloc (.cells #[.int .i64 0, .bool false, .slice none 0 0, .slice none 0 0] 123)) #[.int .i64 i, .bool g, .slice a1 l1 c1, .slice a2 l2 c2] 123
  simp only [World.size_alloc] at KM
  have pr : Below w.heap.size w ((w.alloc (.cells #[.int .i64 0, .bool false, .slice none 0 0, .slice none 0 0] 123)).alloc (.cells #[.int .i64 i, .bool g, .slice a1 l1 c1, .slice a2 l2 c2] 123)) := ((Below.refl _ _).alloc (Nat.le_refl _) _).alloc (by simp) _
  have x0 : w.cell? ⟨B, 0, none⟩ = some (.int .i64 i) := K.at 0
  have x1 : w.cell? ⟨B, 1, none⟩ = some (.bool g) := K.at 1
  have x2 : w.cell? ⟨B, 2, none⟩ = some (.slice a1 l1 c1) := K.at 2
  have x3 : w.cell? ⟨B, 3, none⟩ = some (.slice a2 l2 c2) := K.at 3
  go_enter Try.func91, Try.ntmps91
  go_wp2_with fail
  replace K := K.below pr hb
  clear x0 x1 x2 x3
  generalize (w.alloc (.cells #[.int .i64 0, .bool false, .slice none 0 0, .slice none 0 0] 123)).alloc (.cells #[.int .i64 i, .bool g, .slice a1 l1 c1, .slice a2 l2 c2] 123) = W at *
  have x0 : W.cell? ⟨B, 0, none⟩ = some (.int .i64 i) := K.at 0
  have x1 : W.cell? ⟨B, 1, none⟩ = some (.bool g) := K.at 1
  have x2 : W.cell? ⟨B, 2, none⟩ = some (.slice a1 l1 c1) := K.at 2
  have x3 : W.cell? ⟨B, 3, none⟩ = some (.slice a2 l2 c2) := K.at 3
  have x4 : W.cell? ⟨B, 4, none⟩ = some (.int .i64 j) := K.at 4
  have x5 : W.cell? ⟨B, 5, none⟩ = some (.bool h) := K.at 5
  have x6 : W.cell? ⟨B, 6, none⟩ = some (.slice d1 k1 e1) := K.at 6
  have x7 : W.cell? ⟨B, 7, none⟩ = some (.slice d2 k2 e2) := K.at 7
  have m0 : W.cell? ⟨w.heap.size + 1, 0, none⟩ = some (.int .i64 i) := KM.at 0
  have m1 : W.cell? ⟨w.heap.size + 1, 1, none⟩ = some (.bool g) := KM.at 1
  have m2 : W.cell? ⟨w.heap.size + 1, 2, none⟩ = some (.slice a1 l1 c1) := KM.at 2
  have m3 : W.cell? ⟨w.heap.size + 1, 3, none⟩ = some (.slice a2 l2 c2) := KM.at 3
  refine wp_loop_rounds 2 ?_
  rw [rounds_succ]
  go_wp2_with fail
  go_region_held3 (fun x => x.cell? ⟨B, 4, none⟩ = some (.int .i64 j) ∧ x.cell? ⟨B, 5, none⟩ = some (.bool h) ∧ x.cell? ⟨B, 6, none⟩ = some (.slice d1 k1 e1) ∧ x.cell? ⟨B, 7, none⟩ = some (.slice d2 k2 e2) ∧ x.cell? ⟨w.heap.size + 1, 0, none⟩ = some (.int .i64 i) ∧ x.cell? ⟨w.heap.size + 1, 1, none⟩ = some (.bool g) ∧ x.cell? ⟨w.heap.size + 1, 2, none⟩ = some (.slice a1 l1 c1) ∧ x.cell? ⟨w.heap.size + 1, 3, none⟩ = some (.slice a2 l2 c2)) (go_keep) (first
    | (go_at_call 92; (with_reducible refine (C _ pr).mono ?_); rintro r w1 ⟨rfl, bb⟩; have lW := pr.size; replace K := K.below bb (Nat.lt_of_lt_of_le hb lW); replace KM := KM.below bb KM.lt; replace KR := KR.below bb KR.lt; replace pr := bel pr bb; clear bb lW; have x0 : w1.cell? ⟨B, 0, none⟩ = some (.int .i64 i) := K.at 0; have x1 : w1.cell? ⟨B, 1, none⟩ = some (.bool g) := K.at 1; have x2 : w1.cell? ⟨B, 2, none⟩ = some (.slice a1 l1 c1) := K.at 2; have x3 : w1.cell? ⟨B, 3, none⟩ = some (.slice a2 l2 c2) := K.at 3; have x4 : w1.cell? ⟨B, 4, none⟩ = some (.int .i64 j) := K.at 4; have x5 : w1.cell? ⟨B, 5, none⟩ = some (.bool h) := K.at 5; have x6 : w1.cell? ⟨B, 6, none⟩ = some (.slice d1 k1 e1) := K.at 6; have x7 : w1.cell? ⟨B, 7, none⟩ = some (.slice d2 k2 e2) := K.at 7; have m0 : w1.cell? ⟨w.heap.size + 1, 0, none⟩ = some (.int .i64 i) := KM.at 0; have m1 : w1.cell? ⟨w.heap.size + 1, 1, none⟩ = some (.bool g) := KM.at 1; have m2 : w1.cell? ⟨w.heap.size + 1, 2, none⟩ = some (.slice a1 l1 c1) := KM.at 2; have m3 : w1.cell? ⟨w.heap.size + 1, 3, none⟩ = some (.slice a2 l2 c2) := KM.at 3; have r0 : w1.cell? ⟨w.heap.size, 0, none⟩ = some (.int .i64 0) := KR.at 0; have r1 : w1.cell? ⟨w.heap.size, 1, none⟩ = some (.bool false) := KR.at 1; have r2 : w1.cell? ⟨w.heap.size, 2, none⟩ = some (.slice none 0 0) := KR.at 2; have r3 : w1.cell? ⟨w.heap.size, 3, none⟩ = some (.slice none 0 0) := KR.at 3; have fm0 := KM.free 0; have fm1 := KM.free 1; have fm2 := KM.free 2; have fm3 := KM.free 3; have fr0 := KR.free 0; have fr1 := KR.free 1; have fr2 := KR.free 2; have fr3 := KR.free 3)
    | (go_at_call 92; (with_reducible refine (C _ pr.drew).mono ?_); rintro r w1 ⟨rfl, bb⟩; have lW := pr.size; replace K := K.below (below_undrew bb) (Nat.lt_of_lt_of_le hb lW); replace KM := KM.below (below_undrew bb) KM.lt; replace KR := KR.below (below_undrew bb) KR.lt; replace pr := bel pr (below_undrew bb); clear bb lW; have x0 : w1.cell? ⟨B, 0, none⟩ = some (.int .i64 i) := K.at 0; have x1 : w1.cell? ⟨B, 1, none⟩ = some (.bool g) := K.at 1; have x2 : w1.cell? ⟨B, 2, none⟩ = some (.slice a1 l1 c1) := K.at 2; have x3 : w1.cell? ⟨B, 3, none⟩ = some (.slice a2 l2 c2) := K.at 3; have x4 : w1.cell? ⟨B, 4, none⟩ = some (.int .i64 j) := K.at 4; have x5 : w1.cell? ⟨B, 5, none⟩ = some (.bool h) := K.at 5; have x6 : w1.cell? ⟨B, 6, none⟩ = some (.slice d1 k1 e1) := K.at 6; have x7 : w1.cell? ⟨B, 7, none⟩ = some (.slice d2 k2 e2) := K.at 7; have m0 : w1.cell? ⟨w.heap.size + 1, 0, none⟩ = some (.int .i64 i) := KM.at 0; have m1 : w1.cell? ⟨w.heap.size + 1, 1, none⟩ = some (.bool g) := KM.at 1; have m2 : w1.cell? ⟨w.heap.size + 1, 2, none⟩ = some (.slice a1 l1 c1) := KM.at 2; have m3 : w1.cell? ⟨w.heap.size + 1, 3, none⟩ = some (.slice a2 l2 c2) := KM.at 3; have r0 : w1.cell? ⟨w.heap.size, 0, none⟩ = some (.int .i64 0) := KR.at 0; have r1 : w1.cell? ⟨w.heap.size, 1, none⟩ = some (.bool false) := KR.at 1; have r2 : w1.cell? ⟨w.heap.size, 2, none⟩ = some (.slice none 0 0) := KR.at 2; have r3 : w1.cell? ⟨w.heap.size, 3, none⟩ = some (.slice none 0 0) := KR.at 3; have fm0 := KM.free 0; have fm1 := KM.free 1; have fm2 := KM.free 2; have fm3 := KM.free 3; have fr0 := KR.free 0; have fr1 := KR.free 1; have fr2 := KR.free 2; have fr3 := KR.free 3)
    | fail)
  go_wp2_with fail
  have n01 : w.heap.size ≠ w.heap.size + 1 := by omega
  replace KM : Blk (((((w1).setCell ⟨w.heap.size + 1, 0, none⟩ (.int .i64 j)).setCell ⟨w.heap.size + 1, 1, none⟩ (.bool h)).setCell ⟨w.heap.size + 1, 2, none⟩ (.slice d1 k1 e1)).setCell ⟨w.heap.size + 1, 3, none⟩ (.slice d2 k2 e2)) (w.heap.size + 1) #[.int .i64 j, .bool h, .slice d1 k1 e1, .slice d2 k2 e2] 123 := kset (kset (kset (kset KM)))
  replace KR : Blk (((((w1).setCell ⟨w.heap.size + 1, 0, none⟩ (.int .i64 j)).setCell ⟨w.heap.size + 1, 1, none⟩ (.bool h)).setCell ⟨w.heap.size + 1, 2, none⟩ (.slice d1 k1 e1)).setCell ⟨w.heap.size + 1, 3, none⟩ (.slice d2 k2 e2)) w.heap.size #[.int .i64 0, .bool false, .slice none 0 0, .slice none 0 0] 123 := kset_o (kset_o (kset_o (kset_o KR n01) n01) n01) n01
  replace pr : Below w.heap.size w (((((w1).setCell ⟨w.heap.size + 1, 0, none⟩ (.int .i64 j)).setCell ⟨w.heap.size + 1, 1, none⟩ (.bool h)).setCell ⟨w.heap.size + 1, 2, none⟩ (.slice d1 k1 e1)).setCell ⟨w.heap.size + 1, 3, none⟩ (.slice d2 k2 e2)) := pset (pset (pset (pset pr (by omega)) (by omega)) (by omega)) (by omega)
  clear x0 x1 x2 x3 x4 x5 x6 x7 m0 r0 fm0 fr0 m1 r1 fm1 fr1 m2 r2 fm2 fr2 m3 r3 fm3 fr3 K
  generalize ((((w1).setCell ⟨w.heap.size + 1, 0, none⟩ (.int .i64 j)).setCell ⟨w.heap.size + 1, 1, none⟩ (.bool h)).setCell ⟨w.heap.size + 1, 2, none⟩ (.slice d1 k1 e1)).setCell ⟨w.heap.size + 1, 3, none⟩ (.slice d2 k2 e2) = W9 at *
  have m0 : W9.cell? ⟨w.heap.size + 1, 0, none⟩ = some (.int .i64 j) := KM.at 0
  have m1 : W9.cell? ⟨w.heap.size + 1, 1, none⟩ = some (.bool h) := KM.at 1
  have m2 : W9.cell? ⟨w.heap.size + 1, 2, none⟩ = some (.slice d1 k1 e1) := KM.at 2
  have m3 : W9.cell? ⟨w.heap.size + 1, 3, none⟩ = some (.slice d2 k2 e2) := KM.at 3
  have r0 : W9.cell? ⟨w.heap.size, 0, none⟩ = some (.int .i64 0) := KR.at 0
  have r1 : W9.cell? ⟨w.heap.size, 1, none⟩ = some (.bool false) := KR.at 1
  have r2 : W9.cell? ⟨w.heap.size, 2, none⟩ = some (.slice none 0 0) := KR.at 2
  have r3 : W9.cell? ⟨w.heap.size, 3, none⟩ = some (.slice none 0 0) := KR.at 3
  have fr0 := KR.free 0
  have fr1 := KR.free 1
  have fr2 := KR.free 2
  have fr3 := KR.free 3
  rw [rounds_succ]
  go_wp2_with fail
  have ZZ : Blk (((((W9).setCell ⟨w.heap.size, 0, none⟩ (.int .i64 j)).setCell ⟨w.heap.size, 1, none⟩ (.bool h)).setCell ⟨w.heap.size, 2, none⟩ (.slice d1 k1 e1)).setCell ⟨w.heap.size, 3, none⟩ (.slice d2 k2 e2)) w.heap.size #[.int .i64 j, .bool h, .slice d1 k1 e1, .slice d2 k2 e2] 123 := kset (kset (kset (kset KR)))
  have F0 := ZZ.at 0
  have F1 := ZZ.at 1
  have F2 := ZZ.at 2
  have F3 := ZZ.at 3
  simp only [List.getElem?_toArray, List.getElem?_cons_zero, List.getElem?_cons_succ] at F0 F1 F2 F3
  exact bodyPost_ret (v := env j h d1 k1 e1 d2 k2 e2) (by simp [results, Try.results91, go_sem, F0, F1, F2, F3]) rfl ⟨rfl, pset (pset (pset (pset pr (by omega)) (by omega)) (by omega)) (by omega)⟩
set_option maxRecDepth 100000 in
set_option maxHeartbeats 1600000 in
theorem greatest_no (i j : Int) (g : Bool) (a1 : Option Addr) (l1 c1 : Nat) (a2 : Option Addr) (l2 c2 : Nat) (h : Bool) (d1 : Option Addr) (k1 e1 : Nat) (d2 : Option Addr) (k2 e2 : Nat) (c : Int) (B : Nat) (w : World) (hc : (decide (c > 0)) = false) (K : Blk w B #[.int .i64 i, .bool g, .slice a1 l1 c1, .slice a2 l2 c2, .int .i64 j, .bool h, .slice d1 k1 e1, .slice d2 k2 e2] 123)
    (C : ∀ w', Below w.heap.size w w' → Calls Try.prog 92 #[env j h d1 k1 e1 d2 k2 e2, env i g a1 l1 c1 a2 l2 c2] w' fun x w'' => x = .returned (.int .i64 c) ∧ Below w'.heap.size w' w'') :
    Calls Try.prog 90 #[.slice (some ⟨B, 0, none⟩) 2 2] w fun x w' => x = .returned (env i g a1 l1 c1 a2 l2 c2) ∧ Below w.heap.size w w' := by
  have hb := K.lt
  have KR := (Blk.new w #[.int .i64 0, .bool false, .slice none 0 0, .slice none 0 0] 123).alloc (.cells #[.int .i64 i, .bool g, .slice a1 l1 c1, .slice a2 l2 c2] 123)
  have KM := Blk.new (w.alloc (.cells #[.int .i64 0, .bool false, .slice none 0 0, .slice none 0 0] 123)) #[.int .i64 i, .bool g, .slice a1 l1 c1, .slice a2 l2 c2] 123
  simp only [World.size_alloc] at KM
  have pr : Below w.heap.size w ((w.alloc (.cells #[.int .i64 0, .bool false, .slice none 0 0, .slice none 0 0] 123)).alloc (.cells #[.int .i64 i, .bool g, .slice a1 l1 c1, .slice a2 l2 c2] 123)) := ((Below.refl _ _).alloc (Nat.le_refl _) _).alloc (by simp) _
  have x0 : w.cell? ⟨B, 0, none⟩ = some (.int .i64 i) := K.at 0
  have x1 : w.cell? ⟨B, 1, none⟩ = some (.bool g) := K.at 1
  have x2 : w.cell? ⟨B, 2, none⟩ = some (.slice a1 l1 c1) := K.at 2
  have x3 : w.cell? ⟨B, 3, none⟩ = some (.slice a2 l2 c2) := K.at 3
  go_enter Try.func90, Try.ntmps90
  go_wp2_with fail
  replace K := K.below pr hb
  clear x0 x1 x2 x3
  generalize (w.alloc (.cells #[.int .i64 0, .bool false, .slice none 0 0, .slice none 0 0] 123)).alloc (.cells #[.int .i64 i, .bool g, .slice a1 l1 c1, .slice a2 l2 c2] 123) = W at *
  have x0 : W.cell? ⟨B, 0, none⟩ = some (.int .i64 i) := K.at 0
  have x1 : W.cell? ⟨B, 1, none⟩ = some (.bool g) := K.at 1
  have x2 : W.cell? ⟨B, 2, none⟩ = some (.slice a1 l1 c1) := K.at 2
  have x3 : W.cell? ⟨B, 3, none⟩ = some (.slice a2 l2 c2) := K.at 3
  have x4 : W.cell? ⟨B, 4, none⟩ = some (.int .i64 j) := K.at 4
  have x5 : W.cell? ⟨B, 5, none⟩ = some (.bool h) := K.at 5
  have x6 : W.cell? ⟨B, 6, none⟩ = some (.slice d1 k1 e1) := K.at 6
  have x7 : W.cell? ⟨B, 7, none⟩ = some (.slice d2 k2 e2) := K.at 7
  have m0 : W.cell? ⟨w.heap.size + 1, 0, none⟩ = some (.int .i64 i) := KM.at 0
  have m1 : W.cell? ⟨w.heap.size + 1, 1, none⟩ = some (.bool g) := KM.at 1
  have m2 : W.cell? ⟨w.heap.size + 1, 2, none⟩ = some (.slice a1 l1 c1) := KM.at 2
  have m3 : W.cell? ⟨w.heap.size + 1, 3, none⟩ = some (.slice a2 l2 c2) := KM.at 3
  refine wp_loop_rounds 2 ?_
  rw [rounds_succ]
  go_wp2_with fail
  go_region_held3 (fun x => x.cell? ⟨B, 4, none⟩ = some (.int .i64 j) ∧ x.cell? ⟨B, 5, none⟩ = some (.bool h) ∧ x.cell? ⟨B, 6, none⟩ = some (.slice d1 k1 e1) ∧ x.cell? ⟨B, 7, none⟩ = some (.slice d2 k2 e2) ∧ x.cell? ⟨w.heap.size + 1, 0, none⟩ = some (.int .i64 i) ∧ x.cell? ⟨w.heap.size + 1, 1, none⟩ = some (.bool g) ∧ x.cell? ⟨w.heap.size + 1, 2, none⟩ = some (.slice a1 l1 c1) ∧ x.cell? ⟨w.heap.size + 1, 3, none⟩ = some (.slice a2 l2 c2)) (go_keep) (first
    | (go_at_call 92; (with_reducible refine (C _ pr).mono ?_); rintro r w1 ⟨rfl, bb⟩; have lW := pr.size; replace K := K.below bb (Nat.lt_of_lt_of_le hb lW); replace KM := KM.below bb KM.lt; replace KR := KR.below bb KR.lt; replace pr := bel pr bb; clear bb lW; have x0 : w1.cell? ⟨B, 0, none⟩ = some (.int .i64 i) := K.at 0; have x1 : w1.cell? ⟨B, 1, none⟩ = some (.bool g) := K.at 1; have x2 : w1.cell? ⟨B, 2, none⟩ = some (.slice a1 l1 c1) := K.at 2; have x3 : w1.cell? ⟨B, 3, none⟩ = some (.slice a2 l2 c2) := K.at 3; have x4 : w1.cell? ⟨B, 4, none⟩ = some (.int .i64 j) := K.at 4; have x5 : w1.cell? ⟨B, 5, none⟩ = some (.bool h) := K.at 5; have x6 : w1.cell? ⟨B, 6, none⟩ = some (.slice d1 k1 e1) := K.at 6; have x7 : w1.cell? ⟨B, 7, none⟩ = some (.slice d2 k2 e2) := K.at 7; have m0 : w1.cell? ⟨w.heap.size + 1, 0, none⟩ = some (.int .i64 i) := KM.at 0; have m1 : w1.cell? ⟨w.heap.size + 1, 1, none⟩ = some (.bool g) := KM.at 1; have m2 : w1.cell? ⟨w.heap.size + 1, 2, none⟩ = some (.slice a1 l1 c1) := KM.at 2; have m3 : w1.cell? ⟨w.heap.size + 1, 3, none⟩ = some (.slice a2 l2 c2) := KM.at 3; have r0 : w1.cell? ⟨w.heap.size, 0, none⟩ = some (.int .i64 0) := KR.at 0; have r1 : w1.cell? ⟨w.heap.size, 1, none⟩ = some (.bool false) := KR.at 1; have r2 : w1.cell? ⟨w.heap.size, 2, none⟩ = some (.slice none 0 0) := KR.at 2; have r3 : w1.cell? ⟨w.heap.size, 3, none⟩ = some (.slice none 0 0) := KR.at 3; have fm0 := KM.free 0; have fm1 := KM.free 1; have fm2 := KM.free 2; have fm3 := KM.free 3; have fr0 := KR.free 0; have fr1 := KR.free 1; have fr2 := KR.free 2; have fr3 := KR.free 3)
    | (go_at_call 92; (with_reducible refine (C _ pr.drew).mono ?_); rintro r w1 ⟨rfl, bb⟩; have lW := pr.size; replace K := K.below (below_undrew bb) (Nat.lt_of_lt_of_le hb lW); replace KM := KM.below (below_undrew bb) KM.lt; replace KR := KR.below (below_undrew bb) KR.lt; replace pr := bel pr (below_undrew bb); clear bb lW; have x0 : w1.cell? ⟨B, 0, none⟩ = some (.int .i64 i) := K.at 0; have x1 : w1.cell? ⟨B, 1, none⟩ = some (.bool g) := K.at 1; have x2 : w1.cell? ⟨B, 2, none⟩ = some (.slice a1 l1 c1) := K.at 2; have x3 : w1.cell? ⟨B, 3, none⟩ = some (.slice a2 l2 c2) := K.at 3; have x4 : w1.cell? ⟨B, 4, none⟩ = some (.int .i64 j) := K.at 4; have x5 : w1.cell? ⟨B, 5, none⟩ = some (.bool h) := K.at 5; have x6 : w1.cell? ⟨B, 6, none⟩ = some (.slice d1 k1 e1) := K.at 6; have x7 : w1.cell? ⟨B, 7, none⟩ = some (.slice d2 k2 e2) := K.at 7; have m0 : w1.cell? ⟨w.heap.size + 1, 0, none⟩ = some (.int .i64 i) := KM.at 0; have m1 : w1.cell? ⟨w.heap.size + 1, 1, none⟩ = some (.bool g) := KM.at 1; have m2 : w1.cell? ⟨w.heap.size + 1, 2, none⟩ = some (.slice a1 l1 c1) := KM.at 2; have m3 : w1.cell? ⟨w.heap.size + 1, 3, none⟩ = some (.slice a2 l2 c2) := KM.at 3; have r0 : w1.cell? ⟨w.heap.size, 0, none⟩ = some (.int .i64 0) := KR.at 0; have r1 : w1.cell? ⟨w.heap.size, 1, none⟩ = some (.bool false) := KR.at 1; have r2 : w1.cell? ⟨w.heap.size, 2, none⟩ = some (.slice none 0 0) := KR.at 2; have r3 : w1.cell? ⟨w.heap.size, 3, none⟩ = some (.slice none 0 0) := KR.at 3; have fm0 := KM.free 0; have fm1 := KM.free 1; have fm2 := KM.free 2; have fm3 := KM.free 3; have fr0 := KR.free 0; have fr1 := KR.free 1; have fr2 := KR.free 2; have fr3 := KR.free 3)
    | fail)
  go_wp2_with fail
  rw [rounds_succ]
  go_wp2_with fail
  have ZZ : Blk (((((w1).setCell ⟨w.heap.size, 0, none⟩ (.int .i64 i)).setCell ⟨w.heap.size, 1, none⟩ (.bool g)).setCell ⟨w.heap.size, 2, none⟩ (.slice a1 l1 c1)).setCell ⟨w.heap.size, 3, none⟩ (.slice a2 l2 c2)) w.heap.size #[.int .i64 i, .bool g, .slice a1 l1 c1, .slice a2 l2 c2] 123 := kset (kset (kset (kset KR)))
  have F0 := ZZ.at 0
  have F1 := ZZ.at 1
  have F2 := ZZ.at 2
  have F3 := ZZ.at 3
  simp only [List.getElem?_toArray, List.getElem?_cons_zero, List.getElem?_cons_succ] at F0 F1 F2 F3
  exact bodyPost_ret (v := env i g a1 l1 c1 a2 l2 c2) (by simp [results, Try.results90, go_sem, F0, F1, F2, F3]) rfl ⟨rfl, pset (pset (pset (pset pr (by omega)) (by omega)) (by omega)) (by omega)⟩
set_option maxRecDepth 100000 in
set_option maxHeartbeats 1600000 in
theorem greatest_yes (i j : Int) (g : Bool) (a1 : Option Addr) (l1 c1 : Nat) (a2 : Option Addr) (l2 c2 : Nat) (h : Bool) (d1 : Option Addr) (k1 e1 : Nat) (d2 : Option Addr) (k2 e2 : Nat) (c : Int) (B : Nat) (w : World) (hc : (decide (c > 0)) = true) (K : Blk w B #[.int .i64 i, .bool g, .slice a1 l1 c1, .slice a2 l2 c2, .int .i64 j, .bool h, .slice d1 k1 e1, .slice d2 k2 e2] 123)
    (C : ∀ w', Below w.heap.size w w' → Calls Try.prog 92 #[env j h d1 k1 e1 d2 k2 e2, env i g a1 l1 c1 a2 l2 c2] w' fun x w'' => x = .returned (.int .i64 c) ∧ Below w'.heap.size w' w'') :
    Calls Try.prog 90 #[.slice (some ⟨B, 0, none⟩) 2 2] w fun x w' => x = .returned (env j h d1 k1 e1 d2 k2 e2) ∧ Below w.heap.size w w' := by
  have hb := K.lt
  have KR := (Blk.new w #[.int .i64 0, .bool false, .slice none 0 0, .slice none 0 0] 123).alloc (.cells #[.int .i64 i, .bool g, .slice a1 l1 c1, .slice a2 l2 c2] 123)
  have KM := Blk.new (w.alloc (.cells #[.int .i64 0, .bool false, .slice none 0 0, .slice none 0 0] 123)) #[.int .i64 i, .bool g, .slice a1 l1 c1, .slice a2 l2 c2] 123
  simp only [World.size_alloc] at KM
  have pr : Below w.heap.size w ((w.alloc (.cells #[.int .i64 0, .bool false, .slice none 0 0, .slice none 0 0] 123)).alloc (.cells #[.int .i64 i, .bool g, .slice a1 l1 c1, .slice a2 l2 c2] 123)) := ((Below.refl _ _).alloc (Nat.le_refl _) _).alloc (by simp) _
  have x0 : w.cell? ⟨B, 0, none⟩ = some (.int .i64 i) := K.at 0
  have x1 : w.cell? ⟨B, 1, none⟩ = some (.bool g) := K.at 1
  have x2 : w.cell? ⟨B, 2, none⟩ = some (.slice a1 l1 c1) := K.at 2
  have x3 : w.cell? ⟨B, 3, none⟩ = some (.slice a2 l2 c2) := K.at 3
  go_enter Try.func90, Try.ntmps90
  go_wp2_with fail
  replace K := K.below pr hb
  clear x0 x1 x2 x3
  generalize (w.alloc (.cells #[.int .i64 0, .bool false, .slice none 0 0, .slice none 0 0] 123)).alloc (.cells #[.int .i64 i, .bool g, .slice a1 l1 c1, .slice a2 l2 c2] 123) = W at *
  have x0 : W.cell? ⟨B, 0, none⟩ = some (.int .i64 i) := K.at 0
  have x1 : W.cell? ⟨B, 1, none⟩ = some (.bool g) := K.at 1
  have x2 : W.cell? ⟨B, 2, none⟩ = some (.slice a1 l1 c1) := K.at 2
  have x3 : W.cell? ⟨B, 3, none⟩ = some (.slice a2 l2 c2) := K.at 3
  have x4 : W.cell? ⟨B, 4, none⟩ = some (.int .i64 j) := K.at 4
  have x5 : W.cell? ⟨B, 5, none⟩ = some (.bool h) := K.at 5
  have x6 : W.cell? ⟨B, 6, none⟩ = some (.slice d1 k1 e1) := K.at 6
  have x7 : W.cell? ⟨B, 7, none⟩ = some (.slice d2 k2 e2) := K.at 7
  have m0 : W.cell? ⟨w.heap.size + 1, 0, none⟩ = some (.int .i64 i) := KM.at 0
  have m1 : W.cell? ⟨w.heap.size + 1, 1, none⟩ = some (.bool g) := KM.at 1
  have m2 : W.cell? ⟨w.heap.size + 1, 2, none⟩ = some (.slice a1 l1 c1) := KM.at 2
  have m3 : W.cell? ⟨w.heap.size + 1, 3, none⟩ = some (.slice a2 l2 c2) := KM.at 3
  refine wp_loop_rounds 2 ?_
  rw [rounds_succ]
  go_wp2_with fail
  go_region_held3 (fun x => x.cell? ⟨B, 4, none⟩ = some (.int .i64 j) ∧ x.cell? ⟨B, 5, none⟩ = some (.bool h) ∧ x.cell? ⟨B, 6, none⟩ = some (.slice d1 k1 e1) ∧ x.cell? ⟨B, 7, none⟩ = some (.slice d2 k2 e2) ∧ x.cell? ⟨w.heap.size + 1, 0, none⟩ = some (.int .i64 i) ∧ x.cell? ⟨w.heap.size + 1, 1, none⟩ = some (.bool g) ∧ x.cell? ⟨w.heap.size + 1, 2, none⟩ = some (.slice a1 l1 c1) ∧ x.cell? ⟨w.heap.size + 1, 3, none⟩ = some (.slice a2 l2 c2)) (go_keep) (first
    | (go_at_call 92; (with_reducible refine (C _ pr).mono ?_); rintro r w1 ⟨rfl, bb⟩; have lW := pr.size; replace K := K.below bb (Nat.lt_of_lt_of_le hb lW); replace KM := KM.below bb KM.lt; replace KR := KR.below bb KR.lt; replace pr := bel pr bb; clear bb lW; have x0 : w1.cell? ⟨B, 0, none⟩ = some (.int .i64 i) := K.at 0; have x1 : w1.cell? ⟨B, 1, none⟩ = some (.bool g) := K.at 1; have x2 : w1.cell? ⟨B, 2, none⟩ = some (.slice a1 l1 c1) := K.at 2; have x3 : w1.cell? ⟨B, 3, none⟩ = some (.slice a2 l2 c2) := K.at 3; have x4 : w1.cell? ⟨B, 4, none⟩ = some (.int .i64 j) := K.at 4; have x5 : w1.cell? ⟨B, 5, none⟩ = some (.bool h) := K.at 5; have x6 : w1.cell? ⟨B, 6, none⟩ = some (.slice d1 k1 e1) := K.at 6; have x7 : w1.cell? ⟨B, 7, none⟩ = some (.slice d2 k2 e2) := K.at 7; have m0 : w1.cell? ⟨w.heap.size + 1, 0, none⟩ = some (.int .i64 i) := KM.at 0; have m1 : w1.cell? ⟨w.heap.size + 1, 1, none⟩ = some (.bool g) := KM.at 1; have m2 : w1.cell? ⟨w.heap.size + 1, 2, none⟩ = some (.slice a1 l1 c1) := KM.at 2; have m3 : w1.cell? ⟨w.heap.size + 1, 3, none⟩ = some (.slice a2 l2 c2) := KM.at 3; have r0 : w1.cell? ⟨w.heap.size, 0, none⟩ = some (.int .i64 0) := KR.at 0; have r1 : w1.cell? ⟨w.heap.size, 1, none⟩ = some (.bool false) := KR.at 1; have r2 : w1.cell? ⟨w.heap.size, 2, none⟩ = some (.slice none 0 0) := KR.at 2; have r3 : w1.cell? ⟨w.heap.size, 3, none⟩ = some (.slice none 0 0) := KR.at 3; have fm0 := KM.free 0; have fm1 := KM.free 1; have fm2 := KM.free 2; have fm3 := KM.free 3; have fr0 := KR.free 0; have fr1 := KR.free 1; have fr2 := KR.free 2; have fr3 := KR.free 3)
    | (go_at_call 92; (with_reducible refine (C _ pr.drew).mono ?_); rintro r w1 ⟨rfl, bb⟩; have lW := pr.size; replace K := K.below (below_undrew bb) (Nat.lt_of_lt_of_le hb lW); replace KM := KM.below (below_undrew bb) KM.lt; replace KR := KR.below (below_undrew bb) KR.lt; replace pr := bel pr (below_undrew bb); clear bb lW; have x0 : w1.cell? ⟨B, 0, none⟩ = some (.int .i64 i) := K.at 0; have x1 : w1.cell? ⟨B, 1, none⟩ = some (.bool g) := K.at 1; have x2 : w1.cell? ⟨B, 2, none⟩ = some (.slice a1 l1 c1) := K.at 2; have x3 : w1.cell? ⟨B, 3, none⟩ = some (.slice a2 l2 c2) := K.at 3; have x4 : w1.cell? ⟨B, 4, none⟩ = some (.int .i64 j) := K.at 4; have x5 : w1.cell? ⟨B, 5, none⟩ = some (.bool h) := K.at 5; have x6 : w1.cell? ⟨B, 6, none⟩ = some (.slice d1 k1 e1) := K.at 6; have x7 : w1.cell? ⟨B, 7, none⟩ = some (.slice d2 k2 e2) := K.at 7; have m0 : w1.cell? ⟨w.heap.size + 1, 0, none⟩ = some (.int .i64 i) := KM.at 0; have m1 : w1.cell? ⟨w.heap.size + 1, 1, none⟩ = some (.bool g) := KM.at 1; have m2 : w1.cell? ⟨w.heap.size + 1, 2, none⟩ = some (.slice a1 l1 c1) := KM.at 2; have m3 : w1.cell? ⟨w.heap.size + 1, 3, none⟩ = some (.slice a2 l2 c2) := KM.at 3; have r0 : w1.cell? ⟨w.heap.size, 0, none⟩ = some (.int .i64 0) := KR.at 0; have r1 : w1.cell? ⟨w.heap.size, 1, none⟩ = some (.bool false) := KR.at 1; have r2 : w1.cell? ⟨w.heap.size, 2, none⟩ = some (.slice none 0 0) := KR.at 2; have r3 : w1.cell? ⟨w.heap.size, 3, none⟩ = some (.slice none 0 0) := KR.at 3; have fm0 := KM.free 0; have fm1 := KM.free 1; have fm2 := KM.free 2; have fm3 := KM.free 3; have fr0 := KR.free 0; have fr1 := KR.free 1; have fr2 := KR.free 2; have fr3 := KR.free 3)
    | fail)
  go_wp2_with fail
  have n01 : w.heap.size ≠ w.heap.size + 1 := by omega
  replace KM : Blk (((((w1).setCell ⟨w.heap.size + 1, 0, none⟩ (.int .i64 j)).setCell ⟨w.heap.size + 1, 1, none⟩ (.bool h)).setCell ⟨w.heap.size + 1, 2, none⟩ (.slice d1 k1 e1)).setCell ⟨w.heap.size + 1, 3, none⟩ (.slice d2 k2 e2)) (w.heap.size + 1) #[.int .i64 j, .bool h, .slice d1 k1 e1, .slice d2 k2 e2] 123 := kset (kset (kset (kset KM)))
  replace KR : Blk (((((w1).setCell ⟨w.heap.size + 1, 0, none⟩ (.int .i64 j)).setCell ⟨w.heap.size + 1, 1, none⟩ (.bool h)).setCell ⟨w.heap.size + 1, 2, none⟩ (.slice d1 k1 e1)).setCell ⟨w.heap.size + 1, 3, none⟩ (.slice d2 k2 e2)) w.heap.size #[.int .i64 0, .bool false, .slice none 0 0, .slice none 0 0] 123 := kset_o (kset_o (kset_o (kset_o KR n01) n01) n01) n01
  replace pr : Below w.heap.size w (((((w1).setCell ⟨w.heap.size + 1, 0, none⟩ (.int .i64 j)).setCell ⟨w.heap.size + 1, 1, none⟩ (.bool h)).setCell ⟨w.heap.size + 1, 2, none⟩ (.slice d1 k1 e1)).setCell ⟨w.heap.size + 1, 3, none⟩ (.slice d2 k2 e2)) := pset (pset (pset (pset pr (by omega)) (by omega)) (by omega)) (by omega)
  clear x0 x1 x2 x3 x4 x5 x6 x7 m0 r0 fm0 fr0 m1 r1 fm1 fr1 m2 r2 fm2 fr2 m3 r3 fm3 fr3 K
  generalize ((((w1).setCell ⟨w.heap.size + 1, 0, none⟩ (.int .i64 j)).setCell ⟨w.heap.size + 1, 1, none⟩ (.bool h)).setCell ⟨w.heap.size + 1, 2, none⟩ (.slice d1 k1 e1)).setCell ⟨w.heap.size + 1, 3, none⟩ (.slice d2 k2 e2) = W9 at *
  have m0 : W9.cell? ⟨w.heap.size + 1, 0, none⟩ = some (.int .i64 j) := KM.at 0
  have m1 : W9.cell? ⟨w.heap.size + 1, 1, none⟩ = some (.bool h) := KM.at 1
  have m2 : W9.cell? ⟨w.heap.size + 1, 2, none⟩ = some (.slice d1 k1 e1) := KM.at 2
  have m3 : W9.cell? ⟨w.heap.size + 1, 3, none⟩ = some (.slice d2 k2 e2) := KM.at 3
  have r0 : W9.cell? ⟨w.heap.size, 0, none⟩ = some (.int .i64 0) := KR.at 0
  have r1 : W9.cell? ⟨w.heap.size, 1, none⟩ = some (.bool false) := KR.at 1
  have r2 : W9.cell? ⟨w.heap.size, 2, none⟩ = some (.slice none 0 0) := KR.at 2
  have r3 : W9.cell? ⟨w.heap.size, 3, none⟩ = some (.slice none 0 0) := KR.at 3
  have fr0 := KR.free 0
  have fr1 := KR.free 1
  have fr2 := KR.free 2
  have fr3 := KR.free 3
  rw [rounds_succ]
  go_wp2_with fail
  have ZZ : Blk (((((W9).setCell ⟨w.heap.size, 0, none⟩ (.int .i64 j)).setCell ⟨w.heap.size, 1, none⟩ (.bool h)).setCell ⟨w.heap.size, 2, none⟩ (.slice d1 k1 e1)).setCell ⟨w.heap.size, 3, none⟩ (.slice d2 k2 e2)) w.heap.size #[.int .i64 j, .bool h, .slice d1 k1 e1, .slice d2 k2 e2] 123 := kset (kset (kset (kset KR)))
  have F0 := ZZ.at 0
  have F1 := ZZ.at 1
  have F2 := ZZ.at 2
  have F3 := ZZ.at 3
  simp only [List.getElem?_toArray, List.getElem?_cons_zero, List.getElem?_cons_succ] at F0 F1 F2 F3
  exact bodyPost_ret (v := env j h d1 k1 e1 d2 k2 e2) (by simp [results, Try.results90, go_sem, F0, F1, F2, F3]) rfl ⟨rfl, pset (pset (pset (pset pr (by omega)) (by omega)) (by omega)) (by omega)⟩
/-- The reference's least of two ends. -/
theorem least_any (n m : Nat) (i j : Int) (g : Bool) (a1 : Option Addr) (l1 c1 : Nat) (a2 : Option Addr) (l2 c2 : Nat) (h : Bool) (d1 : Option Addr) (k1 e1 : Nat) (d2 : Option Addr) (k2 e2 : Nat) (B : Nat) (w : World) (hn : n < 18446744073709551616) (hm : m < 18446744073709551616) (on : okEnd n = true) (om : okEnd m = true)
    (K : Blk w B #[.int .i64 i, .bool g, .slice a1 l1 c1, .slice a2 l2 c2, .int .i64 j, .bool h, .slice d1 k1 e1, .slice d2 k2 e2] 123) (hv : IsE w (env i g a1 l1 c1 a2 l2 c2) n) (hu : IsE w (env j h d1 k1 e1 d2 k2 e2) m) :
    Calls Try.prog 91 #[.slice (some ⟨B, 0, none⟩) 2 2] w fun x w' => ∃ v, x = .returned v ∧ IsE w' v (mn n m) ∧ Below w.heap.size w w' := by
  have C : ∀ w', Below w.heap.size w w' → Calls Try.prog 92 #[env j h d1 k1 e1 d2 k2 e2, env i g a1 l1 c1 a2 l2 c2] w' fun x w'' => x = .returned (.int .i64 (L.cmp3 (key64 m) (key64 n))) ∧ Below w'.heap.size w' w'' := fun w' b => ECmp_any m n _ _ hm hn (okEnd_nan om) (okEnd_nan on) w' (hu.grow b) (hv.grow b)
  by_cases c : key64 m < key64 n
  · have e : mn n m = m := by unfold mn; rw [if_neg (by omega)]
    rw [e]
    refine (least_yes i j g a1 l1 c1 a2 l2 c2 h d1 k1 e1 d2 k2 e2 _ B w (by unfold L.cmp3; rw [if_pos c]; rfl) K C).mono ?_
    rintro x w' ⟨rfl, b⟩
    exact ⟨_, rfl, hu.grow b, b⟩
  · have e : mn n m = n := by
      unfold mn
      by_cases k : key64 n < key64 m
      · rw [if_pos k]
      · rw [if_neg k]; exact (key_inj hn hm on om (by omega)).symm
    rw [e]
    refine (least_no i j g a1 l1 c1 a2 l2 c2 h d1 k1 e1 d2 k2 e2 _ B w (by unfold L.cmp3; rw [if_neg c]; split <;> rfl) K C).mono ?_
    rintro x w' ⟨rfl, b⟩
    exact ⟨_, rfl, hv.grow b, b⟩
/-- The reference's greatest of two ends. -/
theorem greatest_any (n m : Nat) (i j : Int) (g : Bool) (a1 : Option Addr) (l1 c1 : Nat) (a2 : Option Addr) (l2 c2 : Nat) (h : Bool) (d1 : Option Addr) (k1 e1 : Nat) (d2 : Option Addr) (k2 e2 : Nat) (B : Nat) (w : World) (hn : n < 18446744073709551616) (hm : m < 18446744073709551616) (on : okEnd n = true) (om : okEnd m = true)
    (K : Blk w B #[.int .i64 i, .bool g, .slice a1 l1 c1, .slice a2 l2 c2, .int .i64 j, .bool h, .slice d1 k1 e1, .slice d2 k2 e2] 123) (hv : IsE w (env i g a1 l1 c1 a2 l2 c2) n) (hu : IsE w (env j h d1 k1 e1 d2 k2 e2) m) :
    Calls Try.prog 90 #[.slice (some ⟨B, 0, none⟩) 2 2] w fun x w' => ∃ v, x = .returned v ∧ IsE w' v (mx n m) ∧ Below w.heap.size w w' := by
  have C : ∀ w', Below w.heap.size w w' → Calls Try.prog 92 #[env j h d1 k1 e1 d2 k2 e2, env i g a1 l1 c1 a2 l2 c2] w' fun x w'' => x = .returned (.int .i64 (L.cmp3 (key64 m) (key64 n))) ∧ Below w'.heap.size w' w'' := fun w' b => ECmp_any m n _ _ hm hn (okEnd_nan om) (okEnd_nan on) w' (hu.grow b) (hv.grow b)
  by_cases c : key64 n < key64 m
  · have e : mx n m = m := by unfold mx; rw [if_neg (by omega)]
    rw [e]
    refine (greatest_yes i j g a1 l1 c1 a2 l2 c2 h d1 k1 e1 d2 k2 e2 _ B w (by unfold L.cmp3; rw [if_neg (by omega), if_pos c]; rfl) K C).mono ?_
    rintro x w' ⟨rfl, b⟩
    exact ⟨_, rfl, hu.grow b, b⟩
  · have e : mx n m = n := by
      unfold mx
      by_cases k : key64 m < key64 n
      · rw [if_pos k]
      · rw [if_neg k]; exact (key_inj hn hm on om (by omega)).symm
    rw [e]
    refine (greatest_no i j g a1 l1 c1 a2 l2 c2 h d1 k1 e1 d2 k2 e2 _ B w (by unfold L.cmp3; rw [if_neg c]; split <;> rfl) K C).mono ?_
    rintro x w' ⟨rfl, b⟩
    exact ⟨_, rfl, hv.grow b, b⟩
end Go.Proofs.Ytlngkonmalallaa

namespace Go.Proofs.Ytlngkonmalallaa
open Go.RowKit Tn

/-- No number in lowest words lies in a box that is still empty. -/
theorem rd_apart {w : World} {b : Nat} {g : Bool} {a1 a2 : Option Addr} {n1 c1 n2 c2 : Nat} {t : TypeId} (K : Blk w b #[.int .i64 0, .bool g, .slice a1 n1 c1, .slice a2 n2 c2] t) {b' o : Nat} {xs : List Int} (nm : Tl.Nm xs) (l : 0 < xs.length) (h : L.Cells w b' o xs) : b' ≠ b := by
  intro e
  subst e
  have h0 := h 0 l
  rw [K.at] at h0
  have oz : o = 0 := by
    match o, h0 with
    | 0, _ => rfl
    | 1, h0 => simp at h0
    | 2, h0 => simp at h0
    | 3, h0 => simp at h0
    | o + 4, h0 => simp at h0
  subst oz
  match xs, l, nm, h, h0 with
  | [y], _, nm, _, h0 =>
    simp [L.nth] at h0
    subst h0
    simp [Tl.Nm] at nm
  | y :: y2 :: ys, _, _, h, _ =>
    have h1 := h 1 (by simp)
    rw [K.at] at h1
    simp at h1
def st4 (w : World) (b : Nat) (x0 x1 x2 x3 : Value) : World := (((w.setCell ⟨b, 0, none⟩ x0).setCell ⟨b, 1, none⟩ x1).setCell ⟨b, 2, none⟩ x2).setCell ⟨b, 3, none⟩ x3
theorem st4_eq (w : World) (b : Nat) (x0 x1 x2 x3 : Value) : (((w.setCell ⟨b, 0, none⟩ x0).setCell ⟨b, 1, none⟩ x1).setCell ⟨b, 2, none⟩ x2).setCell ⟨b, 3, none⟩ x3 = st4 w b x0 x1 x2 x3 := rfl
theorem st4_blk {w : World} {b : Nat} {y0 y1 y2 y3 x0 x1 x2 x3 : Value} {t : TypeId} (K : Blk w b #[y0, y1, y2, y3] t) : Blk (st4 w b x0 x1 x2 x3) b #[x0, x1, x2, x3] t := kset (kset (kset (kset K)))
theorem st4_oth {w : World} {b n : Nat} {x0 x1 x2 x3 : Value} {c : Array Value} {t : TypeId} (K : Blk w n c t) (hn : n ≠ b) : Blk (st4 w b x0 x1 x2 x3) n c t := kset_o (kset_o (kset_o (kset_o K hn) hn) hn) hn
theorem st4_bel {w W : World} {b : Nat} {x0 x1 x2 x3 : Value} (h : Below w.heap.size w W) (hb : w.heap.size ≤ b) : Below w.heap.size w (st4 W b x0 x1 x2 x3) := pset (pset (pset (pset h hb) hb) hb) hb
theorem st4_cells {w : World} {b b' o : Nat} {x0 x1 x2 x3 : Value} {xs : List Int} (h : L.Cells w b' o xs) (ne : b' ≠ b) : L.Cells (st4 w b x0 x1 x2 x3) b' o xs := by
  have hw : L.Wr b 0 4 w (st4 w b x0 x1 x2 x3) := ((((L.Wr.refl _ _ _ _).setCell 0 (by omega) x0).setCell 1 (by omega) x1).setCell 2 (by omega) x2).setCell 3 (by omega) x3
  exact h.other hw ne
theorem st4_rd {w : World} {b : Nat} {g : Bool} {a1 a2 : Option Addr} {n1 c1 n2 c2 : Nat} {t : TypeId} {x0 x1 x2 x3 : Value} (K : Blk w b #[.int .i64 0, .bool g, .slice a1 n1 c1, .slice a2 n2 c2] t) {v : Value} {xs : List Int} (nm : Tl.Nm xs) (h : L.Rd w v xs) : L.Rd (st4 w b x0 x1 x2 x3) v xs := by
  obtain ⟨h1, a, cap, h2, h3, h4, h5⟩ := h
  exact ⟨h1, a, cap, h2, h3, h4, fun l => by obtain ⟨b, o, e, c⟩ := h5 l; exact ⟨b, o, e, st4_cells c (rd_apart K nm l c)⟩⟩
theorem st4_e {w : World} {b : Nat} {g : Bool} {a1 a2 : Option Addr} {n1 c1 n2 c2 : Nat} {t : TypeId} {x0 x1 x2 x3 : Value} (K : Blk w b #[.int .i64 0, .bool g, .slice a1 n1 c1, .slice a2 n2 c2] t) {v : Value} {n : Nat} (h : IsE w v n) : IsE (st4 w b x0 x1 x2 x3) v n := by
  obtain ⟨g, a1, a2, l1, c1, l2, c2, e, q⟩ := h
  refine ⟨g, a1, a2, l1, c1, l2, c2, e, fun k => ?_⟩
  obtain ⟨ns, ds, a1, a2, c1, c2, e, h1, n1, v1, h2, n2, v2⟩ := q k
  exact ⟨ns, ds, a1, a2, c1, c2, e, st4_rd K n1 h1, n1, v1, st4_rd K n2 h2, n2, v2⟩
theorem st4_c {w : World} {b n i : Nat} {x0 x1 x2 x3 u : Value} (h : w.cell? ⟨n, i, none⟩ = some u) (hn : n ≠ b) : ((((w.setCell ⟨b, 0, none⟩ x0).setCell ⟨b, 1, none⟩ x1).setCell ⟨b, 2, none⟩ x2).setCell ⟨b, 3, none⟩ x3).cell? ⟨n, i, none⟩ = some u := by
  have c : ∀ k, (⟨b, k, none⟩ : Addr) ≠ ⟨n, i, none⟩ := by intro k e; cases e; exact hn rfl
  rw [World.cell?_setCell_other _ _ _ _ (c 3), World.cell?_setCell_other _ _ _ _ (c 2), World.cell?_setCell_other _ _ _ _ (c 1), World.cell?_setCell_other _ _ _ _ (c 0)]
  exact h
theorem IsE.form {w : World} {v : Value} {n : Nat} (h : IsE w v n) : ∃ (i : Int) (g : Bool) (a1 : Option Addr) (l1 c1 : Nat) (a2 : Option Addr) (l2 c2 : Nat), v = env i g a1 l1 c1 a2 l2 c2 := by
  obtain ⟨g, a1, a2, l1, c1, l2, c2, e, -⟩ := h
  exact ⟨_, g, a1, l1, c1, a2, l2, c2, e⟩
set_option maxRecDepth 100000 in
set_option maxHeartbeats 3200000 in
/-- The reference's Ends. -/
theorem Ends_any (a1 a2 : Nat) (h1 : a1 < 18446744073709551616) (h2 : a2 < 18446744073709551616) (n1 : nan64 a1 = false) (n2 : nan64 a2 = false) (w : World) : Calls Try.prog 89 #[spn a1 a2] w fun x w' => ∃ v1 v2, x = .returned (.tuple #[v1, v2]) ∧ IsE w' v1 a1 ∧ IsE w' v2 a2 ∧ Below w.heap.size w w' := by
  have E1 := end_any a1 h1 n1
  have E2 := end_any a2 h2 n2
  have KA := ((Blk.new w #[.float .f64 a1, .float .f64 a2] 72).alloc (.cells #[.int .i64 0, .bool false, .slice none 0 0, .slice none 0 0] 123)).alloc (.cells #[.int .i64 0, .bool false, .slice none 0 0, .slice none 0 0] 123)
  have K1 := (Blk.new (w.alloc (.cells #[.float .f64 a1, .float .f64 a2] 72)) #[.int .i64 0, .bool false, .slice none 0 0, .slice none 0 0] 123).alloc (.cells #[.int .i64 0, .bool false, .slice none 0 0, .slice none 0 0] 123)
  have K2 := Blk.new ((w.alloc (.cells #[.float .f64 a1, .float .f64 a2] 72)).alloc (.cells #[.int .i64 0, .bool false, .slice none 0 0, .slice none 0 0] 123)) #[.int .i64 0, .bool false, .slice none 0 0, .slice none 0 0] 123
  simp only [World.size_alloc] at KA K1 K2
  have pr : Below w.heap.size w (((w.alloc (.cells #[.float .f64 a1, .float .f64 a2] 72)).alloc (.cells #[.int .i64 0, .bool false, .slice none 0 0, .slice none 0 0] 123)).alloc (.cells #[.int .i64 0, .bool false, .slice none 0 0, .slice none 0 0] 123)) := (((Below.refl _ _).alloc (Nat.le_refl _) _).alloc (by simp) _).alloc (by simp; omega) _
  go_enter Try.func89, Try.ntmps89
  go_wp2_with fail
  generalize ((w.alloc (.cells #[.float .f64 a1, .float .f64 a2] 72)).alloc (.cells #[.int .i64 0, .bool false, .slice none 0 0, .slice none 0 0] 123)).alloc (.cells #[.int .i64 0, .bool false, .slice none 0 0, .slice none 0 0] 123) = W at *
  have x0 : W.cell? ⟨w.heap.size, 0, none⟩ = some (.float .f64 a1) := KA.at 0
  have x1 : W.cell? ⟨w.heap.size, 1, none⟩ = some (.float .f64 a2) := KA.at 1
  have y0 : W.cell? ⟨w.heap.size + 1, 0, none⟩ = some (.int .i64 0) := K1.at 0
  have y1 : W.cell? ⟨w.heap.size + 1, 1, none⟩ = some (.bool false) := K1.at 1
  have y2 : W.cell? ⟨w.heap.size + 1, 2, none⟩ = some (.slice none 0 0) := K1.at 2
  have y3 : W.cell? ⟨w.heap.size + 1, 3, none⟩ = some (.slice none 0 0) := K1.at 3
  have u0 : W.cell? ⟨w.heap.size + 1 + 1, 0, none⟩ = some (.int .i64 0) := K2.at 0
  have u1 : W.cell? ⟨w.heap.size + 1 + 1, 1, none⟩ = some (.bool false) := K2.at 1
  have u2 : W.cell? ⟨w.heap.size + 1 + 1, 2, none⟩ = some (.slice none 0 0) := K2.at 2
  have u3 : W.cell? ⟨w.heap.size + 1 + 1, 3, none⟩ = some (.slice none 0 0) := K2.at 3
  have fy0 := K1.free 0
  have fy1 := K1.free 1
  have fy2 := K1.free 2
  have fy3 := K1.free 3
  have fu0 := K2.free 0
  have fu1 := K2.free 1
  have fu2 := K2.free 2
  have fu3 := K2.free 3
  have n1 : w.heap.size ≠ w.heap.size + 1 := by omega
  have n2 : w.heap.size ≠ w.heap.size + 1 + 1 := by omega
  go_region_held3 (fun x => x.cell? ⟨w.heap.size, 0, none⟩ = some (.float .f64 a1) ∧ x.cell? ⟨w.heap.size, 1, none⟩ = some (.float .f64 a2)) (first | (with_reducible exact ⟨st4_c x0 n1, st4_c x1 n1⟩) | (with_reducible exact ⟨st4_c (st4_c x0 n1) n2, st4_c (st4_c x1 n1) n2⟩) | go_keep) (first
    | (go_at_call 123; (with_reducible refine (E1 _).mono ?_); rintro r w1 ⟨v1, rfl, q1, bb⟩; obtain ⟨i, g, p1, l1, c1, p2, l2, c2, rfl⟩ := q1.form; replace KA := KA.below bb KA.lt; replace K1 := K1.below bb K1.lt; replace K2 := K2.below bb K2.lt; replace pr := bel pr bb; clear bb; have x0 : w1.cell? ⟨w.heap.size, 0, none⟩ = some (.float .f64 a1) := KA.at 0; have x1 : w1.cell? ⟨w.heap.size, 1, none⟩ = some (.float .f64 a2) := KA.at 1; have y0 : w1.cell? ⟨w.heap.size + 1, 0, none⟩ = some (.int .i64 0) := K1.at 0; have y1 : w1.cell? ⟨w.heap.size + 1, 1, none⟩ = some (.bool false) := K1.at 1; have y2 : w1.cell? ⟨w.heap.size + 1, 2, none⟩ = some (.slice none 0 0) := K1.at 2; have y3 : w1.cell? ⟨w.heap.size + 1, 3, none⟩ = some (.slice none 0 0) := K1.at 3; have u0 : w1.cell? ⟨w.heap.size + 1 + 1, 0, none⟩ = some (.int .i64 0) := K2.at 0; have u1 : w1.cell? ⟨w.heap.size + 1 + 1, 1, none⟩ = some (.bool false) := K2.at 1; have u2 : w1.cell? ⟨w.heap.size + 1 + 1, 2, none⟩ = some (.slice none 0 0) := K2.at 2; have u3 : w1.cell? ⟨w.heap.size + 1 + 1, 3, none⟩ = some (.slice none 0 0) := K2.at 3; have fy0 := K1.free 0; have fy1 := K1.free 1; have fy2 := K1.free 2; have fy3 := K1.free 3; have fu0 := K2.free 0; have fu1 := K2.free 1; have fu2 := K2.free 2; have fu3 := K2.free 3)
    | (go_at_call 123; (with_reducible refine (E1 _).mono ?_); rintro r w1 ⟨v1, rfl, q1, bb⟩; obtain ⟨i, g, p1, l1, c1, p2, l2, c2, rfl⟩ := q1.form; replace KA := KA.below (below_undrew bb) KA.lt; replace K1 := K1.below (below_undrew bb) K1.lt; replace K2 := K2.below (below_undrew bb) K2.lt; replace pr := bel pr (below_undrew bb); clear bb; have x0 : w1.cell? ⟨w.heap.size, 0, none⟩ = some (.float .f64 a1) := KA.at 0; have x1 : w1.cell? ⟨w.heap.size, 1, none⟩ = some (.float .f64 a2) := KA.at 1; have y0 : w1.cell? ⟨w.heap.size + 1, 0, none⟩ = some (.int .i64 0) := K1.at 0; have y1 : w1.cell? ⟨w.heap.size + 1, 1, none⟩ = some (.bool false) := K1.at 1; have y2 : w1.cell? ⟨w.heap.size + 1, 2, none⟩ = some (.slice none 0 0) := K1.at 2; have y3 : w1.cell? ⟨w.heap.size + 1, 3, none⟩ = some (.slice none 0 0) := K1.at 3; have u0 : w1.cell? ⟨w.heap.size + 1 + 1, 0, none⟩ = some (.int .i64 0) := K2.at 0; have u1 : w1.cell? ⟨w.heap.size + 1 + 1, 1, none⟩ = some (.bool false) := K2.at 1; have u2 : w1.cell? ⟨w.heap.size + 1 + 1, 2, none⟩ = some (.slice none 0 0) := K2.at 2; have u3 : w1.cell? ⟨w.heap.size + 1 + 1, 3, none⟩ = some (.slice none 0 0) := K2.at 3; have fy0 := K1.free 0; have fy1 := K1.free 1; have fy2 := K1.free 2; have fy3 := K1.free 3; have fu0 := K2.free 0; have fu1 := K2.free 1; have fu2 := K2.free 2; have fu3 := K2.free 3)
    | (go_at_call 123; (with_reducible refine (E2 _).mono ?_); rintro r w2 ⟨v2, rfl, q2, bb⟩; obtain ⟨j, h, d1, k1, e1, d2, k2, e2, rfl⟩ := q2.form; replace q1 := q1.grow bb; replace KA := KA.below bb KA.lt; replace K1 := K1.below bb K1.lt; replace K2 := K2.below bb K2.lt; replace pr := bel pr bb; clear bb; have x0 : w2.cell? ⟨w.heap.size, 0, none⟩ = some (.float .f64 a1) := KA.at 0; have x1 : w2.cell? ⟨w.heap.size, 1, none⟩ = some (.float .f64 a2) := KA.at 1; have y0 : w2.cell? ⟨w.heap.size + 1, 0, none⟩ = some (.int .i64 0) := K1.at 0; have y1 : w2.cell? ⟨w.heap.size + 1, 1, none⟩ = some (.bool false) := K1.at 1; have y2 : w2.cell? ⟨w.heap.size + 1, 2, none⟩ = some (.slice none 0 0) := K1.at 2; have y3 : w2.cell? ⟨w.heap.size + 1, 3, none⟩ = some (.slice none 0 0) := K1.at 3; have u0 : w2.cell? ⟨w.heap.size + 1 + 1, 0, none⟩ = some (.int .i64 0) := K2.at 0; have u1 : w2.cell? ⟨w.heap.size + 1 + 1, 1, none⟩ = some (.bool false) := K2.at 1; have u2 : w2.cell? ⟨w.heap.size + 1 + 1, 2, none⟩ = some (.slice none 0 0) := K2.at 2; have u3 : w2.cell? ⟨w.heap.size + 1 + 1, 3, none⟩ = some (.slice none 0 0) := K2.at 3; have fy0 := K1.free 0; have fy1 := K1.free 1; have fy2 := K1.free 2; have fy3 := K1.free 3; have fu0 := K2.free 0; have fu1 := K2.free 1; have fu2 := K2.free 2; have fu3 := K2.free 3)
    | (go_at_call 123; (with_reducible refine (E2 _).mono ?_); rintro r w2 ⟨v2, rfl, q2, bb⟩; obtain ⟨j, h, d1, k1, e1, d2, k2, e2, rfl⟩ := q2.form; replace q1 := q1.grow (below_undrew bb); replace KA := KA.below (below_undrew bb) KA.lt; replace K1 := K1.below (below_undrew bb) K1.lt; replace K2 := K2.below (below_undrew bb) K2.lt; replace pr := bel pr (below_undrew bb); clear bb; have x0 : w2.cell? ⟨w.heap.size, 0, none⟩ = some (.float .f64 a1) := KA.at 0; have x1 : w2.cell? ⟨w.heap.size, 1, none⟩ = some (.float .f64 a2) := KA.at 1; have y0 : w2.cell? ⟨w.heap.size + 1, 0, none⟩ = some (.int .i64 0) := K1.at 0; have y1 : w2.cell? ⟨w.heap.size + 1, 1, none⟩ = some (.bool false) := K1.at 1; have y2 : w2.cell? ⟨w.heap.size + 1, 2, none⟩ = some (.slice none 0 0) := K1.at 2; have y3 : w2.cell? ⟨w.heap.size + 1, 3, none⟩ = some (.slice none 0 0) := K1.at 3; have u0 : w2.cell? ⟨w.heap.size + 1 + 1, 0, none⟩ = some (.int .i64 0) := K2.at 0; have u1 : w2.cell? ⟨w.heap.size + 1 + 1, 1, none⟩ = some (.bool false) := K2.at 1; have u2 : w2.cell? ⟨w.heap.size + 1 + 1, 2, none⟩ = some (.slice none 0 0) := K2.at 2; have u3 : w2.cell? ⟨w.heap.size + 1 + 1, 3, none⟩ = some (.slice none 0 0) := K2.at 3; have fy0 := K1.free 0; have fy1 := K1.free 1; have fy2 := K1.free 2; have fy3 := K1.free 3; have fu0 := K2.free 0; have fu1 := K2.free 1; have fu2 := K2.free 2; have fu3 := K2.free 3)
    | fail)
  go_wp2_with fail
  have n12 : w.heap.size + 1 + 1 ≠ w.heap.size + 1 := by omega
  have n21 : w.heap.size + 1 ≠ w.heap.size + 1 + 1 := by omega
  have Q1 := st4_e (x0 := .int .i64 j) (x1 := .bool h) (x2 := .slice d1 k1 e1) (x3 := .slice d2 k2 e2) (st4_oth (x0 := .int .i64 i) (x1 := .bool g) (x2 := .slice p1 l1 c1) (x3 := .slice p2 l2 c2) K2 n12) (st4_e K1 q1)
  have Q2 := st4_e (x0 := .int .i64 j) (x1 := .bool h) (x2 := .slice d1 k1 e1) (x3 := .slice d2 k2 e2) (st4_oth (x0 := .int .i64 i) (x1 := .bool g) (x2 := .slice p1 l1 c1) (x3 := .slice p2 l2 c2) K2 n12) (st4_e K1 q2)
  have Z1 := st4_oth (x0 := .int .i64 j) (x1 := .bool h) (x2 := .slice d1 k1 e1) (x3 := .slice d2 k2 e2) (st4_blk (x0 := .int .i64 i) (x1 := .bool g) (x2 := .slice p1 l1 c1) (x3 := .slice p2 l2 c2) K1) n21
  have Z2 := st4_blk (x0 := .int .i64 j) (x1 := .bool h) (x2 := .slice d1 k1 e1) (x3 := .slice d2 k2 e2) (st4_oth (x0 := .int .i64 i) (x1 := .bool g) (x2 := .slice p1 l1 c1) (x3 := .slice p2 l2 c2) K2 n12)
  have PR := st4_bel (b := w.heap.size + 1 + 1) (x0 := .int .i64 j) (x1 := .bool h) (x2 := .slice d1 k1 e1) (x3 := .slice d2 k2 e2) (st4_bel (b := w.heap.size + 1) (x0 := .int .i64 i) (x1 := .bool g) (x2 := .slice p1 l1 c1) (x3 := .slice p2 l2 c2) pr (by omega)) (by omega)
  simp only [st4_eq]
  generalize st4 (st4 w2 (w.heap.size + 1) (.int .i64 i) (.bool g) (.slice p1 l1 c1) (.slice p2 l2 c2)) (w.heap.size + 1 + 1) (.int .i64 j) (.bool h) (.slice d1 k1 e1) (.slice d2 k2 e2) = V at *
  have F0 := Z1.at 0
  have F1 := Z1.at 1
  have F2 := Z1.at 2
  have F3 := Z1.at 3
  have G0 := Z2.at 0
  have G1 := Z2.at 1
  have G2 := Z2.at 2
  have G3 := Z2.at 3
  simp only [List.getElem?_toArray, List.getElem?_cons_zero, List.getElem?_cons_succ] at F0 F1 F2 F3 G0 G1 G2 G3
  exact bodyPost_ret (v := .tuple #[env i g p1 l1 c1 p2 l2 c2, env j h d1 k1 e1 d2 k2 e2]) (by simp [results, Try.results89, go_sem, F0, F1, F2, F3, G0, G1, G2, G3]) rfl ⟨_, _, rfl, Q1, Q2, PR⟩
end Go.Proofs.Ytlngkonmalallaa
