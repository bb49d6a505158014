import Derived.Test.YtiaeoknmgidehaaGreatDoorPart25
import Derived.Test.YtiaeoknmgidehaaGreatDoorPart22
import Derived.Test.YtiaeoknmgidehaaGreatDoorPart02
import Derived.Test.YtiaeoknmgidehaaGreatDoorPart03
import Derived.Deep.DeepCutAuto
import Derived.Deep.RegionHeld3

namespace Go.Proofs.YtiaeoknmgidehaaGreatDoor.Mo
open Go.RowKit Dc Tn

theorem undrew {W w1 : World} (b : Below W.drew.heap.size W.drew w1) : Below W.heap.size W w1 := (show Below W.heap.size W W.drew from (Below.refl _ _).drew).trans b
end Go.Proofs.YtiaeoknmgidehaaGreatDoor.Mo

namespace Go.Proofs.YtiaeoknmgidehaaGreatDoor.Mo
open Go.RowKit Dc Tn

end Go.Proofs.YtiaeoknmgidehaaGreatDoor.Mo

namespace Go.Proofs.YtiaeoknmgidehaaGreatDoor.Mo
open Go.RowKit Dc Tn

end Go.Proofs.YtiaeoknmgidehaaGreatDoor.Mo

namespace Go.Proofs.YtiaeoknmgidehaaGreatDoor.Mo
open Go.RowKit Dc Tn

end Go.Proofs.YtiaeoknmgidehaaGreatDoor.Mo

namespace Go.Proofs.YtiaeoknmgidehaaGreatDoor.Mo
open Go.RowKit Dc Tn

/-- An operation that nothing asks for. -/
theorem wpOp_skip {P : Program} {ops : Array Oper} {Q : Exit → Act → World → Prop} {i : Nat} {o : Oper} {K : Act → World → Prop} {a : Act} {w : World} (ho : ops[i]? = some o) (hw : Region.wanted o (yielded ops a.tmps) = false) (h : K (a.put o.dst undef) w) : wpOp P ops Q i K a w := by
  refine wpOp_step ho (fun K' hK => ?_)
  rw [if_neg (by simp [hw])]
  exact hK _ _ h
theorem Rb.skip {W : World} {n m : Nat} {a b c : Value} (h : Rb W n a b c) (ne : n ≠ m) (v : Value) : Rb (W.setCell ⟨m, 0, none⟩ v) n a b c := by
  have k : Wr m 0 1 W (W.setCell ⟨m, 0, none⟩ v) := (Wr.refl m 0 1 W).setCell 0 (by omega) v
  obtain ⟨t, K⟩ := h.bk
  have K2 := K.wr k ne
  exact ⟨K2.at 0, K2.at 1, K2.at 2, K2.free 0, K2.free 1, K2.free 2, t, K2⟩
end Go.Proofs.YtiaeoknmgidehaaGreatDoor.Mo

namespace Go.Proofs.YtiaeoknmgidehaaGreatDoor.Ta
open Go.RowKit
open Go.Proofs.YtiaeoknmgidehaaGreatDoor.Mo (wpOp_skip undrew)

set_option maxRecDepth 100000 in
set_option maxHeartbeats 3200000 in
theorem Left_r (s : ByteArray) (f en ys E : Int) (ar : Option Addr) (rl cr : Nat) (vs : Value) (w : World) (a b c : Int) (h1 : IntKind.i64.wrap (E - en) = a) (h2 : IntKind.i64.wrap (a - ys) = b) (h3 : IntKind.i64.wrap (b + 1) = c) (La : ∀ x, Calls Tryz.prog 87 #[.agg #[.string s, .int .i64 f, .slice ar rl cr, vs]] x fun e w' => e = .returned (.int .i64 E) ∧ Below x.heap.size x w') : Calls Tryz.prog 91 #[.agg #[.string s, .int .i64 f, .slice ar rl cr, vs], .agg #[.int .i64 en, .int .i64 ys]] w fun e w' => e = .returned (.int .i64 c) ∧ Below w.heap.size w w' := by
  have KT := (Blk.new w #[.string s, .int .i64 f, .slice ar rl cr, vs] 44).alloc (.cells #[.int .i64 en, .int .i64 ys] 46)
  have KL := Blk.new (w.alloc (.cells #[.string s, .int .i64 f, .slice ar rl cr, vs] 44)) #[.int .i64 en, .int .i64 ys] 46
  have pr : Below w.heap.size w ((w.alloc (.cells #[.string s, .int .i64 f, .slice ar rl cr, vs] 44)).alloc (.cells #[.int .i64 en, .int .i64 ys] 46)) := ((Below.refl _ _).alloc (Nat.le_refl _) _).alloc (by simp) _
  simp only [World.size_alloc] at KL
  go_enter Tryz.func91, Tryz.ntmps91
  go_wp2_with fail
  generalize (w.alloc (.cells #[.string s, .int .i64 f, .slice ar rl cr, vs] 44)).alloc (.cells #[.int .i64 en, .int .i64 ys] 46) = W at *
  have k0 := KT.at 0
  have k1 := KT.at 1
  have k2 := KT.at 2
  have k3 := KT.at 3
  have m0 := KL.at 0
  have m1 := KL.at 1
  simp at k0 k1 k2 k3 m0 m1
  go_region_held3 (fun x => x.cell? ⟨w.heap.size, 0, none⟩ = some (.string s) ∧ x.cell? ⟨w.heap.size, 1, none⟩ = some (.int .i64 f) ∧ x.cell? ⟨w.heap.size, 2, none⟩ = some (.slice ar rl cr) ∧ x.cell? ⟨w.heap.size, 3, none⟩ = some vs ∧ x.cell? ⟨w.heap.size + 1, 0, none⟩ = some (.int .i64 en) ∧ x.cell? ⟨w.heap.size + 1, 1, none⟩ = some (.int .i64 ys)) (first | exact ⟨x0, x1, x2, x3, x4, x5⟩ | go_keep) (first
    | (go_at_call 87; (refine (La _).mono ?_); (rintro e w2 ⟨rfl, b1⟩); (have d1 := undrew b1); (have KT2 := KT.below d1 KT.lt); (have KL2 := KL.below d1 KL.lt); (have x0 := KT2.at 0); (have x1 := KT2.at 1); (have x2 := KT2.at 2); (have x3 := KT2.at 3); (have x4 := KL2.at 0); (have x5 := KL2.at 1); (simp at x0 x1 x2 x3 x4 x5))
    | fail)
  go_wp2_with fail
  go_ret
  exact ⟨rfl, bel' pr d1⟩
set_option maxRecDepth 100000 in
set_option maxHeartbeats 3200000 in
theorem Of_full (s : ByteArray) (f en ys E : Int) (ar : Option Addr) (rl cr : Nat) (vs : Value) (w : World) (a : Int) (z : Bool) (g1 : ys ≥ 0) (g2 : en ≥ f) (g3 : en ≤ E) (h1 : IntKind.i64.wrap (E - en) = a) (hz : decide (ys ≤ a) = z) (La : ∀ x, Calls Tryz.prog 87 #[.agg #[.string s, .int .i64 f, .slice ar rl cr, vs]] x fun e w' => e = .returned (.int .i64 E) ∧ Below x.heap.size x w') : Calls Tryz.prog 86 #[.agg #[.string s, .int .i64 f, .slice ar rl cr, vs], .agg #[.int .i64 en, .int .i64 ys]] w fun e w' => e = .returned (.bool z) ∧ Below w.heap.size w w' := by
  have KT := (Blk.new w #[.string s, .int .i64 f, .slice ar rl cr, vs] 44).alloc (.cells #[.int .i64 en, .int .i64 ys] 46)
  have KL := Blk.new (w.alloc (.cells #[.string s, .int .i64 f, .slice ar rl cr, vs] 44)) #[.int .i64 en, .int .i64 ys] 46
  have pr : Below w.heap.size w ((w.alloc (.cells #[.string s, .int .i64 f, .slice ar rl cr, vs] 44)).alloc (.cells #[.int .i64 en, .int .i64 ys] 46)) := ((Below.refl _ _).alloc (Nat.le_refl _) _).alloc (by simp) _
  simp only [World.size_alloc] at KL
  go_enter Tryz.func86, Tryz.ntmps86
  go_wp2_with fail
  generalize (w.alloc (.cells #[.string s, .int .i64 f, .slice ar rl cr, vs] 44)).alloc (.cells #[.int .i64 en, .int .i64 ys] 46) = W at *
  have k0 := KT.at 0
  have k1 := KT.at 1
  have k2 := KT.at 2
  have k3 := KT.at 3
  have m0 := KL.at 0
  have m1 := KL.at 1
  simp at k0 k1 k2 k3 m0 m1
  go_region_held3 (fun x => x.cell? ⟨w.heap.size, 0, none⟩ = some (.string s) ∧ x.cell? ⟨w.heap.size, 1, none⟩ = some (.int .i64 f) ∧ x.cell? ⟨w.heap.size, 2, none⟩ = some (.slice ar rl cr) ∧ x.cell? ⟨w.heap.size, 3, none⟩ = some vs ∧ x.cell? ⟨w.heap.size + 1, 0, none⟩ = some (.int .i64 en) ∧ x.cell? ⟨w.heap.size + 1, 1, none⟩ = some (.int .i64 ys)) (first | exact ⟨y0, y1, y2, y3, y4, y5⟩ | exact ⟨x0, x1, x2, x3, x4, x5⟩ | go_keep) (first
    | (go_at_call 87; (have z := d1); (refine (La _).mono ?_); (rintro e w3 ⟨rfl, b2⟩); (have d2 := bel' d1 b2); (have KT3 := KT.below d2 KT.lt); (have KL3 := KL.below d2 KL.lt); (have y0 := KT3.at 0); (have y1 := KT3.at 1); (have y2 := KT3.at 2); (have y3 := KT3.at 3); (have y4 := KL3.at 0); (have y5 := KL3.at 1); (simp at y0 y1 y2 y3 y4 y5))
    | (go_at_call 87; (refine (La _).mono ?_); (rintro e w2 ⟨rfl, b1⟩); (have d1 := undrew b1); (have KT2 := KT.below d1 KT.lt); (have KL2 := KL.below d1 KL.lt); (have x0 := KT2.at 0); (have x1 := KT2.at 1); (have x2 := KT2.at 2); (have x3 := KT2.at 3); (have x4 := KL2.at 0); (have x5 := KL2.at 1); (simp at x0 x1 x2 x3 x4 x5))
    | fail)
  go_wp2_with fail
  go_ret
  exact ⟨rfl, bel' pr d2⟩
end Go.Proofs.YtiaeoknmgidehaaGreatDoor.Ta
