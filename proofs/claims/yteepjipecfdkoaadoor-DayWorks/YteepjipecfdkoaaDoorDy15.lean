import Derived.Test.YteepjipecfdkoaaDoorDy13
import Derived.Test.YteepjipecfdkoaaDoorDy14
import Derived.Deep.DeepCutAuto
namespace Go.Proofs.YteepjipecfdkoaaDoor.Dy
open Go.RowKit Tn
theorem undr {V w2 : World} {n : Nat} (k : Below (V.drewN n).heap.size (V.drewN n) w2) : Below V.heap.size V w2 := ⟨k.os, k.tape, k.output, k.size, k.block⟩
/-- Two dates in their boxes. -/
def Tb (w W : World) (y m d u v e : Int) : Prop :=
  Blk W w.heap.size #[.int .i64 y, .int .i64 m, .int .i64 d] 23 ∧ Blk W (w.heap.size + 1) #[.int .i64 u, .int .i64 v, .int .i64 e] 23 ∧ Gl W ∧ Below w.heap.size w W
theorem Tb.grow {w W W' : World} {y m d u v e : Int} (h : Tb w W y m d u v e) (k : Below W.heap.size W W') : Tb w W' y m d u v e :=
  ⟨h.1.below k h.1.lt, h.2.1.below k h.2.1.lt, h.2.2.1.grow k, belT h.2.2.2 k⟩
theorem Tb.drew {w W : World} {y m d u v e : Int} (h : Tb w W y m d u v e) (n : Nat) : Tb w (W.drewN n) y m d u v e := ⟨h.1, h.2.1, h.2.2.1.drew n, blN h.2.2.2⟩
theorem Tb.new (w : World) (y m d u v e : Int) (G : Gl w) : Tb w ((w.alloc (.cells #[.int .i64 y, .int .i64 m, .int .i64 d] 23)).alloc (.cells #[.int .i64 u, .int .i64 v, .int .i64 e] 23)) y m d u v e := by
  have Ka0 := (Blk.new w #[.int .i64 y, .int .i64 m, .int .i64 d] 23).alloc (.cells #[.int .i64 u, .int .i64 v, .int .i64 e] 23)
  have Kb0 := Blk.new (w.alloc (.cells #[.int .i64 y, .int .i64 m, .int .i64 d] 23)) #[.int .i64 u, .int .i64 v, .int .i64 e] 23
  rw [show (w.alloc (.cells #[.int .i64 y, .int .i64 m, .int .i64 d] 23)).heap.size = w.heap.size + 1 by simp] at Kb0
  have pr := belT (bl (w := w) #[.int .i64 y, .int .i64 m, .int .i64 d] 23) (bl (w := (w.alloc (.cells #[.int .i64 y, .int .i64 m, .int .i64 d] 23))) #[.int .i64 u, .int .i64 v, .int .i64 e] 23)
  have G0 := ((G).alloc (.cells #[.int .i64 y, .int .i64 m, .int .i64 d] 23)).alloc (.cells #[.int .i64 u, .int .i64 v, .int .i64 e] 23)
  exact ⟨Ka0, Kb0, G0, pr⟩
/-- What is wrong with two dates. -/
def tw (y m d u v e : Int) : Int := if good y m d && good u v e then (if num u v e < num y m d then 1 else 0) else 70
def td (y m d u v e : Int) : Int := if tw y m d u v e = 0 then num u v e - num y m d else 0
theorem field_day (y m d : Int) (w : World) : (Instr.field 23 (.agg #[.int .i64 y, .int .i64 m, .int .i64 d]) 2).run Tryd.prog w = .ok (.int .i64 d) w := by
  simp [Instr.field, run_underlying Tryd.underlying23, asAgg, part, Tryd.sizeOf3, go_sem]
end Go.Proofs.YteepjipecfdkoaaDoor.Dy
