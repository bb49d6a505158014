import Derived.Test.YtbfaebaoekimhaaChecked
import Derived.Test.YtbfaebaoekimhaaBlk
import Derived.OwnWalk
import Derived.Laws.AppendOwn
import Derived.Deep.QuietTactic
import Derived.BigQuiet
namespace Go.Proofs.Ytbfaebaoekimhaa.Vf
open Go.RowKit Tn

theorem wrapI (x : Int) (h0 : -9223372036854775808 ≤ x) (h1 : x < 9223372036854775808) : IntKind.i64.wrap x = x := by
  simp [IntKind.wrap, IntKind.bits, IntKind.signed]; omega
theorem bl {w : World} (c : Array Value) (t : TypeId) : Below w.heap.size w (w.alloc (.cells c t)) := (Below.refl _ _).alloc (Nat.le_refl _) _
theorem belT {w W w1 : World} (h : Below w.heap.size w W) (k : Below W.heap.size W w1) : Below w.heap.size w w1 := h.trans (Below.mono k h.size)
/-- A benefit as a value. -/
def bn (K W T S : Int) : Value := .agg #[.int .i64 K, .int .i64 W, .int .i64 T, .int .i64 S]
/-- A benefit in its box. -/
def Bb (w : World) (g : Nat) (K W T S : Int) : Prop := Blk w g #[.int .i64 K, .int .i64 W, .int .i64 T, .int .i64 S] 23
theorem Bb.new (w : World) (K W T S : Int) : Bb (w.alloc (.cells #[.int .i64 K, .int .i64 W, .int .i64 T, .int .i64 S] 23)) w.heap.size K W T S := Blk.new _ _ _
theorem Bb.lt {w : World} {g : Nat} {K W T S : Int} (h : Bb w g K W T S) : g < w.heap.size := Blk.lt h
theorem Bb.grow {w x : World} {g : Nat} {K W T S : Int} (h : Bb w g K W T S) (b : Below w.heap.size w x) : Bb x g K W T S := Blk.below h b (Blk.lt h)
theorem Bb.c0 {w : World} {g : Nat} {K W T S : Int} (h : Bb w g K W T S) : w.cell? ⟨g, 0, none⟩ = some (.int .i64 K) := Blk.at h 0
theorem Bb.c1 {w : World} {g : Nat} {K W T S : Int} (h : Bb w g K W T S) : w.cell? ⟨g, 1, none⟩ = some (.int .i64 W) := Blk.at h 1
theorem Bb.c2 {w : World} {g : Nat} {K W T S : Int} (h : Bb w g K W T S) : w.cell? ⟨g, 2, none⟩ = some (.int .i64 T) := Blk.at h 2
theorem Bb.c3 {w : World} {g : Nat} {K W T S : Int} (h : Bb w g K W T S) : w.cell? ⟨g, 3, none⟩ = some (.int .i64 S) := Blk.at h 3
/-- Is the year one of the benefit's. -/
def on (W T k : Int) : Bool := decide (W ≤ k) && decide (k < W + T)
theorem isOn_c (K W T S k : Int) (w : World) (hW : 0 ≤ W ∧ W ≤ 1000) (hT : 0 ≤ T ∧ T ≤ 1000) :
    Calls Try.prog 21 #[bn K W T S, .int .i64 k] w fun e w' => e = .returned (.bool (on W T k)) ∧ Below w.heap.size w w' := by
  have K0 := Bb.new w K W T S
  have pr := bl (w := w) #[.int .i64 K, .int .i64 W, .int .i64 T, .int .i64 S] 23
  have e1 : IntKind.i64.wrap (W + T) = W + T := wrapI _ (by omega) (by omega)
  have q1 := K0.c1
  have q2 := K0.c2
  clear K0
  unfold bn on
  by_cases h' : W ≤ k
  all_goals
    clear hW hT
    go_enter Try.func21, Try.ntmps21
    go_wp2_with fail
    go_ret
    exact ⟨by first | (simp [h']; done) | (simp; omega), pr⟩
/-- What each way of paying comes to. -/
def py (i : Nat) (W T k : Int) : Int := match i with
  | 1 => if on W T k then 1 else 0
  | 2 => if k + 1 = W + T then 1 else 0
  | 3 => if on W T k then k - W + 1 else 0
  | 4 => if on W T k then W + T - k else 0
  | _ => 0
theorem never_c (K W T S k : Int) (w : World) :
    Calls Try.prog 16 #[bn K W T S, .int .i64 k] w fun e w' => e = .returned (.int .i64 (py 0 W T k)) ∧ Below w.heap.size w w' := by
  have pr := bl (w := w) #[.int .i64 K, .int .i64 W, .int .i64 T, .int .i64 S] 23
  unfold bn
  go_enter Try.func16, Try.ntmps16
  go_wp2_with fail
  go_ret
  exact ⟨rfl, pr⟩
theorem atLast_c (K W T S k : Int) (w : World) (hW : 0 ≤ W ∧ W ≤ 1000) (hT : 0 ≤ T ∧ T ≤ 1000) (hk : 0 ≤ k ∧ k ≤ 1000) :
    Calls Try.prog 18 #[bn K W T S, .int .i64 k] w fun e w' => e = .returned (.int .i64 (py 2 W T k)) ∧ Below w.heap.size w w' := by
  have K0 := Bb.new w K W T S
  have pr := bl (w := w) #[.int .i64 K, .int .i64 W, .int .i64 T, .int .i64 S] 23
  have e1 : IntKind.i64.wrap (W + T) = W + T := wrapI _ (by omega) (by omega)
  have e2 : IntKind.i64.wrap (k + 1) = k + 1 := wrapI _ (by omega) (by omega)
  have q1 := K0.c1
  have q2 := K0.c2
  clear K0 hW hT hk
  unfold bn py
  by_cases h' : k + 1 = W + T
  · rw [if_pos h']
    have h2 : (decide (k + 1 = W + T)) = true := by simp [h']
    have e2' := e2
    rw [h'] at e2 h2
    clear e2'
    go_enter Try.func18, Try.ntmps18
    have hh : Hid _ := h'
    clear h2
    go_wp2_with fail
    go_ret
    exact ⟨rfl, pr⟩
  · rw [if_neg h']
    go_enter Try.func18, Try.ntmps18
    go_wp2_with fail
    go_ret
    exact ⟨rfl, pr⟩
theorem yearly_c (K W T S k : Int) (w : World) (hW : 0 ≤ W ∧ W ≤ 1000) (hT : 0 ≤ T ∧ T ≤ 1000) :
    Calls Try.prog 17 #[bn K W T S, .int .i64 k] w fun e w' => e = .returned (.int .i64 (py 1 W T k)) ∧ Below w.heap.size w w' := by
  have K0 := Bb.new w K W T S
  have pr := bl (w := w) #[.int .i64 K, .int .i64 W, .int .i64 T, .int .i64 S] 23
  have C := fun x => isOn_c K W T S k x hW hT
  have q0 := K0.c0
  have q1 := K0.c1
  have q2 := K0.c2
  have q3 := K0.c3
  clear hW hT
  unfold bn py at *
  simp only []
  obtain ⟨u, hu⟩ : ∃ u, on W T k = u := ⟨_, rfl⟩
  simp only [hu] at C ⊢
  clear hu
  cases u
  all_goals
    go_enter Try.func17, Try.ntmps17
    go_wp2_with (first
      | (go_at_call 21; (refine (C _).mono ?_); (rintro e w1 ⟨rfl, b1⟩); (have K1 := K0.grow b1); (have q1 := K1.c1); (have q2 := K1.c2); (have p1 := belT pr b1))
      | fail)
    go_ret
    exact ⟨rfl, p1⟩
theorem rising_c (K W T S k : Int) (w : World) (hW : 0 ≤ W ∧ W ≤ 1000) (hT : 0 ≤ T ∧ T ≤ 1000) (hk : 0 ≤ k ∧ k ≤ 1000) :
    Calls Try.prog 19 #[bn K W T S, .int .i64 k] w fun e w' => e = .returned (.int .i64 (py 3 W T k)) ∧ Below w.heap.size w w' := by
  have K0 := Bb.new w K W T S
  have pr := bl (w := w) #[.int .i64 K, .int .i64 W, .int .i64 T, .int .i64 S] 23
  have C := fun x => isOn_c K W T S k x hW hT
  have e2 : IntKind.i64.wrap (k - W) = k - W := wrapI _ (by omega) (by omega)
  have e3 : IntKind.i64.wrap (k - W + 1) = k - W + 1 := wrapI _ (by omega) (by omega)
  have q0 := K0.c0
  have q1 := K0.c1
  have q2 := K0.c2
  have q3 := K0.c3
  clear hW hT hk
  unfold bn py at *
  simp only []
  obtain ⟨u, hu⟩ : ∃ u, on W T k = u := ⟨_, rfl⟩
  simp only [hu] at C ⊢
  clear hu
  cases u
  all_goals
    go_enter Try.func19, Try.ntmps19
    go_wp2_with (first
      | (go_at_call 21; (refine (C _).mono ?_); (rintro e w1 ⟨rfl, b1⟩); (have K1 := K0.grow b1); (have q1 := K1.c1); (have q2 := K1.c2); (have p1 := belT pr b1))
      | fail)
    go_ret
    exact ⟨rfl, p1⟩
theorem falling_c (K W T S k : Int) (w : World) (hW : 0 ≤ W ∧ W ≤ 1000) (hT : 0 ≤ T ∧ T ≤ 1000) (hk : 0 ≤ k ∧ k ≤ 1000) :
    Calls Try.prog 20 #[bn K W T S, .int .i64 k] w fun e w' => e = .returned (.int .i64 (py 4 W T k)) ∧ Below w.heap.size w w' := by
  have K0 := Bb.new w K W T S
  have pr := bl (w := w) #[.int .i64 K, .int .i64 W, .int .i64 T, .int .i64 S] 23
  have C := fun x => isOn_c K W T S k x hW hT
  have e2 : IntKind.i64.wrap (W + T) = W + T := wrapI _ (by omega) (by omega)
  have e3 : IntKind.i64.wrap (W + T - k) = W + T - k := wrapI _ (by omega) (by omega)
  have q0 := K0.c0
  have q1 := K0.c1
  have q2 := K0.c2
  have q3 := K0.c3
  clear hW hT hk
  unfold bn py at *
  simp only []
  obtain ⟨u, hu⟩ : ∃ u, on W T k = u := ⟨_, rfl⟩
  simp only [hu] at C ⊢
  clear hu
  cases u
  all_goals
    go_enter Try.func20, Try.ntmps20
    go_wp2_with (first
      | (go_at_call 21; (refine (C _).mono ?_); (rintro e w1 ⟨rfl, b1⟩); (have K1 := K0.grow b1); (have q1 := K1.c1); (have q2 := K1.c2); (have p1 := belT pr b1))
      | fail)
    go_ret
    exact ⟨rfl, p1⟩
end Go.Proofs.Ytbfaebaoekimhaa.Vf
