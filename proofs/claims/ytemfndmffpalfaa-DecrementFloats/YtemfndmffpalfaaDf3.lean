import Derived.Test.YtemfndmffpalfaaDf2
namespace Go.Proofs.Ytemfndmffpalfaa.Df
open Go.RowKit Tn Go.Proofs.Ytemfndmffpalfaa.Ta
open Go.Proofs.Ytemfndmffpalfaa.Mo (Ri wrapI)

set_option maxRecDepth 100000 in
set_option maxHeartbeats 3200000 in
theorem Check_early (f : Int) (ao : Option Addr) (c : Nat) (xss : List (List Int)) (w : World) (h : xss.length = 0 ∨ 8 < xss.length ∨ f < 0 ∨ 130 < f) : Calls Try.prog 14 #[.agg #[.int .i64 f, .slice ao xss.length c]] w fun e w' => e = .returned (.int .i64 150) ∧ Below w.heap.size w w' := by
  generalize xss.length = L at *
  have K := Blk.new w #[.int .i64 f, .slice ao L c] 24
  have pr : Below w.heap.size w (w.alloc (.cells #[.int .i64 f, .slice ao L c] 24)) := (Below.refl _ _).alloc (Nat.le_refl _) _
  by_cases c0 : L = 0
  · subst c0
    have d1 : (((0 : Nat) : Int) == 0) = true := beq_iff_eq.2 (by omega)
    go_enter Try.func14, Try.ntmps14
    go_wp2_with fail
    go_ret
    exact ⟨rfl, pr⟩
  by_cases c1 : 8 < L
  · have d1 : ((L : Int) == 0) = false := beq_eq_false_iff_ne.2 (by omega)
    have d2 : decide ((L : Int) > 8) = true := decide_eq_true (by omega)
    go_enter Try.func14, Try.ntmps14
    go_wp2_with fail
    go_ret
    exact ⟨rfl, pr⟩
  by_cases c2 : f < 0
  · have d1 : ((L : Int) == 0) = false := beq_eq_false_iff_ne.2 (by omega)
    have d2 : decide ((L : Int) > 8) = false := decide_eq_false (by omega)
    have d3 : decide (f < 0) = true := decide_eq_true (by omega)
    go_enter Try.func14, Try.ntmps14
    go_wp2_with fail
    go_ret
    exact ⟨rfl, pr⟩
  · have d1 : ((L : Int) == 0) = false := beq_eq_false_iff_ne.2 (by omega)
    have d2 : decide ((L : Int) > 8) = false := decide_eq_false (by omega)
    have d3 : decide (f < 0) = false := decide_eq_false (by omega)
    have d4 : decide (f > 130) = true := decide_eq_true (by omega)
    go_enter Try.func14, Try.ntmps14
    go_wp2_with fail
    go_ret
    exact ⟨rfl, pr⟩
set_option maxRecDepth 100000 in
set_option maxHeartbeats 3200000 in
theorem RCheck_early (f : Int) (ao : Option Addr) (c : Nat) (xss : List (List Int)) (w : World) (h : xss.length = 0 ∨ 8 < xss.length ∨ f < 0 ∨ 130 < f) : Calls Try.prog 16 #[.agg #[.int .i64 f, .slice ao xss.length c]] w fun e w' => e = .returned (.int .i64 150) ∧ Below w.heap.size w w' := by
  generalize xss.length = L at *
  have K := Blk.new w #[.int .i64 f, .slice ao L c] 24
  have pr : Below w.heap.size w (w.alloc (.cells #[.int .i64 f, .slice ao L c] 24)) := (Below.refl _ _).alloc (Nat.le_refl _) _
  by_cases c0 : L = 0
  · subst c0
    have d1 : decide (((0 : Nat) : Int) < 1) = true := decide_eq_true (by omega)
    go_enter Try.func16, Try.ntmps16
    go_wp2_with fail
    go_ret
    exact ⟨rfl, pr⟩
  by_cases c1 : 8 < L
  · have d1 : decide ((L : Int) < 1) = false := decide_eq_false (by omega)
    have d2 : decide ((L : Int) > 8) = true := decide_eq_true (by omega)
    go_enter Try.func16, Try.ntmps16
    go_wp2_with fail
    go_ret
    exact ⟨rfl, pr⟩
  by_cases c2 : f < 0
  · have d1 : decide ((L : Int) < 1) = false := decide_eq_false (by omega)
    have d2 : decide ((L : Int) > 8) = false := decide_eq_false (by omega)
    have d3 : decide (f < 0) = true := decide_eq_true (by omega)
    go_enter Try.func16, Try.ntmps16
    go_wp2_with fail
    go_ret
    exact ⟨rfl, pr⟩
  · have d1 : decide ((L : Int) < 1) = false := decide_eq_false (by omega)
    have d2 : decide ((L : Int) > 8) = false := decide_eq_false (by omega)
    have d3 : decide (f < 0) = false := decide_eq_false (by omega)
    have d4 : decide (f > 130) = true := decide_eq_true (by omega)
    go_enter Try.func16, Try.ntmps16
    go_wp2_with fail
    go_ret
    exact ⟨rfl, pr⟩
end Go.Proofs.Ytemfndmffpalfaa.Df
