import Derived.Test.YteepjipecfdkoaaDoorDy2
import Derived.Deep.QuietTactic
import Derived.BigQuiet
namespace Go.Proofs.YteepjipecfdkoaaDoor.Dy
open Go.RowKit Tn

theorem yr_iff {y : Int} : yr y = true ↔ 1 ≤ y ∧ y ≤ 9999 := by simp [yr]
theorem mt_iff {y : Int} : mt y = true ↔ 1 ≤ y ∧ y ≤ 12 := by simp [mt]
theorem bl {w : World} (c : Array Value) (t : TypeId) : Below w.heap.size w (w.alloc (.cells c t)) := (Below.refl _ _).alloc (Nat.le_refl _) _
theorem blN {w W : World} {n : Nat} (h : Below w.heap.size w W) : Below w.heap.size w (W.drewN n) := ⟨h.os, h.tape, h.output, h.size, h.block⟩
theorem belN {n : Nat} {w W w1 : World} (h : Below w.heap.size w W) (k : Below (W.drewN n).heap.size (W.drewN n) w1) : Below w.heap.size w w1 := h.trans (Below.mono (show Below W.heap.size W w1 from ⟨k.os, k.tape, k.output, k.size, k.block⟩) h.size)
theorem belT {w W w1 : World} (h : Below w.heap.size w W) (k : Below W.heap.size W w1) : Below w.heap.size w w1 := h.trans (Below.mono k h.size)
theorem _root_.Go.Proofs.YteepjipecfdkoaaDoor.Blk.c0 {w : World} {n : Nat} {y m d : Int} {t : TypeId} (h : Blk w n #[.int .i64 y, .int .i64 m, .int .i64 d] t) : w.cell? ⟨n, 0, none⟩ = some (.int .i64 y) := h.at 0
theorem _root_.Go.Proofs.YteepjipecfdkoaaDoor.Blk.c1 {w : World} {n : Nat} {y m d : Int} {t : TypeId} (h : Blk w n #[.int .i64 y, .int .i64 m, .int .i64 d] t) : w.cell? ⟨n, 1, none⟩ = some (.int .i64 m) := h.at 1
theorem _root_.Go.Proofs.YteepjipecfdkoaaDoor.Blk.c2 {w : World} {n : Nat} {y m d : Int} {t : TypeId} (h : Blk w n #[.int .i64 y, .int .i64 m, .int .i64 d] t) : w.cell? ⟨n, 2, none⟩ = some (.int .i64 d) := h.at 2
theorem Gl.drew {w : World} (h : Gl w) (n : Nat) : Gl (w.drewN n) := fun i hi => h i hi
/-- What is told of a date that is or isn't right. -/
def er (b : Bool) : Int := if b then 0 else 70
set_option maxHeartbeats 400000 in
theorem Check_walk (y m d l : Int) (a b c f : Bool) (w : World) (G : Gl w) (Y : ∀ W, Calls Tryd.prog 26 #[.int .i64 y] W fun e w' => e = .returned (.bool a) ∧ w' = W)
    (M : ∀ W, Calls Tryd.prog 27 #[.int .i64 m] W fun e w' => e = .returned (.bool b) ∧ w' = W)
    (L : a = true → b = true → ∀ W, Gl W → Calls Tryd.prog 20 #[.int .i64 y, .int .i64 m] W fun e w' => e = .returned (.int .i64 l) ∧ w' = W)
    (hc : decide (d < 1) = c) (hf : decide (d > l) = f) : Calls Tryd.prog 14 #[dt y m d] w fun e w' => e = .returned (.int .i64 (er (a && b && !c && !f))) ∧ Below w.heap.size w w' := by
  have K0 := Blk.new w #[.int .i64 y, .int .i64 m, .int .i64 d] 23
  have pr := bl (w := w) #[.int .i64 y, .int .i64 m, .int .i64 d] 23
  have G' := G.alloc (.cells #[.int .i64 y, .int .i64 m, .int .i64 d] 23)
  unfold dt
  clear G
  cases a
  · clear L
    go_enter Tryd.func14, Tryd.ntmps14
    go_wp2_with fail
    generalize w.alloc (.cells #[.int .i64 y, .int .i64 m, .int .i64 d] 23) = W at *
    have q0 : W.cell? ⟨w.heap.size, 0, none⟩ = some (.int .i64 y) := K0.at 0
    have q1 : W.cell? ⟨w.heap.size, 1, none⟩ = some (.int .i64 m) := K0.at 1
    have q2 : W.cell? ⟨w.heap.size, 2, none⟩ = some (.int .i64 d) := K0.at 2
    clear K0
    go_quiet ((go_at_call 26; exact Calls.quiet_of_same (Y _)))
    go_wp2_with fail
    go_ret
    exact ⟨rfl, blN pr⟩
  cases b
  · clear L
    go_enter Tryd.func14, Tryd.ntmps14
    go_wp2_with fail
    generalize w.alloc (.cells #[.int .i64 y, .int .i64 m, .int .i64 d] 23) = W at *
    have q0 : W.cell? ⟨w.heap.size, 0, none⟩ = some (.int .i64 y) := K0.at 0
    have q1 : W.cell? ⟨w.heap.size, 1, none⟩ = some (.int .i64 m) := K0.at 1
    have q2 : W.cell? ⟨w.heap.size, 2, none⟩ = some (.int .i64 d) := K0.at 2
    clear K0
    go_quiet ((first | (go_at_call 26; exact Calls.quiet_of_same (Y _)) | (go_at_call 27; exact Calls.quiet_of_same (M _))))
    go_wp2_with fail
    go_ret
    exact ⟨rfl, blN pr⟩
  replace L := L rfl rfl
  cases c
  · cases f
    all_goals
      go_enter Tryd.func14, Tryd.ntmps14
      go_wp2_with fail
      generalize w.alloc (.cells #[.int .i64 y, .int .i64 m, .int .i64 d] 23) = W at *
      have q0 : W.cell? ⟨w.heap.size, 0, none⟩ = some (.int .i64 y) := K0.at 0
      have q1 : W.cell? ⟨w.heap.size, 1, none⟩ = some (.int .i64 m) := K0.at 1
      have q2 : W.cell? ⟨w.heap.size, 2, none⟩ = some (.int .i64 d) := K0.at 2
      clear K0
      go_quiet ((first | (go_at_call 26; exact Calls.quiet_of_same (Y _)) | (go_at_call 27; exact Calls.quiet_of_same (M _)) | (go_at_call 20; exact Calls.quiet_of_same (L _ (G'.drew _)))))
      go_wp2_with fail
      go_ret
      exact ⟨rfl, blN pr⟩
  · clear L
    go_enter Tryd.func14, Tryd.ntmps14
    go_wp2_with fail
    generalize w.alloc (.cells #[.int .i64 y, .int .i64 m, .int .i64 d] 23) = W at *
    have q0 : W.cell? ⟨w.heap.size, 0, none⟩ = some (.int .i64 y) := K0.at 0
    have q1 : W.cell? ⟨w.heap.size, 1, none⟩ = some (.int .i64 m) := K0.at 1
    have q2 : W.cell? ⟨w.heap.size, 2, none⟩ = some (.int .i64 d) := K0.at 2
    clear K0
    go_quiet ((first | (go_at_call 26; exact Calls.quiet_of_same (Y _)) | (go_at_call 27; exact Calls.quiet_of_same (M _))))
    go_wp2_with fail
    go_ret
    exact ⟨rfl, blN pr⟩
theorem good_eq (y m d : Int) : (yr y && mt m && !decide (d < 1) && !decide (d > ml (lp y) m)) = good y m d := by
  rw [Bool.eq_iff_iff]
  simp [yr, mt, good]
  omega
theorem Check_any (y m d : Int) (w : World) (G : Gl w) : Calls Tryd.prog 14 #[dt y m d] w fun e w' => e = .returned (.int .i64 (er (good y m d))) ∧ Below w.heap.size w w' := by
  rw [← good_eq]
  exact Check_walk y m d _ _ _ _ _ w G (isYear_any y) (isMonth_any m) (fun a b W g => lengthOf_any y m (by have := yr_iff.1 a; omega) (mt_iff.1 b).1 (mt_iff.1 b).2 W g) rfl rfl
set_option maxHeartbeats 400000 in
theorem Good_walk (y m d l : Int) (a1 a2 b1 b2 c f : Bool) (w : World)
    (L : a1 = true → a2 = true → b1 = true → b2 = true → ∀ W, Calls Tryd.prog 22 #[.int .i64 y, .int .i64 m] W fun e w' => e = .returned (.int .i64 l) ∧ w' = W)
    (ha1 : decide (y ≥ 1) = a1) (ha2 : decide (y ≤ 9999) = a2) (hb1 : decide (m ≥ 1) = b1) (hb2 : decide (m ≤ 12) = b2) (hc : decide (d ≥ 1) = c) (hf : decide (d ≤ l) = f) : Calls Tryd.prog 11 #[dt y m d] w fun e w' => e = .returned (.bool (a1 && a2 && b1 && b2 && c && f)) ∧ Below w.heap.size w w' := by
  have K0 := Blk.new w #[.int .i64 y, .int .i64 m, .int .i64 d] 23
  have pr := bl (w := w) #[.int .i64 y, .int .i64 m, .int .i64 d] 23
  unfold dt
  cases a1
  · clear L
    go_enter Tryd.func11, Tryd.ntmps11
    go_wp2_with fail
    generalize w.alloc (.cells #[.int .i64 y, .int .i64 m, .int .i64 d] 23) = W at *
    have q0 : W.cell? ⟨w.heap.size, 0, none⟩ = some (.int .i64 y) := K0.at 0
    have q1 : W.cell? ⟨w.heap.size, 1, none⟩ = some (.int .i64 m) := K0.at 1
    have q2 : W.cell? ⟨w.heap.size, 2, none⟩ = some (.int .i64 d) := K0.at 2
    clear K0
    go_quiet (fail)
    go_wp2_with fail
    go_ret
    exact ⟨rfl, blN pr⟩
  cases a2
  · clear L
    go_enter Tryd.func11, Tryd.ntmps11
    go_wp2_with fail
    generalize w.alloc (.cells #[.int .i64 y, .int .i64 m, .int .i64 d] 23) = W at *
    have q0 : W.cell? ⟨w.heap.size, 0, none⟩ = some (.int .i64 y) := K0.at 0
    have q1 : W.cell? ⟨w.heap.size, 1, none⟩ = some (.int .i64 m) := K0.at 1
    have q2 : W.cell? ⟨w.heap.size, 2, none⟩ = some (.int .i64 d) := K0.at 2
    clear K0
    go_quiet (fail)
    go_wp2_with fail
    go_ret
    exact ⟨rfl, blN pr⟩
  cases b1
  · clear L
    go_enter Tryd.func11, Tryd.ntmps11
    go_wp2_with fail
    generalize w.alloc (.cells #[.int .i64 y, .int .i64 m, .int .i64 d] 23) = W at *
    have q0 : W.cell? ⟨w.heap.size, 0, none⟩ = some (.int .i64 y) := K0.at 0
    have q1 : W.cell? ⟨w.heap.size, 1, none⟩ = some (.int .i64 m) := K0.at 1
    have q2 : W.cell? ⟨w.heap.size, 2, none⟩ = some (.int .i64 d) := K0.at 2
    clear K0
    go_quiet (fail)
    go_wp2_with fail
    go_ret
    exact ⟨rfl, blN pr⟩
  cases b2
  · clear L
    go_enter Tryd.func11, Tryd.ntmps11
    go_wp2_with fail
    generalize w.alloc (.cells #[.int .i64 y, .int .i64 m, .int .i64 d] 23) = W at *
    have q0 : W.cell? ⟨w.heap.size, 0, none⟩ = some (.int .i64 y) := K0.at 0
    have q1 : W.cell? ⟨w.heap.size, 1, none⟩ = some (.int .i64 m) := K0.at 1
    have q2 : W.cell? ⟨w.heap.size, 2, none⟩ = some (.int .i64 d) := K0.at 2
    clear K0
    go_quiet (fail)
    go_wp2_with fail
    go_ret
    exact ⟨rfl, blN pr⟩
  replace L := L rfl rfl rfl rfl
  cases c
  · clear L
    go_enter Tryd.func11, Tryd.ntmps11
    go_wp2_with fail
    generalize w.alloc (.cells #[.int .i64 y, .int .i64 m, .int .i64 d] 23) = W at *
    have q0 : W.cell? ⟨w.heap.size, 0, none⟩ = some (.int .i64 y) := K0.at 0
    have q1 : W.cell? ⟨w.heap.size, 1, none⟩ = some (.int .i64 m) := K0.at 1
    have q2 : W.cell? ⟨w.heap.size, 2, none⟩ = some (.int .i64 d) := K0.at 2
    clear K0
    go_quiet (fail)
    go_wp2_with fail
    go_ret
    exact ⟨rfl, blN pr⟩
  cases f
  all_goals
    go_enter Tryd.func11, Tryd.ntmps11
    go_wp2_with fail
    generalize w.alloc (.cells #[.int .i64 y, .int .i64 m, .int .i64 d] 23) = W at *
    have q0 : W.cell? ⟨w.heap.size, 0, none⟩ = some (.int .i64 y) := K0.at 0
    have q1 : W.cell? ⟨w.heap.size, 1, none⟩ = some (.int .i64 m) := K0.at 1
    have q2 : W.cell? ⟨w.heap.size, 2, none⟩ = some (.int .i64 d) := K0.at 2
    clear K0
    go_quiet ((go_at_call 22; exact Calls.quiet_of_same (L _)))
    go_wp2_with fail
    go_ret
    exact ⟨rfl, blN pr⟩
theorem good_eq2 (y m d : Int) : (decide (y ≥ 1) && decide (y ≤ 9999) && decide (m ≥ 1) && decide (m ≤ 12) && decide (d ≥ 1) && decide (d ≤ ml (lp y) m)) = good y m d := by
  rw [Bool.eq_iff_iff]
  simp [good]
  omega
theorem Good_any (y m d : Int) (w : World) : Calls Tryd.prog 11 #[dt y m d] w fun e w' => e = .returned (.bool (good y m d)) ∧ Below w.heap.size w w' := by
  rw [← good_eq2]
  exact Good_walk y m d _ _ _ _ _ _ _ w (fun a _ b1 b2 W => RLength_any y m (by have := of_decide_eq_true a; omega) (of_decide_eq_true b1) (of_decide_eq_true b2) W) rfl rfl rfl rfl rfl rfl
end Go.Proofs.YteepjipecfdkoaaDoor.Dy
