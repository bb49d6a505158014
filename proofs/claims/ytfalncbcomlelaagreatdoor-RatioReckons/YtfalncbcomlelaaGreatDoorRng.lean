import Derived.Test.YtfalncbcomlelaaGreatDoorPf1
import Derived.Deep.RegionHeld3
namespace Go.Proofs.YtfalncbcomlelaaGreatDoor.Mo
open Go.RowKit Tn

/-- Three cells are written. -/
theorem putF3 {w1 : World} {b : Nat} {u0 u1 u2 : Value} (x y z : Value) (g0 : w1.cell? ⟨b, 0, none⟩ = some u0) (g1 : w1.cell? ⟨b, 1, none⟩ = some u1) (g2 : w1.cell? ⟨b, 2, none⟩ = some u2) :
    (((w1.setCell ⟨b, 0, none⟩ x).setCell ⟨b, 1, none⟩ y).setCell ⟨b, 2, none⟩ z).cell? ⟨b, 0, none⟩ = some x ∧ (((w1.setCell ⟨b, 0, none⟩ x).setCell ⟨b, 1, none⟩ y).setCell ⟨b, 2, none⟩ z).cell? ⟨b, 1, none⟩ = some y ∧ (((w1.setCell ⟨b, 0, none⟩ x).setCell ⟨b, 1, none⟩ y).setCell ⟨b, 2, none⟩ z).cell? ⟨b, 2, none⟩ = some z ∧ (∀ B w, B ≤ b → Below B w w1 → Below B w (((w1.setCell ⟨b, 0, none⟩ x).setCell ⟨b, 1, none⟩ y).setCell ⟨b, 2, none⟩ z)) := by
  have h1 : (w1.setCell ⟨b, 0, none⟩ x).cell? ⟨b, 1, none⟩ = some u1 := (World.cell?_setCell_other _ _ _ _ (by simp)).trans g1
  have h2 : ((w1.setCell ⟨b, 0, none⟩ x).setCell ⟨b, 1, none⟩ y).cell? ⟨b, 2, none⟩ = some u2 := (World.cell?_setCell_other _ _ _ _ (by simp)).trans ((World.cell?_setCell_other _ _ _ _ (by simp)).trans g2)
  refine ⟨?_, ?_, World.cell?_setCell_same _ _ _ h2, fun B w hB h => ((h.setCell (p := ⟨b, 0, none⟩) hB x).setCell (p := ⟨b, 1, none⟩) hB y).setCell (p := ⟨b, 2, none⟩) hB z⟩
  · rw [World.cell?_setCell_other _ _ _ _ (by simp), World.cell?_setCell_other _ _ _ _ (by simp), World.cell?_setCell_same _ _ _ g0]
  · rw [World.cell?_setCell_other _ _ _ _ (by simp), World.cell?_setCell_same _ _ _ h1]

set_option maxRecDepth 100000 in
set_option maxHeartbeats 800000 in
theorem FNeg_low (a1 a2 : Option Addr) (m1 c1 m2 c2 : Nat) (w : World) :
    Calls Tryz.prog 24 #[.agg #[.bool true, .slice a1 m1 c1, .slice a2 m2 c2]] w fun e w' => e = .returned (.agg #[.bool false, .slice a1 m1 c1, .slice a2 m2 c2]) ∧ Below w.heap.size w w' := by
  go_enter Tryz.func24, Tryz.ntmps24
  go_wp2_with fail
  go_region
  all_goals
    go_wp2
    refine bodyPost_ret (v := .agg #[.bool false, .slice a1 m1 c1, .slice a2 m2 c2]) (by simp [results, Tryz.results24, go_sem]) rfl ⟨rfl, ?_⟩
    exact (((Below.refl _ _).alloc (Nat.le_refl _) _).alloc (by simp) _).drew

set_option maxRecDepth 100000 in
set_option maxHeartbeats 800000 in
theorem FNeg_high (a1 a2 : Option Addr) (m1 c1 m2 c2 : Nat) (w : World) :
    Calls Tryz.prog 24 #[.agg #[.bool false, .slice a1 m1 c1, .slice a2 m2 c2]] w fun e w' => e = .returned (.agg #[.bool (!(m1 == 0)), .slice a1 m1 c1, .slice a2 m2 c2]) ∧ Below w.heap.size w w' := by
  go_enter Tryz.func24, Tryz.ntmps24
  go_wp2_with fail
  have pr : Below w.heap.size w ((w.alloc (.cells #[.bool false, .slice a1 m1 c1, .slice a2 m2 c2] 58)).alloc (.cells #[.bool false, .slice none 0 0, .slice none 0 0] 58)) := ((Below.refl _ _).alloc (Nat.le_refl _) _).alloc (by simp) _
  have K0 : Blk ((w.alloc (.cells #[.bool false, .slice a1 m1 c1, .slice a2 m2 c2] 58)).alloc (.cells #[.bool false, .slice none 0 0, .slice none 0 0] 58)) w.heap.size #[.bool false, .slice a1 m1 c1, .slice a2 m2 c2] 58 := (Blk.new _ _ _).alloc _
  have K1 := Blk.new (w.alloc (.cells #[.bool false, .slice a1 m1 c1, .slice a2 m2 c2] 58)) #[.bool false, .slice none 0 0, .slice none 0 0] 58
  simp only [World.size_alloc] at K1
  generalize (w.alloc (.cells #[.bool false, .slice a1 m1 c1, .slice a2 m2 c2] 58)).alloc (.cells #[.bool false, .slice none 0 0, .slice none 0 0] 58) = W at *
  have e0 : W.cell? ⟨w.heap.size, 0, none⟩ = some (.bool false) := K0.at 0
  have e1 : W.cell? ⟨w.heap.size, 1, none⟩ = some (.slice a1 m1 c1) := K0.at 1
  have e2 : W.cell? ⟨w.heap.size, 2, none⟩ = some (.slice a2 m2 c2) := K0.at 2
  have L0 := K0.lt; have L1 := K1.lt
  go_region_held3 (fun x => x.cell? ⟨w.heap.size, 0, none⟩ = some (.bool false) ∧ x.cell? ⟨w.heap.size, 1, none⟩ = some (.slice a1 m1 c1) ∧ x.cell? ⟨w.heap.size, 2, none⟩ = some (.slice a2 m2 c2)) (go_keep) (first
    | (go_at_call 42; refine (iszero_len a1 m1 c1 _).mono ?_; rintro e w1 ⟨rfl, b1⟩; have f0 := (b1.cell (p := ⟨w.heap.size, 0, none⟩) L0).trans e0; have f1 := (b1.cell (p := ⟨w.heap.size, 1, none⟩) L0).trans e1; have f2 := (b1.cell (p := ⟨w.heap.size, 2, none⟩) L0).trans e2; have Q1 : Blk w1 _ _ _ := Blk.below K1 (below_undrew b1) L1; have g0 : w1.cell? ⟨w.heap.size + 1, 0, none⟩ = some (.bool false) := Q1.at 0; have g1 : w1.cell? ⟨w.heap.size + 1, 1, none⟩ = some (.slice none 0 0) := Q1.at 1; have g2 : w1.cell? ⟨w.heap.size + 1, 2, none⟩ = some (.slice none 0 0) := Q1.at 2; have z0 := Q1.free 0; have z1 := Q1.free 1; have z2 := Q1.free 2)
    | fail)
  obtain ⟨F0, F1, F2, FB⟩ := putF3 (.bool (!(m1 == 0))) (.slice a1 m1 c1) (.slice a2 m2 c2) g0 g1 g2
  have ds : W.drew.heap.size = W.heap.size := rfl
  have p1 := pr.drew.trans (b1.mono (by have := pr.size; omega))
  go_wp2
  exact bodyPost_ret (v := .agg #[.bool (!(m1 == 0)), .slice a1 m1 c1, .slice a2 m2 c2]) (by simp [results, Tryz.results24, go_sem, F0, F1, F2]) rfl ⟨rfl, FB _ _ (by omega) p1⟩

theorem Nn.len {x : World} {a : Option Addr} {l c : Nat} {N : Int} (h : Nn x a l c N) : (l == 0) = decide (N = 0) := by
  obtain ⟨xs, ⟨h1, a', c', e, _⟩, n, rfl⟩ := h
  obtain ⟨rfl, rfl, rfl⟩ : a = a' ∧ l = xs.length ∧ c = c' := by injection e with e1 e2 e3; exact ⟨e1, e2, e3⟩
  rw [Bool.eq_iff_iff]; simp [val_eq_zero h1 n, List.length_eq_zero_iff]
theorem Negated_p (v : Value) (r : Rat) (w : World) (h : PF w v r) :
    Calls Tryz.prog 24 #[v] w fun e w' => ∃ v', e = .returned v' ∧ PF w' v' (-r) ∧ Below w.heap.size w w' := by
  obtain ⟨a, l, c, a', l', c', rfl, k1, k2⟩ := h
  have e1 : (-r).num = -r.num := Rat.neg_num r
  have e2 : (-r).den = r.den := Rat.neg_den r
  by_cases g : r.num < 0
  · rw [decide_eq_true g]
    refine (FNeg_low a a' l c l' c' w).mono ?_
    rintro e w' ⟨rfl, b⟩
    refine ⟨_, rfl, ⟨a, l, c, a', l', c', ?_, by rw [e1, Int.natAbs_neg]; exact k1.grow b, by rw [e2]; exact k2.grow b⟩, b⟩
    rw [e1, decide_eq_false (by omega)]
  · rw [decide_eq_false g]
    refine (FNeg_high a a' l c l' c' w).mono ?_
    rintro e w' ⟨rfl, b⟩
    refine ⟨_, rfl, ⟨a, l, c, a', l', c', ?_, by rw [e1, Int.natAbs_neg]; exact k1.grow b, by rw [e2]; exact k2.grow b⟩, b⟩
    rw [k1.len, e1]
    have : (!decide ((r.num.natAbs : Int) = 0)) = decide (-r.num < 0) := by
      clear k1 e1
      generalize r.num = x at *
      rw [Bool.eq_iff_iff]
      simp only [Bool.not_eq_true', decide_eq_false_iff_not, decide_eq_true_eq]
      omega
    rw [this]
end Go.Proofs.YtfalncbcomlelaaGreatDoor.Mo
