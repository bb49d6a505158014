import Derived.Test.YtfalncbcomlelaaGreatDoorMk2
namespace Go.Proofs.YtfalncbcomlelaaGreatDoor.Mo
open Go.RowKit Tn

set_option maxHeartbeats 1600000 in
set_option maxRecDepth 100000 in
theorem Mul_w1 (a1 a2 : Option Addr) (l1 c1 l2 c2 h : Nat) (T : Int) (w : World) (hb : l1 + l2 ≤ 1099511627776) (hle : l2 ≤ l1) (h80 : 80 ≤ l2) (hh : (l1 + 1) / 2 = h) (hc : l2 ≤ h)
    (CP : ∀ x, Below w.heap.size w x → Calls Tryz.prog 82 #[.agg #[.slice a1 l1 c1], .agg #[.slice a2 l2 c2], .int .i64 h] x fun e w' => ∃ a l c, e = .returned (.agg #[.slice a l c]) ∧ Nn w' a l c (T) ∧ Below x.heap.size x w' ∧ FrA x.heap.size (.slice a l c)) :
    Calls Tryz.prog 50 #[.agg #[.slice a1 l1 c1], .agg #[.slice a2 l2 c2]] w fun e w' => ∃ a l c, e = .returned (.agg #[.slice a l c]) ∧ Nn w' a l c (T) ∧ Below w.heap.size w w' ∧ FrA w.heap.size (.slice a l c) := by
  have pr : Below w.heap.size w (((w.alloc (.cells #[.slice a1 l1 c1] 56)).alloc (.cells #[.slice a2 l2 c2] 56)).alloc (.cells #[.slice none 0 0] 56)) := (((Below.refl _ _).alloc (Nat.le_refl _) _).alloc (by simp) _).alloc (by simp; omega) _
  have KR := Bx.new ((w.alloc (.cells #[.slice a1 l1 c1] 56)).alloc (.cells #[.slice a2 l2 c2] 56)) (.slice none 0 0) 56
  simp only [World.size_alloc] at KR
  have q1 : ¬ (l1 : Int) < (l2 : Int) := by omega
  have q2 : ¬ (l2 : Int) < 80 := by omega
  have q3 : IntKind.i64.wrap ((l1 : Int) + 1) = (l1 : Int) + 1 := IntWalk.i64_in _ (by omega)
  have q4 : ((l1 : Int) + 1).tdiv 2 = (h : Int) := by rw [Int.tdiv_eq_ediv_of_nonneg (by omega)]; omega
  have q4' : ((l1 : Int) + 1) / 2 = (h : Int) := by omega
  have q5 : IntKind.i64.wrap (h : Int) = (h : Int) := IntWalk.i64_in _ (by omega)
  have q6 : (l2 : Int) ≤ (h : Int) := by omega
  clear hh hc hle h80
  go_enter Tryz.func50, Tryz.ntmps50
  go_wp2_with (first
    | (go_at_call 82; refine (CP _ pr).mono ?_; rintro e w4 ⟨ra, rl, rc, rfl, nT, d4, fr⟩; have K4 := KR.below d4; have v1 := K4.1; have v2 := K4.2)
    | fail)
  have NF := nT.box (u := .slice ra rl rc) K4
  have KE := K4.set (.slice ra rl rc)
  have BE := below_put (bel' pr d4) (show w.heap.size ≤ w.heap.size + 1 + 1 by omega) (.slice ra rl rc)
  generalize w4.setCell ⟨w.heap.size + 1 + 1, 0, none⟩ (.slice ra rl rc) = WE at *
  have g1 := KE.1
  exact bodyPost_ret (v := .agg #[.slice ra rl rc]) (by simp [results, Tryz.results50, go_sem, g1]) rfl ⟨_, _, _, rfl, NF, BE, fun b o l c e => Nat.le_trans pr.size (fr b o l c e)⟩
set_option maxHeartbeats 1600000 in
set_option maxRecDepth 100000 in
theorem Mul_w2 (a1 a2 : Option Addr) (l1 c1 l2 c2 h : Nat) (T : Int) (w : World) (hb : l1 + l2 ≤ 1099511627776) (hle : l1 < l2) (h80 : 80 ≤ l1) (hh : (l2 + 1) / 2 = h) (hc : l1 ≤ h)
    (CP : ∀ x, Below w.heap.size w x → Calls Tryz.prog 82 #[.agg #[.slice a2 l2 c2], .agg #[.slice a1 l1 c1], .int .i64 h] x fun e w' => ∃ a l c, e = .returned (.agg #[.slice a l c]) ∧ Nn w' a l c (T) ∧ Below x.heap.size x w' ∧ FrA x.heap.size (.slice a l c)) :
    Calls Tryz.prog 50 #[.agg #[.slice a1 l1 c1], .agg #[.slice a2 l2 c2]] w fun e w' => ∃ a l c, e = .returned (.agg #[.slice a l c]) ∧ Nn w' a l c (T) ∧ Below w.heap.size w w' ∧ FrA w.heap.size (.slice a l c) := by
  have pr : Below w.heap.size w (((w.alloc (.cells #[.slice a2 l2 c2] 56)).alloc (.cells #[.slice a1 l1 c1] 56)).alloc (.cells #[.slice none 0 0] 56)) := (((Below.refl _ _).alloc (Nat.le_refl _) _).alloc (by simp) _).alloc (by simp; omega) _
  have KR := Bx.new ((w.alloc (.cells #[.slice a2 l2 c2] 56)).alloc (.cells #[.slice a1 l1 c1] 56)) (.slice none 0 0) 56
  simp only [World.size_alloc] at KR
  have q1 : (l1 : Int) < (l2 : Int) := by omega
  have q2 : ¬ (l1 : Int) < 80 := by omega
  have q3 : IntKind.i64.wrap ((l2 : Int) + 1) = (l2 : Int) + 1 := IntWalk.i64_in _ (by omega)
  have q4 : ((l2 : Int) + 1).tdiv 2 = (h : Int) := by rw [Int.tdiv_eq_ediv_of_nonneg (by omega)]; omega
  have q4' : ((l2 : Int) + 1) / 2 = (h : Int) := by omega
  have q5 : IntKind.i64.wrap (h : Int) = (h : Int) := IntWalk.i64_in _ (by omega)
  have q6 : (l1 : Int) ≤ (h : Int) := by omega
  clear hh hc hle h80
  go_enter Tryz.func50, Tryz.ntmps50
  go_wp2_with (first
    | (go_at_call 82; refine (CP _ pr).mono ?_; rintro e w4 ⟨ra, rl, rc, rfl, nT, d4, fr⟩; have K4 := KR.below d4; have v1 := K4.1; have v2 := K4.2)
    | fail)
  have NF := nT.box (u := .slice ra rl rc) K4
  have KE := K4.set (.slice ra rl rc)
  have BE := below_put (bel' pr d4) (show w.heap.size ≤ w.heap.size + 1 + 1 by omega) (.slice ra rl rc)
  generalize w4.setCell ⟨w.heap.size + 1 + 1, 0, none⟩ (.slice ra rl rc) = WE at *
  have g1 := KE.1
  exact bodyPost_ret (v := .agg #[.slice ra rl rc]) (by simp [results, Tryz.results50, go_sem, g1]) rfl ⟨_, _, _, rfl, NF, BE, fun b o l c e => Nat.le_trans pr.size (fr b o l c e)⟩
set_option maxHeartbeats 1600000 in
set_option maxRecDepth 100000 in
theorem Mul_w3 (a1 a2 : Option Addr) (l1 c1 l2 c2 h : Nat) (T : Int) (w : World) (hb : l1 + l2 ≤ 1099511627776) (hle : l2 ≤ l1) (h80 : 80 ≤ l2) (hh : (l1 + 1) / 2 = h) (hc : ¬ l2 ≤ h)
    (CP : ∀ x, Below w.heap.size w x → Calls Tryz.prog 83 #[.agg #[.slice a1 l1 c1], .agg #[.slice a2 l2 c2], .int .i64 h] x fun e w' => ∃ a l c, e = .returned (.agg #[.slice a l c]) ∧ Nn w' a l c (T) ∧ Below x.heap.size x w' ∧ FrA x.heap.size (.slice a l c)) :
    Calls Tryz.prog 50 #[.agg #[.slice a1 l1 c1], .agg #[.slice a2 l2 c2]] w fun e w' => ∃ a l c, e = .returned (.agg #[.slice a l c]) ∧ Nn w' a l c (T) ∧ Below w.heap.size w w' ∧ FrA w.heap.size (.slice a l c) := by
  have pr : Below w.heap.size w (((w.alloc (.cells #[.slice a1 l1 c1] 56)).alloc (.cells #[.slice a2 l2 c2] 56)).alloc (.cells #[.slice none 0 0] 56)) := (((Below.refl _ _).alloc (Nat.le_refl _) _).alloc (by simp) _).alloc (by simp; omega) _
  have KR := Bx.new ((w.alloc (.cells #[.slice a1 l1 c1] 56)).alloc (.cells #[.slice a2 l2 c2] 56)) (.slice none 0 0) 56
  simp only [World.size_alloc] at KR
  have q1 : ¬ (l1 : Int) < (l2 : Int) := by omega
  have q2 : ¬ (l2 : Int) < 80 := by omega
  have q3 : IntKind.i64.wrap ((l1 : Int) + 1) = (l1 : Int) + 1 := IntWalk.i64_in _ (by omega)
  have q4 : ((l1 : Int) + 1).tdiv 2 = (h : Int) := by rw [Int.tdiv_eq_ediv_of_nonneg (by omega)]; omega
  have q4' : ((l1 : Int) + 1) / 2 = (h : Int) := by omega
  have q5 : IntKind.i64.wrap (h : Int) = (h : Int) := IntWalk.i64_in _ (by omega)
  have q6 : ¬ (l2 : Int) ≤ (h : Int) := by omega
  clear hh hc hle h80
  go_enter Tryz.func50, Tryz.ntmps50
  go_wp2_with (first
    | (go_at_call 83; refine (CP _ pr).mono ?_; rintro e w4 ⟨ra, rl, rc, rfl, nT, d4, fr⟩; have K4 := KR.below d4; have v1 := K4.1; have v2 := K4.2)
    | fail)
  have NF := nT.box (u := .slice ra rl rc) K4
  have KE := K4.set (.slice ra rl rc)
  have BE := below_put (bel' pr d4) (show w.heap.size ≤ w.heap.size + 1 + 1 by omega) (.slice ra rl rc)
  generalize w4.setCell ⟨w.heap.size + 1 + 1, 0, none⟩ (.slice ra rl rc) = WE at *
  have g1 := KE.1
  exact bodyPost_ret (v := .agg #[.slice ra rl rc]) (by simp [results, Tryz.results50, go_sem, g1]) rfl ⟨_, _, _, rfl, NF, BE, fun b o l c e => Nat.le_trans pr.size (fr b o l c e)⟩
set_option maxHeartbeats 1600000 in
set_option maxRecDepth 100000 in
theorem Mul_w4 (a1 a2 : Option Addr) (l1 c1 l2 c2 h : Nat) (T : Int) (w : World) (hb : l1 + l2 ≤ 1099511627776) (hle : l1 < l2) (h80 : 80 ≤ l1) (hh : (l2 + 1) / 2 = h) (hc : ¬ l1 ≤ h)
    (CP : ∀ x, Below w.heap.size w x → Calls Tryz.prog 83 #[.agg #[.slice a2 l2 c2], .agg #[.slice a1 l1 c1], .int .i64 h] x fun e w' => ∃ a l c, e = .returned (.agg #[.slice a l c]) ∧ Nn w' a l c (T) ∧ Below x.heap.size x w' ∧ FrA x.heap.size (.slice a l c)) :
    Calls Tryz.prog 50 #[.agg #[.slice a1 l1 c1], .agg #[.slice a2 l2 c2]] w fun e w' => ∃ a l c, e = .returned (.agg #[.slice a l c]) ∧ Nn w' a l c (T) ∧ Below w.heap.size w w' ∧ FrA w.heap.size (.slice a l c) := by
  have pr : Below w.heap.size w (((w.alloc (.cells #[.slice a2 l2 c2] 56)).alloc (.cells #[.slice a1 l1 c1] 56)).alloc (.cells #[.slice none 0 0] 56)) := (((Below.refl _ _).alloc (Nat.le_refl _) _).alloc (by simp) _).alloc (by simp; omega) _
  have KR := Bx.new ((w.alloc (.cells #[.slice a2 l2 c2] 56)).alloc (.cells #[.slice a1 l1 c1] 56)) (.slice none 0 0) 56
  simp only [World.size_alloc] at KR
  have q1 : (l1 : Int) < (l2 : Int) := by omega
  have q2 : ¬ (l1 : Int) < 80 := by omega
  have q3 : IntKind.i64.wrap ((l2 : Int) + 1) = (l2 : Int) + 1 := IntWalk.i64_in _ (by omega)
  have q4 : ((l2 : Int) + 1).tdiv 2 = (h : Int) := by rw [Int.tdiv_eq_ediv_of_nonneg (by omega)]; omega
  have q4' : ((l2 : Int) + 1) / 2 = (h : Int) := by omega
  have q5 : IntKind.i64.wrap (h : Int) = (h : Int) := IntWalk.i64_in _ (by omega)
  have q6 : ¬ (l1 : Int) ≤ (h : Int) := by omega
  clear hh hc hle h80
  go_enter Tryz.func50, Tryz.ntmps50
  go_wp2_with (first
    | (go_at_call 83; refine (CP _ pr).mono ?_; rintro e w4 ⟨ra, rl, rc, rfl, nT, d4, fr⟩; have K4 := KR.below d4; have v1 := K4.1; have v2 := K4.2)
    | fail)
  have NF := nT.box (u := .slice ra rl rc) K4
  have KE := K4.set (.slice ra rl rc)
  have BE := below_put (bel' pr d4) (show w.heap.size ≤ w.heap.size + 1 + 1 by omega) (.slice ra rl rc)
  generalize w4.setCell ⟨w.heap.size + 1 + 1, 0, none⟩ (.slice ra rl rc) = WE at *
  have g1 := KE.1
  exact bodyPost_ret (v := .agg #[.slice ra rl rc]) (by simp [results, Tryz.results50, go_sem, g1]) rfl ⟨_, _, _, rfl, NF, BE, fun b o l c e => Nat.le_trans pr.size (fr b o l c e)⟩
end Go.Proofs.YtfalncbcomlelaaGreatDoor.Mo
