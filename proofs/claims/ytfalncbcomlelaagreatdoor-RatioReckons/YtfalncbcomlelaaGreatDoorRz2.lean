import Derived.Test.YtfalncbcomlelaaGreatDoorCompare2
import Derived.Test.YtfalncbcomlelaaGreatDoorRf2
import Derived.Test.YtfalncbcomlelaaGreatDoorMk5
namespace Go.Proofs.YtfalncbcomlelaaGreatDoor.Mo
open Go.RowKit Tn

set_option maxRecDepth 100000 in
set_option maxHeartbeats 3200000 in
theorem fcmp_plain (p1 p2 p3 p4 : Option Addr) (m1 c1 m2 c2 m3 c3 m4 c4 : Nat) (U V k : Int) (w : World) (M1 : ∀ x, Below w.heap.size w x → Calls Tryz.prog 50 #[.agg #[.slice p1 m1 c1], .agg #[.slice p4 m4 c4]] x fun e w' => ∃ a l c, e = .returned (.agg #[.slice a l c]) ∧ Nn w' a l c U ∧ Below x.heap.size x w') (M2 : ∀ x, Below w.heap.size w x → Calls Tryz.prog 50 #[.agg #[.slice p3 m3 c3], .agg #[.slice p2 m2 c2]] x fun e w' => ∃ a l c, e = .returned (.agg #[.slice a l c]) ∧ Nn w' a l c V ∧ Below x.heap.size x w') (CM : ∀ x a l c a' l' c', Nn x a l c U → Nn x a' l' c' V → Calls Tryz.prog 61 #[.agg #[.slice a l c], .agg #[.slice a' l' c']] x fun e w' => e = .returned (.int .i64 k) ∧ Below x.heap.size x w') : Calls Tryz.prog 44 #[.agg #[.bool false, .slice p1 m1 c1, .slice p2 m2 c2], .agg #[.bool false, .slice p3 m3 c3, .slice p4 m4 c4]] w fun e w' => e = .returned (.int .i64 k) ∧ Below w.heap.size w w' := by
  have K0 := (Blk.new w #[.bool false, .slice p1 m1 c1, .slice p2 m2 c2] 58).alloc (.cells #[.bool false, .slice p3 m3 c3, .slice p4 m4 c4] 58)
  have K1 := Blk.new (w.alloc (.cells #[.bool false, .slice p1 m1 c1, .slice p2 m2 c2] 58)) #[.bool false, .slice p3 m3 c3, .slice p4 m4 c4] 58
  have pr : Below w.heap.size w ((w.alloc (.cells #[.bool false, .slice p1 m1 c1, .slice p2 m2 c2] 58)).alloc (.cells #[.bool false, .slice p3 m3 c3, .slice p4 m4 c4] 58)) := ((Below.refl _ _).alloc (Nat.le_refl _) _).alloc (by simp) _
  simp only [World.size_alloc] at K1
  go_enter Tryz.func44, Tryz.ntmps44
  go_wp2_with fail
  generalize ((w.alloc (.cells #[.bool false, .slice p1 m1 c1, .slice p2 m2 c2] 58)).alloc (.cells #[.bool false, .slice p3 m3 c3, .slice p4 m4 c4] 58)) = W at *
  have e01 := K0.at 1
  have e02 := K0.at 2
  have e11 := K1.at 1
  have e12 := K1.at 2
  simp at e01 e02 e11 e12
  have L0 := K0.lt
  have L1 := K1.lt
  have d0 : Below W.heap.size W W := Below.refl _ _
  go_region_held3 (fun x => x.cell? ⟨w.heap.size, 1, none⟩ = some (.slice p1 m1 c1) ∧ x.cell? ⟨w.heap.size, 2, none⟩ = some (.slice p2 m2 c2) ∧ x.cell? ⟨w.heap.size + 1, 1, none⟩ = some (.slice p3 m3 c3) ∧ x.cell? ⟨w.heap.size + 1, 2, none⟩ = some (.slice p4 m4 c4)) (first | exact ⟨s30, s31, s32, s33⟩ | exact ⟨s20, s21, s22, s23⟩ | exact ⟨s10, s11, s12, s13⟩ | go_keep) (first
    | (go_at_call 61; (have mk3 := d2); (refine (CM _ _ _ _ _ _ _ (n1.grow b2) n2).mono ?_); (rintro e w3 ⟨rfl, b3⟩); (have d3 := bel' d2 b3); (have s30 := (d3.cell (p := ⟨w.heap.size, 1, none⟩) L0).trans e01); (have s31 := (d3.cell (p := ⟨w.heap.size, 2, none⟩) L0).trans e02); (have s32 := (d3.cell (p := ⟨w.heap.size + 1, 1, none⟩) L1).trans e11); (have s33 := (d3.cell (p := ⟨w.heap.size + 1, 2, none⟩) L1).trans e12))
    | (go_at_call 50; (have mk2 := d1); (refine (M2 _ (bel' pr d1)).mono ?_); (rintro e w2 ⟨a2, l2, q2, rfl, n2, b2⟩); (have d2 := bel' d1 b2); (have s20 := (d2.cell (p := ⟨w.heap.size, 1, none⟩) L0).trans e01); (have s21 := (d2.cell (p := ⟨w.heap.size, 2, none⟩) L0).trans e02); (have s22 := (d2.cell (p := ⟨w.heap.size + 1, 1, none⟩) L1).trans e11); (have s23 := (d2.cell (p := ⟨w.heap.size + 1, 2, none⟩) L1).trans e12))
    | (go_at_call 50; (have mk1 := d0); (refine (M1 _ (pr.drew)).mono ?_); (rintro e w1 ⟨a1, l1, q1, rfl, n1, b1⟩); (have d1 := bel' d0 (undrew b1)); (have s10 := (d1.cell (p := ⟨w.heap.size, 1, none⟩) L0).trans e01); (have s11 := (d1.cell (p := ⟨w.heap.size, 2, none⟩) L0).trans e02); (have s12 := (d1.cell (p := ⟨w.heap.size + 1, 1, none⟩) L1).trans e11); (have s13 := (d1.cell (p := ⟨w.heap.size + 1, 2, none⟩) L1).trans e12))
    | fail)
  go_wp2_with fail
  go_ret
  exact ⟨rfl, bel' pr d3⟩
set_option maxRecDepth 100000 in
set_option maxHeartbeats 3200000 in
theorem fcmp_neg (p1 p2 p3 p4 : Option Addr) (m1 c1 m2 c2 m3 c3 m4 c4 : Nat) (U V k : Int) (w : World) (M1 : ∀ x, Below w.heap.size w x → Calls Tryz.prog 50 #[.agg #[.slice p1 m1 c1], .agg #[.slice p4 m4 c4]] x fun e w' => ∃ a l c, e = .returned (.agg #[.slice a l c]) ∧ Nn w' a l c U ∧ Below x.heap.size x w') (M2 : ∀ x, Below w.heap.size w x → Calls Tryz.prog 50 #[.agg #[.slice p3 m3 c3], .agg #[.slice p2 m2 c2]] x fun e w' => ∃ a l c, e = .returned (.agg #[.slice a l c]) ∧ Nn w' a l c V ∧ Below x.heap.size x w') (CM : ∀ x a l c a' l' c', Nn x a l c U → Nn x a' l' c' V → Calls Tryz.prog 61 #[.agg #[.slice a l c], .agg #[.slice a' l' c']] x fun e w' => e = .returned (.int .i64 k) ∧ Below x.heap.size x w') : Calls Tryz.prog 44 #[.agg #[.bool true, .slice p3 m3 c3, .slice p4 m4 c4], .agg #[.bool true, .slice p1 m1 c1, .slice p2 m2 c2]] w fun e w' => e = .returned (.int .i64 k) ∧ Below w.heap.size w w' := by
  have K0 := (Blk.new w #[.bool true, .slice p1 m1 c1, .slice p2 m2 c2] 58).alloc (.cells #[.bool true, .slice p3 m3 c3, .slice p4 m4 c4] 58)
  have K1 := Blk.new (w.alloc (.cells #[.bool true, .slice p1 m1 c1, .slice p2 m2 c2] 58)) #[.bool true, .slice p3 m3 c3, .slice p4 m4 c4] 58
  have pr : Below w.heap.size w ((w.alloc (.cells #[.bool true, .slice p1 m1 c1, .slice p2 m2 c2] 58)).alloc (.cells #[.bool true, .slice p3 m3 c3, .slice p4 m4 c4] 58)) := ((Below.refl _ _).alloc (Nat.le_refl _) _).alloc (by simp) _
  simp only [World.size_alloc] at K1
  go_enter Tryz.func44, Tryz.ntmps44
  go_wp2_with fail
  generalize ((w.alloc (.cells #[.bool true, .slice p1 m1 c1, .slice p2 m2 c2] 58)).alloc (.cells #[.bool true, .slice p3 m3 c3, .slice p4 m4 c4] 58)) = W at *
  have e01 := K0.at 1
  have e02 := K0.at 2
  have e11 := K1.at 1
  have e12 := K1.at 2
  simp at e01 e02 e11 e12
  have L0 := K0.lt
  have L1 := K1.lt
  have d0 : Below W.heap.size W W := Below.refl _ _
  go_region_held3 (fun x => x.cell? ⟨w.heap.size, 1, none⟩ = some (.slice p1 m1 c1) ∧ x.cell? ⟨w.heap.size, 2, none⟩ = some (.slice p2 m2 c2) ∧ x.cell? ⟨w.heap.size + 1, 1, none⟩ = some (.slice p3 m3 c3) ∧ x.cell? ⟨w.heap.size + 1, 2, none⟩ = some (.slice p4 m4 c4)) (first | exact ⟨s30, s31, s32, s33⟩ | exact ⟨s20, s21, s22, s23⟩ | exact ⟨s10, s11, s12, s13⟩ | go_keep) (first
    | (go_at_call 61; (have mk3 := d2); (refine (CM _ _ _ _ _ _ _ (n1.grow b2) n2).mono ?_); (rintro e w3 ⟨rfl, b3⟩); (have d3 := bel' d2 b3); (have s30 := (d3.cell (p := ⟨w.heap.size, 1, none⟩) L0).trans e01); (have s31 := (d3.cell (p := ⟨w.heap.size, 2, none⟩) L0).trans e02); (have s32 := (d3.cell (p := ⟨w.heap.size + 1, 1, none⟩) L1).trans e11); (have s33 := (d3.cell (p := ⟨w.heap.size + 1, 2, none⟩) L1).trans e12))
    | (go_at_call 50; (have mk2 := d1); (refine (M2 _ (bel' pr d1)).mono ?_); (rintro e w2 ⟨a2, l2, q2, rfl, n2, b2⟩); (have d2 := bel' d1 b2); (have s20 := (d2.cell (p := ⟨w.heap.size, 1, none⟩) L0).trans e01); (have s21 := (d2.cell (p := ⟨w.heap.size, 2, none⟩) L0).trans e02); (have s22 := (d2.cell (p := ⟨w.heap.size + 1, 1, none⟩) L1).trans e11); (have s23 := (d2.cell (p := ⟨w.heap.size + 1, 2, none⟩) L1).trans e12))
    | (go_at_call 50; (have mk1 := d0); (refine (M1 _ (pr.drew)).mono ?_); (rintro e w1 ⟨a1, l1, q1, rfl, n1, b1⟩); (have d1 := bel' d0 (undrew b1)); (have s10 := (d1.cell (p := ⟨w.heap.size, 1, none⟩) L0).trans e01); (have s11 := (d1.cell (p := ⟨w.heap.size, 2, none⟩) L0).trans e02); (have s12 := (d1.cell (p := ⟨w.heap.size + 1, 1, none⟩) L1).trans e11); (have s13 := (d1.cell (p := ⟨w.heap.size + 1, 2, none⟩) L1).trans e12))
    | fail)
  go_wp2_with fail
  go_ret
  exact ⟨rfl, bel' pr d3⟩
/-- Cmp of two fractions, of any size. -/
theorem FCmp_p (v1 v2 : Value) (r s : Rat) (m : Nat) (w : World) (h1 : PF w v1 r) (h2 : PF w v2 s) (s1 : PS r m) (s2 : PS s m) (hm : m ≤ 400000) :
    Calls Tryz.prog 44 #[v1, v2] w fun e w' => e = .returned (.int .i64 (pcm r s)) ∧ Below w.heap.size w w' := by
  obtain ⟨a1, l1, c1, a2, l2, c2, rfl, n1, n2⟩ := h1
  obtain ⟨a3, l3, c3, a4, l4, c4, rfl, n3, n4⟩ := h2
  rw [← pcm_eq]
  have ok : MulOK m m := by unfold MulOK; omega
  have CM := fun x a l c a' l' c' (U V : Int) (hU : U < pw (m + m)) (h : Nn x a l c U) (h' : Nn x a' l' c' V) => Cmp_n h h' hU (by omega)
  have lt : ∀ {A B : Int}, 0 ≤ A → A < pw m → 0 ≤ B → B < pw m → A * B < pw (m + m) := fun {A B} a0 a1 b0 b1 => by
    rw [pw_add]
    exact Int.lt_of_le_of_lt (Int.mul_le_mul_of_nonneg_left (Int.le_of_lt b1) a0) (Int.mul_lt_mul_of_pos_right a1 (by omega))
  by_cases g1 : r.num < 0
  · by_cases g2 : s.num < 0
    · rw [decide_eq_true g1, decide_eq_true g2]
      refine fcmp_neg a3 a4 a1 a2 l3 c3 l4 c4 l1 c1 l2 c2 ((s.num.natAbs : Int) * (r.den : Int)) ((r.num.natAbs : Int) * (s.den : Int)) _ w (fun x b => Mul_n (n3.grow b) (n2.grow b) s2.1 s1.2 ok) (fun x b => Mul_n (n1.grow b) (n4.grow b) s1.1 s2.2 ok) (fun x a l c a' l' c' h h' => ?_)
      exact CM x a l c a' l' c' _ _ (lt (by omega) s2.1 (by omega) s1.2) h h'
    · rw [decide_eq_true g1, decide_eq_false g2]
      exact compare_left _ _ _ _ _ _ _ _ _ _ _ _ w
  · by_cases g2 : s.num < 0
    · rw [decide_eq_false g1, decide_eq_true g2]
      exact compare_right _ _ _ _ _ _ _ _ _ _ _ _ w
    · rw [decide_eq_false g1, decide_eq_false g2]
      refine fcmp_plain a1 a2 a3 a4 l1 c1 l2 c2 l3 c3 l4 c4 ((r.num.natAbs : Int) * (s.den : Int)) ((s.num.natAbs : Int) * (r.den : Int)) _ w (fun x b => Mul_n (n1.grow b) (n4.grow b) s1.1 s2.2 ok) (fun x b => Mul_n (n3.grow b) (n2.grow b) s2.1 s1.2 ok) (fun x a l c a' l' c' h h' => ?_)
      exact CM x a l c a' l' c' _ _ (lt (by omega) s1.1 (by omega) s2.2) h h'
end Go.Proofs.YtfalncbcomlelaaGreatDoor.Mo
