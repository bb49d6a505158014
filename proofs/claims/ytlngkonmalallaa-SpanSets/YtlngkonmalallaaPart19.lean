import Derived.Test.YtlngkonmalallaaPart18
import Derived.Test.YtlngkonmalallaaPart10
import Derived.Test.YtlngkonmalallaaPart16

namespace Go.Proofs.Ytlngkonmalallaa
open Go.RowKit Tn

/-- The lesser and the greater one, by their places. -/
def mn (n m : Nat) : Nat := if key64 n < key64 m then n else m
def mx (n m : Nat) : Nat := if key64 m < key64 n then n else m
theorem key_inj {n m : Nat} (hn : n < 18446744073709551616) (hm : m < 18446744073709551616) (an : okEnd n = true) (am : okEnd m = true) (h : key64 n = key64 m) : n = m := by
  have zn : ¬ (rg64 n = 0 ∧ ng64 n = true) := by intro k; unfold okEnd at an; rw [decide_eq_true k.1, k.2] at an; simp at an
  have zm : ¬ (rg64 m = 0 ∧ ng64 m = true) := by intro k; unfold okEnd at am; rw [decide_eq_true k.1, k.2] at am; simp at am
  have gn : ng64 n = (n / 9223372036854775808 % 2 == 1) := rfl
  have gm : ng64 m = (m / 9223372036854775808 % 2 == 1) := rfl
  have rn : rg64 n = n % 9223372036854775808 := rfl
  have rm : rg64 m = m % 9223372036854775808 := rfl
  unfold key64 at h
  cases a : ng64 n <;> cases b : ng64 m <;> rw [a] at gn h zn <;> rw [b] at gm h zm <;> simp only [Bool.false_eq_true, if_false, if_true, and_true, and_false] at h zn zm <;> have gn := gn.symm <;> have gm := gm.symm <;> simp at gn gm <;> omega
theorem min_run (n m : Nat) (hn : n < 18446744073709551616) (hm : m < 18446744073709551616) (an : okEnd n = true) (am : okEnd m = true) (ts : Array TypeId) (t : TypeId) (w : World) : (Builtin.min_ ts t #[.float .f64 n, .float .f64 m]).run Try.prog w = .ok (.float .f64 (mn n m)) w := by
  have o := order_key n m (okEnd_nan an) (okEnd_nan am)
  unfold mn
  simp only [Builtin.min_, List.foldlM, Builtin.min2, o]
  rcases Int.lt_trichotomy (key64 n) (key64 m) with c | c | c
  · rw [if_pos c, ordI_lt c]; rfl
  · have := key_inj hn hm an am c
    subst this
    rw [if_neg (show ¬ key64 n < key64 n by omega), show ordI (key64 n) (key64 n) = .eq from by unfold ordI; rw [if_neg (by omega), if_pos rfl]]
    simp
  · rw [if_neg (show ¬ key64 n < key64 m by omega), ordI_gt c]; rfl
theorem max_run (n m : Nat) (hn : n < 18446744073709551616) (hm : m < 18446744073709551616) (an : okEnd n = true) (am : okEnd m = true) (ts : Array TypeId) (t : TypeId) (w : World) : (Builtin.max_ ts t #[.float .f64 n, .float .f64 m]).run Try.prog w = .ok (.float .f64 (mx n m)) w := by
  have o := order_key n m (okEnd_nan an) (okEnd_nan am)
  unfold mx
  simp only [Builtin.max_, List.foldlM, Builtin.max2, o]
  rcases Int.lt_trichotomy (key64 n) (key64 m) with c | c | c
  · rw [if_neg (show ¬ key64 m < key64 n by omega), ordI_lt c]; rfl
  · have := key_inj hn hm an am c
    subst this
    rw [if_neg (show ¬ key64 n < key64 n by omega), show ordI (key64 n) (key64 n) = .eq from by unfold ordI; rw [if_neg (by omega), if_pos rfl]]
    simp
  · rw [if_pos c, ordI_gt c]; rfl
theorem okSp_ends {a b : Nat} (h : okSp a b = true) : okEnd a = true ∧ okEnd b = true ∧ key64 a ≤ key64 b := by
  unfold okSp at h
  simp only [Bool.and_eq_true, Bool.not_eq_true', decide_eq_false_iff_not] at h
  exact ⟨h.1.1.1.1, h.1.1.1.2, by omega⟩
theorem mn_ok {n m : Nat} (h : okEnd n = true) (k : okEnd m = true) : okEnd (mn n m) = true := by unfold mn; split <;> assumption
theorem mx_ok {n m : Nat} (h : okEnd n = true) (k : okEnd m = true) : okEnd (mx n m) = true := by unfold mx; split <;> assumption
theorem order_le (n m : Nat) (hn : nan64 n = false) (hm : nan64 m = false) : (FloatKind.f64.format.order n m == some .lt || FloatKind.f64.format.order n m == some .eq) = decide (key64 n ≤ key64 m) := by
  rw [order_key n m hn hm]
  rcases Int.lt_trichotomy (key64 n) (key64 m) with c | c | c
  · rw [ordI_lt c, decide_eq_true (by omega)]; rfl
  · rw [show ordI (key64 n) (key64 m) = .eq from by unfold ordI; rw [if_neg (by omega), if_pos c], decide_eq_true (by omega)]; rfl
  · rw [ordI_gt c, decide_eq_false (by omega)]; rfl
/-- Four ends that are floats. -/
structure Four (a1 a2 b1 b2 : Nat) : Prop where
  h1 : a1 < 18446744073709551616
  h2 : a2 < 18446744073709551616
  h3 : b1 < 18446744073709551616
  h4 : b2 < 18446744073709551616
--walks
set_option maxRecDepth 100000 in
set_option maxHeartbeats 1600000 in
theorem Hull_wrong (a1 a2 b1 b2 : Nat) (F : Four a1 a2 b1 b2) (h : (okSp a1 a2 && okSp b1 b2) = false) (w : World) : Calls Try.prog 42 #[spn a1 a2, spn b1 b2] w fun x w' => x = .returned (.tuple #[spn 0 0, .int .i64 5]) ∧ Below w.heap.size w w' := by
  have C := fun B => check_any B a1 a2 b1 b2 F.h1 F.h2 F.h3 F.h4
  simp only [h, Bool.false_eq_true, if_false] at C
  have sf := fun w a n m => run_store_f Try.prog w a .f64 n m
  have K := Blk.new (((w.alloc (.cells #[.float .f64 a1, .float .f64 a2] 72)).alloc (.cells #[.float .f64 b1, .float .f64 b2] 72)).alloc (.cells #[.float .f64 0, .float .f64 0] 72)) #[.float .f64 a1, .float .f64 a2, .float .f64 b1, .float .f64 b2] 72
  have KA := (((Blk.new w #[.float .f64 a1, .float .f64 a2] 72).alloc (.cells #[.float .f64 b1, .float .f64 b2] 72)).alloc (.cells #[.float .f64 0, .float .f64 0] 72)).alloc (.cells #[.float .f64 a1, .float .f64 a2, .float .f64 b1, .float .f64 b2] 72)
  have KB := ((Blk.new (w.alloc (.cells #[.float .f64 a1, .float .f64 a2] 72)) #[.float .f64 b1, .float .f64 b2] 72).alloc (.cells #[.float .f64 0, .float .f64 0] 72)).alloc (.cells #[.float .f64 a1, .float .f64 a2, .float .f64 b1, .float .f64 b2] 72)
  have KR := (Blk.new ((w.alloc (.cells #[.float .f64 a1, .float .f64 a2] 72)).alloc (.cells #[.float .f64 b1, .float .f64 b2] 72)) #[.float .f64 0, .float .f64 0] 72).alloc (.cells #[.float .f64 a1, .float .f64 a2, .float .f64 b1, .float .f64 b2] 72)
  simp only [World.size_alloc] at K KA KB KR
  have pr : Below w.heap.size w ((((w.alloc (.cells #[.float .f64 a1, .float .f64 a2] 72)).alloc (.cells #[.float .f64 b1, .float .f64 b2] 72)).alloc (.cells #[.float .f64 0, .float .f64 0] 72)).alloc (.cells #[.float .f64 a1, .float .f64 a2, .float .f64 b1, .float .f64 b2] 72)) := ((((Below.refl _ _).alloc (Nat.le_refl _) _).alloc (by simp) _).alloc (by simp; omega) _).alloc (by simp; omega) _
  go_enter Try.func42, Try.ntmps42
  go_wp2_with (first
    | (go_at_call 87; go_must (refine (C _ _ K).mono ?_; rintro x w1 ⟨rfl, bb⟩; replace KA := KA.below bb KA.lt; replace KB := KB.below bb KB.lt; replace KR := KR.below bb KR.lt; replace pr := bel pr bb; clear bb K; have p0 : w1.cell? ⟨w.heap.size, 0, none⟩ = some (.float .f64 a1) := KA.at 0; have p1 : w1.cell? ⟨w.heap.size, 1, none⟩ = some (.float .f64 a2) := KA.at 1; have q0 : w1.cell? ⟨w.heap.size + 1, 0, none⟩ = some (.float .f64 b1) := KB.at 0; have q1 : w1.cell? ⟨w.heap.size + 1, 1, none⟩ = some (.float .f64 b2) := KB.at 1; have r0 : w1.cell? ⟨w.heap.size + 1 + 1, 0, none⟩ = some (.float .f64 0) := KR.at 0; have f0 := KR.free 0; have r1 : w1.cell? ⟨w.heap.size + 1 + 1, 1, none⟩ = some (.float .f64 0) := KR.at 1; have f1 := KR.free 1))
    | fail)
  have Z : Blk ((w1.setCell ⟨w.heap.size + 1 + 1, 0, none⟩ (.float .f64 (0))).setCell ⟨w.heap.size + 1 + 1, 1, none⟩ (.float .f64 (0))) (w.heap.size + 1 + 1) #[.float .f64 (0), .float .f64 (0)] 72 := kset (kset KR)
  have F0 := Z.at 0
  have F1 := Z.at 1
  simp only [List.getElem?_toArray, List.getElem?_cons_zero, List.getElem?_cons_succ] at F0 F1
  exact bodyPost_ret (v := .tuple #[spn (0) (0), .int .i64 5]) (by simp [results, Try.results42, go_sem, F0, F1]) rfl ⟨rfl, pset (pset pr (by omega)) (by omega)⟩
set_option maxRecDepth 100000 in
set_option maxHeartbeats 1600000 in
theorem Hull_ok (a1 a2 b1 b2 : Nat) (F : Four a1 a2 b1 b2) (h : (okSp a1 a2 && okSp b1 b2) = true) (w : World) : Calls Try.prog 42 #[spn a1 a2, spn b1 b2] w fun x w' => x = .returned (.tuple #[spn (mn a1 b1) (mx a2 b2), .int .i64 0]) ∧ Below w.heap.size w w' := by
  have C := fun B => check_any B a1 a2 b1 b2 F.h1 F.h2 F.h3 F.h4
  simp only [h, if_true] at C
  have h2 := h
  rw [Bool.and_eq_true] at h2
  obtain ⟨x1, x2, -⟩ := okSp_ends h2.1
  obtain ⟨y1, y2, -⟩ := okSp_ends h2.2
  have mi := min_run a1 b1 F.h1 F.h3 x1 y1
  have ma := max_run a2 b2 F.h2 F.h4 x2 y2
  clear h x1 x2 y1 y2 h2
  have sf := fun w a n m => run_store_f Try.prog w a .f64 n m
  have K := Blk.new (((w.alloc (.cells #[.float .f64 a1, .float .f64 a2] 72)).alloc (.cells #[.float .f64 b1, .float .f64 b2] 72)).alloc (.cells #[.float .f64 0, .float .f64 0] 72)) #[.float .f64 a1, .float .f64 a2, .float .f64 b1, .float .f64 b2] 72
  have KA := (((Blk.new w #[.float .f64 a1, .float .f64 a2] 72).alloc (.cells #[.float .f64 b1, .float .f64 b2] 72)).alloc (.cells #[.float .f64 0, .float .f64 0] 72)).alloc (.cells #[.float .f64 a1, .float .f64 a2, .float .f64 b1, .float .f64 b2] 72)
  have KB := ((Blk.new (w.alloc (.cells #[.float .f64 a1, .float .f64 a2] 72)) #[.float .f64 b1, .float .f64 b2] 72).alloc (.cells #[.float .f64 0, .float .f64 0] 72)).alloc (.cells #[.float .f64 a1, .float .f64 a2, .float .f64 b1, .float .f64 b2] 72)
  have KR := (Blk.new ((w.alloc (.cells #[.float .f64 a1, .float .f64 a2] 72)).alloc (.cells #[.float .f64 b1, .float .f64 b2] 72)) #[.float .f64 0, .float .f64 0] 72).alloc (.cells #[.float .f64 a1, .float .f64 a2, .float .f64 b1, .float .f64 b2] 72)
  simp only [World.size_alloc] at K KA KB KR
  have pr : Below w.heap.size w ((((w.alloc (.cells #[.float .f64 a1, .float .f64 a2] 72)).alloc (.cells #[.float .f64 b1, .float .f64 b2] 72)).alloc (.cells #[.float .f64 0, .float .f64 0] 72)).alloc (.cells #[.float .f64 a1, .float .f64 a2, .float .f64 b1, .float .f64 b2] 72)) := ((((Below.refl _ _).alloc (Nat.le_refl _) _).alloc (by simp) _).alloc (by simp; omega) _).alloc (by simp; omega) _
  go_enter Try.func42, Try.ntmps42
  go_wp2_with (first
    | (go_at_call 87; go_must (refine (C _ _ K).mono ?_; rintro x w1 ⟨rfl, bb⟩; replace KA := KA.below bb KA.lt; replace KB := KB.below bb KB.lt; replace KR := KR.below bb KR.lt; replace pr := bel pr bb; clear bb K; have p0 : w1.cell? ⟨w.heap.size, 0, none⟩ = some (.float .f64 a1) := KA.at 0; have p1 : w1.cell? ⟨w.heap.size, 1, none⟩ = some (.float .f64 a2) := KA.at 1; have q0 : w1.cell? ⟨w.heap.size + 1, 0, none⟩ = some (.float .f64 b1) := KB.at 0; have q1 : w1.cell? ⟨w.heap.size + 1, 1, none⟩ = some (.float .f64 b2) := KB.at 1; have r0 : w1.cell? ⟨w.heap.size + 1 + 1, 0, none⟩ = some (.float .f64 0) := KR.at 0; have f0 := KR.free 0; have r1 : w1.cell? ⟨w.heap.size + 1 + 1, 1, none⟩ = some (.float .f64 0) := KR.at 1; have f1 := KR.free 1))
    | fail)
  have Z : Blk ((w1.setCell ⟨w.heap.size + 1 + 1, 0, none⟩ (.float .f64 (mn a1 b1))).setCell ⟨w.heap.size + 1 + 1, 1, none⟩ (.float .f64 (mx a2 b2))) (w.heap.size + 1 + 1) #[.float .f64 (mn a1 b1), .float .f64 (mx a2 b2)] 72 := kset (kset KR)
  have F0 := Z.at 0
  have F1 := Z.at 1
  simp only [List.getElem?_toArray, List.getElem?_cons_zero, List.getElem?_cons_succ] at F0 F1
  exact bodyPost_ret (v := .tuple #[spn (mn a1 b1) (mx a2 b2), .int .i64 0]) (by simp [results, Try.results42, go_sem, F0, F1]) rfl ⟨rfl, pset (pset pr (by omega)) (by omega)⟩
set_option maxRecDepth 100000 in
set_option maxHeartbeats 1600000 in
theorem Meet_wrong (a1 a2 b1 b2 : Nat) (F : Four a1 a2 b1 b2) (h : (okSp a1 a2 && okSp b1 b2) = false) (w : World) : Calls Try.prog 43 #[spn a1 a2, spn b1 b2] w fun x w' => x = .returned (.tuple #[spn 0 0, .int .i64 5]) ∧ Below w.heap.size w w' := by
  have C := fun B => check_any B a1 a2 b1 b2 F.h1 F.h2 F.h3 F.h4
  simp only [h, Bool.false_eq_true, if_false] at C
  have sf := fun w a n m => run_store_f Try.prog w a .f64 n m
  have K := Blk.new (((w.alloc (.cells #[.float .f64 a1, .float .f64 a2] 72)).alloc (.cells #[.float .f64 b1, .float .f64 b2] 72)).alloc (.cells #[.float .f64 0, .float .f64 0] 72)) #[.float .f64 a1, .float .f64 a2, .float .f64 b1, .float .f64 b2] 72
  have KA := (((Blk.new w #[.float .f64 a1, .float .f64 a2] 72).alloc (.cells #[.float .f64 b1, .float .f64 b2] 72)).alloc (.cells #[.float .f64 0, .float .f64 0] 72)).alloc (.cells #[.float .f64 a1, .float .f64 a2, .float .f64 b1, .float .f64 b2] 72)
  have KB := ((Blk.new (w.alloc (.cells #[.float .f64 a1, .float .f64 a2] 72)) #[.float .f64 b1, .float .f64 b2] 72).alloc (.cells #[.float .f64 0, .float .f64 0] 72)).alloc (.cells #[.float .f64 a1, .float .f64 a2, .float .f64 b1, .float .f64 b2] 72)
  have KR := (Blk.new ((w.alloc (.cells #[.float .f64 a1, .float .f64 a2] 72)).alloc (.cells #[.float .f64 b1, .float .f64 b2] 72)) #[.float .f64 0, .float .f64 0] 72).alloc (.cells #[.float .f64 a1, .float .f64 a2, .float .f64 b1, .float .f64 b2] 72)
  simp only [World.size_alloc] at K KA KB KR
  have pr : Below w.heap.size w ((((w.alloc (.cells #[.float .f64 a1, .float .f64 a2] 72)).alloc (.cells #[.float .f64 b1, .float .f64 b2] 72)).alloc (.cells #[.float .f64 0, .float .f64 0] 72)).alloc (.cells #[.float .f64 a1, .float .f64 a2, .float .f64 b1, .float .f64 b2] 72)) := ((((Below.refl _ _).alloc (Nat.le_refl _) _).alloc (by simp) _).alloc (by simp; omega) _).alloc (by simp; omega) _
  go_enter Try.func43, Try.ntmps43
  go_wp2_with (first
    | (go_at_call 87; go_must (refine (C _ _ K).mono ?_; rintro x w1 ⟨rfl, bb⟩; replace KA := KA.below bb KA.lt; replace KB := KB.below bb KB.lt; replace KR := KR.below bb KR.lt; replace pr := bel pr bb; clear bb K; have p0 : w1.cell? ⟨w.heap.size, 0, none⟩ = some (.float .f64 a1) := KA.at 0; have p1 : w1.cell? ⟨w.heap.size, 1, none⟩ = some (.float .f64 a2) := KA.at 1; have q0 : w1.cell? ⟨w.heap.size + 1, 0, none⟩ = some (.float .f64 b1) := KB.at 0; have q1 : w1.cell? ⟨w.heap.size + 1, 1, none⟩ = some (.float .f64 b2) := KB.at 1; have r0 : w1.cell? ⟨w.heap.size + 1 + 1, 0, none⟩ = some (.float .f64 0) := KR.at 0; have f0 := KR.free 0; have r1 : w1.cell? ⟨w.heap.size + 1 + 1, 1, none⟩ = some (.float .f64 0) := KR.at 1; have f1 := KR.free 1))
    | fail)
  have Z : Blk ((w1.setCell ⟨w.heap.size + 1 + 1, 0, none⟩ (.float .f64 (0))).setCell ⟨w.heap.size + 1 + 1, 1, none⟩ (.float .f64 (0))) (w.heap.size + 1 + 1) #[.float .f64 (0), .float .f64 (0)] 72 := kset (kset KR)
  have F0 := Z.at 0
  have F1 := Z.at 1
  simp only [List.getElem?_toArray, List.getElem?_cons_zero, List.getElem?_cons_succ] at F0 F1
  exact bodyPost_ret (v := .tuple #[spn (0) (0), .int .i64 5]) (by simp [results, Try.results43, go_sem, F0, F1]) rfl ⟨rfl, pset (pset pr (by omega)) (by omega)⟩
set_option maxRecDepth 100000 in
set_option maxHeartbeats 1600000 in
theorem Meet_none (a1 a2 b1 b2 : Nat) (F : Four a1 a2 b1 b2) (h : (okSp a1 a2 && okSp b1 b2) = true) (g : key64 (mn a2 b2) < key64 (mx a1 b1)) (w : World) : Calls Try.prog 43 #[spn a1 a2, spn b1 b2] w fun x w' => x = .returned (.tuple #[spn 0 0, .int .i64 7]) ∧ Below w.heap.size w w' := by
  have C := fun B => check_any B a1 a2 b1 b2 F.h1 F.h2 F.h3 F.h4
  simp only [h, if_true] at C
  have h2 := h
  rw [Bool.and_eq_true] at h2
  obtain ⟨x1, x2, -⟩ := okSp_ends h2.1
  obtain ⟨y1, y2, -⟩ := okSp_ends h2.2
  have mi := min_run a2 b2 F.h2 F.h4 x2 y2
  have ma := max_run a1 b1 F.h1 F.h3 x1 y1
  have og := order_gt (mx a1 b1) (mn a2 b2) (okEnd_nan (mx_ok x1 y1)) (okEnd_nan (mn_ok x2 y2))
  rw [decide_eq_true g] at og
  clear h x1 x2 y1 y2 h2 g
  have sf := fun w a n m => run_store_f Try.prog w a .f64 n m
  have K := Blk.new (((w.alloc (.cells #[.float .f64 a1, .float .f64 a2] 72)).alloc (.cells #[.float .f64 b1, .float .f64 b2] 72)).alloc (.cells #[.float .f64 0, .float .f64 0] 72)) #[.float .f64 a1, .float .f64 a2, .float .f64 b1, .float .f64 b2] 72
  have KA := (((Blk.new w #[.float .f64 a1, .float .f64 a2] 72).alloc (.cells #[.float .f64 b1, .float .f64 b2] 72)).alloc (.cells #[.float .f64 0, .float .f64 0] 72)).alloc (.cells #[.float .f64 a1, .float .f64 a2, .float .f64 b1, .float .f64 b2] 72)
  have KB := ((Blk.new (w.alloc (.cells #[.float .f64 a1, .float .f64 a2] 72)) #[.float .f64 b1, .float .f64 b2] 72).alloc (.cells #[.float .f64 0, .float .f64 0] 72)).alloc (.cells #[.float .f64 a1, .float .f64 a2, .float .f64 b1, .float .f64 b2] 72)
  have KR := (Blk.new ((w.alloc (.cells #[.float .f64 a1, .float .f64 a2] 72)).alloc (.cells #[.float .f64 b1, .float .f64 b2] 72)) #[.float .f64 0, .float .f64 0] 72).alloc (.cells #[.float .f64 a1, .float .f64 a2, .float .f64 b1, .float .f64 b2] 72)
  simp only [World.size_alloc] at K KA KB KR
  have pr : Below w.heap.size w ((((w.alloc (.cells #[.float .f64 a1, .float .f64 a2] 72)).alloc (.cells #[.float .f64 b1, .float .f64 b2] 72)).alloc (.cells #[.float .f64 0, .float .f64 0] 72)).alloc (.cells #[.float .f64 a1, .float .f64 a2, .float .f64 b1, .float .f64 b2] 72)) := ((((Below.refl _ _).alloc (Nat.le_refl _) _).alloc (by simp) _).alloc (by simp; omega) _).alloc (by simp; omega) _
  go_enter Try.func43, Try.ntmps43
  go_wp2_with (first
    | (go_at_call 87; go_must (refine (C _ _ K).mono ?_; rintro x w1 ⟨rfl, bb⟩; replace KA := KA.below bb KA.lt; replace KB := KB.below bb KB.lt; replace KR := KR.below bb KR.lt; replace pr := bel pr bb; clear bb K; have p0 : w1.cell? ⟨w.heap.size, 0, none⟩ = some (.float .f64 a1) := KA.at 0; have p1 : w1.cell? ⟨w.heap.size, 1, none⟩ = some (.float .f64 a2) := KA.at 1; have q0 : w1.cell? ⟨w.heap.size + 1, 0, none⟩ = some (.float .f64 b1) := KB.at 0; have q1 : w1.cell? ⟨w.heap.size + 1, 1, none⟩ = some (.float .f64 b2) := KB.at 1; have r0 : w1.cell? ⟨w.heap.size + 1 + 1, 0, none⟩ = some (.float .f64 0) := KR.at 0; have f0 := KR.free 0; have r1 : w1.cell? ⟨w.heap.size + 1 + 1, 1, none⟩ = some (.float .f64 0) := KR.at 1; have f1 := KR.free 1))
    | fail)
  go_region
  go_wp2_with fail
  have Z : Blk ((w1.setCell ⟨w.heap.size + 1 + 1, 0, none⟩ (.float .f64 (0))).setCell ⟨w.heap.size + 1 + 1, 1, none⟩ (.float .f64 (0))) (w.heap.size + 1 + 1) #[.float .f64 (0), .float .f64 (0)] 72 := kset (kset KR)
  have F0 := Z.at 0
  have F1 := Z.at 1
  simp only [List.getElem?_toArray, List.getElem?_cons_zero, List.getElem?_cons_succ] at F0 F1
  exact bodyPost_ret (v := .tuple #[spn (0) (0), .int .i64 7]) (by simp [results, Try.results43, go_sem, F0, F1]) rfl ⟨rfl, (pset (pset pr (by omega)) (by omega)).drew⟩
set_option maxRecDepth 100000 in
set_option maxHeartbeats 1600000 in
theorem Meet_ok (a1 a2 b1 b2 : Nat) (F : Four a1 a2 b1 b2) (h : (okSp a1 a2 && okSp b1 b2) = true) (g : ¬ key64 (mn a2 b2) < key64 (mx a1 b1)) (w : World) : Calls Try.prog 43 #[spn a1 a2, spn b1 b2] w fun x w' => x = .returned (.tuple #[spn (mx a1 b1) (mn a2 b2), .int .i64 0]) ∧ Below w.heap.size w w' := by
  have C := fun B => check_any B a1 a2 b1 b2 F.h1 F.h2 F.h3 F.h4
  simp only [h, if_true] at C
  have h2 := h
  rw [Bool.and_eq_true] at h2
  obtain ⟨x1, x2, -⟩ := okSp_ends h2.1
  obtain ⟨y1, y2, -⟩ := okSp_ends h2.2
  have mi := min_run a2 b2 F.h2 F.h4 x2 y2
  have ma := max_run a1 b1 F.h1 F.h3 x1 y1
  have og := order_gt (mx a1 b1) (mn a2 b2) (okEnd_nan (mx_ok x1 y1)) (okEnd_nan (mn_ok x2 y2))
  rw [decide_eq_false g] at og
  clear h x1 x2 y1 y2 h2 g
  have sf := fun w a n m => run_store_f Try.prog w a .f64 n m
  have K := Blk.new (((w.alloc (.cells #[.float .f64 a1, .float .f64 a2] 72)).alloc (.cells #[.float .f64 b1, .float .f64 b2] 72)).alloc (.cells #[.float .f64 0, .float .f64 0] 72)) #[.float .f64 a1, .float .f64 a2, .float .f64 b1, .float .f64 b2] 72
  have KA := (((Blk.new w #[.float .f64 a1, .float .f64 a2] 72).alloc (.cells #[.float .f64 b1, .float .f64 b2] 72)).alloc (.cells #[.float .f64 0, .float .f64 0] 72)).alloc (.cells #[.float .f64 a1, .float .f64 a2, .float .f64 b1, .float .f64 b2] 72)
  have KB := ((Blk.new (w.alloc (.cells #[.float .f64 a1, .float .f64 a2] 72)) #[.float .f64 b1, .float .f64 b2] 72).alloc (.cells #[.float .f64 0, .float .f64 0] 72)).alloc (.cells #[.float .f64 a1, .float .f64 a2, .float .f64 b1, .float .f64 b2] 72)
  have KR := (Blk.new ((w.alloc (.cells #[.float .f64 a1, .float .f64 a2] 72)).alloc (.cells #[.float .f64 b1, .float .f64 b2] 72)) #[.float .f64 0, .float .f64 0] 72).alloc (.cells #[.float .f64 a1, .float .f64 a2, .float .f64 b1, .float .f64 b2] 72)
  simp only [World.size_alloc] at K KA KB KR
  have pr : Below w.heap.size w ((((w.alloc (.cells #[.float .f64 a1, .float .f64 a2] 72)).alloc (.cells #[.float .f64 b1, .float .f64 b2] 72)).alloc (.cells #[.float .f64 0, .float .f64 0] 72)).alloc (.cells #[.float .f64 a1, .float .f64 a2, .float .f64 b1, .float .f64 b2] 72)) := ((((Below.refl _ _).alloc (Nat.le_refl _) _).alloc (by simp) _).alloc (by simp; omega) _).alloc (by simp; omega) _
  go_enter Try.func43, Try.ntmps43
  go_wp2_with (first
    | (go_at_call 87; go_must (refine (C _ _ K).mono ?_; rintro x w1 ⟨rfl, bb⟩; replace KA := KA.below bb KA.lt; replace KB := KB.below bb KB.lt; replace KR := KR.below bb KR.lt; replace pr := bel pr bb; clear bb K; have p0 : w1.cell? ⟨w.heap.size, 0, none⟩ = some (.float .f64 a1) := KA.at 0; have p1 : w1.cell? ⟨w.heap.size, 1, none⟩ = some (.float .f64 a2) := KA.at 1; have q0 : w1.cell? ⟨w.heap.size + 1, 0, none⟩ = some (.float .f64 b1) := KB.at 0; have q1 : w1.cell? ⟨w.heap.size + 1, 1, none⟩ = some (.float .f64 b2) := KB.at 1; have r0 : w1.cell? ⟨w.heap.size + 1 + 1, 0, none⟩ = some (.float .f64 0) := KR.at 0; have f0 := KR.free 0; have r1 : w1.cell? ⟨w.heap.size + 1 + 1, 1, none⟩ = some (.float .f64 0) := KR.at 1; have f1 := KR.free 1))
    | fail)
  go_region
  go_wp2_with fail
  have Z : Blk ((w1.setCell ⟨w.heap.size + 1 + 1, 0, none⟩ (.float .f64 (mx a1 b1))).setCell ⟨w.heap.size + 1 + 1, 1, none⟩ (.float .f64 (mn a2 b2))) (w.heap.size + 1 + 1) #[.float .f64 (mx a1 b1), .float .f64 (mn a2 b2)] 72 := kset (kset KR)
  have F0 := Z.at 0
  have F1 := Z.at 1
  simp only [List.getElem?_toArray, List.getElem?_cons_zero, List.getElem?_cons_succ] at F0 F1
  exact bodyPost_ret (v := .tuple #[spn (mx a1 b1) (mn a2 b2), .int .i64 0]) (by simp [results, Try.results43, go_sem, F0, F1]) rfl ⟨rfl, (pset (pset pr (by omega)) (by omega)).drew⟩
set_option maxRecDepth 100000 in
set_option maxHeartbeats 1600000 in
theorem Within_wrong (a1 a2 b1 b2 : Nat) (F : Four a1 a2 b1 b2) (h : (okSp a1 a2 && okSp b1 b2) = false) (w : World) : Calls Try.prog 44 #[spn a1 a2, spn b1 b2] w fun x w' => x = .returned (.tuple #[.bool false, .int .i64 5]) ∧ Below w.heap.size w w' := by
  have C := fun B => check_any B a1 a2 b1 b2 F.h1 F.h2 F.h3 F.h4
  simp only [h, Bool.false_eq_true, if_false] at C
  have sf := fun w a n m => run_store_f Try.prog w a .f64 n m
  have K := Blk.new ((w.alloc (.cells #[.float .f64 a1, .float .f64 a2] 72)).alloc (.cells #[.float .f64 b1, .float .f64 b2] 72)) #[.float .f64 a1, .float .f64 a2, .float .f64 b1, .float .f64 b2] 72
  have KA := (((Blk.new w #[.float .f64 a1, .float .f64 a2] 72).alloc (.cells #[.float .f64 b1, .float .f64 b2] 72))).alloc (.cells #[.float .f64 a1, .float .f64 a2, .float .f64 b1, .float .f64 b2] 72)
  have KB := ((Blk.new (w.alloc (.cells #[.float .f64 a1, .float .f64 a2] 72)) #[.float .f64 b1, .float .f64 b2] 72)).alloc (.cells #[.float .f64 a1, .float .f64 a2, .float .f64 b1, .float .f64 b2] 72)
  simp only [World.size_alloc] at K KA KB
  have pr : Below w.heap.size w (((w.alloc (.cells #[.float .f64 a1, .float .f64 a2] 72)).alloc (.cells #[.float .f64 b1, .float .f64 b2] 72)).alloc (.cells #[.float .f64 a1, .float .f64 a2, .float .f64 b1, .float .f64 b2] 72)) := ((((Below.refl _ _).alloc (Nat.le_refl _) _).alloc (by simp) _)).alloc (by simp; omega) _
  go_enter Try.func44, Try.ntmps44
  go_wp2_with (first
    | (go_at_call 87; go_must (refine (C _ _ K).mono ?_; rintro x w1 ⟨rfl, bb⟩; replace KA := KA.below bb KA.lt; replace KB := KB.below bb KB.lt; replace pr := bel pr bb; clear bb K; have p0 : w1.cell? ⟨w.heap.size, 0, none⟩ = some (.float .f64 a1) := KA.at 0; have p1 : w1.cell? ⟨w.heap.size, 1, none⟩ = some (.float .f64 a2) := KA.at 1; have q0 : w1.cell? ⟨w.heap.size + 1, 0, none⟩ = some (.float .f64 b1) := KB.at 0; have q1 : w1.cell? ⟨w.heap.size + 1, 1, none⟩ = some (.float .f64 b2) := KB.at 1))
    | fail)
  exact bodyPost_ret (v := .tuple #[.bool false, .int .i64 5]) (by simp [results, Try.results44, go_sem]) rfl ⟨rfl, pr⟩
set_option maxRecDepth 100000 in
set_option maxHeartbeats 1600000 in
theorem Within_ok (a1 a2 b1 b2 : Nat) (F : Four a1 a2 b1 b2) (h : (okSp a1 a2 && okSp b1 b2) = true) (w : World) : Calls Try.prog 44 #[spn a1 a2, spn b1 b2] w fun x w' => x = .returned (.tuple #[.bool (decide (key64 b1 ≤ key64 a1) && decide (key64 a2 ≤ key64 b2)), .int .i64 0]) ∧ Below w.heap.size w w' := by
  have C := fun B => check_any B a1 a2 b1 b2 F.h1 F.h2 F.h3 F.h4
  simp only [h, if_true] at C
  have h2 := h
  rw [Bool.and_eq_true] at h2
  obtain ⟨x1, x2, -⟩ := okSp_ends h2.1
  obtain ⟨y1, y2, -⟩ := okSp_ends h2.2
  have le1 := order_le b1 a1 (okEnd_nan y1) (okEnd_nan x1)
  have le2 := order_le a2 b2 (okEnd_nan x2) (okEnd_nan y2)
  clear h x1 x2 y1 y2 h2
  generalize decide (key64 b1 ≤ key64 a1) = t1 at *
  generalize decide (key64 a2 ≤ key64 b2) = t2 at *
  cases t1 <;> cases t2
  all_goals
    have sf := fun w a n m => run_store_f Try.prog w a .f64 n m
    have K := Blk.new ((w.alloc (.cells #[.float .f64 a1, .float .f64 a2] 72)).alloc (.cells #[.float .f64 b1, .float .f64 b2] 72)) #[.float .f64 a1, .float .f64 a2, .float .f64 b1, .float .f64 b2] 72
    have KA := (((Blk.new w #[.float .f64 a1, .float .f64 a2] 72).alloc (.cells #[.float .f64 b1, .float .f64 b2] 72))).alloc (.cells #[.float .f64 a1, .float .f64 a2, .float .f64 b1, .float .f64 b2] 72)
    have KB := ((Blk.new (w.alloc (.cells #[.float .f64 a1, .float .f64 a2] 72)) #[.float .f64 b1, .float .f64 b2] 72)).alloc (.cells #[.float .f64 a1, .float .f64 a2, .float .f64 b1, .float .f64 b2] 72)
    simp only [World.size_alloc] at K KA KB
    have pr : Below w.heap.size w (((w.alloc (.cells #[.float .f64 a1, .float .f64 a2] 72)).alloc (.cells #[.float .f64 b1, .float .f64 b2] 72)).alloc (.cells #[.float .f64 a1, .float .f64 a2, .float .f64 b1, .float .f64 b2] 72)) := ((((Below.refl _ _).alloc (Nat.le_refl _) _).alloc (by simp) _)).alloc (by simp; omega) _
    go_enter Try.func44, Try.ntmps44
    go_wp2_with (first
      | (go_at_call 87; go_must (refine (C _ _ K).mono ?_; rintro x w1 ⟨rfl, bb⟩; replace KA := KA.below bb KA.lt; replace KB := KB.below bb KB.lt; replace pr := bel pr bb; clear bb K; have p0 : w1.cell? ⟨w.heap.size, 0, none⟩ = some (.float .f64 a1) := KA.at 0; have p1 : w1.cell? ⟨w.heap.size, 1, none⟩ = some (.float .f64 a2) := KA.at 1; have q0 : w1.cell? ⟨w.heap.size + 1, 0, none⟩ = some (.float .f64 b1) := KB.at 0; have q1 : w1.cell? ⟨w.heap.size + 1, 1, none⟩ = some (.float .f64 b2) := KB.at 1))
      | fail)
    exact bodyPost_ret (v := .tuple #[.bool _, .int .i64 0]) (by simp [results, Try.results44, go_sem]) rfl ⟨rfl, pr⟩
set_option maxRecDepth 100000 in
set_option maxHeartbeats 1600000 in
theorem SCmp_wrong (a1 a2 b1 b2 : Nat) (F : Four a1 a2 b1 b2) (h : (okSp a1 a2 && okSp b1 b2) = false) (w : World) : Calls Try.prog 45 #[spn a1 a2, spn b1 b2] w fun x w' => x = .returned (.tuple #[.int .i64 0, .int .i64 5]) ∧ Below w.heap.size w w' := by
  have C := fun B => check_any B a1 a2 b1 b2 F.h1 F.h2 F.h3 F.h4
  simp only [h, Bool.false_eq_true, if_false] at C
  have sf := fun w a n m => run_store_f Try.prog w a .f64 n m
  have K := Blk.new ((w.alloc (.cells #[.float .f64 a1, .float .f64 a2] 72)).alloc (.cells #[.float .f64 b1, .float .f64 b2] 72)) #[.float .f64 a1, .float .f64 a2, .float .f64 b1, .float .f64 b2] 72
  have KA := (((Blk.new w #[.float .f64 a1, .float .f64 a2] 72).alloc (.cells #[.float .f64 b1, .float .f64 b2] 72))).alloc (.cells #[.float .f64 a1, .float .f64 a2, .float .f64 b1, .float .f64 b2] 72)
  have KB := ((Blk.new (w.alloc (.cells #[.float .f64 a1, .float .f64 a2] 72)) #[.float .f64 b1, .float .f64 b2] 72)).alloc (.cells #[.float .f64 a1, .float .f64 a2, .float .f64 b1, .float .f64 b2] 72)
  simp only [World.size_alloc] at K KA KB
  have pr : Below w.heap.size w (((w.alloc (.cells #[.float .f64 a1, .float .f64 a2] 72)).alloc (.cells #[.float .f64 b1, .float .f64 b2] 72)).alloc (.cells #[.float .f64 a1, .float .f64 a2, .float .f64 b1, .float .f64 b2] 72)) := ((((Below.refl _ _).alloc (Nat.le_refl _) _).alloc (by simp) _)).alloc (by simp; omega) _
  go_enter Try.func45, Try.ntmps45
  go_wp2_with (first
    | (go_at_call 87; go_must (refine (C _ _ K).mono ?_; rintro x w1 ⟨rfl, bb⟩; replace KA := KA.below bb KA.lt; replace KB := KB.below bb KB.lt; replace pr := bel pr bb; clear bb K; have p0 : w1.cell? ⟨w.heap.size, 0, none⟩ = some (.float .f64 a1) := KA.at 0; have p1 : w1.cell? ⟨w.heap.size, 1, none⟩ = some (.float .f64 a2) := KA.at 1; have q0 : w1.cell? ⟨w.heap.size + 1, 0, none⟩ = some (.float .f64 b1) := KB.at 0; have q1 : w1.cell? ⟨w.heap.size + 1, 1, none⟩ = some (.float .f64 b2) := KB.at 1))
    | fail)
  exact bodyPost_ret (v := .tuple #[.int .i64 0, .int .i64 5]) (by simp [results, Try.results45, go_sem]) rfl ⟨rfl, pr⟩
set_option maxRecDepth 100000 in
set_option maxHeartbeats 1600000 in
theorem SCmp_lt (a1 a2 b1 b2 : Nat) (F : Four a1 a2 b1 b2) (h : (okSp a1 a2 && okSp b1 b2) = true) (g : key64 a2 < key64 b1) (w : World) : Calls Try.prog 45 #[spn a1 a2, spn b1 b2] w fun x w' => x = .returned (.tuple #[.int .i64 (-1), .int .i64 0]) ∧ Below w.heap.size w w' := by
  have C := fun B => check_any B a1 a2 b1 b2 F.h1 F.h2 F.h3 F.h4
  simp only [h, if_true] at C
  have h2 := h
  rw [Bool.and_eq_true] at h2
  obtain ⟨x1, x2, -⟩ := okSp_ends h2.1
  obtain ⟨y1, y2, -⟩ := okSp_ends h2.2
  have l1 := order_lt a2 b1 (okEnd_nan x2) (okEnd_nan y1)
  have l2 := order_gt a1 b2 (okEnd_nan x1) (okEnd_nan y2)
  rw [decide_eq_true g] at l1
  clear h x1 x2 y1 y2 h2 g
  have sf := fun w a n m => run_store_f Try.prog w a .f64 n m
  have K := Blk.new ((w.alloc (.cells #[.float .f64 a1, .float .f64 a2] 72)).alloc (.cells #[.float .f64 b1, .float .f64 b2] 72)) #[.float .f64 a1, .float .f64 a2, .float .f64 b1, .float .f64 b2] 72
  have KA := (((Blk.new w #[.float .f64 a1, .float .f64 a2] 72).alloc (.cells #[.float .f64 b1, .float .f64 b2] 72))).alloc (.cells #[.float .f64 a1, .float .f64 a2, .float .f64 b1, .float .f64 b2] 72)
  have KB := ((Blk.new (w.alloc (.cells #[.float .f64 a1, .float .f64 a2] 72)) #[.float .f64 b1, .float .f64 b2] 72)).alloc (.cells #[.float .f64 a1, .float .f64 a2, .float .f64 b1, .float .f64 b2] 72)
  simp only [World.size_alloc] at K KA KB
  have pr : Below w.heap.size w (((w.alloc (.cells #[.float .f64 a1, .float .f64 a2] 72)).alloc (.cells #[.float .f64 b1, .float .f64 b2] 72)).alloc (.cells #[.float .f64 a1, .float .f64 a2, .float .f64 b1, .float .f64 b2] 72)) := ((((Below.refl _ _).alloc (Nat.le_refl _) _).alloc (by simp) _)).alloc (by simp; omega) _
  go_enter Try.func45, Try.ntmps45
  go_wp2_with (first
    | (go_at_call 87; go_must (refine (C _ _ K).mono ?_; rintro x w1 ⟨rfl, bb⟩; replace KA := KA.below bb KA.lt; replace KB := KB.below bb KB.lt; replace pr := bel pr bb; clear bb K; have p0 : w1.cell? ⟨w.heap.size, 0, none⟩ = some (.float .f64 a1) := KA.at 0; have p1 : w1.cell? ⟨w.heap.size, 1, none⟩ = some (.float .f64 a2) := KA.at 1; have q0 : w1.cell? ⟨w.heap.size + 1, 0, none⟩ = some (.float .f64 b1) := KB.at 0; have q1 : w1.cell? ⟨w.heap.size + 1, 1, none⟩ = some (.float .f64 b2) := KB.at 1))
    | fail)
  exact bodyPost_ret (v := .tuple #[.int .i64 (-1), .int .i64 0]) (by simp [results, Try.results45, go_sem]) rfl ⟨rfl, pr⟩
set_option maxRecDepth 100000 in
set_option maxHeartbeats 1600000 in
theorem SCmp_gt (a1 a2 b1 b2 : Nat) (F : Four a1 a2 b1 b2) (h : (okSp a1 a2 && okSp b1 b2) = true) (g : ¬ key64 a2 < key64 b1 ∧ key64 b2 < key64 a1) (w : World) : Calls Try.prog 45 #[spn a1 a2, spn b1 b2] w fun x w' => x = .returned (.tuple #[.int .i64 1, .int .i64 0]) ∧ Below w.heap.size w w' := by
  have C := fun B => check_any B a1 a2 b1 b2 F.h1 F.h2 F.h3 F.h4
  simp only [h, if_true] at C
  have h2 := h
  rw [Bool.and_eq_true] at h2
  obtain ⟨x1, x2, -⟩ := okSp_ends h2.1
  obtain ⟨y1, y2, -⟩ := okSp_ends h2.2
  have l1 := order_lt a2 b1 (okEnd_nan x2) (okEnd_nan y1)
  have l2 := order_gt a1 b2 (okEnd_nan x1) (okEnd_nan y2)
  rw [decide_eq_false g.1] at l1
  rw [decide_eq_true g.2] at l2
  clear h x1 x2 y1 y2 h2 g
  have sf := fun w a n m => run_store_f Try.prog w a .f64 n m
  have K := Blk.new ((w.alloc (.cells #[.float .f64 a1, .float .f64 a2] 72)).alloc (.cells #[.float .f64 b1, .float .f64 b2] 72)) #[.float .f64 a1, .float .f64 a2, .float .f64 b1, .float .f64 b2] 72
  have KA := (((Blk.new w #[.float .f64 a1, .float .f64 a2] 72).alloc (.cells #[.float .f64 b1, .float .f64 b2] 72))).alloc (.cells #[.float .f64 a1, .float .f64 a2, .float .f64 b1, .float .f64 b2] 72)
  have KB := ((Blk.new (w.alloc (.cells #[.float .f64 a1, .float .f64 a2] 72)) #[.float .f64 b1, .float .f64 b2] 72)).alloc (.cells #[.float .f64 a1, .float .f64 a2, .float .f64 b1, .float .f64 b2] 72)
  simp only [World.size_alloc] at K KA KB
  have pr : Below w.heap.size w (((w.alloc (.cells #[.float .f64 a1, .float .f64 a2] 72)).alloc (.cells #[.float .f64 b1, .float .f64 b2] 72)).alloc (.cells #[.float .f64 a1, .float .f64 a2, .float .f64 b1, .float .f64 b2] 72)) := ((((Below.refl _ _).alloc (Nat.le_refl _) _).alloc (by simp) _)).alloc (by simp; omega) _
  go_enter Try.func45, Try.ntmps45
  go_wp2_with (first
    | (go_at_call 87; go_must (refine (C _ _ K).mono ?_; rintro x w1 ⟨rfl, bb⟩; replace KA := KA.below bb KA.lt; replace KB := KB.below bb KB.lt; replace pr := bel pr bb; clear bb K; have p0 : w1.cell? ⟨w.heap.size, 0, none⟩ = some (.float .f64 a1) := KA.at 0; have p1 : w1.cell? ⟨w.heap.size, 1, none⟩ = some (.float .f64 a2) := KA.at 1; have q0 : w1.cell? ⟨w.heap.size + 1, 0, none⟩ = some (.float .f64 b1) := KB.at 0; have q1 : w1.cell? ⟨w.heap.size + 1, 1, none⟩ = some (.float .f64 b2) := KB.at 1))
    | fail)
  exact bodyPost_ret (v := .tuple #[.int .i64 1, .int .i64 0]) (by simp [results, Try.results45, go_sem]) rfl ⟨rfl, pr⟩
set_option maxRecDepth 100000 in
set_option maxHeartbeats 1600000 in
theorem SCmp_eq (a1 a2 b1 b2 : Nat) (F : Four a1 a2 b1 b2) (h : (okSp a1 a2 && okSp b1 b2) = true) (g : ¬ key64 a2 < key64 b1 ∧ ¬ key64 b2 < key64 a1) (w : World) : Calls Try.prog 45 #[spn a1 a2, spn b1 b2] w fun x w' => x = .returned (.tuple #[.int .i64 0, .int .i64 0]) ∧ Below w.heap.size w w' := by
  have C := fun B => check_any B a1 a2 b1 b2 F.h1 F.h2 F.h3 F.h4
  simp only [h, if_true] at C
  have h2 := h
  rw [Bool.and_eq_true] at h2
  obtain ⟨x1, x2, -⟩ := okSp_ends h2.1
  obtain ⟨y1, y2, -⟩ := okSp_ends h2.2
  have l1 := order_lt a2 b1 (okEnd_nan x2) (okEnd_nan y1)
  have l2 := order_gt a1 b2 (okEnd_nan x1) (okEnd_nan y2)
  rw [decide_eq_false g.1] at l1
  rw [decide_eq_false g.2] at l2
  clear h x1 x2 y1 y2 h2 g
  have sf := fun w a n m => run_store_f Try.prog w a .f64 n m
  have K := Blk.new ((w.alloc (.cells #[.float .f64 a1, .float .f64 a2] 72)).alloc (.cells #[.float .f64 b1, .float .f64 b2] 72)) #[.float .f64 a1, .float .f64 a2, .float .f64 b1, .float .f64 b2] 72
  have KA := (((Blk.new w #[.float .f64 a1, .float .f64 a2] 72).alloc (.cells #[.float .f64 b1, .float .f64 b2] 72))).alloc (.cells #[.float .f64 a1, .float .f64 a2, .float .f64 b1, .float .f64 b2] 72)
  have KB := ((Blk.new (w.alloc (.cells #[.float .f64 a1, .float .f64 a2] 72)) #[.float .f64 b1, .float .f64 b2] 72)).alloc (.cells #[.float .f64 a1, .float .f64 a2, .float .f64 b1, .float .f64 b2] 72)
  simp only [World.size_alloc] at K KA KB
  have pr : Below w.heap.size w (((w.alloc (.cells #[.float .f64 a1, .float .f64 a2] 72)).alloc (.cells #[.float .f64 b1, .float .f64 b2] 72)).alloc (.cells #[.float .f64 a1, .float .f64 a2, .float .f64 b1, .float .f64 b2] 72)) := ((((Below.refl _ _).alloc (Nat.le_refl _) _).alloc (by simp) _)).alloc (by simp; omega) _
  go_enter Try.func45, Try.ntmps45
  go_wp2_with (first
    | (go_at_call 87; go_must (refine (C _ _ K).mono ?_; rintro x w1 ⟨rfl, bb⟩; replace KA := KA.below bb KA.lt; replace KB := KB.below bb KB.lt; replace pr := bel pr bb; clear bb K; have p0 : w1.cell? ⟨w.heap.size, 0, none⟩ = some (.float .f64 a1) := KA.at 0; have p1 : w1.cell? ⟨w.heap.size, 1, none⟩ = some (.float .f64 a2) := KA.at 1; have q0 : w1.cell? ⟨w.heap.size + 1, 0, none⟩ = some (.float .f64 b1) := KB.at 0; have q1 : w1.cell? ⟨w.heap.size + 1, 1, none⟩ = some (.float .f64 b2) := KB.at 1))
    | fail)
  exact bodyPost_ret (v := .tuple #[.int .i64 0, .int .i64 0]) (by simp [results, Try.results45, go_sem]) rfl ⟨rfl, pr⟩
end Go.Proofs.Ytlngkonmalallaa

namespace Go.Proofs.Ytlngkonmalallaa
open Go.RowKit Tn

/-- Is it infinite, and on which side? -/
def infI (n : Nat) : Int := if n = 9218868437227405312 then 1 else if n = 18442240474082181120 then -1 else 0
/-- The value v is the end that the float n is. -/
def IsE (w : World) (v : Value) (n : Nat) : Prop :=
  ∃ (g : Bool) (a1 a2 : Option Addr) (l1 c1 l2 c2 : Nat), v = .agg #[.int .i64 (infI n), .bool g, .slice a1 l1 c1, .slice a2 l2 c2] ∧ (infI n = 0 → L.IsQ w (.agg #[.bool g, .slice a1 l1 c1, .slice a2 l2 c2]) (mkRat (vl64 n) (2 ^ 1074)))
theorem IsE.grow {w w' : World} {v : Value} {n : Nat} (h : IsE w v n) (b : Below w.heap.size w w') : IsE w' v n := by
  obtain ⟨g, a1, a2, l1, c1, l2, c2, e, q⟩ := h
  exact ⟨g, a1, a2, l1, c1, l2, c2, e, fun k => (q k).grow b⟩
theorem fin_of {n : Nat} (hn : n < 18446744073709551616) (h : nan64 n = false) (i : infI n = 0) : rg64 n < 9218868437227405312 := by
  unfold infI at i
  have c1 : n ≠ 9218868437227405312 := by intro c; rw [if_pos c] at i; omega
  rw [if_neg c1] at i
  have c2 : n ≠ 18442240474082181120 := by intro c; rw [if_pos c] at i; omega
  simp only [nan64, decide_eq_false_iff_not] at h
  have rn : rg64 n = n % 9223372036854775808 := rfl
  omega
theorem cells_put4 {w : World} {b : Nat} {g : Bool} {a1 a2 : Option Addr} {n1 c1 n2 c2 : Nat} {t : TypeId} {x y z : Value} (K : Blk w b #[.int .i64 0, .bool g, .slice a1 n1 c1, .slice a2 n2 c2] t) {b' o : Nat} {xs : List Int} (h : L.Cells w b' o xs) :
    L.Cells ((((w.setCell ⟨b, 0, none⟩ (.int .i64 0)).setCell ⟨b, 1, none⟩ x).setCell ⟨b, 2, none⟩ y).setCell ⟨b, 3, none⟩ z) b' o xs := by
  intro i hi
  have h0 := h i hi
  have ZZ : Blk ((((w.setCell ⟨b, 0, none⟩ (.int .i64 0)).setCell ⟨b, 1, none⟩ x).setCell ⟨b, 2, none⟩ y).setCell ⟨b, 3, none⟩ z) b #[.int .i64 0, x, y, z] t := kset (kset (kset (kset K)))
  by_cases e : b' = b
  · subst e
    rw [K.at] at h0
    rw [ZZ.at]
    generalize o + i = j at h0 ⊢
    match j, h0 with
    | 0, h0 => exact h0
    | 1, h0 => simp at h0
    | 2, h0 => simp at h0
    | 3, h0 => simp at h0
    | j + 4, h0 => simp at h0
  · rw [World.cell?_setCell_other _ _ _ _ (by simp), World.cell?_setCell_other _ _ _ _ (by simp), World.cell?_setCell_other _ _ _ _ (by simp), World.cell?_setCell_other _ _ _ _ (by simp)]
    exact h0
theorem rd_put4 {w : World} {b : Nat} {g : Bool} {a1 a2 : Option Addr} {n1 c1 n2 c2 : Nat} {t : TypeId} {x y z : Value} (K : Blk w b #[.int .i64 0, .bool g, .slice a1 n1 c1, .slice a2 n2 c2] t) {v : Value} {xs : List Int} (h : L.Rd w v xs) :
    L.Rd ((((w.setCell ⟨b, 0, none⟩ (.int .i64 0)).setCell ⟨b, 1, none⟩ x).setCell ⟨b, 2, none⟩ y).setCell ⟨b, 3, none⟩ z) v xs := by
  obtain ⟨h1, a, cap, h2, h3, h4, h5⟩ := h
  exact ⟨h1, a, cap, h2, h3, h4, fun l => by obtain ⟨b, o, e, c⟩ := h5 l; exact ⟨b, o, e, cells_put4 K c⟩⟩
theorem q_put4 {w : World} {b : Nat} {g : Bool} {a1 a2 : Option Addr} {n1 c1 n2 c2 : Nat} {t : TypeId} {x y z : Value} (K : Blk w b #[.int .i64 0, .bool g, .slice a1 n1 c1, .slice a2 n2 c2] t) {v : Value} {r : Rat} (h : L.IsQ w v r) :
    L.IsQ ((((w.setCell ⟨b, 0, none⟩ (.int .i64 0)).setCell ⟨b, 1, none⟩ x).setCell ⟨b, 2, none⟩ y).setCell ⟨b, 3, none⟩ z) v r := by
  obtain ⟨ns, ds, a1, a2, c1, c2, e, h1, n1, v1, h2, n2, v2⟩ := h
  exact ⟨ns, ds, a1, a2, c1, c2, e, rd_put4 K h1, n1, v1, rd_put4 K h2, n2, v2⟩
--walks
set_option maxRecDepth 100000 in
set_option maxHeartbeats 1600000 in
theorem end_up (w : World) : Calls Try.prog 123 #[.float .f64 9218868437227405312] w fun x w' => x = .returned (.agg #[.int .i64 1, .bool false, .slice none 0 0, .slice none 0 0]) ∧ Below w.heap.size w w' := by
  have hb := f64bits 9218868437227405312
  have KR := Blk.new w #[.int .i64 0, .bool false, .slice none 0 0, .slice none 0 0] 123
  have pr : Below w.heap.size w (w.alloc (.cells #[.int .i64 0, .bool false, .slice none 0 0, .slice none 0 0] 123)) := (Below.refl _ _).alloc (Nat.le_refl _) _
  go_enter Try.func123, Try.ntmps123
  go_wp2_with (first
    | (go_at_call 11; go_must (refine (Wide_any _).mono ?_; rintro r w1 ⟨rfl, bb⟩; replace KR := (KR.below bb KR.lt).alloc (.cells #[.int .i64 53, .int .i64 (-1074), .int .i64 971, .int .i64 52] 31); have KZ := Blk.new w1 #[.int .i64 53, .int .i64 (-1074), .int .i64 971, .int .i64 52] 31; replace pr := (bel pr bb).alloc (bel pr bb).size (.cells #[.int .i64 53, .int .i64 (-1074), .int .i64 971, .int .i64 52] 31); clear bb))
    | (go_at_call 60; (with_reducible refine (Infinite_w_pos _).mono ?_); go_must (rintro r w2 ⟨rfl, bb⟩; replace KR := KR.below bb KR.lt; replace KZ := KZ.below bb KZ.lt; replace pr := bel pr bb; clear bb; have z0 : w2.cell? ⟨w1.heap.size, 0, none⟩ = some (.int .i64 53) := KZ.at 0; have z1 : w2.cell? ⟨w1.heap.size, 1, none⟩ = some (.int .i64 (-1074)) := KZ.at 1; have z2 : w2.cell? ⟨w1.heap.size, 2, none⟩ = some (.int .i64 971) := KZ.at 2; have z3 : w2.cell? ⟨w1.heap.size, 3, none⟩ = some (.int .i64 52) := KZ.at 3; have r0 : w2.cell? ⟨w.heap.size, 0, none⟩ = some (.int .i64 0) := KR.at 0; have f0 := KR.free 0; have r1 : w2.cell? ⟨w.heap.size, 1, none⟩ = some (.bool false) := KR.at 1; have f1 := KR.free 1; have r2 : w2.cell? ⟨w.heap.size, 2, none⟩ = some (.slice none 0 0) := KR.at 2; have f2 := KR.free 2; have r3 : w2.cell? ⟨w.heap.size, 3, none⟩ = some (.slice none 0 0) := KR.at 3; have f3 := KR.free 3))
    | fail)
  have ZZ : Blk (((((w2).setCell ⟨w.heap.size, 0, none⟩ (.int .i64 1)).setCell ⟨w.heap.size, 1, none⟩ (.bool false)).setCell ⟨w.heap.size, 2, none⟩ (.slice none 0 0)).setCell ⟨w.heap.size, 3, none⟩ (.slice none 0 0)) w.heap.size #[.int .i64 1, .bool false, .slice none 0 0, .slice none 0 0] 123 := kset (kset (kset (kset KR)))
  have F0 := ZZ.at 0
  have F1 := ZZ.at 1
  have F2 := ZZ.at 2
  have F3 := ZZ.at 3
  simp only [List.getElem?_toArray, List.getElem?_cons_zero, List.getElem?_cons_succ] at F0 F1 F2 F3
  have PR : Below w.heap.size w (((((w2).setCell ⟨w.heap.size, 0, none⟩ (.int .i64 1)).setCell ⟨w.heap.size, 1, none⟩ (.bool false)).setCell ⟨w.heap.size, 2, none⟩ (.slice none 0 0)).setCell ⟨w.heap.size, 3, none⟩ (.slice none 0 0)) := pset (pset (pset (pset pr (by omega)) (by omega)) (by omega)) (by omega)
  exact bodyPost_ret (v := .agg #[.int .i64 1, .bool false, .slice none 0 0, .slice none 0 0]) (by simp [results, Try.results123, go_sem, F0, F1, F2, F3]) rfl ⟨rfl, PR⟩
set_option maxRecDepth 100000 in
set_option maxHeartbeats 1600000 in
theorem end_dn (w : World) : Calls Try.prog 123 #[.float .f64 18442240474082181120] w fun x w' => x = .returned (.agg #[.int .i64 (-1), .bool false, .slice none 0 0, .slice none 0 0]) ∧ Below w.heap.size w w' := by
  have hb := f64bits 18442240474082181120
  have KR := Blk.new w #[.int .i64 0, .bool false, .slice none 0 0, .slice none 0 0] 123
  have pr : Below w.heap.size w (w.alloc (.cells #[.int .i64 0, .bool false, .slice none 0 0, .slice none 0 0] 123)) := (Below.refl _ _).alloc (Nat.le_refl _) _
  go_enter Try.func123, Try.ntmps123
  go_wp2_with (first
    | (go_at_call 11; go_must (refine (Wide_any _).mono ?_; rintro r w1 ⟨rfl, bb⟩; replace KR := (KR.below bb KR.lt).alloc (.cells #[.int .i64 53, .int .i64 (-1074), .int .i64 971, .int .i64 52] 31); have KZ := Blk.new w1 #[.int .i64 53, .int .i64 (-1074), .int .i64 971, .int .i64 52] 31; replace pr := (bel pr bb).alloc (bel pr bb).size (.cells #[.int .i64 53, .int .i64 (-1074), .int .i64 971, .int .i64 52] 31); clear bb))
    | (go_at_call 60; (with_reducible refine (Infinite_w_pos _).mono ?_); go_must (rintro r w2 ⟨rfl, bb⟩; replace KR := KR.below bb KR.lt; replace KZ := KZ.below bb KZ.lt; replace pr := bel pr bb; clear bb; have z0 : w2.cell? ⟨w1.heap.size, 0, none⟩ = some (.int .i64 53) := KZ.at 0; have z1 : w2.cell? ⟨w1.heap.size, 1, none⟩ = some (.int .i64 (-1074)) := KZ.at 1; have z2 : w2.cell? ⟨w1.heap.size, 2, none⟩ = some (.int .i64 971) := KZ.at 2; have z3 : w2.cell? ⟨w1.heap.size, 3, none⟩ = some (.int .i64 52) := KZ.at 3; have r0 : w2.cell? ⟨w.heap.size, 0, none⟩ = some (.int .i64 0) := KR.at 0; have f0 := KR.free 0; have r1 : w2.cell? ⟨w.heap.size, 1, none⟩ = some (.bool false) := KR.at 1; have f1 := KR.free 1; have r2 : w2.cell? ⟨w.heap.size, 2, none⟩ = some (.slice none 0 0) := KR.at 2; have f2 := KR.free 2; have r3 : w2.cell? ⟨w.heap.size, 3, none⟩ = some (.slice none 0 0) := KR.at 3; have f3 := KR.free 3))
    | (go_at_call 60; (with_reducible refine (Infinite_w_neg _).mono ?_); go_must (rintro r w3 ⟨rfl, bb⟩; replace KR := KR.below bb KR.lt; replace KZ := KZ.below bb KZ.lt; replace pr := bel pr bb; clear bb; have z0 : w3.cell? ⟨w1.heap.size, 0, none⟩ = some (.int .i64 53) := KZ.at 0; have z1 : w3.cell? ⟨w1.heap.size, 1, none⟩ = some (.int .i64 (-1074)) := KZ.at 1; have z2 : w3.cell? ⟨w1.heap.size, 2, none⟩ = some (.int .i64 971) := KZ.at 2; have z3 : w3.cell? ⟨w1.heap.size, 3, none⟩ = some (.int .i64 52) := KZ.at 3; have r0 : w3.cell? ⟨w.heap.size, 0, none⟩ = some (.int .i64 0) := KR.at 0; have f0 := KR.free 0; have r1 : w3.cell? ⟨w.heap.size, 1, none⟩ = some (.bool false) := KR.at 1; have f1 := KR.free 1; have r2 : w3.cell? ⟨w.heap.size, 2, none⟩ = some (.slice none 0 0) := KR.at 2; have f2 := KR.free 2; have r3 : w3.cell? ⟨w.heap.size, 3, none⟩ = some (.slice none 0 0) := KR.at 3; have f3 := KR.free 3))
    | fail)
  have ZZ : Blk (((((w3).setCell ⟨w.heap.size, 0, none⟩ (.int .i64 (-1))).setCell ⟨w.heap.size, 1, none⟩ (.bool false)).setCell ⟨w.heap.size, 2, none⟩ (.slice none 0 0)).setCell ⟨w.heap.size, 3, none⟩ (.slice none 0 0)) w.heap.size #[.int .i64 (-1), .bool false, .slice none 0 0, .slice none 0 0] 123 := kset (kset (kset (kset KR)))
  have F0 := ZZ.at 0
  have F1 := ZZ.at 1
  have F2 := ZZ.at 2
  have F3 := ZZ.at 3
  simp only [List.getElem?_toArray, List.getElem?_cons_zero, List.getElem?_cons_succ] at F0 F1 F2 F3
  have PR : Below w.heap.size w (((((w3).setCell ⟨w.heap.size, 0, none⟩ (.int .i64 (-1))).setCell ⟨w.heap.size, 1, none⟩ (.bool false)).setCell ⟨w.heap.size, 2, none⟩ (.slice none 0 0)).setCell ⟨w.heap.size, 3, none⟩ (.slice none 0 0)) := pset (pset (pset (pset pr (by omega)) (by omega)) (by omega)) (by omega)
  exact bodyPost_ret (v := .agg #[.int .i64 (-1), .bool false, .slice none 0 0, .slice none 0 0]) (by simp [results, Try.results123, go_sem, F0, F1, F2, F3]) rfl ⟨rfl, PR⟩
set_option maxRecDepth 100000 in
set_option maxHeartbeats 1600000 in
theorem end_fin (n : Nat) (hn : n < 18446744073709551616) (h : rg64 n < 9218868437227405312) (x1 : ((n : Int) == 9218868437227405312) = false) (x2 : ((n : Int) == 18442240474082181120) = false) (w : World) : Calls Try.prog 123 #[.float .f64 n] w fun x w' => (∃ (g : Bool) (p1 : Option Addr) (m1 c1 : Nat) (p2 : Option Addr) (m2 c2 : Nat), x = .returned (.agg #[.int .i64 0, .bool g, .slice p1 m1 c1, .slice p2 m2 c2]) ∧ L.IsQ w' (.agg #[.bool g, .slice p1 m1 c1, .slice p2 m2 c2]) (mkRat (vl64 n) (2 ^ 1074))) ∧ Below w.heap.size w w' := by
  have hb := f64bits n
  have N := number_64 n hn h
  have KR := Blk.new w #[.int .i64 0, .bool false, .slice none 0 0, .slice none 0 0] 123
  have pr : Below w.heap.size w (w.alloc (.cells #[.int .i64 0, .bool false, .slice none 0 0, .slice none 0 0] 123)) := (Below.refl _ _).alloc (Nat.le_refl _) _
  go_enter Try.func123, Try.ntmps123
  go_wp2_with (first
    | (go_at_call 11; go_must (refine (Wide_any _).mono ?_; rintro r w1 ⟨rfl, bb⟩; replace KR := (KR.below bb KR.lt).alloc (.cells #[.int .i64 53, .int .i64 (-1074), .int .i64 971, .int .i64 52] 31); have KZ := Blk.new w1 #[.int .i64 53, .int .i64 (-1074), .int .i64 971, .int .i64 52] 31; replace pr := (bel pr bb).alloc (bel pr bb).size (.cells #[.int .i64 53, .int .i64 (-1074), .int .i64 971, .int .i64 52] 31); clear bb))
    | (go_at_call 60; (with_reducible refine (Infinite_w_pos _).mono ?_); go_must (rintro r w2 ⟨rfl, bb⟩; replace KR := KR.below bb KR.lt; replace KZ := KZ.below bb KZ.lt; replace pr := bel pr bb; clear bb; have z0 : w2.cell? ⟨w1.heap.size, 0, none⟩ = some (.int .i64 53) := KZ.at 0; have z1 : w2.cell? ⟨w1.heap.size, 1, none⟩ = some (.int .i64 (-1074)) := KZ.at 1; have z2 : w2.cell? ⟨w1.heap.size, 2, none⟩ = some (.int .i64 971) := KZ.at 2; have z3 : w2.cell? ⟨w1.heap.size, 3, none⟩ = some (.int .i64 52) := KZ.at 3; have r0 : w2.cell? ⟨w.heap.size, 0, none⟩ = some (.int .i64 0) := KR.at 0; have f0 := KR.free 0; have r1 : w2.cell? ⟨w.heap.size, 1, none⟩ = some (.bool false) := KR.at 1; have f1 := KR.free 1; have r2 : w2.cell? ⟨w.heap.size, 2, none⟩ = some (.slice none 0 0) := KR.at 2; have f2 := KR.free 2; have r3 : w2.cell? ⟨w.heap.size, 3, none⟩ = some (.slice none 0 0) := KR.at 3; have f3 := KR.free 3))
    | (go_at_call 60; (with_reducible refine (Infinite_w_neg _).mono ?_); go_must (rintro r w3 ⟨rfl, bb⟩; replace KR := KR.below bb KR.lt; replace KZ := KZ.below bb KZ.lt; replace pr := bel pr bb; clear bb; have z0 : w3.cell? ⟨w1.heap.size, 0, none⟩ = some (.int .i64 53) := KZ.at 0; have z1 : w3.cell? ⟨w1.heap.size, 1, none⟩ = some (.int .i64 (-1074)) := KZ.at 1; have z2 : w3.cell? ⟨w1.heap.size, 2, none⟩ = some (.int .i64 971) := KZ.at 2; have z3 : w3.cell? ⟨w1.heap.size, 3, none⟩ = some (.int .i64 52) := KZ.at 3; have r0 : w3.cell? ⟨w.heap.size, 0, none⟩ = some (.int .i64 0) := KR.at 0; have f0 := KR.free 0; have r1 : w3.cell? ⟨w.heap.size, 1, none⟩ = some (.bool false) := KR.at 1; have f1 := KR.free 1; have r2 : w3.cell? ⟨w.heap.size, 2, none⟩ = some (.slice none 0 0) := KR.at 2; have f2 := KR.free 2; have r3 : w3.cell? ⟨w.heap.size, 3, none⟩ = some (.slice none 0 0) := KR.at 3; have f3 := KR.free 3))
    | (go_at_call 68; go_must (refine (N _).mono ?_; rintro r w4 ⟨v, rfl, q, bb⟩; obtain ⟨g, p1, m1, c1, p2, m2, c2, rfl, GQ⟩ := L.isq_form q; replace KR := KR.below bb KR.lt; replace pr := bel pr bb; clear bb KZ; have r0 : w4.cell? ⟨w.heap.size, 0, none⟩ = some (.int .i64 0) := KR.at 0; have f0 := KR.free 0; have r1 : w4.cell? ⟨w.heap.size, 1, none⟩ = some (.bool false) := KR.at 1; have f1 := KR.free 1; have r2 : w4.cell? ⟨w.heap.size, 2, none⟩ = some (.slice none 0 0) := KR.at 2; have f2 := KR.free 2; have r3 : w4.cell? ⟨w.heap.size, 3, none⟩ = some (.slice none 0 0) := KR.at 3; have f3 := KR.free 3))
    | fail)
  have ZZ : Blk (((((w4).setCell ⟨w.heap.size, 0, none⟩ (.int .i64 0)).setCell ⟨w.heap.size, 1, none⟩ (.bool g)).setCell ⟨w.heap.size, 2, none⟩ (.slice p1 m1 c1)).setCell ⟨w.heap.size, 3, none⟩ (.slice p2 m2 c2)) w.heap.size #[.int .i64 0, .bool g, .slice p1 m1 c1, .slice p2 m2 c2] 123 := kset (kset (kset (kset KR)))
  have F0 := ZZ.at 0
  have F1 := ZZ.at 1
  have F2 := ZZ.at 2
  have F3 := ZZ.at 3
  simp only [List.getElem?_toArray, List.getElem?_cons_zero, List.getElem?_cons_succ] at F0 F1 F2 F3
  have PR : Below w.heap.size w (((((w4).setCell ⟨w.heap.size, 0, none⟩ (.int .i64 0)).setCell ⟨w.heap.size, 1, none⟩ (.bool g)).setCell ⟨w.heap.size, 2, none⟩ (.slice p1 m1 c1)).setCell ⟨w.heap.size, 3, none⟩ (.slice p2 m2 c2)) := pset (pset (pset (pset pr (by omega)) (by omega)) (by omega)) (by omega)
  exact bodyPost_ret (v := .agg #[.int .i64 0, .bool g, .slice p1 m1 c1, .slice p2 m2 c2]) (by simp [results, Try.results123, go_sem, F0, F1, F2, F3]) rfl ⟨⟨g, p1, m1, c1, p2, m2, c2, rfl, q_put4 KR q⟩, PR⟩
/-- The reference's end, of a float that is no none. -/
theorem end_any (n : Nat) (hn : n < 18446744073709551616) (h : nan64 n = false) (w : World) : Calls Try.prog 123 #[.float .f64 n] w fun x w' => ∃ v, x = .returned v ∧ IsE w' v n ∧ Below w.heap.size w w' := by
  by_cases c1 : n = 9218868437227405312
  · subst c1
    refine (end_up w).mono ?_
    rintro x w' ⟨rfl, b⟩
    exact ⟨_, rfl, ⟨false, none, none, 0, 0, 0, 0, rfl, fun k => by cases k⟩, b⟩
  · by_cases c2 : n = 18442240474082181120
    · subst c2
      refine (end_dn w).mono ?_
      rintro x w' ⟨rfl, b⟩
      exact ⟨_, rfl, ⟨false, none, none, 0, 0, 0, 0, rfl, fun k => by cases k⟩, b⟩
    · have i : infI n = 0 := by unfold infI; rw [if_neg c1, if_neg c2]
      refine (end_fin n hn (fin_of hn h i) (by rw [beq_eq_false_iff_ne]; omega) (by rw [beq_eq_false_iff_ne]; omega) w).mono ?_
      rintro x w' ⟨⟨g, p1, m1, k1, p2, m2, k2, rfl, q⟩, b⟩
      exact ⟨_, rfl, ⟨g, p1, p2, m1, k1, m2, k2, by rw [i], fun _ => q⟩, b⟩
end Go.Proofs.Ytlngkonmalallaa

namespace Go.Proofs.Ytlngkonmalallaa
open Go.RowKit Tn

abbrev env (i : Int) (g : Bool) (a1 : Option Addr) (l1 c1 : Nat) (a2 : Option Addr) (l2 c2 : Nat) : Value := .agg #[.int .i64 i, .bool g, .slice a1 l1 c1, .slice a2 l2 c2]
theorem bel2E (w : World) (x y : Array Value) (s t : TypeId) : Below w.heap.size w ((w.alloc (.cells x s)).alloc (.cells y t)) := ((Below.refl _ _).alloc (Nat.le_refl _) _).alloc (by simp) _
set_option maxRecDepth 100000 in
set_option maxHeartbeats 1600000 in
theorem ECmp_ne (i j : Int) (g : Bool) (a1 : Option Addr) (l1 c1 : Nat) (a2 : Option Addr) (l2 c2 : Nat) (h : Bool) (d1 : Option Addr) (k1 e1 : Nat) (d2 : Option Addr) (k2 e2 : Nat) (s : Bool) (ht : (i != j) = true) (hs : decide (i < j) = s) (w : World) :
    Calls Try.prog 92 #[env i g a1 l1 c1 a2 l2 c2, env j h d1 k1 e1 d2 k2 e2] w fun x w' => x = .returned (.int .i64 (if s = true then -1 else 1)) ∧ Below w.heap.size w w' := by
  cases s
  all_goals
    go_enter Try.func92, Try.ntmps92
    go_wp2_with fail
    go_ret
    exact ⟨rfl, bel2E _ _ _ _ _⟩
set_option maxRecDepth 100000 in
set_option maxHeartbeats 1600000 in
theorem ECmp_inf (i : Int) (g : Bool) (a1 : Option Addr) (l1 c1 : Nat) (a2 : Option Addr) (l2 c2 : Nat) (h : Bool) (d1 : Option Addr) (k1 e1 : Nat) (d2 : Option Addr) (k2 e2 : Nat) (hi : (i != 0) = true) (w : World) :
    Calls Try.prog 92 #[env i g a1 l1 c1 a2 l2 c2, env i h d1 k1 e1 d2 k2 e2] w fun x w' => x = .returned (.int .i64 0) ∧ Below w.heap.size w w' := by
  have ht : (i != i) = false := by simp
  go_enter Try.func92, Try.ntmps92
  go_wp2_with fail
  go_ret
  exact ⟨rfl, bel2E _ _ _ _ _⟩
set_option maxRecDepth 100000 in
set_option maxHeartbeats 1600000 in
theorem ECmp_fin (g : Bool) (a1 : Option Addr) (l1 c1 : Nat) (a2 : Option Addr) (l2 c2 : Nat) (h : Bool) (d1 : Option Addr) (k1 e1 : Nat) (d2 : Option Addr) (k2 e2 : Nat) (r s : Rat) (w : World) (q1 : L.IsQ w (.agg #[.bool g, .slice a1 l1 c1, .slice a2 l2 c2]) r) (q2 : L.IsQ w (.agg #[.bool h, .slice d1 k1 e1, .slice d2 k2 e2]) s) (h1 : L.QS r 100) (h2 : L.QS s 100) :
    Calls Try.prog 92 #[env 0 g a1 l1 c1 a2 l2 c2, env 0 h d1 k1 e1 d2 k2 e2] w fun x w' => x = .returned (.int .i64 (L.cmpR r s)) ∧ Below w.heap.size w w' := by
  have pr := bel2E w #[.int .i64 0, .bool g, .slice a1 l1 c1, .slice a2 l2 c2] #[.int .i64 0, .bool h, .slice d1 k1 e1, .slice d2 k2 e2] 123 123
  have C := L.QCmp_any _ _ r s 100 _ (q1.grow pr) (q2.grow pr) h1 h2 (by decide)
  go_enter Try.func92, Try.ntmps92
  go_wp2_with (first
    | (go_at_call 118; go_must (refine C.mono ?_; rintro r w1 ⟨rfl, bb⟩; replace pr := bel pr bb))
    | fail)
  go_ret
  exact ⟨rfl, pr⟩
theorem key_inf (n : Nat) (hn : n < 18446744073709551616) (h : nan64 n = false) : (infI n = 1 ∧ key64 n = 9218868437227405312) ∨ (infI n = -1 ∧ key64 n = -9218868437227405312) ∨ (infI n = 0 ∧ -9218868437227405312 < key64 n ∧ key64 n < 9218868437227405312) := by
  by_cases c1 : n = 9218868437227405312
  · subst c1; exact Or.inl ⟨by decide, by decide⟩
  · by_cases c2 : n = 18442240474082181120
    · subst c2; exact Or.inr (Or.inl ⟨by decide, by decide⟩)
    · have i : infI n = 0 := by unfold infI; rw [if_neg c1, if_neg c2]
      have f := fin_of hn h i
      refine Or.inr (Or.inr ⟨i, ?_⟩)
      unfold key64
      split <;> omega
/-- The reference's Cmp of two ends. -/
theorem ECmp_any (n m : Nat) (v u : Value) (hn : n < 18446744073709551616) (hm : m < 18446744073709551616) (an : nan64 n = false) (am : nan64 m = false) (w : World) (hv : IsE w v n) (hu : IsE w u m) :
    Calls Try.prog 92 #[v, u] w fun x w' => x = .returned (.int .i64 (L.cmp3 (key64 n) (key64 m))) ∧ Below w.heap.size w w' := by
  obtain ⟨g, a1, a2, l1, c1, l2, c2, rfl, q1⟩ := hv
  obtain ⟨h, d1, d2, k1, e1, k2, e2, rfl, q2⟩ := hu
  have kn := key_inf n hn an
  have km := key_inf m hm am
  by_cases e : infI n = infI m
  · by_cases z : infI n = 0
    · have z2 : infI m = 0 := by omega
      have := ECmp_fin g a1 l1 c1 a2 l2 c2 h d1 k1 e1 d2 k2 e2 _ _ w (q1 z) (q2 z2) (vl_qs n (fin_of hn an z)) (vl_qs m (fin_of hm am z2))
      rw [cmpR_key] at this
      rw [z, z2]
      exact this
    · rw [← e]
      have r : L.cmp3 (key64 n) (key64 m) = 0 := by
        unfold L.cmp3
        rw [if_neg (by omega), if_neg (by omega)]
      rw [r]
      exact ECmp_inf (infI n) g a1 l1 c1 a2 l2 c2 h d1 k1 e1 d2 k2 e2 (by rw [bne_iff_ne]; exact z) w
  · have r : L.cmp3 (key64 n) (key64 m) = if decide (infI n < infI m) = true then -1 else 1 := by
      unfold L.cmp3
      by_cases c : infI n < infI m
      · rw [decide_eq_true c, if_pos rfl, if_pos (by omega)]
      · rw [decide_eq_false c, if_neg (by omega), if_pos (by omega), if_neg (by simp)]
    rw [r]
    exact ECmp_ne (infI n) (infI m) g a1 l1 c1 a2 l2 c2 h d1 k1 e1 d2 k2 e2 _ (by rw [bne_iff_ne]; exact e) rfl w
end Go.Proofs.Ytlngkonmalallaa
