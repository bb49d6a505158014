import Derived.Test.YtbfaebaoekimhaaVf4
namespace Go.Proofs.Ytbfaebaoekimhaa.Vf
open Go.RowKit Tn

theorem unsure_c (K W T S : Int) (w : World) (hW : 0 ≤ W ∧ W ≤ 130) (hT : 0 ≤ T ∧ T ≤ 130) (hS : 0 ≤ S ∧ S ≤ 130) :
    Calls Try.prog 12 #[bn K W T S] w fun e w' => e = .returned (bn K (W + S) (T - S) 0) ∧ Below w.heap.size w w' := by
  have K0 := Bb.new w K W T S
  have pr := bl (w := w) #[.int .i64 K, .int .i64 W, .int .i64 T, .int .i64 S] 23
  have q0 := K0.c0
  have q1 := K0.c1
  have q2 := K0.c2
  have q3 := K0.c3
  have e1 : IntKind.i64.wrap (W + S) = W + S := wrapI _ (by omega) (by omega)
  have e2 : IntKind.i64.wrap (T - S) = T - S := wrapI _ (by omega) (by omega)
  clear hW hT hS
  unfold bn
  go_enter Try.func12, Try.ntmps12
  go_wp2_with fail
  have V := Blk.new (w.alloc (.cells #[.int .i64 K, .int .i64 W, .int .i64 T, .int .i64 S] 23)) #[.int .i64 K, .int .i64 (W + S), .int .i64 (T - S), .int .i64 0] 23
  have pw := belT pr (bl #[.int .i64 K, .int .i64 (W + S), .int .i64 (T - S), .int .i64 0] 23)
  simp only [World.size_alloc] at V
  have z0 := V.at 0
  have z1 := V.at 1
  have z2 := V.at 2
  have z3 := V.at 3
  simp only [List.getElem?_toArray, List.getElem?_cons_zero, List.getElem?_cons_succ] at z0 z1 z2 z3
  exact bodyPost_ret (v := .agg #[.int .i64 K, .int .i64 (W + S), .int .i64 (T - S), .int .i64 0]) (by simp [results, Try.results12, go_sem, z0, z1, z2, z3]) rfl ⟨rfl, pw⟩
/-- A row of times. -/
def Tm (W : World) (g n : Nat) (first : Int) (i : Nat) : Prop := ∃ cs : Array Value, Blk W g cs 3 ∧ cs.size = n ∧ ∀ j, j < i → cs[j]? = some (.int .i64 (first + (j : Int)))
theorem Tm.grow {W W' : World} {g n i : Nat} {t : Int} (h : Tm W g n t i) (k : Below W.heap.size W W') : Tm W' g n t i := by
  obtain ⟨cs, b, r⟩ := h
  exact ⟨cs, b.below k b.lt, r⟩
theorem Tm.adds {W W' : World} {g n i bx : Nat} {t : Int} (h : Tm W g n t i) (k : Adds bx W W') (hn : g ≠ bx) : Tm W' g n t i := by
  obtain ⟨cs, b, r⟩ := h
  exact ⟨cs, k.blk b hn (by decide), r⟩
theorem Tm.put {W : World} {g n i : Nat} {t : Int} (h : Tm W g n t i) (hi : i < n) : Tm (W.setCell ⟨g, i, none⟩ (.int .i64 (t + (i : Int)))) g n t (i + 1) := by
  obtain ⟨cs, b, s, r⟩ := h
  refine ⟨_, bput b i _, by simp [s], fun j hj => ?_⟩
  rw [Array.getElem?_setIfInBounds]
  by_cases e : i = j
  · subst e; simp [s, hi]
  · rw [if_neg e]; exact r j (by omega)
/-- make([]int, n). -/
theorem make_times {w : World} {ops : Array Oper} {rest : List Oper} {o : Oper} {a : Act} {Q : Exit → Act → World → Prop} (hg : o.guard = none) (l c : Operand) (hop : o.op = Op.makeSlice 37 l c)
    (n : Nat) (hl : a.eval l = .int .i64 (n : Int)) (hc : a.eval c = .int .i64 (n : Int)) (hn : n ≤ 4096)
    (hK : ∀ w', (∀ t, Tm w' w.heap.size n t 0) → (∀ i, i < n → ∃ v, w'.cell? ⟨w.heap.size, i, none⟩ = some v) → Below w.heap.size w w' → wpList Try.prog ops Q rest (a.put o.dst (.slice (some ⟨w.heap.size, 0, none⟩) n n)) w') : wpList Try.prog ops Q (o :: rest) a w := by
  obtain ⟨i, hi, hz⟩ : ∃ i, Try.prog.info? 3 = some i ∧ (i.zero, i.size, i.bytes) = (some (.int .i64 0), 1, 8) := by
    have h : (Try.prog.info? 3).map (fun i => (i.zero, i.size, i.bytes)) = some (some (.int .i64 0), 1, 8) := by kernel_rfl
    cases hh : Try.prog.info? 3 with
    | none => rw [hh] at h; cases h
    | some i => rw [hh] at h; exact ⟨i, rfl, Option.some.inj h⟩
  obtain ⟨hz0, hz1, hz2⟩ : i.zero = some (.int .i64 0) ∧ i.size = 1 ∧ i.bytes = 8 := by
    injection hz with a1 a2; injection a2 with a2 a3; exact ⟨a1, a2, a3⟩
  refine wpList_make_full w hg l c 37 hop w.heap.size 3 i _ 1 (by kernel_rfl) hi hz0 hz1 .i64 .i64 _ _ n hl hc rfl rfl (by rw [hz2]; omega) (by unfold maxLen; omega) (Nat.le_refl _) ?_
  intro w' own gr
  obtain ⟨_, hr⟩ := own
  have key : ∃ cur : Array Value, Blk w' w.heap.size cur 3 ∧ cur.size = n := by
    rcases hr with ⟨h1, _⟩ | ⟨g, cap, cur, h1, _, h2, h3, _, h4, _⟩
    · cases h1
    · simp only [Value.slice.injEq, Option.some.injEq, Addr.mk.injEq] at h1
      obtain ⟨⟨rfl, _⟩, _, rfl⟩ := h1
      exact ⟨cur, h2, by omega⟩
  obtain ⟨cur, b, s⟩ := key
  refine hK w' (fun f => ⟨cur, b, s, fun j hj => absurd hj (by omega)⟩) (fun i hi => ⟨cur[i]'(by omega), (b.at i).trans (Array.getElem?_eq_getElem (by omega))⟩) ⟨gr.os, gr.tape, gr.output, gr.size, fun k hk => gr.block k hk (by simp)⟩
/-- The first of the times that are sure. -/
def fst' (K W : Int) : Int := if K = 5 then W + 1 else W
set_option maxRecDepth 100000 in
set_option maxHeartbeats 1600000 in
theorem sure_w (K W T : Int) (n : Nat) (F : Int) (w : World) (hW : 0 ≤ W ∧ W ≤ 130) (hn : n ≤ 130) (k5 : (K = 5 ∧ F = W + 1) ∨ (¬ K = 5 ∧ F = W)) :
    Calls Try.prog 10 #[bn K W T (n : Int)] w fun e w' => ∃ g, e = .returned (.slice (some ⟨g, 0, none⟩) n n) ∧ w.heap.size ≤ g ∧ Tm w' g n F n ∧ Below w.heap.size w w' := by
  have K0 := Bb.new w K W T (n : Int)
  have pr := bl (w := w) #[.int .i64 K, .int .i64 W, .int .i64 T, .int .i64 (n : Int)] 23
  have q0 := K0.c0
  have q1 := K0.c1
  have q3 := K0.c3
  have HB : Hid (0 ≤ F ∧ F ≤ 131 ∧ n ≤ 130) := by show _ ∧ _ ∧ _; omega
  have e1 : Hid (IntKind.i64.wrap (W + 1) = W + 1) := wrapI _ (by omega) (by omega)
  have hn0 : (0 : Int) ≤ (n : Int) := by omega
  clear hW
  unfold bn
  rcases k5 with ⟨rfl, rfl⟩ | ⟨h5, rfl⟩
  rotate_left
  · have e5 : (K == 5) = false := beq_eq_false_iff_ne.2 h5
    go_enter Try.func10, Try.ntmps10
    go_wp2_with (first
      | (at_make; (refine make_times rfl _ _ rfl n rfl rfl (by have := HB.out; omega) ?_); (intro w1 T1 U1 b1); (have K1 := K0.grow b1); (have q3 := K1.c3); (have p1 := belT pr b1))
      | fail)
    simp only [World.size_alloc] at T1 U1 b1
    have lo : w.heap.size ≤ w.heap.size + 1 := by omega
    clear q0 q1 K0 pr e5 b1 K1
    generalize w.heap.size + 1 = g at *
    go_loopw [18] (fun t wr => ∃ i : Nat, i ≤ n ∧ t = .int .i64 (i : Int) ∧ Tm wr g n F i ∧ Below w.heap.size w wr ∧ (∀ i, i < n → ∃ v, wr.cell? ⟨g, i, none⟩ = some v)) (fun t _ => ((n : Int) - RowKit.intOf t).toNat)
    case atStart => exact ⟨0, by omega, rfl, T1 _, p1, U1⟩
    case round =>
      clear T1 p1 U1
      obtain ⟨i, hi, rfl, T1, p1, U1⟩ := hrel
      by_cases lt : i < n
      · obtain ⟨j, hj⟩ : ∃ j, i + 1 = j := ⟨_, rfl⟩
        have y1 : IntKind.i64.wrap ((i : Int) + 1) = (j : Int) := by rw [show (i : Int) + 1 = (j : Int) by omega]; exact wrapI _ (by omega) (by omega)
        have y2 := wrapI (F + (i : Int)) (by have := HB.out; omega) (by have := HB.out; omega)
        have i1 : (0 : Int) ≤ (i : Int) := by omega
        have i2 : ((i : Int)).toNat = i := by omega
        have i3 : (i : Int) < (n : Int) := by omega
        obtain ⟨v, hv⟩ := U1 i lt
        have fr : wr.frozen? ⟨g, i, none⟩ = false := by obtain ⟨cs, b, _⟩ := T1; exact b.free i
        have T2 := T1.put lt
        have p2 := p1.setCell (p := ⟨g, i, none⟩) lo (.int .i64 (F + (i : Int)))
        have U2 : ∀ k, k < n → ∃ v, (wr.setCell ⟨g, i, none⟩ (.int .i64 (F + (i : Int)))).cell? ⟨g, k, none⟩ = some v := by
          obtain ⟨cs, b, s, _⟩ := T2
          intro k hk
          exact ⟨cs[k]'(by omega), (b.at k).trans (Array.getElem?_eq_getElem (by omega))⟩
        have HJ : Hid (i + 1 = j) := hj
        clear T1 p1 U1 lt hi hj
        go_wp2_with fail
        go_roundw
        case rel => exact ⟨j, by have := HJ.out; omega, rfl, by rw [← HJ.out]; exact T2, p2, U2⟩
        case measure => simp [RowKit.intOf]; have := HJ.out; omega
      · obtain rfl : i = n := by omega
        clear U1
        go_wp2_with fail
        go_ret
        exact ⟨g, rfl, lo, T1, p1⟩
  · have e5 := e1.out
    go_enter Try.func10, Try.ntmps10
    go_wp2_with (first
      | (at_make; (refine make_times rfl _ _ rfl n rfl rfl (by have := HB.out; omega) ?_); (intro w1 T1 U1 b1); (have K1 := K0.grow b1); (have q3 := K1.c3); (have p1 := belT pr b1))
      | fail)
    simp only [World.size_alloc] at T1 U1 b1
    have lo : w.heap.size ≤ w.heap.size + 1 := by omega
    clear q0 q1 K0 pr e5 b1 K1
    generalize w.heap.size + 1 = g at *
    go_loopw [18] (fun t wr => ∃ i : Nat, i ≤ n ∧ t = .int .i64 (i : Int) ∧ Tm wr g n (W + 1) i ∧ Below w.heap.size w wr ∧ (∀ i, i < n → ∃ v, wr.cell? ⟨g, i, none⟩ = some v)) (fun t _ => ((n : Int) - RowKit.intOf t).toNat)
    case atStart => exact ⟨0, by omega, rfl, T1 _, p1, U1⟩
    case round =>
      clear T1 p1 U1
      obtain ⟨i, hi, rfl, T1, p1, U1⟩ := hrel
      by_cases lt : i < n
      · obtain ⟨j, hj⟩ : ∃ j, i + 1 = j := ⟨_, rfl⟩
        have y1 : IntKind.i64.wrap ((i : Int) + 1) = (j : Int) := by rw [show (i : Int) + 1 = (j : Int) by omega]; exact wrapI _ (by omega) (by omega)
        have y2 := wrapI (W + 1 + (i : Int)) (by have := HB.out; omega) (by have := HB.out; omega)
        have i1 : (0 : Int) ≤ (i : Int) := by omega
        have i2 : ((i : Int)).toNat = i := by omega
        have i3 : (i : Int) < (n : Int) := by omega
        obtain ⟨v, hv⟩ := U1 i lt
        have fr : wr.frozen? ⟨g, i, none⟩ = false := by obtain ⟨cs, b, _⟩ := T1; exact b.free i
        have T2 := T1.put lt
        have p2 := p1.setCell (p := ⟨g, i, none⟩) lo (.int .i64 (W + 1 + (i : Int)))
        have U2 : ∀ k, k < n → ∃ v, (wr.setCell ⟨g, i, none⟩ (.int .i64 (W + 1 + (i : Int)))).cell? ⟨g, k, none⟩ = some v := by
          obtain ⟨cs, b, s, _⟩ := T2
          intro k hk
          exact ⟨cs[k]'(by omega), (b.at k).trans (Array.getElem?_eq_getElem (by omega))⟩
        have HJ : Hid (i + 1 = j) := hj
        clear T1 p1 U1 lt hi hj
        go_wp2_with fail
        go_roundw
        case rel => exact ⟨j, by have := HJ.out; omega, rfl, by rw [← HJ.out]; exact T2, p2, U2⟩
        case measure => simp [RowKit.intOf]; have := HJ.out; omega
      · obtain rfl : i = n := by omega
        clear U1
        go_wp2_with fail
        go_ret
        exact ⟨g, rfl, lo, T1, p1⟩
end Go.Proofs.Ytbfaebaoekimhaa.Vf
