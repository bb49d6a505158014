import Derived.Test.YtbfaebaoekimhaaVf3
namespace Go.Proofs.Ytbfaebaoekimhaa.Vf
open Go.RowKit Tn

/-- The cells of a list of payments. -/
def fc : List (Int × Int) → List Value
  | [] => []
  | p :: l => .int .i64 p.1 :: .int .i64 p.2 :: fc l
theorem fc_app (l : List (Int × Int)) (t a : Int) : fc (l ++ [(t, a)]) = fc l ++ [.int .i64 t, .int .i64 a] := by
  induction l with
  | nil => rfl
  | cons p l ih => simp [fc, ih]
theorem fc_len (l : List (Int × Int)) : (fc l).length = l.length * 2 := by
  induction l with
  | nil => rfl
  | cons p l ih => simp [fc, ih]; omega
theorem fc_get (l : List (Int × Int)) (i : Nat) (p : Int × Int) (h : l[i]? = some p) : (fc l)[i * 2]? = some (.int .i64 p.1) ∧ (fc l)[i * 2 + 1]? = some (.int .i64 p.2) := by
  induction l generalizing i with
  | nil => simp at h
  | cons q l ih =>
    cases i with
    | zero => simp at h; subst h; exact ⟨rfl, rfl⟩
    | succ i =>
      have := ih i (by simpa using h)
      rw [show (i + 1) * 2 = i * 2 + 1 + 1 by omega]
      simpa [fc] using this
/-- One payment, or none. -/
def opt (t a : Int) : List (Int × Int) := if 0 < a then [(t, a)] else []
/-- What lies where, but for a row of payments and its variable. -/
structure Adds (bx : Nat) (W W' : World) : Prop where
  below : Below bx W W'
  other : ∀ k, k < W.heap.size → k ≠ bx → (∀ c, W.heap[k]? ≠ some (.cells c 34 (0, 0))) → W'.heap[k]? = W.heap[k]?
theorem Adds.refl (bx : Nat) (W : World) : Adds bx W W := ⟨Below.refl _ _, fun _ _ _ _ => rfl⟩
theorem Adds.blk {bx : Nat} {W W' : World} (h : Adds bx W W') {n : Nat} {c : Array Value} {t : TypeId} (b : Blk W n c t) (hn : n ≠ bx) (ht : t ≠ 34) : Blk W' n c t := by
  have b' : W.heap[n]? = some (.cells c t (0, 0)) := b
  refine (h.other n b.lt hn fun d e => ?_).trans b
  rw [b'] at e
  injection e with e
  injection e with e1 e2
  exact ht e2
/-- The list of payments as its variable holds it. -/
def St (W : World) (bx : Nat) (l : List (Int × Int)) : Prop := ∃ v, Blk W bx #[v] 25 ∧ W.ownsRow (bx + 1) 34 2 v l.length (fc l)
theorem St.blk {W : World} {bx : Nat} {l : List (Int × Int)} (h : St W bx l) : ∃ v, W.cell? ⟨bx, 0, none⟩ = some v := by
  obtain ⟨v, b, _⟩ := h
  exact ⟨v, b.at 0⟩
theorem own_grow {W W' : World} {base n : Nat} {v : Value} {xs : List Value} (h : W.ownsRow base 34 2 v n xs) (k : Below W.heap.size W W') : W'.ownsRow base 34 2 v n xs := by
  obtain ⟨h0, h⟩ := h
  refine ⟨h0, ?_⟩
  rcases h with h | ⟨g, cap, cur, h1, h2, h3, h4⟩
  · exact Or.inl h
  · exact Or.inr ⟨g, cap, cur, h1, h2, (k.block g (Own.lt ⟨cur, _, h3⟩)).trans h3, h4⟩
theorem own_set {W : World} {base n b i : Nat} {v u : Value} {xs : List Value} (h : W.ownsRow base 34 2 v n xs) (hb : b < base) : (W.setCell ⟨b, i, none⟩ u).ownsRow base 34 2 v n xs := by
  obtain ⟨h0, h⟩ := h
  refine ⟨h0, ?_⟩
  rcases h with h | ⟨g, cap, cur, h1, h2, h3, h4⟩
  · exact Or.inl h
  · refine Or.inr ⟨g, cap, cur, h1, h2, ?_, h4⟩
    rw [← h3]
    show (W.setCell ⟨b, i, none⟩ u).heap[g]? = _
    simp [World.setCell, Array.getElem?_modify, show b ≠ g by omega]
theorem St.grow {W W' : World} {bx : Nat} {l : List (Int × Int)} (h : St W bx l) (k : Below W.heap.size W W') : St W' bx l := by
  obtain ⟨v, b, r⟩ := h
  exact ⟨v, b.below k b.lt, own_grow r k⟩
/-- append(s, p). -/
theorem push_flow {w : World} {ops : Array Oper} {rest : List Oper} {o : Oper} {a : Act} {Q : Exit → Act → World → Prop} (hgd : o.guard = none) (s x : Operand)
    (ho : o.op = .call { callee := .builtin .append, args := #[s, x], argTypes := #[25, 25] })
    (v : Value) (l : List (Int × Int)) (hs : a.eval s = v) (base : Nat) (hown : w.ownsRow base 34 2 v l.length (fc l)) (hL : l.length ≤ 4096)
    (ad c : Nat) (t m : Int) (hx : a.eval x = .slice (some ⟨ad, 0, none⟩) 1 c) (c0 : w.cell? ⟨ad, 0, none⟩ = some (.int .i64 t)) (c1 : w.cell? ⟨ad, 1, none⟩ = some (.int .i64 m)) (hbase : base ≤ w.heap.size)
    (h : ∀ v' w', w'.ownsRow base 34 2 v' (l ++ [(t, m)]).length (fc (l ++ [(t, m)])) → Below base w w' → (∀ k, k < w.heap.size → (∀ c, w.heap[k]? ≠ some (.cells c 34 (0, 0))) → w'.heap[k]? = w.heap[k]?) → wpList Try.prog ops Q rest (a.put o.dst v') w') : wpList Try.prog ops Q (o :: rest) a w := by
  obtain ⟨i, hi, hz⟩ : ∃ i, Try.prog.info? 34 = some i ∧ (i.zero, i.size, i.bytes) = (some (.agg #[.int .i64 0, .int .i64 0]), 2, 16) := by
    have h : (Try.prog.info? 34).map (fun i => (i.zero, i.size, i.bytes)) = some (some (.agg #[.int .i64 0, .int .i64 0]), 2, 16) := by kernel_rfl
    cases hh : Try.prog.info? 34 with
    | none => rw [hh] at h; cases h
    | some i => rw [hh] at h; exact ⟨i, rfl, Option.some.inj h⟩
  obtain ⟨hz0, hz1, hz2⟩ : i.zero = some (.agg #[.int .i64 0, .int .i64 0]) ∧ i.size = 2 ∧ i.bytes = 16 := by
    injection hz with a1 a2; injection a2 with a2 a3; exact ⟨a1, a2, a3⟩
  refine wpList_append_own w hgd s x 25 ho base 34 i _ 2 16 (by kernel_rfl) hi hz0 hz1 hz2 rfl (by decide) v l.length _ hs hown ⟨ad, 0, none⟩ 1 c [.int .i64 t, .int .i64 m] hx rfl ?_ (by intro u hu; simp at hu; rcases hu with rfl | rfl <;> rfl) (by unfold maxLen; omega) (by omega) hbase ?_
  · intro j u hj
    match j, hj with
    | 0, hj => simp at hj; subst hj; simpa [Addr.add] using c0
    | 1, hj => simp at hj; subst hj; simpa [Addr.add] using c1
    | j + 2, hj => simp at hj
  · intro v' w' hown' hgr _
    refine h v' w' (by rw [fc_app, show (l ++ [(t, m)]).length = l.length + 1 by simp]; exact hown') ⟨hgr.os, hgr.tape, hgr.output, hgr.size, fun k hk => hgr.block k (by omega) ?_⟩ (fun k hk hc => hgr.block k hk ?_)
    · obtain ⟨_, hr⟩ := hown
      rcases hr with ⟨rfl, _⟩ | ⟨g, cap, cur, rfl, hb, _⟩
      · simp [Value.ownBlock]
      · simp [Value.ownBlock]; omega
    · obtain ⟨_, hr⟩ := hown
      rcases hr with ⟨rfl, _⟩ | ⟨g, cap, cur, rfl, hb, h3, _⟩
      · simp [Value.ownBlock]
      · simp only [Value.ownBlock, ne_eq, Option.some.injEq]
        intro e
        subst e
        exact hc _ h3
theorem own_sl {W : World} {base n : Nat} {v : Value} {xs : List Value} (h : W.ownsRow base 34 2 v n xs) : ∃ ad l c, v = .slice ad l c := by
  obtain ⟨_, h⟩ := h
  rcases h with ⟨h, _⟩ | ⟨g, cap, cur, h1, _⟩
  · exact ⟨_, _, _, h⟩
  · exact ⟨_, _, _, h1⟩
set_option maxRecDepth 100000 in
set_option maxHeartbeats 1600000 in
/-- add(time, amount). -/
theorem add_c (t a : Int) (l : List (Int × Int)) (bx : Nat) (w : World) (S : St w bx l) (hl : l.length ≤ 4096) :
    Calls Try.prog 9 #[.int .i64 t, .int .i64 a, .pointer (some ⟨bx, 0, none⟩)] w fun e w' => e = .returned (.tuple #[]) ∧ St w' bx (l ++ opt t a) ∧ Adds bx w w' := by
  unfold opt
  by_cases h : 0 < a
  · rw [if_pos h]
    obtain ⟨v, b, r⟩ := S
    have q0 := b.at 0
    have y0 := b.free 0
    have bl0 := b.lt
    simp at q0
    go_enter Try.func9, Try.ntmps9
    go_wp2_with (first
      | (at_builtin; (refine push_flow rfl _ _ rfl _ l rfl (bx + 1) (own_grow r (bl _ _)) hl _ _ t a rfl (by simp) (by simp) (by simp; omega) ?_); (intro v' w1 r1 b1 o1); (obtain ⟨ad, ln, cp, rfl⟩ := own_sl r1); (have bA := @bl w #[.int .i64 t, .int .i64 a] 34); (have K1 := (b.alloc (.cells #[.int .i64 t, .int .i64 a] 34)).below b1 (by omega)); (have q1 := K1.at 0); (have y1 := K1.free 0); (simp at q1))
      | fail)
    have K2 := bput K1 0 (.slice ad ln cp)
    have r2 := own_set (b := bx) (i := 0) (u := .slice ad ln cp) r1 (by omega)
    go_end0
    refine ⟨rfl, ⟨_, by simpa using K2, r2⟩, ?_, ?_⟩
    · exact (show Below bx w w1 from (Below.mono bA (by omega)).trans (Below.mono b1 (by omega))).setCell (p := ⟨bx, 0, none⟩) (Nat.le_refl _) (.slice ad ln cp)
    · intro k hk nb nt
      have e1 : (w.alloc (.cells #[.int .i64 t, .int .i64 a] 34)).heap[k]? = w.heap[k]? := bA.block k hk
      have e2 := o1 k (by have := bA.size; omega) (fun c hc => nt c (by rw [← e1]; exact hc))
      rw [← e1, ← e2]
      show (w1.setCell ⟨bx, 0, none⟩ (.slice ad ln cp)).heap[k]? = _
      simp [World.setCell, Array.getElem?_modify, Ne.symm nb]
  · rw [if_neg h, List.append_nil]
    go_enter Try.func9, Try.ntmps9
    go_wp2_with fail
    go_end0
    exact ⟨rfl, S, Adds.refl _ _⟩
end Go.Proofs.Ytbfaebaoekimhaa.Vf
