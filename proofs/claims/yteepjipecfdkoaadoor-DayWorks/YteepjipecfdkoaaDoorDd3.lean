import Derived.Test.YteepjipecfdkoaaDoorDd2
namespace Go.Proofs.YteepjipecfdkoaaDoor.Dy
open Go.RowKit Tn
/-- The cells of a row of dates. -/
def dl (f : Nat → Int × Int × Int) : Nat → List Value
  | 0 => []
  | n + 1 => dl f n ++ [.int .i64 (f n).1, .int .i64 (f n).2.1, .int .i64 (f n).2.2]
theorem dl_len (f : Nat → Int × Int × Int) (n : Nat) : (dl f n).length = n * 3 := by
  induction n with
  | zero => rfl
  | succ n ih => simp [dl, ih]; omega
theorem dl_get (f : Nat → Int × Int × Int) (n i : Nat) (h : i < n) : (dl f n)[i * 3]? = some (.int .i64 (f i).1) ∧ (dl f n)[i * 3 + 1]? = some (.int .i64 (f i).2.1) ∧ (dl f n)[i * 3 + 2]? = some (.int .i64 (f i).2.2) := by
  induction n with
  | zero => omega
  | succ n ih =>
    by_cases c : i = n
    · subst c
      have l := dl_len f i
      refine ⟨?_, ?_, ?_⟩
      · rw [show dl f (i + 1) = dl f i ++ [.int .i64 (f i).1, .int .i64 (f i).2.1, .int .i64 (f i).2.2] from rfl, List.getElem?_append_right (by omega), l]; simp
      · rw [show dl f (i + 1) = dl f i ++ [.int .i64 (f i).1, .int .i64 (f i).2.1, .int .i64 (f i).2.2] from rfl, List.getElem?_append_right (by omega), l]; simp
      · rw [show dl f (i + 1) = dl f i ++ [.int .i64 (f i).1, .int .i64 (f i).2.1, .int .i64 (f i).2.2] from rfl, List.getElem?_append_right (by omega), l]; simp
    · have l := dl_len f n
      have := ih (by omega)
      rw [show dl f (n + 1) = dl f n ++ [.int .i64 (f n).1, .int .i64 (f n).2.1, .int .i64 (f n).2.2] from rfl, List.getElem?_append_left (by omega), List.getElem?_append_left (by omega), List.getElem?_append_left (by omega)]
      exact this
/-- A list of dates, of a call's own. -/
def Ds (W : World) (base : Nat) (v : Value) (n : Nat) (f : Nat → Int × Int × Int) : Prop :=
  (v = .slice none 0 0 ∧ n = 0) ∨ ∃ g cap, v = .slice (some ⟨g, 0, none⟩) n cap ∧ base ≤ g ∧ n ≤ cap ∧ cap ≤ maxLen ∧ Rw W g cap 0 n f
theorem ds_of {W : World} {base : Nat} {v : Value} {n : Nat} {f : Nat → Int × Int × Int} (h : W.ownsRow base 23 3 v n (dl f n)) : Ds W base v n f := by
  obtain ⟨_, h⟩ := h
  rcases h with h | ⟨g, cap, cur, h1, h2, h3, h4, h5, h6, h7⟩
  · exact Or.inl h
  · refine Or.inr ⟨g, cap, h1, h2, h4, h5, cur, h3, h6, h4, fun i _ hi => ?_⟩
    have d := dl_get f n i hi
    have e : ∀ j, j < n * 3 → cur[j]? = (dl f n)[j]? := fun j hj => by
      rw [← h7, List.getElem?_take_of_lt hj, Array.getElem?_toList]
    rw [e _ (by omega), e _ (by omega), e _ (by omega)]
    exact d
/-- append(l, d). -/
theorem wpList_push_date {w : World} {ops : Array Oper} {rest : List Oper} {o : Oper} {a : Act} {Q : Exit → Act → World → Prop} (hgd : o.guard = none) (s x : Operand)
    (ho : o.op = .call { callee := .builtin .append, args := #[s, x], argTypes := #[24, 24] })
    (v : Value) (n : Nat) (f : Nat → Int × Int × Int) (hs : a.eval s = v) (base : Nat) (hown : w.ownsRow base 23 3 v n (dl f n)) (hL : n ≤ 4096)
    (ad c : Nat) (Y M D : Int) (hf : f n = (Y, M, D)) (hx : a.eval x = .slice (some ⟨ad, 0, none⟩) 1 c) (c0 : w.cell? ⟨ad, 0, none⟩ = some (.int .i64 Y)) (c1 : w.cell? ⟨ad, 1, none⟩ = some (.int .i64 M)) (c2 : w.cell? ⟨ad, 2, none⟩ = some (.int .i64 D)) (hbase : base ≤ w.heap.size)
    (h : ∀ v' w', w'.ownsRow base 23 3 v' (n + 1) (dl f (n + 1)) → Below base w w' → wpList Tryd.prog ops Q rest (a.put o.dst v') w') : wpList Tryd.prog ops Q (o :: rest) a w := by
  obtain ⟨i, hi, hz0, hz1, hz2⟩ := info_parts (show (Tryd.prog.info? 23).map (fun i => (i.zero, i.size, i.bytes)) = some (some (.agg #[.int .i64 0, .int .i64 0, .int .i64 0]), 3, 24) by kernel_rfl)
  refine wpList_append_own w hgd s x 24 ho base 23 i _ 3 24 (by kernel_rfl) hi hz0 hz1 hz2 rfl (by decide) v n _ hs hown ⟨ad, 0, none⟩ 1 c [.int .i64 Y, .int .i64 M, .int .i64 D] hx rfl ?_ (by intro u hu; simp at hu; rcases hu with rfl | rfl | rfl <;> rfl) (by unfold maxLen; omega) (by omega) hbase ?_
  · intro j u hj
    match j, hj with
    | 0, hj => simp at hj; subst hj; simpa [Addr.add] using c0
    | 1, hj => simp at hj; subst hj; simpa [Addr.add] using c1
    | 2, hj => simp at hj; subst hj; simpa [Addr.add] using c2
    | j + 3, hj => simp at hj
  · intro v' w' hown' hgr _
    refine h v' w' (by rw [show dl f (n + 1) = dl f n ++ [.int .i64 (f n).1, .int .i64 (f n).2.1, .int .i64 (f n).2.2] from rfl, hf]; exact hown') ⟨hgr.os, hgr.tape, hgr.output, hgr.size, fun k hk => hgr.block k (by omega) ?_⟩
    obtain ⟨_, hr⟩ := hown
    rcases hr with ⟨rfl, _⟩ | ⟨g, cap, cur, rfl, hb, _⟩
    · simp [Value.ownBlock]
    · simp [Value.ownBlock]; omega
theorem own_bel {W W' : World} {base n : Nat} {v : Value} {xs : List Value} (h : W.ownsRow base 23 3 v n xs) (k : Below W.heap.size W W') : W'.ownsRow base 23 3 v n xs := by
  obtain ⟨h0, h⟩ := h
  refine ⟨h0, ?_⟩
  rcases h with h | ⟨g, cap, cur, h1, h2, h3, h4⟩
  · exact Or.inl h
  · exact Or.inr ⟨g, cap, cur, h1, h2, (k.block g (Own.lt ⟨cur, _, h3⟩)).trans h3, h4⟩
end Go.Proofs.YteepjipecfdkoaaDoor.Dy
