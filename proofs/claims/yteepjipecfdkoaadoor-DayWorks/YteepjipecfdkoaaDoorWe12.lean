import Derived.Test.YteepjipecfdkoaaDoorWe1
namespace Go.Proofs.YteepjipecfdkoaaDoor.Dy
open Go.RowKit Tn
theorem dl_in (f : Nat → Int × Int × Int) (n j : Nat) (u : Value) (h : (dl f n)[j]? = some u) : ∃ i, i < n ∧ (j = i * 3 ∧ u = .int .i64 (f i).1 ∨ j = i * 3 + 1 ∧ u = .int .i64 (f i).2.1 ∨ j = i * 3 + 2 ∧ u = .int .i64 (f i).2.2) := by
  have l := dl_len f n
  have hj : j < n * 3 := by
    by_cases c : j < n * 3
    · exact c
    · rw [List.getElem?_eq_none (by omega)] at h; cases h
  obtain ⟨d0, d1, d2⟩ := dl_get f n (j / 3) (by omega)
  refine ⟨j / 3, by omega, ?_⟩
  have : j = j / 3 * 3 ∨ j = j / 3 * 3 + 1 ∨ j = j / 3 * 3 + 2 := by omega
  rcases this with e | e | e
  · rw [e, d0] at h; exact Or.inl ⟨e, (Option.some.inj h).symm⟩
  · rw [e, d1] at h; exact Or.inr (Or.inl ⟨e, (Option.some.inj h).symm⟩)
  · rw [e, d2] at h; exact Or.inr (Or.inr ⟨e, (Option.some.inj h).symm⟩)
theorem dl_cong {f g : Nat → Int × Int × Int} {n : Nat} (h : ∀ i, i < n → f i = g i) : dl f n = dl g n := by
  induction n with
  | zero => rfl
  | succ n ih => rw [dl, dl, ih (fun i hi => h i (by omega)), h n (by omega)]
/-- append([]api.Date{}, x...). -/
theorem wpList_copy_dates {w : World} {ops : Array Oper} {rest : List Oper} {o : Oper} {a : Act} {Q : Exit → Act → World → Prop} (hgd : o.guard = none) (s x : Operand)
    (ho : o.op = .call { callee := .builtin .append, args := #[s, x], argTypes := #[24, 24] })
    (g0 base : Nat) (cur : Array Value) (hs : a.eval s = .slice (some ⟨g0, 0, none⟩) 0 0) (hg : w.heap[g0]? = some (.cells cur 23 (0, 0))) (hcur : cur.size = 0) (hbg : base ≤ g0)
    (ao : Option Addr) (c n : Nat) (f : Nat → Int × Int × Int) (hx : a.eval x = .slice ao n c) (hno : ao = none → c = 0) (hr : Rs w (.slice ao n c) n f) (hL : n * 24 ≤ 140737488351232) (hbase : base ≤ w.heap.size)
    (h : ∀ v' w', v' ≠ .slice none 0 0 → w'.ownsRow base 23 3 v' n (dl f n) → Below base w w' → wpList Tryd.prog ops Q rest (a.put o.dst v') w') : wpList Tryd.prog ops Q (o :: rest) a w := by
  obtain ⟨i, hi, hz0, hz1, hz2⟩ := info_parts (show (Tryd.prog.info? 23).map (fun i => (i.zero, i.size, i.bytes)) = some (some (.agg #[.int .i64 0, .int .i64 0, .int .i64 0]), 3, 24) by kernel_rfl)
  obtain ⟨a', cap', e', hc⟩ := hr
  obtain ⟨rfl, rfl⟩ : ao = a' ∧ c = cap' := by simpa using e'
  have hown : w.ownsRow base 23 3 (.slice (some ⟨g0, 0, none⟩) 0 0) 0 [] := ⟨rfl, Or.inr ⟨g0, 0, cur, rfl, hbg, hg, Nat.le_refl _, by decide, by simp [hcur], by simp⟩⟩
  by_cases h0 : n = 0
  · subst h0
    refine wpList_append_fits_any w hgd s x 24 ho base 23 i 3 (by kernel_rfl) hi hz1 g0 0 0 [] hs hown ao 0 c [] hx rfl (fun e => ⟨rfl, hno e⟩) (by simp) (by simp) (by simp) fun w' h2 h3 => ?_
    have hbl : Below base w w' := by
      refine ⟨h3.os, h3.tape, h3.output, h3.size, fun k hk => h3.block k (by omega) ?_⟩
      simp; omega
    exact h _ w' (by simp) h2 hbl
  · obtain ⟨b, o', rfl, hcl⟩ := hc (by omega)
    have hnews : ∀ (j : Nat) (u : Value), (dl f n)[j]? = some u → w.cell? ((⟨b, o', none⟩ : Addr).add j) = some u := by
      intro j u hj
      obtain ⟨k, hk, q⟩ := dl_in f n j u hj
      obtain ⟨c0, c1, c2⟩ := hcl k hk
      rw [Addr.add_lit]
      rcases q with ⟨rfl, rfl⟩ | ⟨rfl, rfl⟩ | ⟨rfl, rfl⟩
      · exact c0
      · rw [← Nat.add_assoc]; exact c1
      · rw [← Nat.add_assoc]; exact c2
    refine wpList_append_own w hgd s x 24 ho base 23 i _ 3 24 (by kernel_rfl) hi hz0 hz1 hz2 rfl (by decide) _ 0 [] hs hown ⟨b, o', none⟩ n c (dl f n) hx (dl_len f n) hnews (by intro u hu; obtain ⟨j, hj⟩ := List.getElem?_of_mem hu; obtain ⟨k, _, q⟩ := dl_in f n j u hj; rcases q with ⟨_, rfl⟩ | ⟨_, rfl⟩ | ⟨_, rfl⟩ <;> rfl) (by unfold maxLen; omega) (by omega) hbase fun v' w' h2 h3 h4 => ?_
    have hbl : Below base w w' := by
      refine ⟨h3.os, h3.tape, h3.output, h3.size, fun k hk => h3.block k (by omega) ?_⟩
      simp [Value.ownBlock]; omega
    rw [Nat.zero_add, List.nil_append] at h2
    exact h v' w' (fun e => by have := (h4.1 e).1; simp at this) h2 hbl
/-- append(l, d), of a list of any length. -/
theorem wpList_push_dateL {w : World} {ops : Array Oper} {rest : List Oper} {o : Oper} {a : Act} {Q : Exit → Act → World → Prop} (hgd : o.guard = none) (s x : Operand)
    (ho : o.op = .call { callee := .builtin .append, args := #[s, x], argTypes := #[24, 24] })
    (v : Value) (n : Nat) (f : Nat → Int × Int × Int) (hs : a.eval s = v) (base : Nat) (hown : w.ownsRow base 23 3 v n (dl f n)) (hL : n * 24 ≤ 140737488351232)
    (ad c : Nat) (Y M D : Int) (hf : f n = (Y, M, D)) (hx : a.eval x = .slice (some ⟨ad, 0, none⟩) 1 c) (c0 : w.cell? ⟨ad, 0, none⟩ = some (.int .i64 Y)) (c1 : w.cell? ⟨ad, 1, none⟩ = some (.int .i64 M)) (c2 : w.cell? ⟨ad, 2, none⟩ = some (.int .i64 D)) (hbase : base ≤ w.heap.size)
    (h : ∀ g cap w', base ≤ g → n + 1 ≤ cap → cap ≤ maxLen → Rw w' g cap 0 (n + 1) f → Below base w w' → wpList Tryd.prog ops Q rest (a.put o.dst (.slice (some ⟨g, 0, none⟩) (n + 1) cap)) w') : wpList Tryd.prog ops Q (o :: rest) a w := by
  obtain ⟨i, hi, hz0, hz1, hz2⟩ := info_parts (show (Tryd.prog.info? 23).map (fun i => (i.zero, i.size, i.bytes)) = some (some (.agg #[.int .i64 0, .int .i64 0, .int .i64 0]), 3, 24) by kernel_rfl)
  refine wpList_append_own w hgd s x 24 ho base 23 i _ 3 24 (by kernel_rfl) hi hz0 hz1 hz2 rfl (by decide) v n _ hs hown ⟨ad, 0, none⟩ 1 c [.int .i64 Y, .int .i64 M, .int .i64 D] hx rfl ?_ (by intro u hu; simp at hu; rcases hu with rfl | rfl | rfl <;> rfl) (by unfold maxLen; omega) (by omega) hbase ?_
  · intro j u hj
    match j, hj with
    | 0, hj => simp at hj; subst hj; simpa [Addr.add] using c0
    | 1, hj => simp at hj; subst hj; simpa [Addr.add] using c1
    | 2, hj => simp at hj; subst hj; simpa [Addr.add] using c2
    | j + 3, hj => simp at hj
  · intro v' w' hown' hgr _
    have hd : w'.ownsRow base 23 3 v' (n + 1) (dl f (n + 1)) := by rw [show dl f (n + 1) = dl f n ++ [.int .i64 (f n).1, .int .i64 (f n).2.1, .int .i64 (f n).2.2] from rfl, hf]; exact hown'
    have hb : Below base w w' := by
      refine ⟨hgr.os, hgr.tape, hgr.output, hgr.size, fun k hk => hgr.block k (by omega) ?_⟩
      obtain ⟨_, hr⟩ := hown
      rcases hr with ⟨rfl, _⟩ | ⟨g, cap, cur, rfl, hb, _⟩
      · simp [Value.ownBlock]
      · simp [Value.ownBlock]; omega
    rcases ds_of hd with ⟨_, e⟩ | ⟨g, cap, rfl, a1, a2, a3, a4⟩
    · cases e
    · exact h g cap w' a1 a2 a3 a4 hb
theorem rs_of_rw {W : World} {g cap n m : Nat} {f f' : Nat → Int × Int × Int} (h : Rw W g cap 0 m f') (hm : n ≤ m) (e : ∀ i, i < n → f' i = f i) : Rs W (.slice (some ⟨g, 0, none⟩) n cap) n f := by
  refine ⟨_, cap, rfl, fun _ => ⟨g, 0, rfl, fun i hi => ?_⟩⟩
  have := h.cells (Nat.zero_le i) (show i < m by omega)
  rw [e i hi] at this
  rw [Nat.zero_add]
  exact this
end Go.Proofs.YteepjipecfdkoaaDoor.Dy
