import Derived.Test.YtebilgnmnambnaaGreatDoorPart02

namespace Go.Proofs.YtebilgnmnambnaaGreatDoor
open Go.RowKit Tn
def OwnN (w : World) (b n : Nat) : Prop := ∃ c, w.heap[b]? = some (.cells c 87 (0, 0)) ∧ c.size = n
theorem OwnN.own {w : World} {b n : Nat} (h : OwnN w b n) : Own w b := by obtain ⟨c, e, _⟩ := h; exact ⟨c, _, e⟩
theorem OwnN.wr {w w' : World} {b n b' o m : Nat} (h : OwnN w b n) (k : Wr b' o m w w') : OwnN w' b n := by
  have hb := h.own.lt
  obtain ⟨c, e, hs⟩ := h
  by_cases e' : b = b'
  · subst e'; obtain ⟨c', e1, hs'⟩ := k.own c _ _ e; exact ⟨c', e1, hs'.trans hs⟩
  · exact ⟨c, (k.block b hb e').trans e, hs⟩
theorem OwnN.grow {w w' : World} {b n : Nat} (h : OwnN w b n) (k : Below w.heap.size w w') : OwnN w' b n := by
  have hb := h.own.lt
  obtain ⟨c, e, hs⟩ := h
  exact ⟨c, (k.block b hb).trans e, hs⟩
theorem OwnN.drew {w : World} {b n : Nat} (h : OwnN w b n) : OwnN w.drew b n := h
theorem OwnN.put {w : World} {b n m : Nat} {v : Value} (h : OwnN w b n) : OwnN (w.setCell ⟨m, 0, none⟩ v) b n :=
  h.wr ((Wr.refl m 0 1 w).setCell 0 (by omega) v)
theorem wpList_make_wordsN {w : World} {ops : Array Oper} {rest : List Oper} {o : Oper} {a : Act} {Q : Exit → Act → World → Prop}
    (hg : o.guard = none) (l c : Operand) (hop : o.op = Op.makeSlice 63 l c) (n : Nat) (L C : Int) (hl : a.eval l = .int .i64 L) (hc : a.eval c = .int .i64 C) (hL : L = (n : Int)) (hC : C = (n : Int)) (hn : n ≤ 35184372088832)
    (hK : ∀ w', Cells w' w.heap.size 0 (List.replicate n 0) → OwnN w' w.heap.size n → Below w.heap.size w w' → w.heap.size < w'.heap.size → wpList Tryz.prog ops Q rest (a.put o.dst (.slice (some ⟨w.heap.size, 0, none⟩) n n)) w') :
    wpList Tryz.prog ops Q (o :: rest) a w := by
  obtain ⟨i, hi, hz0, hz1, hz2⟩ := info_parts Tryz.infoU
  refine wpList_make_full w hg l c 63 hop w.heap.size 87 i (.int .u64 0) 1 Tryz.underlying63 hi hz0 hz1 .i64 .i64 L C n hl hc hL hC (by rw [hz2]; omega) (by unfold maxLen; omega) (Nat.le_refl _) ?_
  intro w' ho hgr
  obtain ⟨_, h2⟩ := ho
  rcases h2 with ⟨e, _⟩ | ⟨g, cap, cur, e, hb, hh, h3, h4, h5, h6⟩
  · simp at e
  · simp only [Value.slice.injEq, Option.some.injEq, Addr.mk.injEq] at e
    obtain ⟨⟨e1, _, _⟩, _, e2⟩ := e
    subst e1 e2
    have hbl : Below w.heap.size w w' := ⟨hgr.os, hgr.tape, hgr.output, hgr.size, fun k hk => hgr.block k hk (by simp)⟩
    simp only [Nat.mul_one] at h6 h5
    refine hK w' ?_ ⟨cur, hh, h5⟩ hbl (Own.lt ⟨cur, _, hh⟩)
    intro j hj
    rw [List.length_replicate] at hj
    have hc6 : (Value.int .u64 0).cells = #[Value.int .u64 0] := rfl
    rw [hc6, toList_madeCells_one] at h6
    have h7 : cur.toList[j]? = some (.int .u64 0) := by
      have := congrArg (fun l : List Value => l[j]?) h6
      simp only [List.getElem?_take, hj, if_true, List.getElem?_replicate] at this
      exact this
    rw [nth_replicate]
    simp only [World.cell?, hh, Nat.zero_add]
    simpa using h7
def Fresh (base : Nat) (w : World) (v : Value) : Prop := ∃ g l n, v = .slice (some ⟨g, 0, none⟩) l n ∧ base ≤ g ∧ OwnN w g n ∧ n ≤ 9223372036854775807
theorem Fresh.mono {base base' : Nat} {w : World} {v : Value} (h : Fresh base w v) (k : base' ≤ base) : Fresh base' w v := by
  obtain ⟨g, l, n, e, hb, ho, hn⟩ := h; exact ⟨g, l, n, e, by omega, ho, hn⟩
theorem Fresh.put {base : Nat} {w : World} {v u : Value} {m : Nat} (h : Fresh base w v) : Fresh base (w.setCell ⟨m, 0, none⟩ u) v := by
  obtain ⟨g, l, n, e, hb, ho, hn⟩ := h; exact ⟨g, l, n, e, hb, ho.put, hn⟩
end Go.Proofs.YtebilgnmnambnaaGreatDoor
