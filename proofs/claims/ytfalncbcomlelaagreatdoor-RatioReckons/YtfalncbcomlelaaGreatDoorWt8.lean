import Derived.Test.YtfalncbcomlelaaGreatDoorWt7
import Derived.Test.YtfalncbcomlelaaGreatDoorPf2
namespace Go.Proofs.YtfalncbcomlelaaGreatDoor.Wt
open Go.RowKit Tn Mo

theorem info_parts {P : Program} {t : TypeId} {z : Value} {s b : Nat} (h : (P.info? t).map (fun i => (i.zero, i.size, i.bytes)) = some (some z, s, b)) : ∃ i, P.info? t = some i ∧ i.zero = some z ∧ i.size = s ∧ i.bytes = b := by
  obtain ⟨i, h1, h2⟩ := Option.map_eq_some_iff.1 h
  simp only [Prod.mk.injEq] at h2
  exact ⟨i, h1, h2.1, h2.2.1, h2.2.2⟩
/-- A row of numbers of one's own: nothing else lies in its block. -/
structure Rg (w : World) (g cap : Nat) (vals : List Value) : Prop where
  blk : ∃ cur : Array Value, w.heap[g]? = some (.cells cur 56 (0, 0)) ∧ cur.size = cap ∧ cur.toList.take vals.length = vals ∧ ∀ u ∈ cur.toList, ∃ a l c, u = Value.slice a l c
  le : vals.length ≤ cap
theorem Rg.lt {w : World} {g cap : Nat} {vals : List Value} (h : Rg w g cap vals) : g < w.heap.size := by
  obtain ⟨cur, e, _⟩ := h.blk
  exact Own.lt ⟨cur, _, e⟩
theorem Rg.grow {w w' : World} {g cap : Nat} {vals : List Value} (h : Rg w g cap vals) (b : Below w.heap.size w w') : Rg w' g cap vals := by
  obtain ⟨⟨cur, e, r⟩, l⟩ := h
  exact ⟨⟨cur, (b.block g (Own.lt ⟨cur, _, e⟩)).trans e, r⟩, l⟩
theorem Rg.at {w : World} {g cap : Nat} {vals : List Value} (h : Rg w g cap vals) {i : Nat} {u : Value} (hi : vals[i]? = some u) : w.cell? ⟨g, i, none⟩ = some u := by
  obtain ⟨⟨cur, e, h1, h2, _⟩, _⟩ := h
  have c := congrArg (fun l : List Value => l[i]?) h2
  have hl : i < vals.length := by
    by_cases c : i < vals.length
    · exact c
    · rw [List.getElem?_eq_none (by omega)] at hi; cases hi
  simp only [List.getElem?_take, hl, if_true, hi, Array.getElem?_toList] at c
  simp only [World.cell?, e, Option.isSome_none, Bool.false_eq_true, if_false]
  exact c
theorem Rg.off {w : World} {g cap : Nat} {vals : List Value} (h : Rg w g cap vals) {b o : Nat} {k : IntKind} {x : Int} (hc : w.cell? ⟨b, o, none⟩ = some (.int k x)) : b ≠ g := by
  rintro rfl
  obtain ⟨⟨cur, e, _, _, h3⟩, _⟩ := h
  simp only [World.cell?, e, Option.isSome_none, Bool.false_eq_true, if_false] at hc
  rw [← Array.getElem?_toList] at hc
  obtain ⟨a, l, c, q⟩ := h3 _ (List.mem_of_getElem? hc)
  cases q
theorem Nn.row {w w' : World} {g cap : Nat} {vals : List Value} {a : Option Addr} {l c : Nat} {N : Int} (h : Nn w a l c N) (R : Rg w g cap vals) (gr : w.grownBy w' (some g)) : Nn w' a l c N := by
  obtain ⟨xs, ⟨hW, a1, c1, e, h1, h2, h3⟩, n, rfl⟩ := h
  refine ⟨xs, ⟨hW, a1, c1, e, h1, h2, fun lt => ?_⟩, n, rfl⟩
  obtain ⟨b, o, e2, q⟩ := h3 lt
  refine ⟨b, o, e2, fun i hi => gr.cell (q i hi) fun e => ?_⟩
  simp only [Option.some.injEq] at e
  exact R.off (q i hi) e
/-- append(rungs, r). -/
theorem run_rung {w : World} (ty : Nat) (g cap : Nat) (vals : List Value) (R : Rg w g cap vals) (ad c : Nat) (u1 : Option Addr) (u2 u3 : Nat) (hc : w.cell? ⟨ad, 0, none⟩ = some (.slice u1 u2 u3)) (hn : vals.length ≤ 1000) (hcm : cap ≤ maxLen) :
    ∃ g' cap' w', (Builtin.append_ #[84, 84] ty #[.slice (some ⟨g, 0, none⟩) vals.length cap, .slice (some ⟨ad, 0, none⟩) 1 c]).run Tryz.prog w = .ok (.slice (some ⟨g', 0, none⟩) (vals.length + 1) cap') w' ∧ Rg w' g' cap' (vals ++ [.slice u1 u2 u3]) ∧ w.grownBy w' (some g) ∧ cap' ≤ maxLen ∧ (g' = g ∨ w.heap.size ≤ g') := by
  obtain ⟨i, hi, hz0, hz1, hz2⟩ := info_parts (show (Tryz.prog.info? 56).map (fun i => (i.zero, i.size, i.bytes)) = some (some (.agg #[.slice none 0 0]), 1, 24) by kernel_rfl)
  have ht : Tryz.prog.underlying 84 = some (.slice 56) := by kernel_rfl
  have R' := R
  obtain ⟨⟨cur, e, h1, h2, h3⟩, hl⟩ := R
  have hnews : ∀ (j : Nat) (u : Value), [Value.slice u1 u2 u3][j]? = some u → w.cell? ((⟨ad, 0, none⟩ : Addr).add j) = some u := by
    intro j u hj
    match j, hj with
    | 0, hj => simp at hj; subst hj; simpa [Addr.add] using hc
    | j + 1, hj => simp at hj
  by_cases hroom : vals.length + 1 ≤ cap
  · have hr := run_append_room (P := Tryz.prog) w 84 ty 56 i ht hi g vals.length cap cur e ⟨ad, 0, none⟩ 1 c [.slice u1 u2 u3] (by simp [hz1]) hnews (by intro u hu; simp at hu; subst hu; rfl) hroom (by simp [hz1]; omega)
    rw [hz1, Nat.mul_one] at hr
    refine ⟨g, cap, _, hr, ⟨⟨_, setRow_heap w g cur _ 56 _ e, ?_, ?_, ?_⟩, by simp; omega⟩, ⟨rfl, rfl, rfl, by simp, fun k _ hk => setRow_other w g k _ (fun e => hk (by rw [e]))⟩, hcm, Or.inl rfl⟩
    · simp only [List.size_toArray, List.length_append, List.length_take, List.length_drop, Array.length_toList, List.length_cons, List.length_nil]
      omega
    · rw [h2]
      exact List.take_left
    · intro u hu
      simp only [List.mem_append, List.mem_singleton] at hu
      rcases hu with (hu | rfl) | hu
      · exact h3 u (List.mem_of_mem_take hu)
      · exact ⟨_, _, _, rfl⟩
      · exact h3 u (List.mem_of_mem_drop hu)
  · have holds : ∀ (j : Nat) (u : Value), vals[j]? = some u → w.cell? ((⟨g, 0, none⟩ : Addr).add j) = some u := fun j u hj => by
      rw [Addr.add_lit, Nat.zero_add]
      exact R'.at hj
    have hr := run_append_grow (P := Tryz.prog) w 84 ty 56 i (.agg #[.slice none 0 0]) ht hi hz0 ⟨g, 0, none⟩ vals.length cap vals (by rw [hz1, Nat.mul_one]) holds ⟨ad, 0, none⟩ 1 c [.slice u1 u2 u3] (by simp [hz1]) hnews (by omega) (by omega) (by rw [hz2]; exact growslice_fits (by omega) (by omega))
    have gc := grownCap_ge w (vals.length + 1) cap 56
    have gm := grownCap_le_maxLen w (vals.length + 1) cap 56 (by unfold maxLen; omega)
    refine ⟨_, _, _, hr, ⟨⟨_, heap_alloc_new _ _, ?_, ?_, ?_⟩, by simp; exact gc⟩, ⟨rfl, rfl, rfl, by simp, fun k hk _ => heap_alloc_old w.drew _ hk⟩, gm, Or.inr (Nat.le_refl _)⟩
    · simp only [Array.size_append, List.size_toArray, List.length_cons, List.length_nil, size_zeroCells, Value.cells]
      simp
      omega
    · rw [Array.toList_append, Array.toList_append]
      exact List.take_left
    · intro u hu
      simp only [Array.toList_append, List.mem_append, List.mem_singleton] at hu
      rcases hu with (hu | rfl) | hu
      · exact h3 u (by rw [← h2] at hu; exact List.mem_of_mem_take hu)
      · exact ⟨_, _, _, rfl⟩
      · simp only [Builtin.zeroCells, Value.cells] at hu
        have : u = .slice none 0 0 := by
          simp at hu
          obtain ⟨j, _, rfl⟩ := hu
          simp [Nat.mod_one]
        exact ⟨_, _, _, this⟩
theorem wpList_rung {w : World} {ops : Array Oper} {rest : List Oper} {o : Oper} {a : Act} {Q : Exit → Act → World → Prop} (hgd : o.guard = none) (s x : Operand)
    (ho : o.op = .call { callee := .builtin .append, args := #[s, x], argTypes := #[84, 84] })
    (g cap n : Nat) (vals : List Value) (en : n = vals.length) (hs : a.eval s = .slice (some ⟨g, 0, none⟩) n cap) (R : Rg w g cap vals) (ad c : Nat) (u1 : Option Addr) (u2 u3 : Nat) (hx : a.eval x = .slice (some ⟨ad, 0, none⟩) 1 c) (hc : w.cell? ⟨ad, 0, none⟩ = some (.slice u1 u2 u3)) (hn : vals.length ≤ 1000) (hcm : cap ≤ maxLen)
    (h : ∀ g' cap' w', Rg w' g' cap' (vals ++ [.slice u1 u2 u3]) → w.grownBy w' (some g) → cap' ≤ maxLen → (g' = g ∨ w.heap.size ≤ g') → wpList Tryz.prog ops Q rest (a.put o.dst (.slice (some ⟨g', 0, none⟩) (n + 1) cap')) w') : wpList Tryz.prog ops Q (o :: rest) a w := by
  subst en
  obtain ⟨g', cap', w', hr, h1, h2, h3, h4⟩ := run_rung (w := w) o.type g cap vals R ad c u1 u2 u3 hc hn hcm
  refine wpList_plain hgd fun K hK => ?_
  unfold Oper.wp execOp
  simp only [ho, resolve, invoke, builtin, Sem.run_bind, Sem.run_pure, Result.andThen_ok, List.map_toArray, List.map_cons, List.map_nil, hs, hx, hr]
  exact hK _ _ (h g' cap' w' h1 h2 h3 h4)
end Go.Proofs.YtfalncbcomlelaaGreatDoor.Wt
