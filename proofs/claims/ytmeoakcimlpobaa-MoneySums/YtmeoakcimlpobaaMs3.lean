import Derived.Test.YtmeoakcimlpobaaMs2
import Derived.Laws.AppendOwn
import Derived.OwnWalk
namespace Go.Proofs.Ytmeoakcimlpobaa.Mo
open Go.RowKit Go.Proofs.Ytmeoakcimlpobaa.L

theorem infoI : ∃ i, Try.prog.info? 3 = some i ∧ i.zero = some (.int .i64 0) ∧ i.size = 1 ∧ i.bytes = 8 := by
  have h : ((Try.prog.info? 3).map fun i => (i.zero, i.size, i.bytes)) = some (some (.int .i64 0), 1, 8) := by kernel_rfl
  obtain ⟨i, h1, h2⟩ := Option.map_eq_some_iff.1 h
  simp only [Prod.mk.injEq] at h2
  exact ⟨i, h1, h2.1, h2.2.1, h2.2.2⟩
/-- append([]int{}, x...): a row of one's own that reads the same. -/
theorem wpList_copy_ints {w : World} {ops : Array Oper} {rest : List Oper} {o : Oper} {a : Act} {Q : Exit → Act → World → Prop} (hgd : o.guard = none) (s x : Operand)
    (ho : o.op = .call { callee := .builtin .append, args := #[s, x], argTypes := #[22, 22] })
    (g0 base : Nat) (cur : Array Value) (hs : a.eval s = .slice (some ⟨g0, 0, none⟩) 0 0) (hg : w.heap[g0]? = some (.cells cur 3 (0, 0))) (hcur : cur.size = 0) (hbg : base ≤ g0)
    (ao : Option Addr) (c : Nat) (xs : List Int) (m : Nat) (hx : a.eval x = .slice ao m c) (em : m = xs.length) (hno : ao = none → c = 0) (hr : Ri w (.slice ao m c) xs) (hL : xs.length * 8 ≤ 140737488351232) (hbase : base ≤ w.heap.size)
    (h : ∀ g cap w', base ≤ g → Ri w' (.slice (some ⟨g, 0, none⟩) xs.length cap) xs → Below base w w' → wpList Try.prog ops Q rest (a.put o.dst (.slice (some ⟨g, 0, none⟩) xs.length cap)) w') : wpList Try.prog ops Q (o :: rest) a w := by
  subst em
  obtain ⟨i, hi, hz0, hz1, hz2⟩ := infoI
  obtain ⟨hb, a', cap', e', hl, hm, hc⟩ := hr
  obtain ⟨rfl, rfl⟩ : ao = a' ∧ c = cap' := by simpa using e'
  have hown : w.ownsRow base 3 1 (.slice (some ⟨g0, 0, none⟩) 0 0) 0 [] := ⟨rfl, Or.inr ⟨g0, 0, cur, rfl, hbg, hg, Nat.le_refl _, by decide, by simp [hcur], by simp⟩⟩
  by_cases h0 : xs.length = 0
  · have e0 : xs = [] := List.eq_nil_of_length_eq_zero h0
    subst e0
    refine wpList_append_fits_any w hgd s x 22 ho base 3 i 1 Try.underlying22 hi hz1 g0 0 0 [] hs hown ao 0 c [] hx rfl (fun e => ⟨rfl, hno e⟩) (by simp) (by simp) (by simp) fun w' h2 h3 => ?_
    have hbl : Below base w w' := by
      refine ⟨h3.os, h3.tape, h3.output, h3.size, fun k hk => h3.block k (by omega) ?_⟩
      simp; omega
    refine h g0 0 w' hbg ⟨hb, some ⟨g0, 0, none⟩, 0, rfl, Nat.le_refl _, by decide, fun l => ?_⟩ hbl
    simp at l
  · obtain ⟨b, o', rfl, hcl⟩ := hc (by omega)
    have hnews : ∀ (j : Nat) (u : Value), (xs.map (Value.int .i64))[j]? = some u → w.cell? ((⟨b, o', none⟩ : Addr).add j) = some u := by
      intro j u hj
      rw [List.getElem?_map] at hj
      obtain ⟨y, hy, rfl⟩ := Option.map_eq_some_iff.1 hj
      have hjl : j < xs.length := by
        by_cases c : j < xs.length
        · exact c
        · rw [List.getElem?_eq_none (by omega)] at hy; cases hy
      have := hcl.at hjl
      rw [Addr.add_lit, this]
      simp [nth, List.getD_eq_getElem?_getD, hy]
    refine wpList_append_own w hgd s x 22 ho base 3 i (.int .i64 0) 1 8 Try.underlying22 hi hz0 hz1 hz2 rfl (by decide) _ 0 [] hs hown ⟨b, o', none⟩ xs.length c (xs.map (Value.int .i64)) hx (by simp) hnews (by intro u hu; simp at hu; obtain ⟨y, _, rfl⟩ := hu; rfl) (by unfold maxLen; omega) (by omega) hbase fun v' w' h2 h3 h4 => ?_
    have hbl : Below base w w' := by
      refine ⟨h3.os, h3.tape, h3.output, h3.size, fun k hk => h3.block k (by omega) ?_⟩
      simp [Value.ownBlock]; omega
    rw [Nat.zero_add, List.nil_append] at h2
    obtain ⟨_, h5⟩ := h2
    rcases h5 with ⟨rfl, h5⟩ | ⟨g, cap, cur', rfl, e2, e3, e4, e5, e6, e7⟩
    · simp at h4
    · refine h g cap w' e2 ⟨hb, some ⟨g, 0, none⟩, cap, rfl, e4, e5, fun _ => ⟨g, 0, rfl, ?_⟩⟩ hbl
      intro i hi
      rw [Nat.mul_one] at e7
      have h7 := congrArg (fun l : List Value => l[i]?) e7
      simp only [List.getElem?_take, hi, if_true, List.getElem?_map] at h7
      simp only [World.cell?, e3, Nat.zero_add, Option.isSome_none, Bool.false_eq_true, if_false]
      rw [Array.getElem?_toList] at h7
      rw [h7]
      simp [nth, List.getD_eq_getElem?_getD, List.getElem?_eq_getElem hi]
end Go.Proofs.Ytmeoakcimlpobaa.Mo
