import Derived.Test.YtfalncbcomlelaaGreatDoorB11
import Derived.Laws.AppendOwn
namespace Go.Proofs.YtfalncbcomlelaaGreatDoor.L
open Go.RowKit Tl

/-- The second argument's type counts only where it is a number's. -/
theorem run_append_types {P : Program} (w : World) (t t' ty e e' : TypeId) (i : TypeInfo) (hi : P.info? e = some i) (u a : Option Addr) (n d m c : Nat) (ht : P.underlying t = some (.slice e)) (ht' : P.underlying t' = some (.slice e')) :
    (Builtin.append_ #[t, t'] ty #[.slice u n d, .slice a m c]).run P w = (Builtin.append_ #[t, t] ty #[.slice u n d, .slice a m c]).run P w := by
  simp [Builtin.append_, run_underlying ht, run_underlying ht', sizeOf, typeInfo, hi]
theorem Tryz.underNat : Tryz.prog.underlying 64 = some (.slice 3) := by kernel_rfl
/-- append([]int{}, x...), x a number. -/
theorem wpList_append_nat {w : World} {ops : Array Oper} {rest : List Oper} {o : Oper} {a : Act} {Q : Exit → Act → World → Prop} (hgd : o.guard = none) (s x : Operand)
    (ho : o.op = .call { callee := .builtin .append, args := #[s, x], argTypes := #[43, 64] })
    (g0 base : Nat) (cur : Array Value) (hs : a.eval s = .slice (some ⟨g0, 0, none⟩) 0 0) (hg : w.heap[g0]? = some (.cells cur 3 (0, 0))) (hcur : cur.size = 0) (hbg : base ≤ g0)
    (b o' m c : Nat) (xs : List Int) (hx : a.eval x = .slice (some ⟨b, o', none⟩) m c) (em : m = xs.length) (hc : Cells w b o' xs) (hL : xs.length ≤ 1099511627776) (hbase : base ≤ w.heap.size)
    (h : ∀ g cap w', w'.ownsRow base 3 1 (.slice (some ⟨g, 0, none⟩) xs.length cap) xs.length (xs.map (Value.int .i64)) → base ≤ g → Own w' g → cap ≤ 9223372036854775807 → xs.length ≤ cap → Cells w' g 0 xs → Below base w w' → wpList Tryz.prog ops Q rest (a.put o.dst (.slice (some ⟨g, 0, none⟩) xs.length cap)) w') : wpList Tryz.prog ops Q (o :: rest) a w := by
  subst em
  obtain ⟨i, hi, hz0, hz1, hz2⟩ := info_parts Tryz.infoU
  have hown : w.ownsRow base 3 1 (.slice (some ⟨g0, 0, none⟩) 0 0) 0 [] := ⟨rfl, Or.inr ⟨g0, 0, cur, rfl, hbg, hg, Nat.le_refl _, by decide, by simp [hcur], by simp⟩⟩
  have hnews : ∀ (j : Nat) (u : Value), (xs.map (Value.int .i64))[j]? = some u → w.cell? ((⟨b, o', none⟩ : Addr).add j) = some u := by
    intro j u hj
    rw [List.getElem?_map] at hj
    obtain ⟨y, hy, rfl⟩ := Option.map_eq_some_iff.1 hj
    have hjl : j < xs.length := by
      by_cases c : j < xs.length
      · exact c
      · rw [List.getElem?_eq_none (by omega)] at hy; cases hy
    have := hc.at hjl
    rw [Addr.add_lit, this]
    simp [nth, List.getD_eq_getElem?_getD, hy]
  refine wpList_plain hgd fun K hK => ?_
  obtain ⟨v', w', hr, h2, h3, h4⟩ := run_append_own (P := Tryz.prog) w base 43 o.type 3 i (.int .i64 0) 1 8 Tryz.underlying43 hi hz0 hz1 hz2 rfl (by decide) _ 0 [] hown ⟨b, o', none⟩ xs.length c (xs.map (Value.int .i64)) (by simp) hnews (by intro u hu; simp at hu; obtain ⟨y, _, rfl⟩ := hu; rfl) (by unfold maxLen; omega) (by omega) hbase
  · unfold Oper.wp execOp
    simp only [ho, resolve, invoke, builtin, Sem.run_bind, Sem.run_pure, Result.andThen_ok, List.map_toArray, List.map_cons, List.map_nil, hs, hx, run_append_types w _ _ _ _ _ _ hi _ _ _ _ _ _ Tryz.underlying43 Tryz.underNat, hr]
    have hbl : Below base w w' := by
      refine ⟨h3.os, h3.tape, h3.output, h3.size, fun k hk => h3.block k (by omega) ?_⟩
      simp [Value.ownBlock]; omega
    rw [Nat.zero_add, List.nil_append] at h2
    have h2' := h2
    obtain ⟨_, h5⟩ := h2
    rcases h5 with ⟨rfl, h5⟩ | ⟨g, cap, cur', rfl, e2, e3, e4, e5, e6, e7⟩
    · simp at h4
    · refine hK _ _ (h g cap w' h2' e2 ⟨cur', _, e3⟩ e5 e4 ?_ hbl)
      intro i hi
      rw [Nat.mul_one] at e7
      have h7 := congrArg (fun l : List Value => l[i]?) e7
      simp only [List.getElem?_take, hi, if_true, List.getElem?_map] at h7
      simp only [World.cell?, e3, Nat.zero_add, Option.isSome_none, Bool.false_eq_true, if_false]
      rw [Array.getElem?_toList] at h7
      rw [h7]
      simp [nth, List.getD_eq_getElem?_getD, List.getElem?_eq_getElem hi]
end Go.Proofs.YtfalncbcomlelaaGreatDoor.L
