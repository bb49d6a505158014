import Derived.Test.YtfalncbcomlelaaGreatDoorWt1
import Derived.Laws.AppendOwn
import Derived.OwnWalk
namespace Go.Proofs.YtfalncbcomlelaaGreatDoor.Wt
open Go.RowKit Tn

theorem infoB : ∃ i, Tryz.prog.info? 5 = some i ∧ i.zero = some (.int .u8 0) ∧ i.size = 1 ∧ i.bytes = 1 := by
  have h : ((Tryz.prog.info? 5).map fun i => (i.zero, i.size, i.bytes)) = some (some (.int .u8 0), 1, 1) := by kernel_rfl
  obtain ⟨i, h1, h2⟩ := Option.map_eq_some_iff.1 h
  simp only [Prod.mk.injEq] at h2
  exact ⟨i, h1, h2.1, h2.2.1, h2.2.2⟩
theorem zc (m : Nat) : Builtin.zeroCells (Value.int .u8 0).cells m = (List.replicate m (Value.int .u8 0)).toArray := by
  apply Array.ext'
  simp only [Builtin.zeroCells, Value.cells]
  apply List.ext_getElem
  · simp
  · intro i h1 h2
    simp [Nat.mod_one]
/-- All that lies in a row's own block are bytes. -/
def U8 (w : World) (v : Value) : Prop := ∀ g, v.ownBlock = some g → ∀ j u, w.cell? ⟨g, j, none⟩ = some u → ∃ x, u = .int .u8 x
theorem u8_of {w : World} {g : Nat} {c : Array Value} {t : TypeId} (h : w.heap[g]? = some (.cells c t (0, 0))) (hu : ∀ u ∈ c.toList, ∃ x, u = Value.int .u8 x) {n cap : Nat} : U8 w (.slice (some ⟨g, 0, none⟩) n cap) := by
  intro g' e j u hj
  simp [Value.ownBlock] at e
  subst e
  simp only [World.cell?, h, Option.isSome_none, Bool.false_eq_true, if_false] at hj
  exact hu u (by rw [← Array.getElem?_toList] at hj; exact List.mem_of_getElem? hj)
/-- append(v, make([]byte, m)...), v nil or a row of one's own. -/
theorem run_zeros {w : World} (ty base : Nat) (v : Value) (n m : Nat) (xs : List Value) (hown : w.ownsRow base 5 1 v n xs) (hm : 0 < m) (hb : n + m ≤ 1099511627776) (hbase : base ≤ w.heap.size) (hU : U8 w v) (hxs : ∀ u ∈ xs, ∃ x, u = Value.int .u8 x) :
    ∃ v' w', (Builtin.append_ #[140, 3] ty #[v, .int .i64 m]).run Tryz.prog w = .ok v' w' ∧ w'.ownsRow base 5 1 v' (n + m) (xs ++ List.replicate m (.int .u8 0)) ∧ w.grownBy w' v.ownBlock ∧ (v'.ownBlock = v.ownBlock ∨ v'.ownBlock = some w.heap.size) ∧ U8 w' v' := by
  obtain ⟨i, hi, hz0, hz1, hz2⟩ := infoB
  have ht : Tryz.prog.underlying 140 = some (.slice 5) := by kernel_rfl
  have hti : Tryz.prog.underlying 3 = some (.int .i64) := by kernel_rfl
  have hw : IntKind.i64.wrap (m : Int) = (m : Int) := wrapI _ (by omega) (by omega)
  have hlen : (xs ++ List.replicate m (Value.int .u8 0)).length = (n + m) * 1 := by rw [List.length_append, hown.1, List.length_replicate]; omega
  have h0 : ¬ (m : Int) < 0 := by omega
  have h48 : ¬ (281474976710656 < (m : Int)) := by omega
  have hm0 : m ≠ 0 := by omega
  have h63 : n + m ≤ maxLen := by unfold maxLen; omega
  have rz : ∀ (k : Nat), ∀ u ∈ List.replicate k (Value.int .u8 0), ∃ x, u = Value.int .u8 x := fun k u hu => ⟨0, (List.mem_replicate.1 hu).2⟩
  have nu : ∀ {k : Nat}, ∀ u ∈ (xs.toArray ++ (List.replicate m (Value.int .u8 0)).toArray ++ (List.replicate k (Value.int .u8 0)).toArray).toList, ∃ x, u = Value.int .u8 x := fun {k} u hu => by
    simp only [Array.toList_append, List.mem_append] at hu
    rcases hu with (hu | hu) | hu
    · exact hxs u hu
    · exact rz _ u hu
    · exact rz _ u hu
  have grown : ∀ (old : Nat), ∀ (row : Option Nat),
      (w.drew.alloc (.cells (xs.toArray ++ (List.replicate m (Value.int .u8 0)).toArray ++ (List.replicate (grownCap w (n + m) old 5 - (n + m)) (Value.int .u8 0)).toArray) 5)).ownsRow base 5 1
        (.slice (some ⟨w.heap.size, 0, none⟩) (n + m) (grownCap w (n + m) old 5)) (n + m) (xs ++ List.replicate m (Value.int .u8 0)) ∧
      w.grownBy (w.drew.alloc (.cells (xs.toArray ++ (List.replicate m (Value.int .u8 0)).toArray ++ (List.replicate (grownCap w (n + m) old 5 - (n + m)) (Value.int .u8 0)).toArray) 5)) row := by
    intro old row
    have hge := grownCap_ge w (n + m) old 5
    have hcm : grownCap w (n + m) old 5 ≤ maxLen := grownCap_le_maxLen w (n + m) old 5 h63
    refine ⟨⟨hlen, .inr ⟨w.heap.size, _, _, rfl, hbase, heap_alloc_new w.drew _, hge, hcm, ?_, ?_⟩⟩, ⟨rfl, rfl, rfl, by simp, fun k hk _ => heap_alloc_old w.drew _ hk⟩⟩
    · simp only [Array.size_append, List.size_toArray, List.length_replicate, hown.1]
      omega
    · simp only [Array.toList_append, List.append_assoc]
      rw [← List.append_assoc, ← hlen]
      exact List.take_left
  rcases hown.2 with ⟨rfl, rfl⟩ | ⟨g, cap, cur, rfl, hbg, hg, hnc, hcm, hcs, htake⟩
  · have hx : xs = [] := List.eq_nil_of_length_eq_zero (by simpa using hown.1)
    subst hx
    have hgr := grown 0 (Value.ownBlock (.slice none 0 0))
    refine ⟨_, _, ?_, hgr.1, hgr.2, Or.inr rfl, u8_of (heap_alloc_new w.drew _) nu⟩
    have hn2 : ¬ (281474976710656 < Builtin.nextslicecap m 0) := by rw [nextslicecap_zero hm]; omega
    have h63' : ¬ (9223372036854775807 < (m : Int)) := by omega
    simp [Builtin.append_, run_underlying ht, run_underlying hti, sizeOf, typeInfo, zeroValue, hi, hz0, hz1, hz2, hw, h0, h48, hm0, hn2, h63', Question.forced, run_firstCells_none, newRow, grownCap, zc, asInt, asIntOf]
  · by_cases hroom : n + m ≤ cap
    · have hst := run_storeCells_at Tryz.prog g n 5 (List.replicate m (.int .u8 0)) 0 cur w hg (by rw [List.length_replicate, hcs]; omega) (by intro u hu; obtain ⟨_, rfl⟩ := List.mem_replicate.1 hu; rfl)
      simp only [Nat.add_zero] at hst
      refine ⟨.slice (some ⟨g, 0, none⟩) (n + m) cap, w.setRow g (List.take n cur.toList ++ List.replicate m (Value.int .u8 0) ++ List.drop (n + (List.replicate m (Value.int .u8 0)).length) cur.toList).toArray, ?_, ⟨hlen, .inr ⟨g, cap, _, rfl, hbg, setRow_heap w g cur _ 5 _ hg, hroom, hcm, ?_, ?_⟩⟩, ⟨rfl, rfl, rfl, by simp, fun k _ hk => setRow_other w g k _ (fun e => hk (by simp [Value.ownBlock, e]))⟩, Or.inl rfl, u8_of (setRow_heap w g cur _ 5 _ hg) ?_⟩
      · simp [Builtin.append_, run_underlying ht, run_underlying hti, sizeOf, typeInfo, zeroValue, hi, hz0, hz1, hz2, hw, h0, h48, hm0, hroom, zc, asInt, asIntOf, Addr.add_lit, hst]
      · simp only [List.size_toArray, List.length_append, List.length_take, List.length_drop, Array.length_toList, List.length_replicate]
        omega
      · rw [Nat.mul_one] at htake
        rw [htake, ← hlen]
        exact List.take_left
      · intro u hu
        have cu : ∀ u ∈ cur.toList, ∃ x, u = Value.int .u8 x := fun u hu => by
          obtain ⟨j, hj⟩ := List.getElem?_of_mem hu
          refine hU g rfl j u ?_
          simp only [World.cell?, hg, Option.isSome_none, Bool.false_eq_true, if_false]
          rw [← Array.getElem?_toList]
          exact hj
        simp only [List.mem_append] at hu
        rcases hu with (hu | hu) | hu
        · exact cu u (List.mem_of_mem_take hu)
        · exact rz _ u hu
        · exact cu u (List.mem_of_mem_drop hu)
    · have holds : ∀ j u, xs[j]? = some u → w.drew.cell? ((⟨g, 0, none⟩ : Addr).add j) = some u := fun j u h => by simpa using hown.cells (g := g) rfl j u h
      have hfo := run_firstCells_some (P := Tryz.prog) w.drew 1 n ⟨g, 0, none⟩ n cap xs hown.1 holds
      have hgr := grown cap (Value.ownBlock (.slice (some ⟨g, 0, none⟩) n cap))
      refine ⟨_, _, ?_, hgr.1, hgr.2, Or.inr rfl, u8_of (heap_alloc_new w.drew _) nu⟩
      have hn : ¬ (n + m ≤ cap) := hroom
      have hn2 : ¬ (281474976710656 < Builtin.nextslicecap (n + m) cap) := by have := growslice_fits (need := n + m) (old := cap) (bytes := 1) (by omega) (by omega); omega
      have h63' : ¬ (9223372036854775807 < ((n : Int) + (m : Int))) := by omega
      simp [Builtin.append_, run_underlying ht, run_underlying hti, sizeOf, typeInfo, zeroValue, hi, hz0, hz1, hz2, hw, h0, h48, hm0, hn, hn2, h63', Question.forced, hfo, newRow, grownCap, zc, asInt, asIntOf]
theorem wp_zeros {w : World} {o : Oper} {a : Act} {K : Act → World → Prop} {Q : Exit → Act → World → Prop} (s x : Operand)
    (ho : o.op = .call { callee := .builtin .append, args := #[s, x], argTypes := #[140, 3] })
    (base : Nat) (v : Value) (n m : Nat) (xs : List Value) (hs : a.eval s = v) (hx : a.eval x = .int .i64 m) (hown : w.ownsRow base 5 1 v n xs) (hm : 0 < m) (hb : n + m ≤ 1099511627776) (hbase : base ≤ w.heap.size) (hU : U8 w v) (hxs : ∀ u ∈ xs, ∃ x, u = Value.int .u8 x)
    (h : ∀ v' w', w'.ownsRow base 5 1 v' (n + m) (xs ++ List.replicate m (.int .u8 0)) → w.grownBy w' v.ownBlock → (v'.ownBlock = v.ownBlock ∨ v'.ownBlock = some w.heap.size) → U8 w' v' → K (a.put o.dst v') w') : o.wp Tryz.prog a w K Q := by
  obtain ⟨v', w', hr, h1, h2, h3, h4⟩ := run_zeros (w := w) o.type base v n m xs hown hm hb hbase hU hxs
  unfold Oper.wp execOp
  simp only [ho, resolve, invoke, builtin, Sem.run_bind, Sem.run_pure, Result.andThen_ok, List.map_toArray, List.map_cons, List.map_nil, hs, hx, hr]
  exact h v' w' h1 h2 h3 h4
theorem wpList_zeros {w : World} {ops : Array Oper} {rest : List Oper} {o : Oper} {a : Act} {Q : Exit → Act → World → Prop} (hgd : o.guard = none) (s x : Operand)
    (ho : o.op = .call { callee := .builtin .append, args := #[s, x], argTypes := #[140, 3] })
    (base : Nat) (v : Value) (n m : Nat) (xs : List Value) (hs : a.eval s = v) (hx : a.eval x = .int .i64 m) (hown : w.ownsRow base 5 1 v n xs) (hm : 0 < m) (hb : n + m ≤ 1099511627776) (hbase : base ≤ w.heap.size) (hU : U8 w v) (hxs : ∀ u ∈ xs, ∃ x, u = Value.int .u8 x)
    (h : ∀ v' w', w'.ownsRow base 5 1 v' (n + m) (xs ++ List.replicate m (.int .u8 0)) → w.grownBy w' v.ownBlock → (v'.ownBlock = v.ownBlock ∨ v'.ownBlock = some w.heap.size) → U8 w' v' → wpList Tryz.prog ops Q rest (a.put o.dst v') w') : wpList Tryz.prog ops Q (o :: rest) a w :=
  wpList_plain hgd fun _ hK => wp_zeros s x ho base v n m xs hs hx hown hm hb hbase hU hxs fun v' w' h1 h2 h3 h4 => hK _ _ (h v' w' h1 h2 h3 h4)
end Go.Proofs.YtfalncbcomlelaaGreatDoor.Wt
