import Derived.Test.YtiobnojcmeeikaaGreatDoorProg
import Derived.Test.YtiobnojcmeeikaaGreatDoorPart02
import Derived.Laws.CopyOwn

namespace Go.Proofs.YtiobnojcmeeikaaGreatDoor
open Go.RowKit Tn
theorem Tryz.infoU : (Tryz.prog.info? 22).map (fun i => (i.zero, i.size, i.bytes)) = some (some (.int .u64 0), 1, 8) := by kernel_rfl
theorem Tryz.sizeU : (Tryz.prog.info? 22).map (·.size) = some 1 := by kernel_rfl

theorem nth_replicate (n i : Nat) : nth (List.replicate n 0) i = 0 := by
  unfold nth
  by_cases h : i < n
  · simp [List.getD_eq_getElem?_getD, h]
  · simp [List.getD_eq_getElem?_getD, Nat.le_of_not_lt h]

/-- make([]uint64, n). -/
theorem wpList_make_words {w : World} {ops : Array Oper} {rest : List Oper} {o : Oper} {a : Act} {Q : Exit → Act → World → Prop}
    (hg : o.guard = none) (l c : Operand) (hop : o.op = Op.makeSlice 54 l c) (n : Nat) (L C : Int) (hl : a.eval l = .int .i64 L) (hc : a.eval c = .int .i64 C) (hL : L = (n : Int)) (hC : C = (n : Int)) (hn : n ≤ 35184372088832)
    (hK : ∀ w', Cells w' w.heap.size 0 (List.replicate n 0) → Own w' w.heap.size → Below w.heap.size w w' → w.heap.size < w'.heap.size → wpList Tryz.prog ops Q rest (a.put o.dst (.slice (some ⟨w.heap.size, 0, none⟩) n n)) w') :
    wpList Tryz.prog ops Q (o :: rest) a w := by
  obtain ⟨i, hi, hz0, hz1, hz2⟩ := info_parts Tryz.infoU
  refine wpList_make_full w hg l c 54 hop w.heap.size 22 i (.int .u64 0) 1 Tryz.underlying54 hi hz0 hz1 .i64 .i64 L C n hl hc hL hC (by rw [hz2]; omega) (by unfold maxLen; omega) (Nat.le_refl _) ?_
  intro w' ho hgr
  obtain ⟨_, h2⟩ := ho
  rcases h2 with ⟨e, _⟩ | ⟨g, cap, cur, e, hb, hh, h3, h4, h5, h6⟩
  · simp at e
  · simp only [Value.slice.injEq, Option.some.injEq, Addr.mk.injEq] at e
    obtain ⟨⟨e1, _, _⟩, _, e2⟩ := e
    subst e1
    have hbl : Below w.heap.size w w' := ⟨hgr.os, hgr.tape, hgr.output, hgr.size, fun k hk => hgr.block k hk (by simp)⟩
    refine hK w' ?_ ⟨cur, _, hh⟩ hbl (Own.lt ⟨cur, _, hh⟩)
    intro j hj
    rw [List.length_replicate] at hj
    simp only [Nat.mul_one] at h6 h5
    have hc6 : (Value.int .u64 0).cells = #[Value.int .u64 0] := rfl
    rw [hc6, toList_madeCells_one] at h6
    have h7 : cur.toList[j]? = some (.int .u64 0) := by
      have := congrArg (fun l : List Value => l[j]?) h6
      simp only [List.getElem?_take, hj, if_true, List.getElem?_replicate] at this
      exact this
    rw [nth_replicate]
    simp only [World.cell?, hh, Nat.zero_add]
    simpa using h7

theorem Tryz.elemU : Tryz.prog.elem 54 = 22 := by kernel_rfl
/-- s[lo:lo+n], lo below the capacity. -/
theorem slice_lh (g o len cap : Nat) (l h : Int) (lo n : Nat) (el : l = lo) (eh : h = (lo : Int) + n) (h2 : lo + n ≤ cap) (hne : lo < cap) (w : World) :
    (Instr.slice 54 (.slice (some ⟨g, o, none⟩) len cap) (some (.int .i64 l)) (some (.int .i64 h)) none).run Tryz.prog w = .ok (.slice (some ⟨g, o + lo, none⟩) n (cap - lo)) w := by
  subst el eh
  rw [run_slice_lh w 54 _ len cap (by rw [Tryz.elemU]; exact Tryz.underlying54) .i64 .i64 _ _ (by omega) (by omega) (by omega), Tryz.elemU]
  have e1 : ((lo : Int) + n).toNat = lo + n := by omega
  have e2 : ¬ cap = lo := by omega
  simp [Tryz.sizeOf22, Result.andThen, sliced, e1, e2, Addr.add]

theorem cell_setRow (w : World) (g : Nat) (c cs : Array Value) (t : TypeId) (f : Nat × Nat) (h : w.heap[g]? = some (.cells c t f)) (i : Nat) : (w.setRow g cs).cell? ⟨g, i, none⟩ = cs[i]? := by
  simp [World.cell?, World.setRow, Array.getElem?_modify, h]
theorem setRow_at (w : World) (g : Nat) (c cs : Array Value) (t : TypeId) (f : Nat × Nat) (h : w.heap[g]? = some (.cells c t f)) : (w.setRow g cs).heap[g]? = some (.cells cs t f) := by
  simp [World.setRow, Array.getElem?_modify, h]

/-- A guard: the operation that stands next is a copy. -/
theorem at_copy {P : Program} {w : World} {ops : Array Oper} {rest : List Oper} {a : Act} {Q : Exit → Act → World → Prop} {ds : Option Tmp} {ar : Array Operand} {ts : Array TypeId} {ty : TypeId} {p : String} {af : Array Edge} {g : Option (Nat × Bool)}
    (h : wpList P ops Q (⟨ds, .call { callee := .builtin .copy, args := ar, argTypes := ts }, ty, p, af, g⟩ :: rest) a w) : wpList P ops Q (⟨ds, .call { callee := .builtin .copy, args := ar, argTypes := ts }, ty, p, af, g⟩ :: rest) a w := h

/-- copy of words. -/
theorem wpList_copy_words {w : World} {ops : Array Oper} {rest : List Oper} {o : Oper} {a : Act} {Q : Exit → Act → World → Prop}
    (hgd : o.guard = none) (d s : Operand) (ho : o.op = .call { callee := .builtin .copy, args := #[d, s], argTypes := #[54, 54] })
    (X Y : List Int) (g off dCap : Nat) (sp : Option Addr) (sLen sCap dLen : Nat) (hd : a.eval d = .slice (some ⟨g, off, none⟩) dLen dCap) (hs : a.eval s = .slice sp sLen sCap) (eX : dLen = X.length) (eY : sLen = Y.length)
    (hle : Y.length ≤ X.length) (hX : Cells w g off X) (hO : Own w g) (hY : 0 < Y.length → ∃ b o, sp = some ⟨b, o, none⟩ ∧ Cells w b o Y)
    (hK : ∀ w', Cells w' g off (Y ++ X.drop Y.length) → Wr g off X.length w w' → wpList Tryz.prog ops Q rest (a.put o.dst (goInt Y.length)) w') :
    wpList Tryz.prog ops Q (o :: rest) a w := by
  subst eX eY
  by_cases h0 : Y.length = 0
  · obtain rfl : Y = [] := List.eq_nil_of_length_eq_zero h0
    refine wpList_copy_nothing hgd d s _ _ ho 22 Tryz.underlying54 Tryz.sizeU _ _ _ _ _ _ hd hs (by simp) ?_
    exact hK w (by simpa using hX) (Wr.refl _ _ _ _)
  · obtain ⟨b2, o2, rfl, hcY⟩ := hY (by omega)
    obtain ⟨cur, t, hh⟩ := hO
    have hsz : off + X.length ≤ cur.size := by
      have h1 := hX (X.length - 1) (by omega)
      simp only [World.cell?, hh, Option.isSome_none, Bool.false_eq_true, if_false] at h1
      have := (Array.getElem?_eq_some_iff.1 h1).1
      omega
    refine wpList_copy_own hgd d s _ _ ho 22 Tryz.underlying54 Tryz.sizeU g off X.length dCap ⟨b2, o2, none⟩ Y.length sCap hd hs cur t hh (Y.map (Value.int .u64)) (by rw [List.length_map]; exact (Nat.min_eq_left hle).symm) ?_ (by rw [List.length_map]; omega) (by intro v hv; obtain ⟨x, _, rfl⟩ := List.mem_map.1 hv; rfl) ?_
    · intro j v hj
      rw [List.getElem?_map] at hj
      by_cases hlt : j < Y.length
      · rw [List.getElem?_eq_getElem hlt] at hj
        have := hcY j hlt
        simp only [nth, List.getD_eq_getElem?_getD, List.getElem?_eq_getElem hlt, Option.getD_some] at this
        simp only [Option.map_some, Option.some.injEq] at hj
        subst hj
        rw [show (⟨b2, o2, none⟩ : Addr).add j = ⟨b2, o2 + j, none⟩ from by simp [Addr.add]]
        exact this
      · rw [List.getElem?_eq_none (Nat.le_of_not_lt hlt)] at hj; simp at hj
    · have hY' : (Y.map (Value.int .u64)).length = Y.length := List.length_map ..
      rw [hY']
      refine hK _ ?_ ?_
      · intro i hi
        rw [List.length_append, List.length_drop] at hi
        rw [cell_setRow w g cur _ t _ hh]
        have hoff : (cur.toList.take off).length = off := by rw [List.length_take]; simp; omega
        rw [List.getElem?_toArray, List.getElem?_append_right (by omega), hoff, Nat.add_sub_cancel_left]
        by_cases hlt : i < Y.length
        · rw [List.getElem?_append_left (by rw [hY']; exact hlt), List.getElem?_map, List.getElem?_eq_getElem hlt]
          simp [nth, List.getD_eq_getElem?_getD, List.getElem?_append_left hlt, List.getElem?_eq_getElem hlt]
        · rw [List.getElem?_append_right (by omega), hY', List.getElem?_drop]
          have h1 := hX i (by omega)
          simp only [World.cell?, hh, Option.isSome_none, Bool.false_eq_true, if_false] at h1
          have e : off + Y.length + (i - Y.length) = off + i := by omega
          rw [e, Array.getElem?_toList, h1]
          have e2 : nth (Y ++ X.drop Y.length) i = nth X i := by
            unfold nth
            rw [List.getD_eq_getElem?_getD, List.getElem?_append_right (by omega), List.getElem?_drop, List.getD_eq_getElem?_getD]
            congr 2; omega
          rw [e2]
      · refine ⟨rfl, rfl, rfl, by simp [World.setRow], fun k _ hk => setRow_other w g k _ hk, ?_, ?_, ?_⟩
        · intro i hi
          rw [cell_setRow w g cur _ t _ hh]
          have hoff : (cur.toList.take off).length = off := by rw [List.length_take]; simp; omega
          simp only [World.cell?, hh, Option.isSome_none, Bool.false_eq_true, if_false]
          rw [List.getElem?_toArray]
          rcases hi with hi | hi
          · rw [List.getElem?_append_left (by omega), List.getElem?_take_of_lt (by omega), Array.getElem?_toList]
          · rw [List.getElem?_append_right (by omega), hoff, List.getElem?_append_right (by omega), hY', List.getElem?_drop, Array.getElem?_toList]
            congr 1; omega
        · intro i
          simp [World.frozen?, setRow_at w g cur _ t _ hh, hh]
        · intro c t' f e
          rw [hh] at e
          simp only [Option.some.injEq, Obj.cells.injEq] at e
          obtain ⟨rfl, rfl, rfl⟩ := e
          refine ⟨_, setRow_at w g cur _ t _ hh, ?_⟩
          simp; omega
end Go.Proofs.YtiobnojcmeeikaaGreatDoor
