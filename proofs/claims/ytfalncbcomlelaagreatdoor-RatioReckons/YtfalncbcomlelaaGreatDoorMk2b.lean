import Derived.Test.YtfalncbcomlelaaGreatDoorLaws
import Derived.Laws.IdiomCopy
import Derived.Laws.CopyRow
namespace Go.Proofs.YtfalncbcomlelaaGreatDoor
open Go.RowKit Tn

/-- copy of words, as its run. -/
theorem run_copy_words {w : World} (ty : TypeId) (X Y : List Int) (g off dCap : Nat) (sp : Option Addr) (sLen sCap dLen : Nat) (eX : dLen = X.length) (eY : sLen = Y.length)
    (hle : Y.length ≤ X.length) (hX : Cells w g off X) (hO : Own w g) (hY : 0 < Y.length → ∃ b o, sp = some ⟨b, o, none⟩ ∧ Cells w b o Y) :
    ∃ w', (Builtin.copy_ #[54, 54] ty #[.slice (some ⟨g, off, none⟩) dLen dCap, .slice sp sLen sCap]).run Tryz.prog w = .ok (goInt Y.length) w' ∧ Cells w' g off (Y ++ X.drop Y.length) ∧ Wr g off X.length w w' := by
  subst eX eY
  by_cases h0 : Y.length = 0
  · obtain rfl : Y = [] := List.eq_nil_of_length_eq_zero h0
    exact ⟨w, run_copy_none w _ _ ty 95 _ _ _ _ _ _ Tryz.underlying54 Tryz.sizeU (by simp), by simpa using hX, Wr.refl _ _ _ _⟩
  · obtain ⟨b2, o2, rfl, hcY⟩ := hY (by omega)
    obtain ⟨cur, t, hh⟩ := hO
    have hsz : off + X.length ≤ cur.size := by
      have h1 := hX (X.length - 1) (by omega)
      simp only [World.cell?, hh, Option.isSome_none, Bool.false_eq_true, if_false] at h1
      have := (Array.getElem?_eq_some_iff.1 h1).1
      omega
    have hY' : (Y.map (Value.int .u64)).length = Y.length := List.length_map ..
    have hrun := run_copy_row (P := Tryz.prog) w 54 54 ty 95 g off X.length dCap ⟨b2, o2, none⟩ Y.length sCap cur t (Y.map (Value.int .u64)) Tryz.underlying54 Tryz.sizeU hh (by rw [List.length_map]; exact (Nat.min_eq_left hle).symm) (by
        intro j v hj
        rw [List.getElem?_map] at hj
        by_cases hlt : j < Y.length
        · rw [List.getElem?_eq_getElem hlt] at hj
          have := hcY j hlt
          simp only [nth, List.getD_eq_getElem?_getD, List.getElem?_eq_getElem hlt, Option.getD_some] at this
          simp only [Option.map_some, Option.some.injEq] at hj
          subst hj
          rw [show (⟨b2, o2, none⟩ : Addr).add j = ⟨b2, o2 + j, none⟩ from by simp [Addr.add]]
          exact this
        · rw [List.getElem?_eq_none (Nat.le_of_not_lt hlt)] at hj; simp at hj
      ) (by rw [List.length_map]; omega) (by intro v hv; obtain ⟨x, _, rfl⟩ := List.mem_map.1 hv; rfl)
    rw [hY', List.append_assoc] at hrun
    refine ⟨_, hrun, ?_, ?_⟩
    all_goals clear hrun
    · intro i hi
      rw [List.length_append, List.length_drop] at hi
      rw [cell_setRow w g cur _ t _ hh]
      have hoff : (cur.toList.take off).length = off := by rw [List.length_take]; simp; omega
      rw [List.getElem?_toArray, List.getElem?_append_right (by omega), hoff, Nat.add_sub_cancel_left]
      by_cases hlt : i < Y.length
      · rw [List.getElem?_append_left (by rw [hY']; exact hlt), List.getElem?_map, List.getElem?_eq_getElem hlt]
        simp [nth, List.getD_eq_getElem?_getD, List.getElem?_append_left hlt, List.getElem?_eq_getElem hlt]
      · rw [List.getElem?_append_right (by omega), hY', List.getElem?_drop]
        have h1 := hX i (by omega)
        simp only [World.cell?, hh, Option.isSome_none, Bool.false_eq_true, if_false] at h1
        have e : off + Y.length + (i - Y.length) = off + i := by omega
        rw [e, Array.getElem?_toList, h1]
        have e2 : nth (Y ++ X.drop Y.length) i = nth X i := by
          unfold nth
          rw [List.getD_eq_getElem?_getD, List.getElem?_append_right (by omega), List.getElem?_drop, List.getD_eq_getElem?_getD]
          congr 2; omega
        rw [e2]
    · refine ⟨rfl, rfl, rfl, by simp [World.setRow], fun k _ hk => setRow_other w g k _ hk, ?_, ?_, ?_⟩
      · intro i hi
        rw [cell_setRow w g cur _ t _ hh]
        have hoff : (cur.toList.take off).length = off := by rw [List.length_take]; simp; omega
        simp only [World.cell?, hh, Option.isSome_none, Bool.false_eq_true, if_false]
        rw [List.getElem?_toArray]
        rcases hi with hi | hi
        · rw [List.getElem?_append_left (by omega), List.getElem?_take_of_lt (by omega), Array.getElem?_toList]
        · rw [List.getElem?_append_right (by omega), hoff, List.getElem?_append_right (by omega), hY', List.getElem?_drop, Array.getElem?_toList]
          congr 1; omega
      · intro i
        simp [World.frozen?, setRow_at w g cur _ t _ hh, hh]
      · intro c t' f e
        rw [hh] at e
        simp only [Option.some.injEq, Obj.cells.injEq] at e
        obtain ⟨rfl, rfl, rfl⟩ := e
        refine ⟨_, setRow_at w g cur _ t _ hh, ?_⟩
        simp; omega
end Go.Proofs.YtfalncbcomlelaaGreatDoor
