import Derived.Test.YtfalncbcomlelaaGreatDoorGcd5
import Derived.Test.YtfalncbcomlelaaGreatDoorBlk
namespace Go.Proofs.YtfalncbcomlelaaGreatDoor
open Go.RowKit Tn

theorem Blk.ne {w : World} {n g k : Nat} {c : Array Value} {t : TypeId} (h : Blk w n c t) (o : OwnN w g k) (ht : t ≠ 95) : n ≠ g := by
  rintro rfl
  obtain ⟨c', e, _⟩ := o
  have := h.symm.trans e
  simp at this
  exact ht this.2
theorem Bx.ne {w : World} {n g : Nat} {a : Option Addr} {l c : Nat} {ys : List Int} (h : Bx w n (.slice a l c)) (o : Cells w g 0 ys) (hl : 0 < ys.length) : n ≠ g := by
  rintro rfl
  have := o 0 hl
  rw [h.1] at this; simp at this

theorem Cells.take_list {w : World} {g n : Nat} {xs : List Int} {c : Array Value} {t : TypeId} {f : Nat × Nat} (h : Cells w g 0 xs) (e : w.heap[g]? = some (.cells c t f)) (hn : xs.length = n) (hs : n ≤ c.size) : c.toList.take n = xs.map (Value.int .u64) := by
  apply List.ext_getElem?
  intro i
  by_cases hi : i < n
  · rw [List.getElem?_take_of_lt hi, List.getElem?_map, List.getElem?_eq_getElem (show i < xs.length by omega)]
    have := h i (by omega)
    rw [Nat.zero_add] at this
    simp only [World.cell?, e, Option.isSome_none, Bool.false_eq_true, if_false] at this
    rw [Array.getElem?_toList, this]
    simp [nth, List.getD_eq_getElem?_getD, List.getElem?_eq_getElem (show i < xs.length by omega)]
  · rw [List.getElem?_eq_none (by simp; omega), List.getElem?_eq_none (by simp; omega)]
theorem cells_of_list {w : World} {g n : Nat} {xs : List Int} {c : Array Value} {t : TypeId} {f : Nat × Nat} (e : w.heap[g]? = some (.cells c t f)) (h : c.toList.take n = xs.map (Value.int .u64)) (hn : xs.length = n) : Cells w g 0 xs := by
  intro i hi
  have := congrArg (fun l : List Value => l[i]?) h
  simp only [List.getElem?_take_of_lt (show i < n by omega), List.getElem?_map, List.getElem?_eq_getElem hi, Option.map_some, Array.getElem?_toList] at this
  simp only [World.cell?, e, Nat.zero_add, Option.isSome_none, Bool.false_eq_true, if_false, this, nth, List.getD_eq_getElem?_getD, List.getElem?_eq_getElem hi, Option.getD_some]

/-- append(y, 0), y a row of the call's own. -/
theorem wpList_push0 {w : World} {ops : Array Oper} {rest : List Oper} {o : Oper} {a : Act} {Q : Exit → Act → World → Prop} (hgd : o.guard = none) (s x : Operand)
    (ho : o.op = .call { callee := .builtin .append, args := #[s, x], argTypes := #[54, 54] })
    (g cap l : Nat) (Y : List Int) (hs : a.eval s = .slice (some ⟨g, 0, none⟩) l cap) (el : l = Y.length) (hO : OwnN w g cap) (hcap : cap ≤ 9223372036854775807) (hle : Y.length ≤ cap) (hL : Y.length ≤ 1099511627776) (hc : Cells w g 0 Y)
    (ad : Nat) (c : Nat) (hx : a.eval x = .slice (some ⟨ad, 0, none⟩) 1 c) (hn : w.cell? ⟨ad, 0, none⟩ = some (.int .u64 0)) (base : Nat) (hb : base ≤ g) (hbase : base ≤ w.heap.size)
    (h : ∀ g' cap' w', Cells w' g' 0 (Y ++ [0]) → OwnN w' g' cap' → cap' ≤ 9223372036854775807 → Y.length + 1 ≤ cap' → base ≤ g' → w.grownBy w' (some g) → wpList Tryz.prog ops Q rest (a.put o.dst (.slice (some ⟨g', 0, none⟩) (Y.length + 1) cap')) w') : wpList Tryz.prog ops Q (o :: rest) a w := by
  subst el
  obtain ⟨i, hi, hz0, hz1, hz2⟩ := info_parts Tryz.infoU
  obtain ⟨cur, ec, es⟩ := hO
  have hown : w.ownsRow base 95 1 (.slice (some ⟨g, 0, none⟩) Y.length cap) Y.length (Y.map (Value.int .u64)) := ⟨by simp, Or.inr ⟨g, cap, cur, rfl, hb, ec, hle, hcap, by omega, by rw [Nat.mul_one]; exact hc.take_list ec rfl (by omega)⟩⟩
  refine wpList_append_own w hgd s x 54 ho base 95 i (.int .u64 0) 1 8 Tryz.underlying54 hi hz0 hz1 hz2 rfl (by decide) _ Y.length _ hs hown ⟨ad, 0, none⟩ 1 c [.int .u64 0] hx rfl ?_ (by intro u hu; simp at hu; subst hu; rfl) (by unfold maxLen; omega) (by omega) hbase ?_
  · intro j u hj
    match j, hj with
    | 0, hj => simp at hj; subst hj; simpa [Addr.add] using hn
  · intro v' w' hown' hgr hnil
    obtain ⟨_, hr⟩ := hown'
    rcases hr with ⟨rfl, h0⟩ | ⟨g', cap', cur', rfl, hb', eh, k1, k2, k3, k4⟩
    · omega
    · simp only [Nat.mul_one] at k3 k4
      have cl : Cells w' g' 0 (Y ++ [0]) := cells_of_list eh (k4.trans (by simp)) (by simp)
      exact h g' cap' w' cl ⟨cur', eh, k3⟩ k2 k1 hb' hgr
end Go.Proofs.YtfalncbcomlelaaGreatDoor
