import Derived.Test.YtfalncbcomlelaaGreatDoorWt2
import Derived.Test.YtfalncbcomlelaaGreatDoorGcd5
import Derived.Test.YtfalncbcomlelaaGreatDoorDiv2
namespace Go.Proofs.YtfalncbcomlelaaGreatDoor.Wt
open Go.RowKit Tn

/-- The bytes of k decimal digits of N, noughts ahead. -/
def pd (N k : Nat) : List Int := (List.range k).map fun i => 48 + ((N / 10 ^ (k - 1 - i) % 10 : Nat) : Int)
theorem pd_len (N k : Nat) : (pd N k).length = k := by simp [pd]
theorem mod_dig (M e : Nat) (he : e ≤ 18) : M % 10 ^ 19 / 10 ^ e % 10 = M / 10 ^ e % 10 := by
  have s : (10 : Nat) ^ 19 = 10 ^ e * 10 ^ (19 - e) := by rw [← Nat.pow_add]; congr 1; omega
  rw [s, Nat.mod_mul_right_div_self]
  have d : (10 : Nat) ∣ 10 ^ (19 - e) := by
    rw [show 19 - e = (18 - e) + 1 by omega, Nat.pow_succ]
    exact Nat.dvd_mul_left _ _
  exact Nat.mod_mod_of_dvd _ d
/-- Where the text stands behind k groups from its end on. -/
def tf (Y : List Int) (N g k j : Nat) : Int :=
  if j < Y.length then Y.getD j 0 else if j < Y.length + 19 * (g - k) then 0 else 48 + ((N / 10 ^ (19 * g - 1 - (j - Y.length)) % 10 : Nat) : Int)
theorem tf_next (Y : List Int) (N g k : Nat) (hk : k < g) (R : Nat) (hR : N / (10 ^ 19) ^ k % 10 ^ 19 = R) (j : Nat) :
    tf Y N g (k + 1) j = if Y.length + 19 * (g - 1 - k) ≤ j ∧ j < Y.length + 19 * (g - 1 - k) + 19 then gd R (j - (Y.length + 19 * (g - 1 - k))) else tf Y N g k j := by
  unfold tf
  by_cases h1 : j < Y.length
  · rw [if_pos h1, if_pos h1, if_neg (by omega)]
  · rw [if_neg h1, if_neg h1]
    by_cases h2 : Y.length + 19 * (g - 1 - k) ≤ j ∧ j < Y.length + 19 * (g - 1 - k) + 19
    · rw [if_pos h2, if_neg (by omega)]
      unfold gd
      rw [← hR]
      obtain ⟨i, hi⟩ : ∃ i, j - (Y.length + 19 * (g - 1 - k)) = i := ⟨_, rfl⟩
      rw [hi, mod_dig _ _ (by omega), ← Nat.pow_mul, Nat.div_div_eq_div_mul, ← Nat.pow_add]
      rw [show 19 * g - 1 - (j - Y.length) = 19 * k + (18 - i) by omega]
    · rw [if_neg h2]
      by_cases h3 : j < Y.length + 19 * (g - 1 - k)
      · rw [if_pos (by omega), if_pos (by omega)]
      · rw [if_neg (by omega), if_neg (by omega)]
theorem tf_zero (Y : List Int) (N g j : Nat) (h : j < Y.length + 19 * g) : (Y ++ List.replicate (19 * g) 0).getD j 0 = tf Y N g 0 j := by
  unfold tf
  by_cases h1 : j < Y.length
  · rw [if_pos h1, List.getD_eq_getElem?_getD, List.getElem?_append_left h1, List.getD_eq_getElem?_getD]
  · rw [if_neg h1, if_pos (by omega), List.getD_eq_getElem?_getD, List.getElem?_append_right (by omega), List.getElem?_replicate]
    split <;> rfl
theorem tf_all (Y : List Int) (N g j : Nat) (h : j < Y.length + 19 * g) : tf Y N g g j = (Y ++ pd N (19 * g)).getD j 0 := by
  unfold tf
  by_cases h1 : j < Y.length
  · rw [if_pos h1, List.getD_eq_getElem?_getD, List.getD_eq_getElem?_getD, List.getElem?_append_left h1]
  · rw [if_neg h1, if_neg (by omega), List.getD_eq_getElem?_getD, List.getElem?_append_right (by omega)]
    unfold pd
    rw [List.getElem?_map, List.getElem?_range (by omega)]
    rfl
/-- A row of bytes that lies in a block of its own, byte by byte. -/
structure Tr (w : World) (b cap T : Nat) (f : Nat → Int) : Prop where
  blk : ∃ cur, w.heap[b]? = some (.cells cur 5 (0, 0)) ∧ cur.size = cap
  le : T ≤ cap
  cel : ∀ j, j < T → w.cell? ⟨b, j, none⟩ = some (.int .u8 (f j))
  u8 : ∀ j u, w.cell? ⟨b, j, none⟩ = some u → ∃ x, u = .int .u8 x
theorem Tr.lt {w : World} {b cap T : Nat} {f : Nat → Int} (h : Tr w b cap T f) : b < w.heap.size := by
  obtain ⟨cur, e, _⟩ := h.blk
  exact Own.lt ⟨cur, _, e⟩
theorem Tr.keep {w w' : World} {b cap T : Nat} {f : Nat → Int} (h : Tr w b cap T f) (e : w'.heap[b]? = w.heap[b]?) : Tr w' b cap T f := by
  obtain ⟨⟨cur, h1, h2⟩, h3, h4, h5⟩ := h
  exact ⟨⟨cur, e.trans h1, h2⟩, h3, fun j hj => (World.cell?_of_block (a := ⟨b, j, none⟩) e).trans (h4 j hj), fun j u hj => h5 j u ((World.cell?_of_block (a := ⟨b, j, none⟩) e).symm.trans hj)⟩
theorem Tr.own {w : World} {base b cap T : Nat} {f : Nat → Int} (h : Tr w b cap T f) (hb : base ≤ b) (hm : cap ≤ maxLen) (l : List Int) (hl : l.length = T) (e : ∀ j, j < T → f j = l.getD j 0) : w.ownsRow base 5 1 (.slice (some ⟨b, 0, none⟩) T cap) T (l.map (Value.int .u8)) := by
  obtain ⟨⟨cur, h1, h2⟩, h3, h4, _⟩ := h
  refine ⟨by simp [hl], Or.inr ⟨b, cap, cur, rfl, hb, h1, h3, hm, by omega, ?_⟩⟩
  rw [Nat.mul_one]
  apply List.ext_getElem?
  intro j
  by_cases hj : j < T
  · have c := h4 j hj
    simp only [World.cell?, h1, Option.isSome_none, Bool.false_eq_true, if_false] at c
    rw [List.getElem?_take, if_pos hj, Array.getElem?_toList, c, List.getElem?_map, List.getElem?_eq_getElem (by omega), e j hj]
    simp [List.getD_eq_getElem?_getD, List.getElem?_eq_getElem (show j < l.length by omega)]
  · rw [List.getElem?_eq_none (by rw [List.length_take]; omega), List.getElem?_eq_none (by simp; omega)]
theorem Tr.of {w : World} {base b cap T : Nat} {l : List Int} (h : w.ownsRow base 5 1 (.slice (some ⟨b, 0, none⟩) T cap) T (l.map (Value.int .u8))) (hU : U8 w (.slice (some ⟨b, 0, none⟩) T cap)) : Tr w b cap T (fun j => l.getD j 0) ∧ base ≤ b ∧ cap ≤ maxLen := by
  obtain ⟨h0, h1⟩ := h
  rcases h1 with ⟨e, _⟩ | ⟨g, cap', cur, e, h2, h3, h4, h5, h6, h7⟩
  · cases e
  · simp only [Value.slice.injEq, Option.some.injEq, Addr.mk.injEq] at e
    obtain ⟨⟨rfl, _⟩, _, rfl⟩ := e
    refine ⟨⟨⟨cur, h3, by omega⟩, h4, fun j hj => ?_, fun j u hj => hU _ rfl j u hj⟩, h2, h5⟩
    rw [Nat.mul_one] at h7
    have c := congrArg (fun l : List Value => l[j]?) h7
    simp only [List.getElem?_take, hj, if_true, List.getElem?_map, Array.getElem?_toList] at c
    simp only [World.cell?, h3, Option.isSome_none, Bool.false_eq_true, if_false]
    rw [c]
    have hl : j < l.length := by simp at h0; omega
    simp [List.getD_eq_getElem?_getD, List.getElem?_eq_getElem hl]
theorem Tr.wr {w w' : World} {b cap T o : Nat} {f f' : Nat → Int} (h : Tr w b cap T f) (k : Wr b o 19 w w') (c : Cb w' b o 19 f') : Tr w' b cap T (fun j => if o ≤ j ∧ j < o + 19 then f' (j - o) else f j) := by
  obtain ⟨⟨cur, h1, h2⟩, h3, h4, h5⟩ := h
  obtain ⟨c', e1, e2⟩ := k.own cur _ _ h1
  refine ⟨⟨c', e1, by omega⟩, h3, fun j hj => ?_, fun j u hj => ?_⟩
  rotate_left
  · by_cases hi : o ≤ j ∧ j < o + 19
    · have := c (j - o) (by omega)
      rw [show o + (j - o) = j by omega] at this
      rw [this] at hj
      exact ⟨_, (Option.some.inj hj).symm⟩
    · rw [k.cell j (by omega)] at hj
      exact h5 j u hj
  show _ = some (Value.int .u8 (if o ≤ j ∧ j < o + 19 then f' (j - o) else f j))
  by_cases hi : o ≤ j ∧ j < o + 19
  · rw [if_pos hi]
    have := c (j - o) (by omega)
    rw [show o + (j - o) = j by omega] at this
    exact this
  · rw [if_neg hi, k.cell j (by omega)]
    exact h4 j hj
theorem Tr.cong {w : World} {b cap T : Nat} {f f' : Nat → Int} (h : Tr w b cap T f) (e : ∀ j, f' j = f j) : Tr w b cap T f' := by
  obtain rfl : f' = f := funext e
  exact h
theorem elemB : Tryz.prog.elem 140 = 5 := by kernel_rfl
/-- s[lo:] of bytes, lo below the capacity. -/
theorem sliceb_l (g len cap : Nat) (z : Int) (lo : Nat) (ez : z = lo) (h1 : lo ≤ len) (hne : lo < cap) (w : World) :
    (Instr.slice 140 (.slice (some ⟨g, 0, none⟩) len cap) (some (.int .i64 z)) none none).run Tryz.prog w = .ok (.slice (some ⟨g, lo, none⟩) (len - lo) (cap - lo)) w := by
  subst ez
  rw [run_slice_l w 140 _ len cap (by rw [elemB]; exact Tryz.underlying140) .i64 _ (by omega) (by omega), elemB]
  have e2 : ¬ cap = lo := by omega
  simp [Tryz.sizeOf5, Result.andThen, sliced, e2, Addr.add]
  omega
end Go.Proofs.YtfalncbcomlelaaGreatDoor.Wt
