import Derived.Test.YtiaeoknmgidehaaGreatDoorPart01

namespace Go.Proofs.YtiaeoknmgidehaaGreatDoor
open Go.RowKit Tn
/-- Block b is a row of n words that nothing has frozen. -/
def OwnN (w : World) (b n : Nat) : Prop := ∃ c, w.heap[b]? = some (.cells c 91 (0, 0)) ∧ c.size = n
theorem OwnN.own {w : World} {b n : Nat} (h : OwnN w b n) : Own w b := by obtain ⟨c, e, _⟩ := h; exact ⟨c, _, e⟩
theorem OwnN.wr {w w' : World} {b n b' o m : Nat} (h : OwnN w b n) (k : Wr b' o m w w') : OwnN w' b n := by
  have hb := h.own.lt
  obtain ⟨c, e, hs⟩ := h
  by_cases e' : b = b'
  · subst e'; obtain ⟨c', e1, hs'⟩ := k.own c _ _ e; exact ⟨c', e1, hs'.trans hs⟩
  · exact ⟨c, (k.block b hb e').trans e, hs⟩
theorem OwnN.grow {w w' : World} {b n : Nat} (h : OwnN w b n) (k : Below w.heap.size w w') : OwnN w' b n := by
  have hb := h.own.lt
  obtain ⟨c, e, hs⟩ := h
  exact ⟨c, (k.block b hb).trans e, hs⟩
theorem OwnN.drew {w : World} {b n : Nat} (h : OwnN w b n) : OwnN w.drew b n := h
theorem OwnN.put {w : World} {b n m : Nat} {v : Value} (h : OwnN w b n) : OwnN (w.setCell ⟨m, 0, none⟩ v) b n :=
  h.wr ((Wr.refl m 0 1 w).setCell 0 (by omega) v)
/-- make([]uint64, n), with the row's size. -/
theorem wpList_make_wordsN {w : World} {ops : Array Oper} {rest : List Oper} {o : Oper} {a : Act} {Q : Exit → Act → World → Prop}
    (hg : o.guard = none) (l c : Operand) (hop : o.op = Op.makeSlice 55 l c) (n : Nat) (L C : Int) (hl : a.eval l = .int .i64 L) (hc : a.eval c = .int .i64 C) (hL : L = (n : Int)) (hC : C = (n : Int)) (hn : n ≤ 35184372088832)
    (hK : ∀ w', Cells w' w.heap.size 0 (List.replicate n 0) → OwnN w' w.heap.size n → Below w.heap.size w w' → w.heap.size < w'.heap.size → wpList Tryz.prog ops Q rest (a.put o.dst (.slice (some ⟨w.heap.size, 0, none⟩) n n)) w') :
    wpList Tryz.prog ops Q (o :: rest) a w := by
  obtain ⟨i, hi, hz0, hz1, hz2⟩ := info_parts Tryz.infoU
  refine wpList_make_full w hg l c 55 hop w.heap.size 91 i (.int .u64 0) 1 Tryz.underlying55 hi hz0 hz1 .i64 .i64 L C n hl hc hL hC (by rw [hz2]; omega) (by unfold maxLen; omega) (Nat.le_refl _) ?_
  intro w' ho hgr
  obtain ⟨_, h2⟩ := ho
  rcases h2 with ⟨e, _⟩ | ⟨g, cap, cur, e, hb, hh, h3, h4, h5, h6⟩
  · simp at e
  · simp only [Value.slice.injEq, Option.some.injEq, Addr.mk.injEq] at e
    obtain ⟨⟨e1, _, _⟩, _, e2⟩ := e
    subst e1 e2
    have hbl : Below w.heap.size w w' := ⟨hgr.os, hgr.tape, hgr.output, hgr.size, fun k hk => hgr.block k hk (by simp)⟩
    simp only [Nat.mul_one] at h6 h5
    refine hK w' ?_ ⟨cur, hh, h5⟩ hbl (Own.lt ⟨cur, _, hh⟩)
    intro j hj
    rw [List.length_replicate] at hj
    have hc6 : (Value.int .u64 0).cells = #[Value.int .u64 0] := rfl
    rw [hc6, toList_madeCells_one] at h6
    have h7 : cur.toList[j]? = some (.int .u64 0) := by
      have := congrArg (fun l : List Value => l[j]?) h6
      simp only [List.getElem?_take, hj, if_true, List.getElem?_replicate] at this
      exact this
    rw [nth_replicate]
    simp only [World.cell?, hh, Nat.zero_add]
    simpa using h7
/-- The slice value lies at the head of a row of the call's own. -/
def Fresh (base : Nat) (w : World) (v : Value) : Prop := ∃ g l n, v = .slice (some ⟨g, 0, none⟩) l n ∧ base ≤ g ∧ OwnN w g n ∧ n ≤ 9223372036854775807
theorem Fresh.grow {base : Nat} {w w' : World} {v : Value} (h : Fresh base w v) (k : Below w.heap.size w w') : Fresh base w' v := by
  obtain ⟨g, l, n, e, hb, ho, hn⟩ := h; exact ⟨g, l, n, e, hb, ho.grow k, hn⟩
theorem Fresh.mono {base base' : Nat} {w : World} {v : Value} (h : Fresh base w v) (k : base' ≤ base) : Fresh base' w v := by
  obtain ⟨g, l, n, e, hb, ho, hn⟩ := h; exact ⟨g, l, n, e, by omega, ho, hn⟩
theorem Fresh.put {base : Nat} {w : World} {v u : Value} {m : Nat} (h : Fresh base w v) : Fresh base (w.setCell ⟨m, 0, none⟩ u) v := by
  obtain ⟨g, l, n, e, hb, ho, hn⟩ := h; exact ⟨g, l, n, e, hb, ho.put, hn⟩
end Go.Proofs.YtiaeoknmgidehaaGreatDoor

namespace Tn
/-- Some of Euclid's steps, followed on the first words: a and b are ah and bh times H, and something below H. The rows x0 y0, x1 y1 with the sign e make of a and b two later numbers of Euclid's; p and q are what they make of ah and bh. -/
structure Leh (a b ah bh H al bl x0 y0 x1 y1 p q e : Int) : Prop where
  sgn : e = 1 ∨ e = -1
  px0 : 0 ≤ x0
  py0 : 0 ≤ y0
  px1 : 0 ≤ x1
  py1 : 1 ≤ y1
  le1 : x1 ≤ y1
  q0 : 0 ≤ q
  qp : q ≤ p
  sumY : y1 * p + y0 * q = ah
  sumX : x1 * p + x0 * q = bh
  isP : p = e * (x0 * ah - y0 * bh)
  isQ : q = e * (y1 * bh - x1 * ah)
  low : 0 ≤ e * (y1 * b - x1 * a)
  ord : e * (y1 * b - x1 * a) ≤ e * (x0 * a - y0 * b)
  topA : e * (x0 * a - y0 * b) ≤ a
  topB : e * (y1 * b - x1 * a) ≤ b
  first : (x1 = 0 ∧ x0 = 1 ∧ y0 = 0) ∨ (x0 ≤ y0 ∧ 1 ≤ x1 ∧ e * (y1 * b - x1 * a) < b)
  same : Int.gcd (e * (x0 * a - y0 * b)) (e * (y1 * b - x1 * a)) = Int.gcd a b

theorem Leh.start {a b ah bh H al bl : Int} (hb : 0 ≤ b) (hba : b ≤ a) (hbh : 0 ≤ bh) (h : bh ≤ ah) : Leh a b ah bh H al bl 1 0 0 1 ah bh 1 := by
  constructor <;> first | omega | grind | skip

theorem gcd_step (A B t : Int) : Int.gcd B (A - t * B) = Int.gcd A B := by
  rw [Int.gcd_comm A B, Int.mul_comm, Int.gcd_sub_mul_left_right]

set_option maxHeartbeats 1000000 in
theorem Leh.next {a b ah bh H al bl x0 y0 x1 y1 p q e t x2 y2 : Int} (h : Leh a b ah bh H al bl x0 y0 x1 y1 p q e) (ha : a = ah * H + al) (hb : b = bh * H + bl) (hH : 0 < H) (al0 : 0 ≤ al) (al1 : al < H) (bl0 : 0 ≤ bl) (bl1 : bl < H)
    (hq : 0 < q) (ht : t = p / q) (hx : x2 = x0 + t * x1) (hy : y2 = y0 + t * y1) (c1 : y2 ≤ p % q) (c2 : y1 + y2 ≤ q - p % q) :
    Leh a b ah bh H al bl x1 y1 x2 y2 q (p % q) (-e) := by
  have hm : p % q = p - t * q := by have := Int.emod_add_mul_ediv p q; rw [ht]; grind
  have ht1 : 1 ≤ t := by rw [ht]; exact (Int.le_ediv_iff_mul_le hq).2 (by have := h.qp; omega)
  have hm0 := Int.emod_nonneg p (show q ≠ 0 by omega)
  have hm1 := Int.emod_lt_of_pos p hq
  have tx : 0 ≤ t * x1 := Int.mul_nonneg (by omega) h.px1
  have ty : y1 ≤ t * y1 := by have := Int.mul_le_mul_of_nonneg_right ht1 (show 0 ≤ y1 by have := h.py1; omega); omega
  have txy : t * x1 ≤ t * y1 := Int.mul_le_mul_of_nonneg_left h.le1 (by omega)
  have hx2 : 0 ≤ x2 := by have := h.px0; omega
  have hx21 : 1 ≤ x2 := by
    rcases h.first with ⟨_, f, _⟩ | ⟨_, f, _⟩
    · omega
    · have := Int.mul_le_mul_of_nonneg_right ht1 h.px1; have := h.px0; omega
  have hy2 : 1 ≤ y2 := by have := h.py0; have := h.py1; omega
  have hxy : x2 ≤ y2 := by
    rcases h.first with ⟨f1, f2, f3⟩ | ⟨f, _, _⟩
    · have := h.py1; rw [f1] at hx; omega
    · omega
  have y1p := h.py1
  have b1 : 0 ≤ x2 * al ∧ x2 * al ≤ y2 * (H - 1) := ⟨Int.mul_nonneg hx2 al0, Int.le_trans (Int.mul_le_mul_of_nonneg_right hxy al0) (Int.mul_le_mul_of_nonneg_left (by omega) (by omega))⟩
  have b2 : 0 ≤ y2 * bl ∧ y2 * bl ≤ y2 * (H - 1) := ⟨Int.mul_nonneg (by omega) bl0, Int.mul_le_mul_of_nonneg_left (by omega) (by omega)⟩
  have b3 : 0 ≤ x1 * al ∧ x1 * al ≤ y1 * (H - 1) := ⟨Int.mul_nonneg h.px1 al0, Int.le_trans (Int.mul_le_mul_of_nonneg_right h.le1 al0) (Int.mul_le_mul_of_nonneg_left (by omega) (by omega))⟩
  have b4 : 0 ≤ y1 * bl ∧ y1 * bl ≤ y1 * (H - 1) := ⟨Int.mul_nonneg (by omega) bl0, Int.mul_le_mul_of_nonneg_left (by omega) (by omega)⟩
  have g1 : y2 * H ≤ (p % q) * H := Int.mul_le_mul_of_nonneg_right c1 (by omega)
  have g2 : (y1 + y2) * H ≤ (q - p % q) * H := Int.mul_le_mul_of_nonneg_right c2 (by omega)
  have e1 : y2 * (H - 1) = y2 * H - y2 := by grind
  have e2 : y1 * (H - 1) = y1 * H - y1 := by grind
  have e3 : (y1 + y2) * H = y1 * H + y2 * H := by grind
  have e4 : (q - p % q) * H = q * H - (p % q) * H := by grind
  have isQ' : p % q = e * (x2 * ah - y2 * bh) := by rw [hm, h.isP, h.isQ, hx, hy]; grind
  have sQ : e * (x2 * a - y2 * b) = (p % q) * H + e * (x2 * al - y2 * bl) := by rw [isQ', ha, hb]; grind
  have sP : e * (y1 * b - x1 * a) = q * H + e * (y1 * bl - x1 * al) := by rw [h.isQ, ha, hb]; grind
  have stp : e * (x2 * a - y2 * b) = e * (x0 * a - y0 * b) - t * (e * (y1 * b - x1 * a)) := by rw [hx, hy]; grind
  have n1 : -e * (y2 * b - x2 * a) = e * (x2 * a - y2 * b) := by grind
  have n2 : -e * (x1 * a - y1 * b) = e * (y1 * b - x1 * a) := by grind
  have lo : 0 ≤ e * (x2 * a - y2 * b) := by
    rw [sQ]; rcases h.sgn with s | s <;> rw [s] <;> omega
  have od : e * (x2 * a - y2 * b) < e * (y1 * b - x1 * a) := by
    rw [sQ, sP]; rcases h.sgn with s | s <;> rw [s] <;> omega
  have tb := h.topB
  have or' := h.ord
  have ta := h.topA
  refine ⟨by have := h.sgn; omega, h.px1, by omega, hx2, hy2, hxy, hm0, by omega, ?_, ?_, ?_, ?_, ?_, ?_, ?_, ?_, ?_, ?_⟩
  · have := h.sumY; rw [hm, hy]; grind
  · have := h.sumX; rw [hm, hx]; grind
  · rw [h.isQ]; grind
  · rw [isQ']; grind
  · rw [n1]; exact lo
  · rw [n1, n2]; omega
  · rw [n2]; omega
  · rw [n1]; omega
  · right; rw [n1]; exact ⟨h.le1, hx21, by omega⟩
  · rw [n1, n2, stp, gcd_step]; exact h.same
end Tn
