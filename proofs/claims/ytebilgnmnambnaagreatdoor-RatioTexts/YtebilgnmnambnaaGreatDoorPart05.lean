import Derived.Test.YtebilgnmnambnaaGreatDoorPart01

namespace Tn
structure Leh (a b ah bh H al bl x0 y0 x1 y1 p q e : Int) : Prop where
  sgn : e = 1 ∨ e = -1
  px0 : 0 ≤ x0
  py0 : 0 ≤ y0
  px1 : 0 ≤ x1
  py1 : 1 ≤ y1
  le1 : x1 ≤ y1
  q0 : 0 ≤ q
  qp : q ≤ p
  sumY : y1 * p + y0 * q = ah
  sumX : x1 * p + x0 * q = bh
  isP : p = e * (x0 * ah - y0 * bh)
  isQ : q = e * (y1 * bh - x1 * ah)
  low : 0 ≤ e * (y1 * b - x1 * a)
  ord : e * (y1 * b - x1 * a) ≤ e * (x0 * a - y0 * b)
  topA : e * (x0 * a - y0 * b) ≤ a
  topB : e * (y1 * b - x1 * a) ≤ b
  first : (x1 = 0 ∧ x0 = 1 ∧ y0 = 0) ∨ (x0 ≤ y0 ∧ 1 ≤ x1 ∧ e * (y1 * b - x1 * a) < b)
  same : Int.gcd (e * (x0 * a - y0 * b)) (e * (y1 * b - x1 * a)) = Int.gcd a b
theorem Leh.start {a b ah bh H al bl : Int} (hb : 0 ≤ b) (hba : b ≤ a) (hbh : 0 ≤ bh) (h : bh ≤ ah) : Leh a b ah bh H al bl 1 0 0 1 ah bh 1 := by
  constructor <;> first | omega | grind | skip
theorem gcd_step (A B t : Int) : Int.gcd B (A - t * B) = Int.gcd A B := by
  rw [Int.gcd_comm A B, Int.mul_comm, Int.gcd_sub_mul_left_right]
set_option maxHeartbeats 1000000 in
theorem Leh.next {a b ah bh H al bl x0 y0 x1 y1 p q e t x2 y2 : Int} (h : Leh a b ah bh H al bl x0 y0 x1 y1 p q e) (ha : a = ah * H + al) (hb : b = bh * H + bl) (hH : 0 < H) (al0 : 0 ≤ al) (al1 : al < H) (bl0 : 0 ≤ bl) (bl1 : bl < H)
    (hq : 0 < q) (ht : t = p / q) (hx : x2 = x0 + t * x1) (hy : y2 = y0 + t * y1) (c1 : y2 ≤ p % q) (c2 : y1 + y2 ≤ q - p % q) :
    Leh a b ah bh H al bl x1 y1 x2 y2 q (p % q) (-e) := by
  have hm : p % q = p - t * q := by have := Int.emod_add_mul_ediv p q; rw [ht]; grind
  have ht1 : 1 ≤ t := by rw [ht]; exact (Int.le_ediv_iff_mul_le hq).2 (by have := h.qp; omega)
  have hm0 := Int.emod_nonneg p (show q ≠ 0 by omega)
  have hm1 := Int.emod_lt_of_pos p hq
  have tx : 0 ≤ t * x1 := Int.mul_nonneg (by omega) h.px1
  have ty : y1 ≤ t * y1 := by have := Int.mul_le_mul_of_nonneg_right ht1 (show 0 ≤ y1 by have := h.py1; omega); omega
  have txy : t * x1 ≤ t * y1 := Int.mul_le_mul_of_nonneg_left h.le1 (by omega)
  have hx2 : 0 ≤ x2 := by have := h.px0; omega
  have hx21 : 1 ≤ x2 := by
    rcases h.first with ⟨_, f, _⟩ | ⟨_, f, _⟩
    · omega
    · have := Int.mul_le_mul_of_nonneg_right ht1 h.px1; have := h.px0; omega
  have hy2 : 1 ≤ y2 := by have := h.py0; have := h.py1; omega
  have hxy : x2 ≤ y2 := by
    rcases h.first with ⟨f1, f2, f3⟩ | ⟨f, _, _⟩
    · have := h.py1; rw [f1] at hx; omega
    · omega
  have y1p := h.py1
  have b1 : 0 ≤ x2 * al ∧ x2 * al ≤ y2 * (H - 1) := ⟨Int.mul_nonneg hx2 al0, Int.le_trans (Int.mul_le_mul_of_nonneg_right hxy al0) (Int.mul_le_mul_of_nonneg_left (by omega) (by omega))⟩
  have b2 : 0 ≤ y2 * bl ∧ y2 * bl ≤ y2 * (H - 1) := ⟨Int.mul_nonneg (by omega) bl0, Int.mul_le_mul_of_nonneg_left (by omega) (by omega)⟩
  have b3 : 0 ≤ x1 * al ∧ x1 * al ≤ y1 * (H - 1) := ⟨Int.mul_nonneg h.px1 al0, Int.le_trans (Int.mul_le_mul_of_nonneg_right h.le1 al0) (Int.mul_le_mul_of_nonneg_left (by omega) (by omega))⟩
  have b4 : 0 ≤ y1 * bl ∧ y1 * bl ≤ y1 * (H - 1) := ⟨Int.mul_nonneg (by omega) bl0, Int.mul_le_mul_of_nonneg_left (by omega) (by omega)⟩
  have g1 : y2 * H ≤ (p % q) * H := Int.mul_le_mul_of_nonneg_right c1 (by omega)
  have g2 : (y1 + y2) * H ≤ (q - p % q) * H := Int.mul_le_mul_of_nonneg_right c2 (by omega)
  have e1 : y2 * (H - 1) = y2 * H - y2 := by grind
  have e2 : y1 * (H - 1) = y1 * H - y1 := by grind
  have e3 : (y1 + y2) * H = y1 * H + y2 * H := by grind
  have e4 : (q - p % q) * H = q * H - (p % q) * H := by grind
  have isQ' : p % q = e * (x2 * ah - y2 * bh) := by rw [hm, h.isP, h.isQ, hx, hy]; grind
  have sQ : e * (x2 * a - y2 * b) = (p % q) * H + e * (x2 * al - y2 * bl) := by rw [isQ', ha, hb]; grind
  have sP : e * (y1 * b - x1 * a) = q * H + e * (y1 * bl - x1 * al) := by rw [h.isQ, ha, hb]; grind
  have stp : e * (x2 * a - y2 * b) = e * (x0 * a - y0 * b) - t * (e * (y1 * b - x1 * a)) := by rw [hx, hy]; grind
  have n1 : -e * (y2 * b - x2 * a) = e * (x2 * a - y2 * b) := by grind
  have n2 : -e * (x1 * a - y1 * b) = e * (y1 * b - x1 * a) := by grind
  have lo : 0 ≤ e * (x2 * a - y2 * b) := by
    rw [sQ]; rcases h.sgn with s | s <;> rw [s] <;> omega
  have od : e * (x2 * a - y2 * b) < e * (y1 * b - x1 * a) := by
    rw [sQ, sP]; rcases h.sgn with s | s <;> rw [s] <;> omega
  have tb := h.topB
  have or' := h.ord
  have ta := h.topA
  refine ⟨by have := h.sgn; omega, h.px1, by omega, hx2, hy2, hxy, hm0, by omega, ?_, ?_, ?_, ?_, ?_, ?_, ?_, ?_, ?_, ?_⟩
  · have := h.sumY; rw [hm, hy]; grind
  · have := h.sumX; rw [hm, hx]; grind
  · rw [h.isQ]; grind
  · rw [isQ']; grind
  · rw [n1]; exact lo
  · rw [n1, n2]; omega
  · rw [n2]; omega
  · rw [n1]; omega
  · right; rw [n1]; exact ⟨h.le1, hx21, by omega⟩
  · rw [n1, n2, stp, gcd_step]; exact h.same
end Tn

namespace Go.Proofs.YtebilgnmnambnaaGreatDoor
open Go.RowKit Tn
def Blk (w : World) (n : Nat) (c : Array Value) (t : TypeId) : Prop := w.heap[n]? = some (.cells c t (0, 0))
theorem Blk.lt {w : World} {n : Nat} {c : Array Value} {t : TypeId} (h : Blk w n c t) : n < w.heap.size := Own.lt ⟨c, t, h⟩
theorem Blk.below {B : Nat} {w w' : World} {n : Nat} {c : Array Value} {t : TypeId} (h : Blk w n c t) (k : Below B w w') (hn : n < B) : Blk w' n c t := (k.block n hn).trans h
theorem Blk.at {w : World} {n : Nat} {c : Array Value} {t : TypeId} (h : Blk w n c t) (i : Nat) : w.cell? ⟨n, i, none⟩ = c[i]? := by
  have h' : w.heap[n]? = some (.cells c t (0, 0)) := h
  simp [World.cell?, h']
theorem Blk.new (w : World) (c : Array Value) (t : TypeId) : Blk (w.alloc (.cells c t)) w.heap.size c t := heap_alloc_new _ _
theorem Blk.alloc {w : World} {n : Nat} {c : Array Value} {t : TypeId} (h : Blk w n c t) (o : Obj) : Blk (w.alloc o) n c t := h.below ((Below.refl _ _).alloc (Nat.le_refl _) o) h.lt
theorem Blk.free {w : World} {n : Nat} {c : Array Value} {t : TypeId} (h : Blk w n c t) (i : Nat) : w.frozen? ⟨n, i, none⟩ = false := by
  have h' : w.heap[n]? = some (.cells c t (0, 0)) := h
  simp [World.frozen?, h']
end Go.Proofs.YtebilgnmnambnaaGreatDoor
