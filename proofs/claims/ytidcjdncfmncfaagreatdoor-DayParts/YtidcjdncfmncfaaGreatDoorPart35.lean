import Derived.WalkKit
import Derived.WalkLawsBesides
import Derived.Test.YtidcjdncfmncfaaGreatDoorPart34

namespace Tn
open Go

theorem fmt64 : FloatKind.f64.format = Ieee.double := rfl
/-- The sign bit, as a test. -/
def ng64 (n : Nat) : Bool := n / 9223372036854775808 % 2 == 1
/-- The bits below it. -/
def rg64 (n : Nat) : Nat := n % 9223372036854775808
theorem read64 (n : Nat) : Ieee.double.read n = if rg64 n < 4503599627370496 then .number (ng64 n) (rg64 n) (-1074)
    else if rg64 n < 9218868437227405312 then .number (ng64 n) (4503599627370496 + rg64 n % 4503599627370496) (-1074 + ((rg64 n / 4503599627370496 - 1 : Nat) : Int))
    else if rg64 n = 9218868437227405312 then .infinity (ng64 n) else .nan (ng64 n) (rg64 n - 9218868437227405312) := rfl
/-- It is none. -/
def nan64 (n : Nat) : Bool := decide (9218868437227405312 < rg64 n)
theorem order_self (n : Nat) : (FloatKind.f64.format.order n n != some .eq) = nan64 n := by
  rw [fmt64]
  unfold Ieee.Format.order nan64
  rw [read64]
  split
  · have e : decide (9218868437227405312 < rg64 n) = false := by rw [decide_eq_false_iff_not]; omega
    rw [e]; simp [Ieee.Datum.order]
  · split
    · have e : decide (9218868437227405312 < rg64 n) = false := by rw [decide_eq_false_iff_not]; omega
      rw [e]; simp [Ieee.Datum.order]
    · split
      · have e : decide (9218868437227405312 < rg64 n) = false := by rw [decide_eq_false_iff_not]; omega
        rw [e]; simp [Ieee.Datum.order]
      · have e : decide (9218868437227405312 < rg64 n) = true := by rw [decide_eq_true_eq]; omega
        rw [e]; simp [Ieee.Datum.order]
theorem cmp_int (a b : Int) : compare a b = if a < b then .lt else if a = b then .eq else .gt := rfl
theorem cmp_zero (s : Bool) (m k : Nat) : compare (Ieee.signed s m k) (Ieee.signed false 0 0) = if m = 0 then .eq else if s = true then .lt else .gt := by
  have hp : 0 < m → 0 < m <<< k := by intro h; rw [Nat.shiftLeft_eq]; exact Nat.mul_pos h (Nat.two_pow_pos k)
  unfold Ieee.signed
  by_cases hm : m = 0
  · subst hm; cases s <;> simp [Nat.zero_shiftLeft]
  · have := hp (by omega)
    generalize m <<< k = x at this
    rw [cmp_int, Nat.zero_shiftLeft]
    cases s
    · rw [if_neg (by simp), if_neg (by simp; omega), if_neg hm, if_neg (by simp)]
    · rw [if_pos (by simp; omega), if_neg hm, if_pos rfl]
theorem order_0 (n : Nat) (h : nan64 n = false) : FloatKind.f64.format.order n 0 = some (if rg64 n = 0 then .eq else if ng64 n = true then .lt else .gt) := by
  rw [fmt64]
  unfold Ieee.Format.order
  simp only [nan64, decide_eq_false_iff_not] at h
  rw [show Ieee.double.read 0 = .number false 0 (-1074) from rfl, read64 n]
  split
  · simp only [Ieee.Datum.order]
    rw [show min (-1074 : Int) (-1074) = -1074 from rfl, show ((-1074 : Int) - -1074).toNat = 0 from rfl, cmp_zero]
  · split
    · simp only [Ieee.Datum.order]
      rw [show ∀ x : Nat, min (-1074 + (x : Int)) (-1074) = -1074 from fun x => by omega, show ((-1074 : Int) - -1074).toNat = 0 from rfl, cmp_zero]
      simp only [show ¬ (4503599627370496 + rg64 n % 4503599627370496 = 0) from by omega, show ¬ (rg64 n = 0) from by omega, if_false]
    · split
      · simp only [Ieee.Datum.order, show ¬ (rg64 n = 0) from by omega, if_false]
      · exfalso; omega
theorem order_max (n : Nat) (h : nan64 n = false) : (FloatKind.f64.format.order n 9218868437227405311 == some .gt) = decide (n % 18446744073709551616 = 9218868437227405312) := by
  rw [fmt64]
  unfold Ieee.Format.order
  simp only [nan64, decide_eq_false_iff_not] at h
  rw [show Ieee.double.read 9218868437227405311 = .number false 9007199254740991 971 from rfl, read64 n]
  have key : ∀ (s : Bool) (m : Nat) (i : Int), m ≤ 9007199254740991 → i ≤ 971 → compare (Ieee.signed s m (i - min i 971).toNat) (Ieee.signed false 9007199254740991 (971 - min i 971).toNat) ≠ .gt := by
    intro s m i hm hi
    rw [show min i 971 = i from by omega, show (i - i).toNat = 0 from by omega]
    have hp : 9007199254740991 ≤ 9007199254740991 <<< (971 - i).toNat := by rw [Nat.shiftLeft_eq]; exact Nat.le_mul_of_pos_right _ (Nat.two_pow_pos _)
    unfold Ieee.signed
    generalize 9007199254740991 <<< (971 - i).toNat = y at hp
    rw [Nat.shiftLeft_zero, cmp_int, if_neg (show ¬ (false = true) by simp)]
    cases s
    · rw [if_neg (show ¬ (false = true) by simp)]
      split
      · simp
      · split
        · simp
        · exfalso; omega
    · rw [if_pos rfl]
      split
      · simp
      · split
        · simp
        · exfalso; omega
  have sn : rg64 n = n % 9223372036854775808 := rfl
  split
  · have e : decide (n % 18446744073709551616 = 9218868437227405312) = false := by rw [decide_eq_false_iff_not]; omega
    rw [e]
    have k := key (ng64 n) (rg64 n) (-1074) (by omega) (by omega)
    simpa [Ieee.Datum.order] using k
  · split
    · have e : decide (n % 18446744073709551616 = 9218868437227405312) = false := by rw [decide_eq_false_iff_not]; omega
      rw [e]
      have k := key (ng64 n) (4503599627370496 + rg64 n % 4503599627370496) (-1074 + ((rg64 n / 4503599627370496 - 1 : Nat) : Int)) (by omega) (by omega)
      simpa [Ieee.Datum.order] using k
    · split
      · simp only [Ieee.Datum.order]
        have g : ng64 n = (n / 9223372036854775808 % 2 == 1) := rfl
        cases hg : ng64 n
        · rw [hg] at g
          have e : decide (n % 18446744073709551616 = 9218868437227405312) = true := by
            rw [decide_eq_true_eq]
            have := g.symm
            simp at this
            omega
          rw [e]; rfl
        · rw [hg] at g
          have e : decide (n % 18446744073709551616 = 9218868437227405312) = false := by
            rw [decide_eq_false_iff_not]
            have := g.symm
            simp at this
            omega
          rw [e]; rfl
      · exfalso; omega
end Tn

namespace Go.Proofs.YtidcjdncfmncfaaGreatDoor
open Go.RowKit Tn

theorem sign_wrap (n : Nat) (hn : n < 18446744073709551616) : decide (IntKind.i64.wrap (n : Int) < 0) = ng64 n := by
  unfold ng64
  rw [Bool.eq_iff_iff, decide_eq_true_iff, beq_iff_eq]
  simp [IntKind.wrap, IntKind.bits, IntKind.signed]
  omega
theorem andNot_sign (n : Nat) (hn : n < 18446744073709551616) : bits .andNot .u64 (n : Int) 9223372036854775808 = (rg64 n : Int) := by
  unfold rg64
  by_cases h : 9223372036854775808 ≤ n
  · have e := bits_andNot_pow n 9223372036854775808 63 (by decide) (by decide) h (by omega)
    rw [show ((9223372036854775808 : Nat) : Int) = 9223372036854775808 from rfl] at e
    rw [e]; omega
  · have a1 : (BitVec.ofInt 64 (n : Int)).toNat = n := by
      rw [BitVec.ofInt_natCast, BitVec.toNat_ofNat]; exact Nat.mod_eq_of_lt (by omega)
    have a2 : ~~~ BitVec.ofInt 64 (9223372036854775808 : Int) = BitVec.ofNat 64 9223372036854775807 := by decide
    show IntKind.u64.wrap ((BitVec.ofInt 64 (n : Int) &&& ~~~ BitVec.ofInt 64 (9223372036854775808 : Int)).toNat : Int) = _
    rw [a2, BitVec.toNat_and, a1, show (BitVec.ofNat 64 9223372036854775807).toNat = 2 ^ 63 - 1 from by decide, Nat.and_two_pow_sub_one_eq_mod, IntKind.wrap_u64]
    omega
/-- The place in the total order. -/
def rank64 (n : Nat) : Int := if nan64 n = true then 9223372036854775807 else if ng64 n = true then -1 - (rg64 n : Int) else rg64 n
theorem rg64_lt (n : Nat) : rg64 n < 9223372036854775808 := Nat.mod_lt _ (by decide)
/-- What stands above. -/
def up64 (n : Nat) : Nat := if nan64 n = true then n else if n = 9218868437227405312 then n else if rg64 n = 0 then 1 else if ng64 n = true then n - 1 else n + 1
end Go.Proofs.YtidcjdncfmncfaaGreatDoor

namespace Go.Proofs.YtidcjdncfmncfaaGreatDoor
open Go.RowKit Tn

/-- The sign bit turned. -/
def flip64 (n : Nat) : Nat := n ^^^ 9223372036854775808
theorem flip_lt (n : Nat) (h : n < 18446744073709551616) : flip64 n < 18446744073709551616 := Nat.xor_lt_two_pow (n := 64) (by omega) (by decide)
theorem neg_run (n : Nat) (w : World) : (Op.unary .neg (.float .f64 n)).run Tryz.prog w = .ok (.float .f64 (flip64 n)) w := rfl
theorem up_lt (n : Nat) (h : n < 18446744073709551616) : up64 n < 18446744073709551616 := by
  unfold up64
  repeat' split
  · omega
  · omega
  · omega
  · omega
  · rename_i a
    have : ¬ (n / 9223372036854775808 % 2 = 1) := by intro e; exact a (by unfold ng64; simp [e])
    omega
/-- -1, 0 or 1. -/
def ord3 (a b : Int) : Int := if a < b then -1 else if b < a then 1 else 0
/-- How many steps lie between. -/
def steps64 (n m : Nat) : Int := if ng64 n = ng64 m then max (rg64 n : Int) (rg64 m) - min (rg64 n : Int) (rg64 m) else (rg64 n : Int) + rg64 m
end Go.Proofs.YtidcjdncfmncfaaGreatDoor

namespace Go.Proofs.YtidcjdncfmncfaaGreatDoor
open Go.RowKit Tn

theorem none_nan (n : Nat) : (decide (fdW n = 2047) && decide (frW n ≠ 0)) = nan64 n := by
  unfold nan64 fdW frW rg64
  rw [Bool.eq_iff_iff, Bool.and_eq_true, decide_eq_true_iff, decide_eq_true_iff, decide_eq_true_iff]
  omega
/-- The place as the reference tells it. -/
def place64 (n : Nat) : Int := if ng64 n = true then -(rg64 n : Int) else rg64 n
end Go.Proofs.YtidcjdncfmncfaaGreatDoor

namespace Go.Proofs.YtidcjdncfmncfaaGreatDoor.L
open Go.RowKit Tl
end Go.Proofs.YtidcjdncfmncfaaGreatDoor.L

namespace Go.Proofs.YtidcjdncfmncfaaGreatDoor.L
open Go.RowKit Tl

/-- The bits of 2 to the T - 1074. -/
def gapB (T : Nat) : Int := if T ≤ 51 then 2 ^ T else ((T : Int) - 51) * 4503599627370496
theorem fl_core {D m r : Int} {T k : Nat} (hD : 0 < D) (h : D * 2 ^ T = m * (D * 2 ^ k) + r) (r0 : 0 ≤ r) (r1 : r < D * 2 ^ k) (m0 : 0 ≤ m) : (k ≤ T → m = 2 ^ (T - k) ∧ r = 0) ∧ (T < k → m = 0) := by
  have pk : 0 < D * 2 ^ k := Int.mul_pos hD (two_pow_pos k)
  constructor
  · intro hk
    have e : D * 2 ^ T = 2 ^ (T - k) * (D * 2 ^ k) := by
      rw [show T = (T - k) + k from by omega, Int.pow_add, show T - k + k - k = T - k from by omega]; grind
    have f : (2 ^ (T - k) - m) * (D * 2 ^ k) = r := by rw [Int.sub_mul]; omega
    generalize (2 : Int) ^ (T - k) = a at *
    generalize D * 2 ^ k = b at *
    have g : a - m = 0 := by
      by_cases c : a - m = 0
      · exact c
      · rcases Int.lt_or_gt_of_ne c with c | c
        · have := Int.mul_le_mul_of_nonneg_right (show a - m ≤ -1 by omega) (Int.le_of_lt pk); omega
        · have := Int.mul_le_mul_of_nonneg_right (show 1 ≤ a - m by omega) (Int.le_of_lt pk); omega
    rw [g] at f
    exact ⟨by omega, by simp at f; omega⟩
  · intro hk
    have a : D * 2 ^ T < D * 2 ^ k := by
      refine Int.mul_lt_mul_of_pos_left ?_ hD
      have h1 := two_pow_le (show T + 1 ≤ k by omega)
      rw [Int.pow_succ] at h1
      have := two_pow_pos T
      omega
    by_cases c : m = 0
    · exact c
    · have := Int.mul_le_mul_of_nonneg_right (show 1 ≤ m by omega) (Int.le_of_lt pk); omega
theorem fl_star {N D e m r : Int} {T k Z : Nat} (h : Fl N D e m r) (hc : N * 2 ^ Z = D * 2 ^ T) (hk : (k : Int) = e + Z) : ∃ j : Nat, D * 2 ^ T = m * (D * 2 ^ k) + r * 2 ^ j ∧ r * 2 ^ j < D * 2 ^ k := by
  have e1 := h.eq
  have e2 := h.r1
  by_cases he : 0 ≤ e
  · refine ⟨Z, ?_, ?_⟩
    · rw [show (-e).toNat = 0 from by omega, Int.pow_zero, Int.mul_one] at e1
      rw [← hc, e1, show k = e.toNat + Z from by omega, Int.pow_add]; grind
    · have := Int.mul_lt_mul_of_pos_right e2 (two_pow_pos Z)
      rw [show k = e.toNat + Z from by omega, Int.pow_add, ← Int.mul_assoc]; exact this
  · rw [show e.toNat = 0 from by omega, Int.pow_zero, Int.mul_one] at e1 e2
    refine ⟨k, ?_, Int.mul_lt_mul_of_pos_right e2 (two_pow_pos k)⟩
    have f : N * 2 ^ Z = N * 2 ^ (-e).toNat * 2 ^ k := by rw [Int.mul_assoc, ← Int.pow_add]; congr 2; omega
    rw [← hc, f, e1]; grind
theorem pow_lt {a b : Nat} (h : (2 : Int) ^ a < 2 ^ b) : a < b := by
  by_cases c : a < b
  · exact c
  · have := two_pow_le (show b ≤ a by omega); omega
theorem gap_exact {N D e m r : Int} {T Z : Nat} (hZ : Z = 1074) (hT : T ≤ 2045) (hD : 0 < D) (hc : N * 2 ^ Z = D * 2 ^ T) (h : Fl N D e m r) (m0 : 0 ≤ m) (e0 : -1074 ≤ e) (m1 : m < 9007199254740992) (st : e = -1074 ∨ 4503599627370496 ≤ m) : (r = 0 ∧ e ≤ 971) ∧ lay52 m e = gapB T := by
  obtain ⟨k, hk⟩ : ∃ k : Nat, (k : Int) = e + Z := ⟨(e + Z).toNat, by omega⟩
  obtain ⟨j, s1, s2⟩ := fl_star h hc hk
  have r0 := h.r0
  have rj : 0 ≤ r * 2 ^ j := Int.mul_nonneg r0 (Int.le_of_lt (two_pow_pos j))
  obtain ⟨c1, c2⟩ := fl_core hD s1 rj s2 m0
  have hkT : k ≤ T := by
    by_cases c : k ≤ T
    · exact c
    · have := c2 (by omega)
      rcases st with st | st <;> omega
  obtain ⟨hm, hr⟩ := c1 hkT
  have r00 : r = 0 := by
    by_cases c : r = 0
    · exact c
    · have := Int.mul_pos (show 0 < r by omega) (two_pow_pos j); omega
  have t53 : (2 : Int) ^ 53 = 9007199254740992 := by decide
  have t52 : (2 : Int) ^ 52 = 4503599627370496 := by decide
  have t51 : (2 : Int) ^ 51 = 2251799813685248 := by decide
  have h53 : T - k < 53 := pow_lt (by rw [← hm, t53]; exact m1)
  have h52 : k = 0 ∨ T - k = 52 := by
    rcases st with st | st
    · left; omega
    · right
      by_cases c : T - k = 52
      · exact c
      · have := two_pow_le (show T - k ≤ 51 by omega)
        omega
  refine ⟨⟨r00, by omega⟩, ?_⟩
  unfold lay52 gapB
  rcases h52 with h52 | h52
  · have ek : T - k = T := by omega
    rw [ek] at hm
    by_cases c : T ≤ 51
    · have := two_pow_le c
      rw [if_neg (by omega), if_pos c]; exact hm
    · have eT : T = 52 := by omega
      rw [eT, t52] at hm
      rw [if_pos (by omega), if_neg c, hm, eT]
      omega
  · rw [h52, t52] at hm
    rw [if_pos (by omega), if_neg (by omega), hm]
    omega
end Go.Proofs.YtidcjdncfmncfaaGreatDoor.L

namespace Go.Proofs.YtidcjdncfmncfaaGreatDoor.L
open Go.RowKit Tl

theorem keep_cell {W w5 : World} {b i : Nat} {v : Value} (bu : Below W.heap.size W w5) (h : W.cell? ⟨b, i, none⟩ = some v) : w5.cell? ⟨b, i, none⟩ = some v := (bu.cell (p := ⟨b, i, none⟩) (lt_of_cell h)).trans h
theorem cell_alloc {w : World} {b i : Nat} {ob : Obj} {v : Value} (h : w.cell? ⟨b, i, none⟩ = some v) : (w.alloc ob).cell? ⟨b, i, none⟩ = some v := keep_cell ((Below.refl _ _).alloc (Nat.le_refl _) _) h
theorem cell_at {w : World} {n : Nat} {v : Value} {t : TypeId} (h : n = w.heap.size) : (w.alloc (.cells #[v] t)).cell? ⟨n, 0, none⟩ = some v := by subst h; simp
theorem blk_at {w : World} {n : Nat} {c : Array Value} {t : TypeId} (h : n = w.heap.size) : Blk (w.alloc (.cells c t)) n c t := by subst h; exact Blk.new _ _ _
theorem rd_alloc {w : World} {ob : Obj} {v : Value} {xs : List Int} (h : Rd w v xs) : Rd (w.alloc ob) v xs := h.grow ((Below.refl _ _).alloc (Nat.le_refl _) _)
theorem bel_alloc {w W : World} {ob : Obj} (h : Below w.heap.size w W) : Below w.heap.size w (W.alloc ob) := h.alloc h.size _
theorem blk_keep {W w5 : World} {n : Nat} {c : Array Value} {t : TypeId} (bu : Below W.heap.size W w5) (h : Blk W n c t) : Blk w5 n c t := h.below bu h.lt
theorem cell_drew {w : World} {b i : Nat} {v : Value} (h : w.cell? ⟨b, i, none⟩ = some v) : w.drew.cell? ⟨b, i, none⟩ = some v := h
theorem blk_drew {w : World} {n : Nat} {c : Array Value} {t : TypeId} (h : Blk w n c t) : Blk w.drew n c t := h
theorem bel_drw {w W : World} (h : Below w.heap.size w W) : Below w.heap.size w W.drew := h.drew
theorem rd_drew {w : World} {v : Value} {xs : List Int} (h : Rd w v xs) : Rd w.drew v xs := h.drew
theorem blk_put3 {w : World} {b : Nat} {u0 u1 u2 x y z : Value} {t : TypeId} (h : Blk w b #[u0, u1, u2] t) : Blk (((w.setCell ⟨b, 0, none⟩ x).setCell ⟨b, 1, none⟩ y).setCell ⟨b, 2, none⟩ z) b #[x, y, z] t := by
  have h' : w.heap[b]? = some (.cells #[u0, u1, u2] t (0, 0)) := h
  show (((w.setCell ⟨b, 0, none⟩ x).setCell ⟨b, 1, none⟩ y).setCell ⟨b, 2, none⟩ z).heap[b]? = _
  simp [World.setCell, Array.getElem?_modify, h']
theorem wr3 {w : World} {b : Nat} {x y z : Value} : Wr b 0 3 w (((w.setCell ⟨b, 0, none⟩ x).setCell ⟨b, 1, none⟩ y).setCell ⟨b, 2, none⟩ z) := (((Wr.refl _ _ _ _).setCell 0 (by omega) x).setCell 1 (by omega) y).setCell 2 (by omega) z
theorem blk_other3 {w : World} {b n : Nat} {x y z : Value} {c : Array Value} {t : TypeId} (h : n ≠ b) (k : Blk w n c t) : Blk (((w.setCell ⟨b, 0, none⟩ x).setCell ⟨b, 1, none⟩ y).setCell ⟨b, 2, none⟩ z) n c t := (wr3.block n k.lt h).trans k
theorem below3 {W w : World} {b : Nat} {x y z : Value} (h : Below W.heap.size W w) (hb : W.heap.size ≤ b) : Below W.heap.size W (((w.setCell ⟨b, 0, none⟩ x).setCell ⟨b, 1, none⟩ y).setCell ⟨b, 2, none⟩ z) := h.trans (wr3.below hb h.size)
theorem gap_facts {za zb ns ds : List Int} {T : Nat} {G : Int} (ha : Wd za) (hb : Wd zb) (hn : Wd ns) (hd : Wd ds) (nn : Nm ns) (nd : Nm ds) (va : val za = val [1] * 2 ^ T) (vb : val zb = val [1] * 2 ^ 1074) (vN : val ns * G = val za) (vD : val ds * G = val zb) (la : za.length ≤ 100) (lb : zb.length ≤ 100) (G0 : 0 ≤ G) :
    val ns * 2 ^ 1074 = val ds * 2 ^ T ∧ ns.length ≤ 100 ∧ ds.length ≤ 100 ∧ 0 < val ns ∧ 0 < val ds := by
  have p1 := two_pow_pos T
  have p2 := two_pow_pos 1074
  have n0 := val_nonneg hn
  have d0 := val_nonneg hd
  rw [val_one, Int.one_mul] at va vb
  generalize (2 : Int) ^ 1074 = q at *
  generalize (2 : Int) ^ T = p at *
  have g1 : 0 < G := by
    by_cases c : 0 < G
    · exact c
    · have : G = 0 := by omega
      rw [this] at vN; simp at vN; omega
  have n1 : 0 < val ns := by
    by_cases c : 0 < val ns
    · exact c
    · have : val ns = 0 := by omega
      rw [this] at vN; simp at vN; omega
  have d1 : 0 < val ds := by
    by_cases c : 0 < val ds
    · exact c
    · have : val ds = 0 := by omega
      rw [this] at vD; simp at vD; omega
  have e1 := Int.mul_le_mul_of_nonneg_left (show 1 ≤ G by omega) n0
  have e2 := Int.mul_le_mul_of_nonneg_left (show 1 ≤ G by omega) d0
  have l1 := len_mono ha hn nn (by omega)
  have l2 := len_mono hb hd nd (by omega)
  refine ⟨?_, by omega, by omega, n1, d1⟩
  rw [← va, ← vb, ← vN, ← vD]; grind
theorem one_len : ([1] : List Int).length ≤ 549755813888 := by decide
theorem h1_wd : Wd [1] := Wd.cons (by decide) (by decide) Wd.nil
theorem set3_other {w : World} {b b' i : Nat} {x y z v : Value} (_h : b' ≠ b) (q : w.cell? ⟨b', i, none⟩ = some v) : (((w.setCell ⟨b, 0, none⟩ x).setCell ⟨b, 1, none⟩ y).setCell ⟨b, 2, none⟩ z).cell? ⟨b', i, none⟩ = some v := by
  rw [World.cell?_setCell_other _ _ _ _ (by simp), World.cell?_setCell_other _ _ _ _ (by simp), World.cell?_setCell_other _ _ _ _ (by simp)]; exact q
end Go.Proofs.YtidcjdncfmncfaaGreatDoor.L
