import Derived.WalkKit
import Derived.WalkSpells
import Derived.WalkSmall
import Derived.WalkLawsBesides
import Derived.Deep.QuietTactic
import Derived.BigQuiet
import Derived.Deep.RegionHeld3
import Derived.Test.YtidcjdncfmncfaaGreatDoorProg
import Derived.Test.YtidcjdncfmncfaaGreatDoorPart01
import Derived.Laws.Bits64b
import Derived.Laws.ShiftsVarLaws
import Derived.Test.YtidcjdncfmncfaaGreatDoorPart33
import Derived.Deep.DeepCutAuto
import Derived.Deep.CutBlock
import Derived.Laws.Externs

namespace Go.Proofs.YtidcjdncfmncfaaGreatDoor
open Go.RowKit Tn

theorem bel_drew {w W w1 : World} (pr : Below w.heap.size w W) (b1 : Below W.drew.heap.size W.drew w1) : Below w.heap.size w w1 := pr.drew.trans (b1.mono (show w.heap.size ≤ W.drew.heap.size from pr.size))
theorem bel {w W w1 : World} (pr : Below w.heap.size w W) (b1 : Below W.heap.size W w1) : Below w.heap.size w w1 := pr.trans (b1.mono pr.size)
/-- The format of floats. -/
abbrev fmtW : Value := .agg #[.int .i64 53, .int .i64 (-1074), .int .i64 971]
/-- The three cells of a format in its box. -/
def FmW (x : World) (n : Nat) : Prop := x.cell? ⟨n, 0, none⟩ = some (.int .i64 53) ∧ x.cell? ⟨n, 1, none⟩ = some (.int .i64 (-1074)) ∧ x.cell? ⟨n, 2, none⟩ = some (.int .i64 971)
theorem FmW.new (w : World) (t : TypeId) : FmW (w.alloc (.cells #[.int .i64 53, .int .i64 (-1074), .int .i64 971] t)) w.heap.size := ⟨(Blk.new w _ t).at 0, (Blk.new w _ t).at 1, (Blk.new w _ t).at 2⟩
theorem FmW.lt {x : World} {n : Nat} (h : FmW x n) : n < x.heap.size := lt_of_cell h.1
theorem FmW.below {x y : World} {n : Nat} (h : FmW x n) (k : Below x.heap.size x y) : FmW y n := ⟨(k.cell (p := ⟨n, 0, none⟩) h.lt).trans h.1, (k.cell (p := ⟨n, 1, none⟩) h.lt).trans h.2.1, (k.cell (p := ⟨n, 2, none⟩) h.lt).trans h.2.2⟩
theorem FmW.alloc {x : World} {n : Nat} (h : FmW x n) (o : Obj) : FmW (x.alloc o) n := h.below ((Below.refl _ _).alloc (Nat.le_refl _) o)
/-- The format of small floats. -/
abbrev fmtS : Value := .agg #[.int .i64 24, .int .i64 (-149), .int .i64 104]
/-- The three cells of a format in its box. -/
def FmS (x : World) (n : Nat) : Prop := x.cell? ⟨n, 0, none⟩ = some (.int .i64 24) ∧ x.cell? ⟨n, 1, none⟩ = some (.int .i64 (-149)) ∧ x.cell? ⟨n, 2, none⟩ = some (.int .i64 104)
theorem FmS.new (w : World) (t : TypeId) : FmS (w.alloc (.cells #[.int .i64 24, .int .i64 (-149), .int .i64 104] t)) w.heap.size := ⟨(Blk.new w _ t).at 0, (Blk.new w _ t).at 1, (Blk.new w _ t).at 2⟩
theorem FmS.lt {x : World} {n : Nat} (h : FmS x n) : n < x.heap.size := lt_of_cell h.1
theorem FmS.below {x y : World} {n : Nat} (h : FmS x n) (k : Below x.heap.size x y) : FmS y n := ⟨(k.cell (p := ⟨n, 0, none⟩) h.lt).trans h.1, (k.cell (p := ⟨n, 1, none⟩) h.lt).trans h.2.1, (k.cell (p := ⟨n, 2, none⟩) h.lt).trans h.2.2⟩
theorem FmS.alloc {x : World} {n : Nat} (h : FmS x n) (o : Obj) : FmS (x.alloc o) n := h.below ((Below.refl _ _).alloc (Nat.le_refl _) o)
end Go.Proofs.YtidcjdncfmncfaaGreatDoor

namespace Go.Proofs.YtidcjdncfmncfaaGreatDoor
open Go.RowKit Tn

/-- Parts as a value. -/
abbrev prt (k : Int) (g : Bool) (m e : Int) : Value := .agg #[.int .i64 k, .bool g, .int .u64 m, .int .i64 e]
/-- Four cells are written. -/
theorem put4 {w1 : World} {b : Nat} {u0 u1 u2 u3 : Value} (x y z v : Value) (g0 : w1.cell? ⟨b, 0, none⟩ = some u0) (g1 : w1.cell? ⟨b, 1, none⟩ = some u1) (g2 : w1.cell? ⟨b, 2, none⟩ = some u2) (g3 : w1.cell? ⟨b, 3, none⟩ = some u3) :
    let W := (((w1.setCell ⟨b, 0, none⟩ x).setCell ⟨b, 1, none⟩ y).setCell ⟨b, 2, none⟩ z).setCell ⟨b, 3, none⟩ v
    W.cell? ⟨b, 0, none⟩ = some x ∧ W.cell? ⟨b, 1, none⟩ = some y ∧ W.cell? ⟨b, 2, none⟩ = some z ∧ W.cell? ⟨b, 3, none⟩ = some v ∧ ∀ (B : Nat) (w : World), B ≤ b → Below B w w1 → Below B w W := by
  have h1 : (w1.setCell ⟨b, 0, none⟩ x).cell? ⟨b, 1, none⟩ = some u1 := (World.cell?_setCell_other _ _ _ _ (by simp)).trans g1
  have h2 : ((w1.setCell ⟨b, 0, none⟩ x).setCell ⟨b, 1, none⟩ y).cell? ⟨b, 2, none⟩ = some u2 := (World.cell?_setCell_other _ _ _ _ (by simp)).trans ((World.cell?_setCell_other _ _ _ _ (by simp)).trans g2)
  have h3 : (((w1.setCell ⟨b, 0, none⟩ x).setCell ⟨b, 1, none⟩ y).setCell ⟨b, 2, none⟩ z).cell? ⟨b, 3, none⟩ = some u3 := (World.cell?_setCell_other _ _ _ _ (by simp)).trans ((World.cell?_setCell_other _ _ _ _ (by simp)).trans ((World.cell?_setCell_other _ _ _ _ (by simp)).trans g3))
  refine ⟨?_, ?_, ?_, World.cell?_setCell_same _ _ _ h3, fun B w hB h => (((h.setCell (p := ⟨b, 0, none⟩) hB x).setCell (p := ⟨b, 1, none⟩) hB y).setCell (p := ⟨b, 2, none⟩) hB z).setCell (p := ⟨b, 3, none⟩) hB v⟩
  · rw [World.cell?_setCell_other _ _ _ _ (by simp), World.cell?_setCell_other _ _ _ _ (by simp), World.cell?_setCell_other _ _ _ _ (by simp), World.cell?_setCell_same _ _ _ g0]
  · rw [World.cell?_setCell_other _ _ _ _ (by simp), World.cell?_setCell_other _ _ _ _ (by simp), World.cell?_setCell_same _ _ _ h1]
  · rw [World.cell?_setCell_other _ _ _ _ (by simp), World.cell?_setCell_same _ _ _ h2]
end Go.Proofs.YtidcjdncfmncfaaGreatDoor

namespace Go.Proofs.YtidcjdncfmncfaaGreatDoor
open Go.RowKit Tn

/-- The reference's size of floats. -/
abbrev szW : Value := .agg #[.int .i64 53, .int .i64 (-1074), .int .i64 971, .int .i64 52]
/-- The reference's size of small floats. -/
abbrev szS : Value := .agg #[.int .i64 24, .int .i64 (-149), .int .i64 104, .int .i64 23]
end Go.Proofs.YtidcjdncfmncfaaGreatDoor

namespace Tn
open Go

theorem and63 (n k c : Nat) (hc : c = 2 ^ k) : (n &&& c ≠ 0) ↔ n / c % 2 = 1 := by
  subst hc
  have h := and_two_pow_eq_zero (n : Int) k (by omega)
  rw [toNat_two_pow, Int.toNat_natCast] at h
  have e : ((n : Int) / 2 ^ k % 2 = 1) ↔ n / 2 ^ k % 2 = 1 := by
    have e2 : ((n / 2 ^ k % 2 : Nat) : Int) = (n : Int) / 2 ^ k % 2 := by simp
    omega
  rw [ne_eq, h, e, Decidable.not_not]
theorem or_low (f k c : Nat) (hc : c = 2 ^ k) (hf : f < c) : f ||| c = f + c := by
  subst hc
  have := Nat.two_pow_add_eq_or_of_lt hf 1
  rw [Nat.mul_one] at this
  rw [Nat.or_comm]; omega
theorem or_high (a f k c : Nat) (hc : c = 2 ^ k) (hf : f < c) : c * a ||| f = c * a + f := by
  subst hc
  exact (Nat.two_pow_add_eq_or_of_lt hf a).symm
theorem bits_or_bd (x y : Int) : 0 ≤ bits .or .u64 x y ∧ bits .or .u64 x y < 18446744073709551616 := by
  unfold bits
  rw [IntKind.wrap_u64]
  omega
theorem bits_andNot_pow (m c k : Nat) (hc : c = 2 ^ k) (hk : k < 64) (h0 : c ≤ m) (h1 : m < 2 * c) : bits .andNot .u64 (m : Int) (c : Int) = ((m - c : Nat) : Int) := by
  have hp : c ≤ 2 ^ 63 := by rw [hc]; exact Nat.pow_le_pow_right (by omega) (by omega)
  have a1 : (BitVec.ofInt 64 (m : Int)).toNat = m := by
    rw [BitVec.ofInt_natCast, BitVec.toNat_ofNat]; exact Nat.mod_eq_of_lt (by omega)
  have a2 : (BitVec.ofInt 64 (c : Int)).toNat = c := by
    rw [BitVec.ofInt_natCast, BitVec.toNat_ofNat]; exact Nat.mod_eq_of_lt (by omega)
  show IntKind.u64.wrap ((BitVec.ofInt 64 (m : Int) &&& ~~~ BitVec.ofInt 64 (c : Int)).toNat : Int) = _
  have key : (BitVec.ofInt 64 (m : Int) &&& ~~~ BitVec.ofInt 64 (c : Int)).toNat = m - c := by
    apply Nat.eq_of_testBit_eq
    intro i
    rw [BitVec.toNat_and, Nat.testBit_and, BitVec.testBit_toNat, BitVec.testBit_toNat, BitVec.getLsbD_not]
    rw [← BitVec.testBit_toNat, ← BitVec.testBit_toNat, a1, a2, hc, Nat.testBit_two_pow]
    have e : m = 2 ^ k * 1 + (m - c) := by omega
    have hf : m - c < 2 ^ k := by omega
    rw [e, Nat.testBit_two_pow_mul_add _ hf]
    rw [show 2 ^ k * 1 + (m - c) - 2 ^ k = m - c from by omega]
    by_cases hi : i < k
    · simp [hi, show ¬ k = i from by omega, show i < 64 from by omega]
    · rw [if_neg hi]
      have z : (m - c).testBit i = false := Nat.testBit_lt_two_pow (Nat.lt_of_lt_of_le hf (Nat.pow_le_pow_right (by omega) (by omega)))
      rw [z]
      by_cases hik : k = i
      · simp [hik]
      · have z1 : Nat.testBit 1 (i - k) = false := by
          rw [show (1 : Nat) = 2 ^ 0 from rfl, Nat.testBit_two_pow]; simp; omega
        simp [z1]
  rw [key, IntKind.wrap_u64]
  omega
/-- The sign of a float, by its bits. -/
def sgW (n : Nat) : Bool := decide (n / 9223372036854775808 % 2 = 1)
/-- The exponent's bits. -/
def fdW (n : Nat) : Nat := n / 4503599627370496 % 2048
/-- The fraction's bits. -/
def frW (n : Nat) : Nat := n % 4503599627370496
/-- The parts of a float, by its bits: its kind, whether it is below nought, m and e. -/
def splW (n : Nat) : Int × Bool × Int × Int :=
  if fdW n = 2047 then (if frW n = 0 then (3, sgW n, 0, 0) else (4, false, 0, 0))
  else if fdW n = 0 then (if frW n = 0 then (0, sgW n, 0, 0) else (1, sgW n, (frW n : Int), -1074))
  else (2, sgW n, (frW n : Int) + 4503599627370496, (fdW n : Int) - 1 - 1074)
/-- There is a float of these parts. -/
def OkW (p : Int × Bool × Int × Int) : Prop :=
  (p.1 = 0 ∧ p.2.2.1 = 0 ∧ p.2.2.2 = 0) ∨ (p.1 = 1 ∧ 0 < p.2.2.1 ∧ p.2.2.1 < 4503599627370496 ∧ p.2.2.2 = -1074) ∨
  (p.1 = 2 ∧ 4503599627370496 ≤ p.2.2.1 ∧ p.2.2.1 < 9007199254740992 ∧ -1074 ≤ p.2.2.2 ∧ p.2.2.2 ≤ 971) ∨
  (p.1 = 3 ∧ p.2.2.1 = 0 ∧ p.2.2.2 = 0) ∨ (p.1 = 4 ∧ p.2.1 = false ∧ p.2.2.1 = 0 ∧ p.2.2.2 = 0)
/-- Its bits. -/
def pckW (p : Int × Bool × Int × Int) : Int :=
  (if p.1 = 1 then p.2.2.1 else if p.1 = 2 then (p.2.2.2 + 1075) * 4503599627370496 + (p.2.2.1 - 4503599627370496) else if p.1 = 3 then 9218868437227405312 else if p.1 = 4 then 9221120237041090560 else 0) + (if p.2.1 = true then 9223372036854775808 else 0)
theorem splW_ok (n : Nat) : OkW (splW n) := by
  have h1 : fdW n < 2048 := Nat.mod_lt _ (by decide)
  have h2 : frW n < 4503599627370496 := Nat.mod_lt _ (by decide)
  unfold splW OkW
  split
  · split <;> simp
  · split
    · split
      · simp
      · simp; omega
    · simp; omega
theorem pckW_bd {p : Int × Bool × Int × Int} (h : OkW p) : 0 ≤ pckW p ∧ pckW p < 18446744073709551616 := by
  obtain ⟨k, g, m, e⟩ := p
  unfold OkW at h
  unfold pckW
  simp only at h ⊢
  cases g <;> rcases h with ⟨rfl, h⟩ | ⟨rfl, h⟩ | ⟨rfl, h⟩ | ⟨rfl, h⟩ | ⟨rfl, h⟩ <;> simp at h ⊢ <;> omega
theorem splW_pck {p : Int × Bool × Int × Int} (h : OkW p) : splW (pckW p).toNat = p := by
  have hb := pckW_bd h
  obtain ⟨N, hN⟩ := Int.eq_ofNat_of_zero_le hb.1
  rw [hN, Int.toNat_natCast]
  obtain ⟨k, g, m, e⟩ := p
  unfold OkW at h
  unfold pckW at hN
  simp only at h hN
  cases g <;> rcases h with ⟨rfl, h⟩ | ⟨rfl, h⟩ | ⟨rfl, h⟩ | ⟨rfl, h⟩ | ⟨rfl, h⟩ <;> simp at h hN
  all_goals
    have s : sgW N = false ∨ sgW N = true := by cases sgW N <;> simp
    rcases s with s | s <;> have s' := s <;> unfold sgW at s' <;> simp only [decide_eq_false_iff_not, decide_eq_true_eq] at s'
  all_goals
    first
    | (exfalso; omega)
    | (unfold splW
       rw [s]
       unfold fdW frW
       repeat' split
       all_goals first
         | (exfalso; omega)
         | (simp only [Prod.mk.injEq, true_and]; omega))
theorem hgW (n : Nat) (h : n < 18446744073709551616) : (bits .and .u64 (n : Int) 9223372036854775808 != 0) = sgW n := by
  have e := bits_and_u64_nat n 9223372036854775808 h (by decide)
  rw [show ((9223372036854775808 : Nat) : Int) = 9223372036854775808 from rfl] at e
  rw [e]
  have a := and63 n 63 9223372036854775808 (by decide)
  unfold sgW
  rw [Bool.eq_iff_iff, decide_eq_true_iff, ← a, bne_iff_ne]
  omega
theorem hg2W (n : Nat) (h : n < 18446744073709551616) : (bits .and .u64 ((n : Int) / 9223372036854775808) 1 == 1) = sgW n := by
  have e := bits_and_u64_nat (n / 9223372036854775808) 1 (by omega) (by decide)
  rw [show (((n / 9223372036854775808 : Nat)) : Int) = (n : Int) / 9223372036854775808 from by simp, show ((1 : Nat) : Int) = 1 from rfl, Nat.and_one_is_mod] at e
  rw [e]
  unfold sgW
  rw [Bool.eq_iff_iff, decide_eq_true_iff, beq_iff_eq]
  omega
theorem hdW (n : Nat) (h : n < 18446744073709551616) : bits .and .u64 ((n : Int) / 4503599627370496) 2047 = (fdW n : Int) := by
  have e := bits_and_u64_nat (n / 4503599627370496) 2047 (by omega) (by decide)
  rw [show (((n / 4503599627370496 : Nat)) : Int) = (n : Int) / 4503599627370496 from by simp, show ((2047 : Nat) : Int) = 2047 from rfl, show (2047 : Nat) = 2 ^ 11 - 1 from rfl, Nat.and_two_pow_sub_one_eq_mod] at e
  exact e
theorem hfW (n : Nat) (h : n < 18446744073709551616) : bits .and .u64 (n : Int) 4503599627370495 = (frW n : Int) := by
  have e := bits_and_u64_nat n 4503599627370495 h (by decide)
  rw [show ((4503599627370495 : Nat) : Int) = 4503599627370495 from rfl, show (4503599627370495 : Nat) = 2 ^ 52 - 1 from rfl, Nat.and_two_pow_sub_one_eq_mod] at e
  exact e
theorem horW (f : Nat) (h : f < 4503599627370496) : bits .or .u64 (f : Int) 4503599627370496 = (f : Int) + 4503599627370496 := by
  have e := bits_or_u64_nat f 4503599627370496 (by omega) (by decide)
  rw [show ((4503599627370496 : Nat) : Int) = 4503599627370496 from rfl, or_low f 52 4503599627370496 (by decide) h] at e
  rw [e]; omega
theorem hsgW (f : Nat) (h : f < 9223372036854775808) : bits .or .u64 (f : Int) 9223372036854775808 = (f : Int) + 9223372036854775808 := by
  have e := bits_or_u64_nat f 9223372036854775808 (by omega) (by decide)
  rw [show ((9223372036854775808 : Nat) : Int) = 9223372036854775808 from rfl, or_low f 63 9223372036854775808 (by decide) h] at e
  rw [e]; omega
/-- The bits of a normal one, put together. -/
theorem hpkW (d f : Nat) (hd : d < 2048) (h : f < 4503599627370496) : bits .or .u64 ((d : Int) * 4503599627370496) (f : Int) = (d : Int) * 4503599627370496 + (f : Int) := by
  have e := bits_or_u64_nat (4503599627370496 * d) f (by omega) (by omega)
  rw [or_high d f 52 4503599627370496 (by decide) h] at e
  rw [show (d : Int) * 4503599627370496 = ((4503599627370496 * d : Nat) : Int) from by omega, e]
  omega
/-- The sign of a small float, by its bits. -/
def sgS (n : Nat) : Bool := decide (n / 2147483648 % 2 = 1)
/-- The exponent's bits. -/
def fdS (n : Nat) : Nat := n / 8388608 % 256
/-- The fraction's bits. -/
def frS (n : Nat) : Nat := n % 8388608
/-- The parts of a small float, by its bits: its kind, whether it is below nought, m and e. -/
def splS (n : Nat) : Int × Bool × Int × Int :=
  if fdS n = 255 then (if frS n = 0 then (3, sgS n, 0, 0) else (4, false, 0, 0))
  else if fdS n = 0 then (if frS n = 0 then (0, sgS n, 0, 0) else (1, sgS n, (frS n : Int), -149))
  else (2, sgS n, (frS n : Int) + 8388608, (fdS n : Int) - 1 - 149)
/-- There is a small float of these parts. -/
def OkS (p : Int × Bool × Int × Int) : Prop :=
  (p.1 = 0 ∧ p.2.2.1 = 0 ∧ p.2.2.2 = 0) ∨ (p.1 = 1 ∧ 0 < p.2.2.1 ∧ p.2.2.1 < 8388608 ∧ p.2.2.2 = -149) ∨
  (p.1 = 2 ∧ 8388608 ≤ p.2.2.1 ∧ p.2.2.1 < 16777216 ∧ -149 ≤ p.2.2.2 ∧ p.2.2.2 ≤ 104) ∨
  (p.1 = 3 ∧ p.2.2.1 = 0 ∧ p.2.2.2 = 0) ∨ (p.1 = 4 ∧ p.2.1 = false ∧ p.2.2.1 = 0 ∧ p.2.2.2 = 0)
/-- Its bits. -/
def pckS (p : Int × Bool × Int × Int) : Int :=
  (if p.1 = 1 then p.2.2.1 else if p.1 = 2 then (p.2.2.2 + 150) * 8388608 + (p.2.2.1 - 8388608) else if p.1 = 3 then 2139095040 else if p.1 = 4 then 2143289344 else 0) + (if p.2.1 = true then 2147483648 else 0)
theorem splS_ok (n : Nat) : OkS (splS n) := by
  have h1 : fdS n < 256 := Nat.mod_lt _ (by decide)
  have h2 : frS n < 8388608 := Nat.mod_lt _ (by decide)
  unfold splS OkS
  split
  · split <;> simp
  · split
    · split
      · simp
      · simp; omega
    · simp; omega
theorem pckS_bd {p : Int × Bool × Int × Int} (h : OkS p) : 0 ≤ pckS p ∧ pckS p < 4294967296 := by
  obtain ⟨k, g, m, e⟩ := p
  unfold OkS at h
  unfold pckS
  simp only at h ⊢
  cases g <;> rcases h with ⟨rfl, h⟩ | ⟨rfl, h⟩ | ⟨rfl, h⟩ | ⟨rfl, h⟩ | ⟨rfl, h⟩ <;> simp at h ⊢ <;> omega
theorem splS_pck {p : Int × Bool × Int × Int} (h : OkS p) : splS (pckS p).toNat = p := by
  have hb := pckS_bd h
  obtain ⟨N, hN⟩ := Int.eq_ofNat_of_zero_le hb.1
  rw [hN, Int.toNat_natCast]
  obtain ⟨k, g, m, e⟩ := p
  unfold OkS at h
  unfold pckS at hN
  simp only at h hN
  cases g <;> rcases h with ⟨rfl, h⟩ | ⟨rfl, h⟩ | ⟨rfl, h⟩ | ⟨rfl, h⟩ | ⟨rfl, h⟩ <;> simp at h hN
  all_goals
    have s : sgS N = false ∨ sgS N = true := by cases sgS N <;> simp
    rcases s with s | s <;> have s' := s <;> unfold sgS at s' <;> simp only [decide_eq_false_iff_not, decide_eq_true_eq] at s'
  all_goals
    first
    | (exfalso; omega)
    | (unfold splS
       rw [s]
       unfold fdS frS
       repeat' split
       all_goals first
         | (exfalso; omega)
         | (simp only [Prod.mk.injEq, true_and]; omega))
theorem hgS (n : Nat) (h : n < 18446744073709551616) : (bits .and .u64 (n : Int) 2147483648 != 0) = sgS n := by
  have e := bits_and_u64_nat n 2147483648 h (by decide)
  rw [show ((2147483648 : Nat) : Int) = 2147483648 from rfl] at e
  rw [e]
  have a := and63 n 31 2147483648 (by decide)
  unfold sgS
  rw [Bool.eq_iff_iff, decide_eq_true_iff, ← a, bne_iff_ne]
  omega
theorem hg2S (n : Nat) (h : n < 18446744073709551616) : (bits .and .u64 ((n : Int) / 2147483648) 1 == 1) = sgS n := by
  have e := bits_and_u64_nat (n / 2147483648) 1 (by omega) (by decide)
  rw [show (((n / 2147483648 : Nat)) : Int) = (n : Int) / 2147483648 from by simp, show ((1 : Nat) : Int) = 1 from rfl, Nat.and_one_is_mod] at e
  rw [e]
  unfold sgS
  rw [Bool.eq_iff_iff, decide_eq_true_iff, beq_iff_eq]
  omega
theorem hdS (n : Nat) (h : n < 18446744073709551616) : bits .and .u64 ((n : Int) / 8388608) 255 = (fdS n : Int) := by
  have e := bits_and_u64_nat (n / 8388608) 255 (by omega) (by decide)
  rw [show (((n / 8388608 : Nat)) : Int) = (n : Int) / 8388608 from by simp, show ((255 : Nat) : Int) = 255 from rfl, show (255 : Nat) = 2 ^ 8 - 1 from rfl, Nat.and_two_pow_sub_one_eq_mod] at e
  exact e
theorem hfS (n : Nat) (h : n < 18446744073709551616) : bits .and .u64 (n : Int) 8388607 = (frS n : Int) := by
  have e := bits_and_u64_nat n 8388607 h (by decide)
  rw [show ((8388607 : Nat) : Int) = 8388607 from rfl, show (8388607 : Nat) = 2 ^ 23 - 1 from rfl, Nat.and_two_pow_sub_one_eq_mod] at e
  exact e
theorem horS (f : Nat) (h : f < 8388608) : bits .or .u64 (f : Int) 8388608 = (f : Int) + 8388608 := by
  have e := bits_or_u64_nat f 8388608 (by omega) (by decide)
  rw [show ((8388608 : Nat) : Int) = 8388608 from rfl, or_low f 23 8388608 (by decide) h] at e
  rw [e]; omega
theorem hsgS (f : Nat) (h : f < 2147483648) : bits .or .u64 (f : Int) 2147483648 = (f : Int) + 2147483648 := by
  have e := bits_or_u64_nat f 2147483648 (by omega) (by decide)
  rw [show ((2147483648 : Nat) : Int) = 2147483648 from rfl, or_low f 31 2147483648 (by decide) h] at e
  rw [e]; omega
/-- The bits of a normal one, put together. -/
theorem hpkS (d f : Nat) (hd : d < 256) (h : f < 8388608) : bits .or .u64 ((d : Int) * 8388608) (f : Int) = (d : Int) * 8388608 + (f : Int) := by
  have e := bits_or_u64_nat (8388608 * d) f (by omega) (by omega)
  rw [or_high d f 23 8388608 (by decide) h] at e
  rw [show (d : Int) * 8388608 = ((8388608 * d : Nat) : Int) from by omega, e]
  omega
end Tn

namespace Go.Proofs.YtidcjdncfmncfaaGreatDoor.L
open Go.RowKit Tl

theorem Bits_q (v : Value) (xs : List Int) (w : World) (h : Rd w v xs) (n : Nm xs) (hL : xs.length ≤ 1099511627776) :
    Calls Tryz.prog 152 #[v] w fun e w' => e = .returned (.int .i64 (bl (val xs) : Nat)) ∧ ∃ n, w' = w.drewN n := by
  refine (Bits_fn v xs w h n hL).mono ?_
  rintro e w' ⟨rfl, rfl⟩
  exact ⟨rfl, 0, rfl⟩
theorem belN {n : Nat} {w W w1 : World} (h : Below w.heap.size w W) (k : Below (W.drewN n).heap.size (W.drewN n) w1) : Below w.heap.size w w1 := h.trans (Below.mono (show Below W.heap.size W w1 from ⟨k.os, k.tape, k.output, k.size, k.block⟩) h.size)
/-- The bits of m times 2 to the e. -/
def lay52 (m e : Int) : Int := if 4503599627370496 ≤ m then m - 4503599627370496 + (e + 1075) * 4503599627370496 else m
theorem bl_53 {m : Int} (h0 : 4503599627370496 ≤ m) (h1 : m < 9007199254740992) : bl m = 53 := by
  refine (bl_unique (L := 53) (by omega) ?_ (Or.inr ?_)).symm
  · have : (2 : Int) ^ 53 = 9007199254740992 := by decide
    omega
  · have : (2 : Int) ^ (53 - 1) = 4503599627370496 := by decide
    omega
theorem bl_52 {m : Int} (h0 : 0 ≤ m) (h1 : m < 4503599627370496) : bl m ≤ 52 := by
  by_cases c : 0 < m
  · have b := bl_pos c
    by_cases d : bl m ≤ 52
    · exact d
    · have := two_pow_le (show 52 ≤ bl m - 1 by omega)
      have e : (2 : Int) ^ 52 = 4503599627370496 := by decide
      omega
  · unfold bl; rw [if_pos (by omega)]; omega
theorem or_limb (b m : Int) (b0 : 0 ≤ b) (b1 : b < 17179869184) (m0 : 0 ≤ m) (m1 : m < 1073741824) : bits .or .u64 (b * 1073741824) m = b * 1073741824 + m := by
  obtain ⟨x, rfl⟩ := Int.eq_ofNat_of_zero_le b0
  obtain ⟨y, rfl⟩ := Int.eq_ofNat_of_zero_le m0
  have e := bits_or_u64_nat (1073741824 * x) y (by omega) (by omega)
  rw [Tn.or_high x y 30 1073741824 (by decide) (by omega)] at e
  rw [show (x : Int) * 1073741824 = ((1073741824 * x : Nat) : Int) from by omega, e]
  omega
theorem laid_step {ms : List Int} {i : Nat} {b : Int} (h : Wd ms) (hi : i < ms.length) (hb : b = val (ms.drop (i + 1))) (hm : val ms < 9007199254740992) : 0 ≤ b ∧ b < 17179869184 ∧ b * 1073741824 + nth ms i = val (ms.drop i) := by
  have e := drop_getD ms i hi
  have d0 := val_nonneg (h.drop (i + 1))
  have d1 := val_nonneg (h.drop i)
  have bx := nth_bd h i
  have e2 : val (ms.drop i) = nth ms i + 1073741824 * val (ms.drop (i + 1)) := by rw [e]; rfl
  have s := val_split ms i (by omega)
  have t0 := val_nonneg (h.take i)
  have p := pw_pos i
  have := Int.mul_le_mul_of_nonneg_right (show 1 ≤ pw i by omega) d1
  omega
end Go.Proofs.YtidcjdncfmncfaaGreatDoor.L

namespace Go.Proofs.YtidcjdncfmncfaaGreatDoor.L
open Go.RowKit Tl

/-- m steps of 2 to the e go into N by D, and r is left. -/
structure Fl (N D e m r : Int) : Prop where
  eq : N * 2 ^ (-e).toNat = m * (D * 2 ^ e.toNat) + r
  r0 : 0 ≤ r
  r1 : r < D * 2 ^ e.toNat
theorem lt_pow {m : Int} {a b : Nat} (h : m * 2 ^ a < 2 ^ b) (hb : b ≤ a + 53) : m < 9007199254740992 := by
  have p := two_pow_pos a
  have q := two_pow_le hb
  rw [Int.pow_add, show (2 : Int) ^ 53 = 9007199254740992 from by decide, Int.mul_comm] at q
  exact Int.lt_of_mul_lt_mul_right (show m * 2 ^ a < 9007199254740992 * 2 ^ a by omega) (Int.le_of_lt p)
theorem ge_pow {m : Int} {a b : Nat} (h : 2 ^ b < (m + 1) * 2 ^ a) (hb : a + 52 ≤ b) : 4503599627370496 ≤ m := by
  have p := two_pow_pos a
  have q := two_pow_le hb
  rw [Int.pow_add, show (2 : Int) ^ 52 = 4503599627370496 from by decide, Int.mul_comm] at q
  have := Int.lt_of_mul_lt_mul_right (show 4503599627370496 * 2 ^ a < (m + 1) * 2 ^ a by omega) (Int.le_of_lt p)
  omega
theorem Fl.lt {N D e m r : Int} (h : Fl N D e m r) (hN : 0 < N) (hD : 0 < D) (m0 : 0 ≤ m) (he : (bl N : Int) - bl D - 52 ≤ e) : m < 9007199254740992 := by
  have bN := bl_pos hN
  have bD := bl_pos hD
  have h1 : m * (D * 2 ^ e.toNat) < 2 ^ (bl N + (-e).toNat) := by
    have a := Int.mul_lt_mul_of_pos_right bN.1 (two_pow_pos (-e).toNat)
    rw [← Int.pow_add] at a
    have := h.eq; have := h.r0; omega
  have h2 : m * 2 ^ (bl D - 1 + e.toNat) ≤ m * (D * 2 ^ e.toNat) := by
    refine Int.mul_le_mul_of_nonneg_left ?_ m0
    rw [Int.pow_add]
    exact Int.mul_le_mul_of_nonneg_right bD.2.2 (Int.le_of_lt (two_pow_pos _))
  exact lt_pow (Int.lt_of_le_of_lt h2 h1) (by omega)
theorem Fl.ge {N D e m r : Int} (h : Fl N D e m r) (hN : 0 < N) (hD : 0 < D) (m0 : 0 ≤ m) (he : e ≤ (bl N : Int) - bl D - 53) : 4503599627370496 ≤ m := by
  have bN := bl_pos hN
  have bD := bl_pos hD
  have h1 : 2 ^ (bl N - 1 + (-e).toNat) < (m + 1) * (D * 2 ^ e.toNat) := by
    have a := Int.mul_le_mul_of_nonneg_right bN.2.2 (Int.le_of_lt (two_pow_pos (-e).toNat))
    rw [← Int.pow_add] at a
    have := h.eq; have := h.r1
    have e1 : (m + 1) * (D * 2 ^ e.toNat) = m * (D * 2 ^ e.toNat) + D * 2 ^ e.toNat := by grind
    omega
  have h2 : (m + 1) * (D * 2 ^ e.toNat) ≤ (m + 1) * 2 ^ (bl D + e.toNat) := by
    refine Int.mul_le_mul_of_nonneg_left ?_ (by omega)
    rw [Int.pow_add]
    exact Int.mul_le_mul_of_nonneg_right (Int.le_of_lt bD.1) (Int.le_of_lt (two_pow_pos _))
  exact ge_pow (Int.lt_of_lt_of_le h1 h2) (by omega)
theorem half1 {X q m r m' r' : Int} (q0 : 0 < q) (h : X = m * q + r) (r0 : 0 ≤ r) (h' : X = m' * (q * 2) + r') (r1 : r' < q * 2) (hm : 9007199254740992 ≤ m) : 4503599627370496 ≤ m' := by
  have g1 := Int.mul_le_mul_of_nonneg_right hm (Int.le_of_lt q0)
  have e1 : m' * (q * 2) + q * 2 = (m' + 1) * 2 * q := by grind
  have := Int.lt_of_mul_lt_mul_right (show 9007199254740992 * q < (m' + 1) * 2 * q by omega) (Int.le_of_lt q0)
  omega
theorem half2 {X q m r m' r' : Int} (q0 : 0 < q) (h : X * 2 = m * q + r) (r0 : 0 ≤ r) (h' : X = m' * q + r') (r1 : r' < q) (hm : 9007199254740992 ≤ m) : 4503599627370496 ≤ m' := by
  have g1 := Int.mul_le_mul_of_nonneg_right hm (Int.le_of_lt q0)
  have e1 : (m' + 1) * 2 * q = m' * q * 2 + q * 2 := by grind
  have := Int.lt_of_mul_lt_mul_right (show 9007199254740992 * q < (m' + 1) * 2 * q by omega) (Int.le_of_lt q0)
  omega
/-- One place further up. -/
theorem Fl.half {N D e m r m' r' : Int} (h : Fl N D e m r) (h' : Fl N D (e + 1) m' r') (hD : 0 < D) (hm : 9007199254740992 ≤ m) : 4503599627370496 ≤ m' := by
  have e1 := h.eq
  have e2 := h'.eq
  have b := h'.r1
  by_cases he : 0 ≤ e
  · rw [show (-e).toNat = 0 from by omega] at e1
    rw [show (-(e + 1)).toNat = 0 from by omega, show (e + 1).toNat = e.toNat + 1 from by omega, Int.pow_succ, ← Int.mul_assoc D] at e2
    rw [show (e + 1).toNat = e.toNat + 1 from by omega, Int.pow_succ, ← Int.mul_assoc] at b
    exact half1 (Int.mul_pos hD (two_pow_pos _)) e1 h.r0 e2 b hm
  · rw [show (-e).toNat = (-(e + 1)).toNat + 1 from by omega, Int.pow_succ, ← Int.mul_assoc, show e.toNat = 0 from by omega] at e1
    rw [show (e + 1).toNat = 0 from by omega] at e2 b
    exact half2 (show 0 < D * 2 ^ 0 by simpa using hD) e1 h.r0 e2 b hm
theorem big_bl {m : Int} (h : 53 < bl m) : 9007199254740992 ≤ m := by
  by_cases c : 0 < m
  · have b := bl_pos c
    have := two_pow_le (show 53 ≤ bl m - 1 by omega)
    have e : (2 : Int) ^ 53 = 9007199254740992 := by decide
    omega
  · unfold bl at h; rw [if_pos (by omega)] at h; omega
theorem not_big {m : Int} (h0 : 0 ≤ m) (h : ¬ 53 < bl m) : m < 9007199254740992 := by
  by_cases c : 0 < m
  · have b := bl_pos c
    have := two_pow_le (show bl m ≤ 53 by omega)
    have e : (2 : Int) ^ 53 = 9007199254740992 := by decide
    omega
  · omega
end Go.Proofs.YtidcjdncfmncfaaGreatDoor.L

namespace Go.Proofs.YtidcjdncfmncfaaGreatDoor
open Go.RowKit Tn

theorem Blk.put {w : World} {n : Nat} {c : Array Value} {t : TypeId} (h : Blk w n c t) (i : Nat) (v : Value) : Blk (w.setCell ⟨n, i, none⟩ v) n (c.setIfInBounds i v) t := by
  have h' : w.heap[n]? = some (.cells c t (0, 0)) := h
  show (w.setCell ⟨n, i, none⟩ v).heap[n]? = _
  simp [World.setCell, Array.getElem?_modify, h']
theorem Blk.skip {w : World} {n b : Nat} {c : Array Value} {t : TypeId} (h : Blk w n c t) (hb : b ≠ n) (i : Nat) (v : Value) : Blk (w.setCell ⟨b, i, none⟩ v) n c t := by
  have h' : w.heap[n]? = some (.cells c t (0, 0)) := h
  show (w.setCell ⟨b, i, none⟩ v).heap[n]? = _
  simp [World.setCell, Array.getElem?_modify, h', hb]
/-- A variable of four cells is made. -/
theorem var4 {w3 w4 : World} {t : TypeId} {c : Array Value} (b4 : Below (w3.alloc (.cells c t)).heap.size (w3.alloc (.cells c t)) w4) :
    Below w3.heap.size w3 w4 ∧ Blk w4 w3.heap.size c t :=
  ⟨bel ((Below.refl _ _).alloc (Nat.le_refl _) _) b4, (Blk.new w3 c t).below b4 (Blk.new w3 c t).lt⟩
end Go.Proofs.YtidcjdncfmncfaaGreatDoor

namespace Go.Proofs.YtidcjdncfmncfaaGreatDoor
open Go.RowKit Tn

end Go.Proofs.YtidcjdncfmncfaaGreatDoor

namespace Go.Proofs.YtidcjdncfmncfaaGreatDoor
open Go.RowKit Tn

theorem w64 (x : Int) (h0 : -9223372036854775808 ≤ x) (h1 : x < 9223372036854775808) : IntKind.i64.wrap x = x := by
  simp [IntKind.wrap, IntKind.bits, IntKind.signed]; omega
theorem wu64 (x : Int) (h0 : 0 ≤ x) (h1 : x < 18446744073709551616) : IntKind.u64.wrap x = x := by
  rw [IntKind.wrap_u64]; omega
/-- Parts as a value. -/
abbrev prt4 (p : Int × Bool × Int × Int) : Value := prt p.1 p.2.1 p.2.2.1 p.2.2.2
end Go.Proofs.YtidcjdncfmncfaaGreatDoor

namespace Go.Proofs.YtidcjdncfmncfaaGreatDoor
open Go.RowKit Tn

/-- It can be told. -/
def okWTold (p : Int × Bool × Int × Int) : Decidable (OkW p) := by unfold OkW; exact inferInstance
/-- What is put together of parts: the bits, and 0; or 0, and ErrParts. -/
def joiW (p : Int × Bool × Int × Int) : Int × Int := @ite (Int × Int) (OkW p) (okWTold p) (pckW p, 0) (0, 21)
/-- It can be told. -/
def okSTold (p : Int × Bool × Int × Int) : Decidable (OkS p) := by unfold OkS; exact inferInstance
/-- What is put together of parts: the bits, and 0; or 0, and ErrParts. -/
def joiS (p : Int × Bool × Int × Int) : Int × Int := @ite (Int × Int) (OkS p) (okSTold p) (pckS p, 0) (0, 21)
end Go.Proofs.YtidcjdncfmncfaaGreatDoor

namespace Go.Proofs.YtidcjdncfmncfaaGreatDoor
open Go.RowKit Tn

end Go.Proofs.YtidcjdncfmncfaaGreatDoor

namespace Go.Proofs.YtidcjdncfmncfaaGreatDoor
open Go.RowKit Tn

theorem refNW (k : Int) (g : Bool) (M : Nat) (e : Int) (h1 : M < 18446744073709551616) : ∃ N : Nat, N < 18446744073709551616 ∧ (OkW (k, g, (M : Int), e) → (N : Int) = pckW (k, g, (M : Int), e)) ∧
    ((k = 4 ∧ (N : Int) = 9221120237041090560)
      ∨ (k = 3 ∧ g = false ∧ (N : Int) = 9218868437227405312)
      ∨ (k = 3 ∧ g = true ∧ (N : Int) = 18442240474082181120)
      ∨ (k = 0 ∧ g = false ∧ (N : Int) = 0)
      ∨ (k = 0 ∧ g = true ∧ (N : Int) = 9223372036854775808)
      ∨ (k = 1 ∧ g = false ∧ (N : Int) = bits .and .u64 (M : Int) 4503599627370495)
      ∨ (k = 1 ∧ g = true ∧ (N : Int) = bits .or .u64 (bits .and .u64 (M : Int) 4503599627370495) 9223372036854775808)
      ∨ (k = 2 ∧ g = false ∧ (N : Int) = bits .or .u64 (IntKind.u64.wrap (IntKind.u64.wrap (IntKind.i64.wrap (IntKind.i64.wrap (e + 1074) + 1)) * 4503599627370496)) (bits .and .u64 (M : Int) 4503599627370495) ∧ decide (-1074 ≤ e) = true ∧ decide (e ≤ 971) = true)
      ∨ (k = 2 ∧ g = true ∧ (N : Int) = bits .or .u64 (bits .or .u64 (IntKind.u64.wrap (IntKind.u64.wrap (IntKind.i64.wrap (IntKind.i64.wrap (e + 1074) + 1)) * 4503599627370496)) (bits .and .u64 (M : Int) 4503599627370495)) 9223372036854775808 ∧ decide (-1074 ≤ e) = true ∧ decide (e ≤ 971) = true)
      ∨ (k = 2 ∧ (N : Int) = 0 ∧ decide (-1074 ≤ e) = false)
      ∨ (k = 2 ∧ (N : Int) = 0 ∧ decide (-1074 ≤ e) = true ∧ decide (e ≤ 971) = false)
      ∨ ((N : Int) = 0 ∧ (k == 4) = false ∧ (k == 3) = false ∧ (k == 0) = false ∧ (k == 1) = false ∧ (k == 2) = false)) := by
  have fb : frW M < 4503599627370496 := Nat.mod_lt _ (by decide)
  have hf := hfW M h1
  have hs := hsgW (frW M) (by omega)
  by_cases k4 : k = 4
  · subst k4
    exact ⟨9221120237041090560, by decide, by intro o; simp [OkW] at o; simp [pckW, o.1], Or.inl ⟨rfl, rfl⟩⟩
  by_cases k3 : k = 3
  · subst k3
    cases g
    · exact ⟨9218868437227405312, by decide, by intro o; simp [pckW], Or.inr (Or.inl ⟨rfl, rfl, rfl⟩)⟩
    · exact ⟨18442240474082181120, by decide, by intro o; simp [pckW], Or.inr (Or.inr (Or.inl ⟨rfl, rfl, rfl⟩))⟩
  by_cases k0 : k = 0
  · subst k0
    cases g
    · exact ⟨0, by decide, by intro o; simp [pckW], Or.inr (Or.inr (Or.inr (Or.inl ⟨rfl, rfl, rfl⟩)))⟩
    · exact ⟨9223372036854775808, by decide, by intro o; simp [pckW], Or.inr (Or.inr (Or.inr (Or.inr (Or.inl ⟨rfl, rfl, rfl⟩))))⟩
  by_cases k1 : k = 1
  · subst k1
    have o1 : ∀ g, OkW (1, g, (M : Int), e) → frW M = M := by
      intro g o
      simp [OkW] at o
      unfold frW; omega
    cases g
    · exact ⟨frW M, by omega, by intro o; simp [pckW, o1 _ o], Or.inr (Or.inr (Or.inr (Or.inr (Or.inr (Or.inl ⟨rfl, rfl, hf.symm⟩)))))⟩
    · refine ⟨frW M + 9223372036854775808, by omega, ?_, Or.inr (Or.inr (Or.inr (Or.inr (Or.inr (Or.inr (Or.inl ⟨rfl, rfl, ?_⟩))))))⟩
      · intro o
        rw [o1 _ o]; simp [pckW]
      · rw [hf, hs]; omega
  by_cases k2 : k = 2
  · subst k2
    by_cases e1 : -1074 ≤ e
    · by_cases e2 : e ≤ 971
      · obtain ⟨D, hD⟩ := Int.eq_ofNat_of_zero_le (show 0 ≤ e + 1075 by omega)
        have r : bits .or .u64 (IntKind.u64.wrap (IntKind.u64.wrap (IntKind.i64.wrap (IntKind.i64.wrap (e + 1074) + 1)) * 4503599627370496)) (bits .and .u64 (M : Int) 4503599627370495) = (D : Int) * 4503599627370496 + (frW M : Int) := by
          rw [w64 (e + 1074) (by omega) (by omega), w64 _ (by omega) (by omega), show e + 1074 + 1 = (D : Int) from by omega, wu64 (D : Int) (by omega) (by omega), wu64 _ (by omega) (by omega), hf, hpkW D _ (by omega) fb]
        have o1 : ∀ g, OkW (2, g, (M : Int), e) → (frW M : Int) = M - 4503599627370496 := by
          intro g o
          simp [OkW] at o
          unfold frW; omega
        cases g
        · refine ⟨D * 4503599627370496 + frW M, by omega, ?_, Or.inr (Or.inr (Or.inr (Or.inr (Or.inr (Or.inr (Or.inr (Or.inl ⟨rfl, rfl, ?_, decide_eq_true e1, decide_eq_true e2⟩)))))))⟩
          · intro o
            have q := o1 _ o
            simp [pckW]; omega
          · rw [r]; omega
        · refine ⟨D * 4503599627370496 + frW M + 9223372036854775808, by omega, ?_, Or.inr (Or.inr (Or.inr (Or.inr (Or.inr (Or.inr (Or.inr (Or.inr (Or.inl ⟨rfl, rfl, ?_, decide_eq_true e1, decide_eq_true e2⟩))))))))⟩
          · intro o
            have q := o1 _ o
            simp [pckW]; omega
          · rw [r]
            have s := hsgW (D * 4503599627370496 + frW M) (by omega)
            rw [show ((D * 4503599627370496 + frW M : Nat) : Int) = (D : Int) * 4503599627370496 + (frW M : Int) from by omega] at s
            rw [s]; omega
      · exact ⟨0, by decide, by intro o; simp [OkW] at o; omega, Or.inr (Or.inr (Or.inr (Or.inr (Or.inr (Or.inr (Or.inr (Or.inr (Or.inr (Or.inr (Or.inl ⟨rfl, rfl, decide_eq_true e1, decide_eq_false e2⟩))))))))))⟩
    · exact ⟨0, by decide, by intro o; simp [OkW] at o; omega, Or.inr (Or.inr (Or.inr (Or.inr (Or.inr (Or.inr (Or.inr (Or.inr (Or.inr (Or.inl ⟨rfl, rfl, decide_eq_false e1⟩)))))))))⟩
  · refine ⟨0, by decide, ?_, Or.inr (Or.inr (Or.inr (Or.inr (Or.inr (Or.inr (Or.inr (Or.inr (Or.inr (Or.inr (Or.inr ⟨rfl, by simp [k4], by simp [k3], by simp [k0], by simp [k1], by simp [k2]⟩))))))))))⟩
    intro o
    simp [OkW] at o
    omega
theorem refNS (k : Int) (g : Bool) (M : Nat) (e : Int) (h1 : M < 18446744073709551616) : ∃ N : Nat, N < 18446744073709551616 ∧ (OkS (k, g, (M : Int), e) → (N : Int) = pckS (k, g, (M : Int), e)) ∧
    ((k = 4 ∧ (N : Int) = 2143289344)
      ∨ (k = 3 ∧ g = false ∧ (N : Int) = 2139095040)
      ∨ (k = 3 ∧ g = true ∧ (N : Int) = 4286578688)
      ∨ (k = 0 ∧ g = false ∧ (N : Int) = 0)
      ∨ (k = 0 ∧ g = true ∧ (N : Int) = 2147483648)
      ∨ (k = 1 ∧ g = false ∧ (N : Int) = bits .and .u64 (M : Int) 8388607)
      ∨ (k = 1 ∧ g = true ∧ (N : Int) = bits .or .u64 (bits .and .u64 (M : Int) 8388607) 2147483648)
      ∨ (k = 2 ∧ g = false ∧ (N : Int) = bits .or .u64 (IntKind.u64.wrap (IntKind.u64.wrap (IntKind.i64.wrap (IntKind.i64.wrap (e + 149) + 1)) * 8388608)) (bits .and .u64 (M : Int) 8388607) ∧ decide (-149 ≤ e) = true ∧ decide (e ≤ 104) = true)
      ∨ (k = 2 ∧ g = true ∧ (N : Int) = bits .or .u64 (bits .or .u64 (IntKind.u64.wrap (IntKind.u64.wrap (IntKind.i64.wrap (IntKind.i64.wrap (e + 149) + 1)) * 8388608)) (bits .and .u64 (M : Int) 8388607)) 2147483648 ∧ decide (-149 ≤ e) = true ∧ decide (e ≤ 104) = true)
      ∨ (k = 2 ∧ (N : Int) = 0 ∧ decide (-149 ≤ e) = false)
      ∨ (k = 2 ∧ (N : Int) = 0 ∧ decide (-149 ≤ e) = true ∧ decide (e ≤ 104) = false)
      ∨ ((N : Int) = 0 ∧ (k == 4) = false ∧ (k == 3) = false ∧ (k == 0) = false ∧ (k == 1) = false ∧ (k == 2) = false)) := by
  have fb : frS M < 8388608 := Nat.mod_lt _ (by decide)
  have hf := hfS M h1
  have hs := hsgS (frS M) (by omega)
  by_cases k4 : k = 4
  · subst k4
    exact ⟨2143289344, by decide, by intro o; simp [OkS] at o; simp [pckS, o.1], Or.inl ⟨rfl, rfl⟩⟩
  by_cases k3 : k = 3
  · subst k3
    cases g
    · exact ⟨2139095040, by decide, by intro o; simp [pckS], Or.inr (Or.inl ⟨rfl, rfl, rfl⟩)⟩
    · exact ⟨4286578688, by decide, by intro o; simp [pckS], Or.inr (Or.inr (Or.inl ⟨rfl, rfl, rfl⟩))⟩
  by_cases k0 : k = 0
  · subst k0
    cases g
    · exact ⟨0, by decide, by intro o; simp [pckS], Or.inr (Or.inr (Or.inr (Or.inl ⟨rfl, rfl, rfl⟩)))⟩
    · exact ⟨2147483648, by decide, by intro o; simp [pckS], Or.inr (Or.inr (Or.inr (Or.inr (Or.inl ⟨rfl, rfl, rfl⟩))))⟩
  by_cases k1 : k = 1
  · subst k1
    have o1 : ∀ g, OkS (1, g, (M : Int), e) → frS M = M := by
      intro g o
      simp [OkS] at o
      unfold frS; omega
    cases g
    · exact ⟨frS M, by omega, by intro o; simp [pckS, o1 _ o], Or.inr (Or.inr (Or.inr (Or.inr (Or.inr (Or.inl ⟨rfl, rfl, hf.symm⟩)))))⟩
    · refine ⟨frS M + 2147483648, by omega, ?_, Or.inr (Or.inr (Or.inr (Or.inr (Or.inr (Or.inr (Or.inl ⟨rfl, rfl, ?_⟩))))))⟩
      · intro o
        rw [o1 _ o]; simp [pckS]
      · rw [hf, hs]; omega
  by_cases k2 : k = 2
  · subst k2
    by_cases e1 : -149 ≤ e
    · by_cases e2 : e ≤ 104
      · obtain ⟨D, hD⟩ := Int.eq_ofNat_of_zero_le (show 0 ≤ e + 150 by omega)
        have r : bits .or .u64 (IntKind.u64.wrap (IntKind.u64.wrap (IntKind.i64.wrap (IntKind.i64.wrap (e + 149) + 1)) * 8388608)) (bits .and .u64 (M : Int) 8388607) = (D : Int) * 8388608 + (frS M : Int) := by
          rw [w64 (e + 149) (by omega) (by omega), w64 _ (by omega) (by omega), show e + 149 + 1 = (D : Int) from by omega, wu64 (D : Int) (by omega) (by omega), wu64 _ (by omega) (by omega), hf, hpkS D _ (by omega) fb]
        have o1 : ∀ g, OkS (2, g, (M : Int), e) → (frS M : Int) = M - 8388608 := by
          intro g o
          simp [OkS] at o
          unfold frS; omega
        cases g
        · refine ⟨D * 8388608 + frS M, by omega, ?_, Or.inr (Or.inr (Or.inr (Or.inr (Or.inr (Or.inr (Or.inr (Or.inl ⟨rfl, rfl, ?_, decide_eq_true e1, decide_eq_true e2⟩)))))))⟩
          · intro o
            have q := o1 _ o
            simp [pckS]; omega
          · rw [r]; omega
        · refine ⟨D * 8388608 + frS M + 2147483648, by omega, ?_, Or.inr (Or.inr (Or.inr (Or.inr (Or.inr (Or.inr (Or.inr (Or.inr (Or.inl ⟨rfl, rfl, ?_, decide_eq_true e1, decide_eq_true e2⟩))))))))⟩
          · intro o
            have q := o1 _ o
            simp [pckS]; omega
          · rw [r]
            have s := hsgS (D * 8388608 + frS M) (by omega)
            rw [show ((D * 8388608 + frS M : Nat) : Int) = (D : Int) * 8388608 + (frS M : Int) from by omega] at s
            rw [s]; omega
      · exact ⟨0, by decide, by intro o; simp [OkS] at o; omega, Or.inr (Or.inr (Or.inr (Or.inr (Or.inr (Or.inr (Or.inr (Or.inr (Or.inr (Or.inr (Or.inl ⟨rfl, rfl, decide_eq_true e1, decide_eq_false e2⟩))))))))))⟩
    · exact ⟨0, by decide, by intro o; simp [OkS] at o; omega, Or.inr (Or.inr (Or.inr (Or.inr (Or.inr (Or.inr (Or.inr (Or.inr (Or.inr (Or.inl ⟨rfl, rfl, decide_eq_false e1⟩)))))))))⟩
  · refine ⟨0, by decide, ?_, Or.inr (Or.inr (Or.inr (Or.inr (Or.inr (Or.inr (Or.inr (Or.inr (Or.inr (Or.inr (Or.inr ⟨rfl, by simp [k4], by simp [k3], by simp [k0], by simp [k1], by simp [k2]⟩))))))))))⟩
    intro o
    simp [OkS] at o
    omega
end Go.Proofs.YtidcjdncfmncfaaGreatDoor

namespace Go.Proofs.YtidcjdncfmncfaaGreatDoor
open Go.RowKit Tn

end Go.Proofs.YtidcjdncfmncfaaGreatDoor
