import Derived.Test.YtfpmegfdopnnpaaPart16
import Derived.Test.YtfpmegfdopnnpaaPart15
import Derived.Test.YtfpmegfdopnnpaaPart12
import Derived.Deep.RegionHeld3
import Derived.Shelf.Small.Bits
import Derived.Shelf.Strconv.Itoa0
import Derived.Test.YtfpmegfdopnnpaaProg
import Derived.Test.YtfpmegfdopnnpaaPart04

namespace Go.Proofs.Ytfpmegfdopnnpaa
open Go.RowKit Tn

/-- What a size by 2 to the places is, rounded; and whether nothing was lost. -/
def cutF (mant : Int) (places : Nat) (more neg : Bool) (way : Int) : Int × Bool :=
  if mant % 2 ^ places = 0 ∧ more = false then (mant / 2 ^ places, true)
  else (if awayF way neg (mant / 2 ^ places % 2 == 1) (besideF (mant % 2 ^ places) places more) = true then mant / 2 ^ places + 1 else mant / 2 ^ places, false)
set_option maxRecDepth 100000 in
set_option maxHeartbeats 1600000 in
/-- float.cut, of 1 to 64 places. -/
theorem cut_any (mant : Int) (places : Nat) (more neg : Bool) (way : Int) (m0 : 0 ≤ mant) (m1 : mant < 18446744073709551616) (p1 : 1 ≤ places) (p2 : places ≤ 64) (w : World) :
    Calls Try.prog 81 #[.int .u64 mant, .int .i64 places, .bool more, .bool neg, .int .i64 way] w fun e w' => e = .returned (.tuple #[.int .u64 (cutF mant places more neg way).1, .bool (cutF mant places more neg way).2]) ∧ w' = w := by
  have B := besideHalf_any (mant % 2 ^ places) _ places more p1 p2 rfl
  have A := IsAway_any neg (mant / 2 ^ places % 2 == 1) (besideF (mant % 2 ^ places) places more) way
  unfold cutF
  have tp : (0 : Int) < 2 ^ places := Int.pow_pos (by decide)
  have tp2 : (2 : Int) ≤ 2 ^ places := by
    obtain ⟨q, rfl⟩ : ∃ q, places = q + 1 := ⟨places - 1, by omega⟩
    rw [Int.pow_succ]
    have : (0 : Int) < 2 ^ q := Int.pow_pos (by decide)
    omega
  generalize hT : (2 : Int) ^ places = T at *
  have e0 := Int.mul_ediv_add_emod mant T
  have r0 := Int.emod_nonneg mant (show T ≠ 0 by omega)
  have l0 : 0 ≤ mant / T := Int.ediv_nonneg m0 (by omega)
  have l1 : mant / T ≤ 9223372036854775807 := by
    have := Int.mul_le_mul_of_nonneg_right tp2 l0
    omega
  generalize besideF (mant % T) places more = bs at *
  generalize hl : mant / T = l at *
  generalize hr : mant % T = r at *
  have odd : (bits .and .u64 l 1 == 1) = (l % 2 == 1) := by
    obtain ⟨L, rfl⟩ := Int.eq_ofNat_of_zero_le l0
    have e := bits_and_u64_nat L 1 (by omega) (by decide)
    rw [show ((1 : Nat) : Int) = 1 from rfl, Nat.and_one_is_mod] at e
    rw [e]; simp
  have hy : ((places : Int)).toNat = places := by omega
  have s1 : IntKind.u64.wrap (l * T) = l * T := wu64 _ (Int.mul_nonneg l0 (by omega)) (by rw [Int.mul_comm]; omega)
  have s2 : IntKind.u64.wrap (mant - l * T) = r := by rw [show mant - l * T = r from by rw [Int.mul_comm]; omega]; exact wu64 _ r0 (by have := Int.mul_nonneg (Int.le_of_lt tp) l0; omega)
  have s3 : IntKind.u64.wrap (l + 1) = l + 1 := wu64 _ (by omega) (by omega)
  have HX : Hid (T * l + r = mant) := e0
  generalize (l % 2 == 1) = od at *
  clear e0
  by_cases z : r = 0 ∧ more = false
  · obtain ⟨z1, rfl⟩ := z
    rw [if_pos ⟨z1, rfl⟩]
    have zz : (r == 0) = true := by rw [beq_iff_eq]; exact z1
    clear z1
    go_enter Try.func81, Try.ntmps81
    go_wp2
    exact bodyPost_ret (v := .tuple #[.int .u64 l, .bool true]) (by simp [results, Try.results81, go_sem]) rfl ⟨rfl, rfl⟩
  · rw [if_neg z]
    have zz : ((r == 0) = true ∧ more = true) ∨ (r == 0) = false := by
      by_cases h : r = 0
      · left
        refine ⟨by rw [beq_iff_eq]; exact h, ?_⟩
        cases hm : more
        · exact absurd ⟨h, hm⟩ z
        · rfl
      · right; rw [beq_eq_false_iff_ne]; exact h
    clear z
    generalize awayF way neg od bs = t at *
    rcases zz with ⟨z1, rfl⟩ | z1
    · cases t
      · simp only [Bool.false_eq_true, if_false]
        go_enter Try.func81, Try.ntmps81
        go_wp2_with (first
          | (go_at_call 106; refine (B _).mono ?_; rintro x w1 ⟨rfl, rfl⟩)
          | (go_at_call 105; refine (A _).mono ?_; rintro x w1 ⟨rfl, rfl⟩)
          | fail)
        exact bodyPost_ret (v := .tuple #[.int .u64 l, .bool false]) (by simp [results, Try.results81, go_sem]) rfl ⟨rfl, rfl⟩
      · simp only [if_true]
        go_enter Try.func81, Try.ntmps81
        go_wp2_with (first
          | (go_at_call 106; refine (B _).mono ?_; rintro x w1 ⟨rfl, rfl⟩)
          | (go_at_call 105; refine (A _).mono ?_; rintro x w1 ⟨rfl, rfl⟩)
          | fail)
        exact bodyPost_ret (v := .tuple #[.int .u64 (l + 1), .bool false]) (by simp [results, Try.results81, go_sem]) rfl ⟨rfl, rfl⟩
    · cases t
      · simp only [Bool.false_eq_true, if_false]
        go_enter Try.func81, Try.ntmps81
        go_wp2_with (first
          | (go_at_call 106; refine (B _).mono ?_; rintro x w1 ⟨rfl, rfl⟩)
          | (go_at_call 105; refine (A _).mono ?_; rintro x w1 ⟨rfl, rfl⟩)
          | fail)
        exact bodyPost_ret (v := .tuple #[.int .u64 l, .bool false]) (by simp [results, Try.results81, go_sem]) rfl ⟨rfl, rfl⟩
      · simp only [if_true]
        go_enter Try.func81, Try.ntmps81
        go_wp2_with (first
          | (go_at_call 106; refine (B _).mono ?_; rintro x w1 ⟨rfl, rfl⟩)
          | (go_at_call 105; refine (A _).mono ?_; rintro x w1 ⟨rfl, rfl⟩)
          | fail)
        exact bodyPost_ret (v := .tuple #[.int .u64 (l + 1), .bool false]) (by simp [results, Try.results81, go_sem]) rfl ⟨rfl, rfl⟩
end Go.Proofs.Ytfpmegfdopnnpaa

namespace Go.Proofs.Ytfpmegfdopnnpaa
open Go.RowKit Tn

/-- The parts of m times 2 to the e. -/
def finW (neg : Bool) (m e : Int) : Int × Bool × Int × Int := if m = 0 then (0, neg, 0, 0) else if m < 4503599627370496 then (1, neg, m, e) else (2, neg, m, e)
set_option maxRecDepth 100000 in
set_option maxHeartbeats 1600000 in
theorem finite_w (neg : Bool) (m e : Int) (w : World) : Calls Try.prog 83 #[fmtW, .bool neg, .int .u64 m, .int .i64 e] w fun x w' => x = .returned (prt4 (finW neg m e)) ∧ Below w.heap.size w w' := by
  unfold finW
  by_cases h1 : m = 0
  · rw [if_pos h1]
    have d1 : (m == 0) = true := by rw [beq_iff_eq]; exact h1
    clear h1
    go_enter Try.func83, Try.ntmps83
    go_wp2
    exact bodyPost_ret (v := prt 0 neg 0 0) (by simp [results, Try.results83, go_sem]) rfl ⟨rfl, ((Below.refl _ _).alloc (Nat.le_refl _) _).alloc (by simp) _⟩
  rw [if_neg h1]
  have d1 : (m == 0) = false := by rw [beq_eq_false_iff_ne]; exact h1
  clear h1
  by_cases h2 : m < 4503599627370496
  · rw [if_pos h2]
    have d2 : decide (m < 4503599627370496) = true := decide_eq_true h2
    clear h2
    go_enter Try.func83, Try.ntmps83
    have K0 : Blk ((w.alloc (.cells #[.int .i64 53, .int .i64 (-1074), .int .i64 971] 72)).alloc (.cells #[.int .i64 0, .bool false, .int .u64 0, .int .i64 0] 25)) w.heap.size #[.int .i64 53, .int .i64 (-1074), .int .i64 971] 72 := (Blk.new w _ _).alloc _
    have K1 := Blk.new (w.alloc (.cells #[.int .i64 53, .int .i64 (-1074), .int .i64 971] 72)) #[.int .i64 0, .bool false, .int .u64 0, .int .i64 0] 25
    have pr : Below w.heap.size w ((w.alloc (.cells #[.int .i64 53, .int .i64 (-1074), .int .i64 971] 72)).alloc (.cells #[.int .i64 0, .bool false, .int .u64 0, .int .i64 0] 25)) := ((Below.refl _ _).alloc (Nat.le_refl _) _).alloc (by simp) _
    simp only [World.size_alloc] at K1
    go_wp2_with (first
      | (go_at_call 77; refine (leastNormal_w _).mono ?_; rintro x w1 ⟨rfl, b1⟩; replace K0 := K0.below b1 K0.lt; replace K1 := K1.below b1 K1.lt; replace pr := bel pr b1; clear b1; have e0 : w1.cell? ⟨w.heap.size, 0, none⟩ = some (.int .i64 53) := K0.at 0; have e1 : w1.cell? ⟨w.heap.size, 1, none⟩ = some (.int .i64 (-1074)) := K0.at 1; have e2 : w1.cell? ⟨w.heap.size, 2, none⟩ = some (.int .i64 971) := K0.at 2; have c0 : w1.cell? ⟨w.heap.size + 1, 0, none⟩ = some (.int .i64 0) := K1.at 0; have c1 : w1.cell? ⟨w.heap.size + 1, 1, none⟩ = some (.bool false) := K1.at 1; have c2 : w1.cell? ⟨w.heap.size + 1, 2, none⟩ = some (.int .u64 0) := K1.at 2; have c3 : w1.cell? ⟨w.heap.size + 1, 3, none⟩ = some (.int .i64 0) := K1.at 3; have z0 := K1.free 0; have z1 := K1.free 1; have z2 := K1.free 2; have z3 := K1.free 3)
      | fail)
    obtain ⟨F0, F1, F2, F3, FB⟩ := put4 (.int .i64 1) (.bool neg) (.int .u64 m) (.int .i64 e) (K1.at 0) (K1.at 1) (K1.at 2) (K1.at 3)
    exact bodyPost_ret (v := prt 1 neg m e) (by simp [results, Try.results83, go_sem, F0, F1, F2, F3]) rfl ⟨rfl, FB _ _ (by omega) pr⟩
  · rw [if_neg h2]
    have d2 : decide (m < 4503599627370496) = false := decide_eq_false h2
    clear h2
    go_enter Try.func83, Try.ntmps83
    have K0 : Blk ((w.alloc (.cells #[.int .i64 53, .int .i64 (-1074), .int .i64 971] 72)).alloc (.cells #[.int .i64 0, .bool false, .int .u64 0, .int .i64 0] 25)) w.heap.size #[.int .i64 53, .int .i64 (-1074), .int .i64 971] 72 := (Blk.new w _ _).alloc _
    have K1 := Blk.new (w.alloc (.cells #[.int .i64 53, .int .i64 (-1074), .int .i64 971] 72)) #[.int .i64 0, .bool false, .int .u64 0, .int .i64 0] 25
    have pr : Below w.heap.size w ((w.alloc (.cells #[.int .i64 53, .int .i64 (-1074), .int .i64 971] 72)).alloc (.cells #[.int .i64 0, .bool false, .int .u64 0, .int .i64 0] 25)) := ((Below.refl _ _).alloc (Nat.le_refl _) _).alloc (by simp) _
    simp only [World.size_alloc] at K1
    go_wp2_with (first
      | (go_at_call 77; refine (leastNormal_w _).mono ?_; rintro x w1 ⟨rfl, b1⟩; replace K0 := K0.below b1 K0.lt; replace K1 := K1.below b1 K1.lt; replace pr := bel pr b1; clear b1; have e0 : w1.cell? ⟨w.heap.size, 0, none⟩ = some (.int .i64 53) := K0.at 0; have e1 : w1.cell? ⟨w.heap.size, 1, none⟩ = some (.int .i64 (-1074)) := K0.at 1; have e2 : w1.cell? ⟨w.heap.size, 2, none⟩ = some (.int .i64 971) := K0.at 2; have c0 : w1.cell? ⟨w.heap.size + 1, 0, none⟩ = some (.int .i64 0) := K1.at 0; have c1 : w1.cell? ⟨w.heap.size + 1, 1, none⟩ = some (.bool false) := K1.at 1; have c2 : w1.cell? ⟨w.heap.size + 1, 2, none⟩ = some (.int .u64 0) := K1.at 2; have c3 : w1.cell? ⟨w.heap.size + 1, 3, none⟩ = some (.int .i64 0) := K1.at 3; have z0 := K1.free 0; have z1 := K1.free 1; have z2 := K1.free 2; have z3 := K1.free 3)
      | fail)
    obtain ⟨F0, F1, F2, F3, FB⟩ := put4 (.int .i64 2) (.bool neg) (.int .u64 m) (.int .i64 e) (K1.at 0) (K1.at 1) (K1.at 2) (K1.at 3)
    exact bodyPost_ret (v := prt 2 neg m e) (by simp [results, Try.results83, go_sem, F0, F1, F2, F3]) rfl ⟨rfl, FB _ _ (by omega) pr⟩
/-- The parts of m times 2 to the e. -/
def finS (neg : Bool) (m e : Int) : Int × Bool × Int × Int := if m = 0 then (0, neg, 0, 0) else if m < 8388608 then (1, neg, m, e) else (2, neg, m, e)
set_option maxRecDepth 100000 in
set_option maxHeartbeats 1600000 in
theorem finite_s (neg : Bool) (m e : Int) (w : World) : Calls Try.prog 83 #[fmtS, .bool neg, .int .u64 m, .int .i64 e] w fun x w' => x = .returned (prt4 (finS neg m e)) ∧ Below w.heap.size w w' := by
  unfold finS
  by_cases h1 : m = 0
  · rw [if_pos h1]
    have d1 : (m == 0) = true := by rw [beq_iff_eq]; exact h1
    clear h1
    go_enter Try.func83, Try.ntmps83
    go_wp2
    exact bodyPost_ret (v := prt 0 neg 0 0) (by simp [results, Try.results83, go_sem]) rfl ⟨rfl, ((Below.refl _ _).alloc (Nat.le_refl _) _).alloc (by simp) _⟩
  rw [if_neg h1]
  have d1 : (m == 0) = false := by rw [beq_eq_false_iff_ne]; exact h1
  clear h1
  by_cases h2 : m < 8388608
  · rw [if_pos h2]
    have d2 : decide (m < 8388608) = true := decide_eq_true h2
    clear h2
    go_enter Try.func83, Try.ntmps83
    have K0 : Blk ((w.alloc (.cells #[.int .i64 24, .int .i64 (-149), .int .i64 104] 72)).alloc (.cells #[.int .i64 0, .bool false, .int .u64 0, .int .i64 0] 25)) w.heap.size #[.int .i64 24, .int .i64 (-149), .int .i64 104] 72 := (Blk.new w _ _).alloc _
    have K1 := Blk.new (w.alloc (.cells #[.int .i64 24, .int .i64 (-149), .int .i64 104] 72)) #[.int .i64 0, .bool false, .int .u64 0, .int .i64 0] 25
    have pr : Below w.heap.size w ((w.alloc (.cells #[.int .i64 24, .int .i64 (-149), .int .i64 104] 72)).alloc (.cells #[.int .i64 0, .bool false, .int .u64 0, .int .i64 0] 25)) := ((Below.refl _ _).alloc (Nat.le_refl _) _).alloc (by simp) _
    simp only [World.size_alloc] at K1
    go_wp2_with (first
      | (go_at_call 77; refine (leastNormal_s _).mono ?_; rintro x w1 ⟨rfl, b1⟩; replace K0 := K0.below b1 K0.lt; replace K1 := K1.below b1 K1.lt; replace pr := bel pr b1; clear b1; have e0 : w1.cell? ⟨w.heap.size, 0, none⟩ = some (.int .i64 24) := K0.at 0; have e1 : w1.cell? ⟨w.heap.size, 1, none⟩ = some (.int .i64 (-149)) := K0.at 1; have e2 : w1.cell? ⟨w.heap.size, 2, none⟩ = some (.int .i64 104) := K0.at 2; have c0 : w1.cell? ⟨w.heap.size + 1, 0, none⟩ = some (.int .i64 0) := K1.at 0; have c1 : w1.cell? ⟨w.heap.size + 1, 1, none⟩ = some (.bool false) := K1.at 1; have c2 : w1.cell? ⟨w.heap.size + 1, 2, none⟩ = some (.int .u64 0) := K1.at 2; have c3 : w1.cell? ⟨w.heap.size + 1, 3, none⟩ = some (.int .i64 0) := K1.at 3; have z0 := K1.free 0; have z1 := K1.free 1; have z2 := K1.free 2; have z3 := K1.free 3)
      | fail)
    obtain ⟨F0, F1, F2, F3, FB⟩ := put4 (.int .i64 1) (.bool neg) (.int .u64 m) (.int .i64 e) (K1.at 0) (K1.at 1) (K1.at 2) (K1.at 3)
    exact bodyPost_ret (v := prt 1 neg m e) (by simp [results, Try.results83, go_sem, F0, F1, F2, F3]) rfl ⟨rfl, FB _ _ (by omega) pr⟩
  · rw [if_neg h2]
    have d2 : decide (m < 8388608) = false := decide_eq_false h2
    clear h2
    go_enter Try.func83, Try.ntmps83
    have K0 : Blk ((w.alloc (.cells #[.int .i64 24, .int .i64 (-149), .int .i64 104] 72)).alloc (.cells #[.int .i64 0, .bool false, .int .u64 0, .int .i64 0] 25)) w.heap.size #[.int .i64 24, .int .i64 (-149), .int .i64 104] 72 := (Blk.new w _ _).alloc _
    have K1 := Blk.new (w.alloc (.cells #[.int .i64 24, .int .i64 (-149), .int .i64 104] 72)) #[.int .i64 0, .bool false, .int .u64 0, .int .i64 0] 25
    have pr : Below w.heap.size w ((w.alloc (.cells #[.int .i64 24, .int .i64 (-149), .int .i64 104] 72)).alloc (.cells #[.int .i64 0, .bool false, .int .u64 0, .int .i64 0] 25)) := ((Below.refl _ _).alloc (Nat.le_refl _) _).alloc (by simp) _
    simp only [World.size_alloc] at K1
    go_wp2_with (first
      | (go_at_call 77; refine (leastNormal_s _).mono ?_; rintro x w1 ⟨rfl, b1⟩; replace K0 := K0.below b1 K0.lt; replace K1 := K1.below b1 K1.lt; replace pr := bel pr b1; clear b1; have e0 : w1.cell? ⟨w.heap.size, 0, none⟩ = some (.int .i64 24) := K0.at 0; have e1 : w1.cell? ⟨w.heap.size, 1, none⟩ = some (.int .i64 (-149)) := K0.at 1; have e2 : w1.cell? ⟨w.heap.size, 2, none⟩ = some (.int .i64 104) := K0.at 2; have c0 : w1.cell? ⟨w.heap.size + 1, 0, none⟩ = some (.int .i64 0) := K1.at 0; have c1 : w1.cell? ⟨w.heap.size + 1, 1, none⟩ = some (.bool false) := K1.at 1; have c2 : w1.cell? ⟨w.heap.size + 1, 2, none⟩ = some (.int .u64 0) := K1.at 2; have c3 : w1.cell? ⟨w.heap.size + 1, 3, none⟩ = some (.int .i64 0) := K1.at 3; have z0 := K1.free 0; have z1 := K1.free 1; have z2 := K1.free 2; have z3 := K1.free 3)
      | fail)
    obtain ⟨F0, F1, F2, F3, FB⟩ := put4 (.int .i64 2) (.bool neg) (.int .u64 m) (.int .i64 e) (K1.at 0) (K1.at 1) (K1.at 2) (K1.at 3)
    exact bodyPost_ret (v := prt 2 neg m e) (by simp [results, Try.results83, go_sem, F0, F1, F2, F3]) rfl ⟨rfl, FB _ _ (by omega) pr⟩
end Go.Proofs.Ytfpmegfdopnnpaa

namespace Go.Proofs.Ytfpmegfdopnnpaa.L
open Go.RowKit Tl

theorem mul_lt_iff {G a b : Int} (h : 0 < G) : G * a < G * b ↔ a < b := ⟨fun k => Int.lt_of_mul_lt_mul_left k (Int.le_of_lt h), fun k => Int.mul_lt_mul_of_pos_left k h⟩
/-- The same number, L times 2 to the E, by whole steps of 2 to the e. -/
theorem fl_cut {N D e m q L E : Int} {lz p : Nat} (hD : 0 < D) (h : Fl N D e m q) (hc : N * 2 ^ (-E).toNat = D * (L * 2 ^ E.toNat)) (hp : (p : Int) = e - E + lz) :
    ∃ ρ G v : Int, 0 < G ∧ 0 < v ∧ L * 2 ^ lz = m * 2 ^ p + ρ ∧ 0 ≤ ρ ∧ ρ < 2 ^ p ∧ q * v = G * ρ ∧ (D * 2 ^ e.toNat) * v = G * 2 ^ p := by
  have hv : (0 : Int) < 2 ^ ((-E).toNat + lz) := two_pow_pos _
  have hG : 0 < D * 2 ^ (E.toNat + (-e).toNat) := Int.mul_pos hD (two_pow_pos _)
  have e1 : (D * 2 ^ e.toNat) * 2 ^ ((-E).toNat + lz) = D * 2 ^ (E.toNat + (-e).toNat) * 2 ^ p := by
    rw [Int.mul_assoc, Int.mul_assoc, ← Int.pow_add, ← Int.pow_add]; congr 2; omega
  have e2 : N * 2 ^ (-e).toNat * 2 ^ ((-E).toNat + lz) = D * 2 ^ (E.toNat + (-e).toNat) * (L * 2 ^ lz) := by
    have : N * 2 ^ (-e).toNat * 2 ^ ((-E).toNat + lz) = (N * 2 ^ (-E).toNat) * 2 ^ (-e).toNat * 2 ^ lz := by rw [Int.pow_add]; grind
    rw [this, hc, Int.pow_add]; grind
  have e3 : q * 2 ^ ((-E).toNat + lz) = D * 2 ^ (E.toNat + (-e).toNat) * (L * 2 ^ lz - m * 2 ^ p) := by
    have h1 := h.eq
    have h2 : q = N * 2 ^ (-e).toNat - m * (D * 2 ^ e.toNat) := by omega
    rw [h2, Int.sub_mul, e2, Int.mul_assoc m, e1]; grind
  refine ⟨L * 2 ^ lz - m * 2 ^ p, D * 2 ^ (E.toNat + (-e).toNat), 2 ^ ((-E).toNat + lz), hG, hv, by omega, ?_, ?_, e3, e1⟩
  · have a : 0 ≤ q * 2 ^ ((-E).toNat + lz) := Int.mul_nonneg h.r0 (Int.le_of_lt hv)
    rw [e3] at a
    by_cases c : 0 ≤ L * 2 ^ lz - m * 2 ^ p
    · exact c
    · have := Int.mul_lt_mul_of_pos_left (show L * 2 ^ lz - m * 2 ^ p < 0 by omega) hG; omega
  · have a := Int.mul_lt_mul_of_pos_right h.r1 hv
    rw [e3, e1] at a
    exact (mul_lt_iff hG).1 a
theorem rnd_scale {neg : Bool} {way m q d ρ G v t : Int} (hG : 0 < G) (hv : 0 < v) (hq : q * v = G * ρ) (hd : d * v = G * t) : rnd neg way m q d = rnd neg way m ρ t := by
  have z : (q = 0) ↔ (ρ = 0) := by
    constructor
    · intro k
      rw [k, Int.zero_mul] at hq
      exact (Int.mul_eq_zero.1 hq.symm).resolve_left (by omega)
    · intro k
      rw [k, Int.mul_zero] at hq
      exact (Int.mul_eq_zero.1 hq).resolve_right (by omega)
  have s1 : v * (q * 2) = G * (ρ * 2) := by grind
  have s2 : v * d = G * t := by grind
  have l1 : (q * 2 < d) ↔ (ρ * 2 < t) := by rw [← mul_lt_iff hv, s1, s2, mul_lt_iff hG]
  have l2 : (d < q * 2) ↔ (t < ρ * 2) := by rw [← mul_lt_iff hv, s1, s2, mul_lt_iff hG]
  have c : cmp3 (q * 2) d = cmp3 (ρ * 2) t := by
    unfold cmp3
    by_cases a : q * 2 < d
    · rw [if_pos a, if_pos (l1.1 a)]
    · rw [if_neg a, if_neg (fun k => a (l1.2 k))]
      by_cases b : d < q * 2
      · rw [if_pos b, if_pos (l2.1 b)]
      · rw [if_neg b, if_neg (fun k => b (l2.2 k))]
  unfold rnd
  rw [c]
  by_cases a : q = 0
  · rw [if_neg (fun k => k.1 a), if_neg (fun k => k.1 (z.1 a))]
  · have b : ρ ≠ 0 := fun k => a (z.2 k)
    simp only [ne_eq, a, b, not_false_eq_true, true_and]
theorem pow_half {p : Nat} (hp : 1 ≤ p) : (2 : Int) ^ p = 2 * 2 ^ (p - 1) := by
  obtain ⟨k, rfl⟩ : ∃ k, p = k + 1 := ⟨p - 1, by omega⟩
  rw [Int.pow_succ, Nat.add_sub_cancel]; omega
/-- How what drops out stands to half of what stays, with nothing more behind it. -/
theorem beside_cmp {r : Int} {p : Nat} (hp : 1 ≤ p) : besideF r p false = cmp3 (r * 2) (2 ^ p) := by
  unfold besideF cmp3
  have e := pow_half hp
  generalize (2 : Int) ^ (p - 1) = h at *
  rw [e]
  by_cases a : r < h
  · rw [if_pos a, if_pos (show r * 2 < 2 * h by omega)]
  · rw [if_neg a, if_neg (show ¬ r * 2 < 2 * h by omega)]
    by_cases b : h < r
    · rw [if_pos b, if_pos (show 2 * h < r * 2 by omega)]
    · rw [if_neg b, if_neg (show ¬ 2 * h < r * 2 by omega)]; rfl
theorem cut_rnd (H : Int) {p : Nat} (hp : 1 ≤ p) (neg : Bool) (way : Int) : (cutF H p false neg way).1 = rnd neg way (H / 2 ^ p) (H % 2 ^ p) (2 ^ p) := by
  unfold cutF rnd
  rw [beside_cmp hp]
  have o : (H / 2 ^ p % 2 == 1) = (!decide (H / 2 ^ p % 2 = 0)) := by
    have := Int.emod_two_eq (H / 2 ^ p)
    rcases this with k | k <;> rw [k] <;> rfl
  rw [o]
  by_cases a : H % 2 ^ p = 0
  · rw [if_pos ⟨a, rfl⟩, if_neg (fun k => k.1 a)]
  · rw [if_neg (fun k => a k.1)]
    simp only [ne_eq, a, not_false_eq_true, true_and]
theorem div_of {H m ρ : Int} {p : Nat} (h : H = m * 2 ^ p + ρ) (r0 : 0 ≤ ρ) (r1 : ρ < 2 ^ p) : H / 2 ^ p = m ∧ H % 2 ^ p = ρ := by
  have t := two_pow_pos p
  have h1 : H / 2 ^ p = m := by
    rw [h, Int.add_comm, Int.add_mul_ediv_right _ _ (by omega), Int.ediv_eq_zero_of_lt r0 r1]; omega
  refine ⟨h1, ?_⟩
  have := Int.mul_ediv_add_emod H (2 ^ p)
  rw [h1, Int.mul_comm] at this
  omega
/-- The exponent of what is rounded. -/
def canW (L E : Int) : Int := max (E + bl L - 53) (-1074)
theorem can_w {N D e m q L E : Int} (hL : 0 < L) (hD : 0 < D) (h : Fl N D e m q) (hc : N * 2 ^ (-E).toNat = D * (L * 2 ^ E.toNat)) (m0 : 0 ≤ m) (m1 : m < 9007199254740992) (e0 : -1074 ≤ e) (st : e = -1074 ∨ 4503599627370496 ≤ m) : e = canW L E := by
  obtain ⟨lz, p, hp⟩ : ∃ lz p : Nat, (p : Int) = e - E + lz := ⟨(E - e).toNat, (e - E).toNat, by omega⟩
  obtain ⟨ρ, G, v, -, -, hH, r0, r1, -, -⟩ := fl_cut hD h hc hp
  obtain ⟨b1, b0, b2⟩ := bl_pos hL
  have u1 : L * 2 ^ lz < 2 ^ (bl L + lz) := by rw [Int.pow_add]; exact Int.mul_lt_mul_of_pos_right b1 (two_pow_pos lz)
  have u2 : (2 : Int) ^ (bl L - 1 + lz) ≤ L * 2 ^ lz := by rw [Int.pow_add]; exact Int.mul_le_mul_of_nonneg_right b2 (Int.le_of_lt (two_pow_pos lz))
  have t1 : (m + 1) * 2 ^ p ≤ 2 ^ (53 + p) := by
    rw [Int.pow_add]
    exact Int.mul_le_mul_of_nonneg_right (by have : (2 : Int) ^ 53 = 9007199254740992 := by decide
                                             omega) (Int.le_of_lt (two_pow_pos p))
  have f1 : (m + 1) * 2 ^ p = m * 2 ^ p + 2 ^ p := by rw [Int.add_mul, Int.one_mul]
  have k1 : bl L - 1 + lz < 53 + p := pow_lt (by omega)
  unfold canW
  rcases st with st | st
  · omega
  · have t2 : (2 : Int) ^ (52 + p) ≤ m * 2 ^ p := by
      rw [Int.pow_add]
      exact Int.mul_le_mul_of_nonneg_right (by have : (2 : Int) ^ 52 = 4503599627370496 := by decide
                                               omega) (Int.le_of_lt (two_pow_pos p))
    have k2 : 52 + p < bl L + lz := pow_lt (by omega)
    omega
theorem rnd_w {N D e m q L E : Int} {lz p : Nat} (neg : Bool) (way : Int) (hD : 0 < D) (h : Fl N D e m q) (hc : N * 2 ^ (-E).toNat = D * (L * 2 ^ E.toNat)) (hp : (p : Int) = e - E + lz) (p1 : 1 ≤ p) : rnd neg way m q (D * 2 ^ e.toNat) = (cutF (L * 2 ^ lz) p false neg way).1 := by
  obtain ⟨ρ, G, v, hG, hv, hH, r0, r1, hq, hd⟩ := fl_cut hD h hc hp
  obtain ⟨d1, d2⟩ := div_of hH r0 r1
  rw [cut_rnd _ p1, d1, d2]
  exact rnd_scale hG hv hq hd
/-- The exponent of what is rounded. -/
def canS (L E : Int) : Int := max (E + bl L - 24) (-149)
theorem can_s {N D e m q L E : Int} (hL : 0 < L) (hD : 0 < D) (h : Fl N D e m q) (hc : N * 2 ^ (-E).toNat = D * (L * 2 ^ E.toNat)) (m0 : 0 ≤ m) (m1 : m < 16777216) (e0 : -149 ≤ e) (st : e = -149 ∨ 8388608 ≤ m) : e = canS L E := by
  obtain ⟨lz, p, hp⟩ : ∃ lz p : Nat, (p : Int) = e - E + lz := ⟨(E - e).toNat, (e - E).toNat, by omega⟩
  obtain ⟨ρ, G, v, -, -, hH, r0, r1, -, -⟩ := fl_cut hD h hc hp
  obtain ⟨b1, b0, b2⟩ := bl_pos hL
  have u1 : L * 2 ^ lz < 2 ^ (bl L + lz) := by rw [Int.pow_add]; exact Int.mul_lt_mul_of_pos_right b1 (two_pow_pos lz)
  have u2 : (2 : Int) ^ (bl L - 1 + lz) ≤ L * 2 ^ lz := by rw [Int.pow_add]; exact Int.mul_le_mul_of_nonneg_right b2 (Int.le_of_lt (two_pow_pos lz))
  have t1 : (m + 1) * 2 ^ p ≤ 2 ^ (24 + p) := by
    rw [Int.pow_add]
    exact Int.mul_le_mul_of_nonneg_right (by have : (2 : Int) ^ 24 = 16777216 := by decide
                                             omega) (Int.le_of_lt (two_pow_pos p))
  have f1 : (m + 1) * 2 ^ p = m * 2 ^ p + 2 ^ p := by rw [Int.add_mul, Int.one_mul]
  have k1 : bl L - 1 + lz < 24 + p := pow_lt (by omega)
  unfold canS
  rcases st with st | st
  · omega
  · have t2 : (2 : Int) ^ (23 + p) ≤ m * 2 ^ p := by
      rw [Int.pow_add]
      exact Int.mul_le_mul_of_nonneg_right (by have : (2 : Int) ^ 23 = 8388608 := by decide
                                               omega) (Int.le_of_lt (two_pow_pos p))
    have k2 : 23 + p < bl L + lz := pow_lt (by omega)
    omega
theorem rnd_s {N D e m q L E : Int} {lz p : Nat} (neg : Bool) (way : Int) (hD : 0 < D) (h : Fl N D e m q) (hc : N * 2 ^ (-E).toNat = D * (L * 2 ^ E.toNat)) (hp : (p : Int) = e - E + lz) (p1 : 1 ≤ p) : rnd neg way m q (D * 2 ^ e.toNat) = (cutF (L * 2 ^ lz) p false neg way).1 := by
  obtain ⟨ρ, G, v, hG, hv, hH, r0, r1, hq, hd⟩ := fl_cut hD h hc hp
  obtain ⟨d1, d2⟩ := div_of hH r0 r1
  rw [cut_rnd _ p1, d1, d2]
  exact rnd_scale hG hv hq hd
theorem bl_le64 {L : Int} (h0 : 0 < L) (h1 : L < 18446744073709551616) : 1 ≤ bl L ∧ bl L ≤ 64 := by
  obtain ⟨b1, b0, b2⟩ := bl_pos h0
  refine ⟨b0, ?_⟩
  have : bl L - 1 < 64 := pow_lt (by have : (2 : Int) ^ 64 = 18446744073709551616 := by decide
                                     omega)
  omega
end Go.Proofs.Ytfpmegfdopnnpaa.L

namespace Go.Proofs.Ytfpmegfdopnnpaa
open Go.RowKit Tn

set_option maxRecDepth 100000 in
set_option maxHeartbeats 1600000 in
theorem Len64_one (w : World) : Calls Try.prog 97 #[.int .u64 1] w fun e w' => e = .returned (.int .i64 1) ∧ w' = w := by
  go_enter Try.func97, Try.ntmps97
  go_wp2
  go_ret
  exact ⟨by kernel_rfl, rfl⟩
set_option maxRecDepth 100000 in
theorem LeadingZeros64_one (w : World) : Calls Try.prog 104 #[.int .u64 1] w fun e w' => e = .returned (.int .i64 63) ∧ w' = w := by
  go_enter Try.func104, Try.ntmps104
  go_wp2_with (first
    | (go_at_call 97; refine (Len64_one _).mono ?_; rintro e w' ⟨rfl, rfl⟩)
    | fail)
  go_ret
  exact ⟨rfl, rfl⟩
theorem blk_set {w : World} {n i : Nat} {c : Array Value} {t : TypeId} {v : Value} (h : Blk w n c t) : Blk (w.setCell ⟨n, i, none⟩ v) n (c.setIfInBounds i v) t := by
  have h' : w.heap[n]? = some (.cells c t (0, 0)) := h
  show (w.setCell ⟨n, i, none⟩ v).heap[n]? = _
  simp [World.setCell, Array.getElem?_modify, h']
theorem blk_set_other {w : World} {n m i : Nat} {c : Array Value} {t : TypeId} {v : Value} (h : Blk w n c t) (hn : n ≠ m) : Blk (w.setCell ⟨m, i, none⟩ v) n c t := h.wr ((Wr.refl m i 1 w).setCell i (by omega) v) hn
theorem bel_set {w W : World} {m i : Nat} {v : Value} (h : Below w.heap.size w W) (hm : w.heap.size ≤ m) : Below w.heap.size w (W.setCell ⟨m, i, none⟩ v) := h.setCell (p := ⟨m, i, none⟩) hm v
/-- A number of float's own. -/
abbrev nmb (k : Int) (g : Bool) (h l e : Int) (m : Bool) (f : Int) : Value := .agg #[.int .i64 k, .bool g, .int .u64 h, .int .u64 l, .int .i64 e, .bool m, .int .i64 f]
set_option maxRecDepth 100000 in
set_option maxHeartbeats 1600000 in
theorem raised_one (x1 x2 E : Int) (hx1 : IntKind.i64.wrap (E - 64) = x1) (hx2 : IntKind.i64.wrap (x1 - 63) = x2) (w : World) :
    Calls Try.prog 80 #[.agg #[.int .i64 2, .bool false, .int .u64 0, .int .u64 1, .int .i64 E, .bool false, .int .i64 0]] w fun e w' => e = .returned (.agg #[.int .i64 2, .bool false, .int .u64 9223372036854775808, .int .u64 0, .int .i64 x2, .bool false, .int .i64 0]) ∧ Below w.heap.size w w' := by
  go_enter Try.func80, Try.ntmps80
  go_wp2_with (first
    | (go_at_call 104; refine (LeadingZeros64_one _).mono ?_; rintro e w' ⟨rfl, rfl⟩)
    | fail)
  generalize hW : (w.alloc (.cells #[.int .i64 2, .bool false, .int .u64 1, .int .u64 0, .int .i64 x1, .bool false, .int .i64 0] 85)).alloc (.cells #[.int .i64 0, .bool false, .int .u64 0, .int .u64 0, .int .i64 0, .bool false, .int .i64 0] 85) = W
  have K1 : Blk W w.heap.size #[.int .i64 2, .bool false, .int .u64 1, .int .u64 0, .int .i64 x1, .bool false, .int .i64 0] 85 := by rw [← hW]; exact (Blk.new w _ _).alloc _
  have K2 : Blk W (w.heap.size + 1) #[.int .i64 0, .bool false, .int .u64 0, .int .u64 0, .int .i64 0, .bool false, .int .i64 0] 85 := by rw [← hW]; have := Blk.new (w.alloc (.cells #[.int .i64 2, .bool false, .int .u64 1, .int .u64 0, .int .i64 x1, .bool false, .int .i64 0] 85)) #[.int .i64 0, .bool false, .int .u64 0, .int .u64 0, .int .i64 0, .bool false, .int .i64 0] 85; simpa using this
  have pr : Below w.heap.size w W := by rw [← hW]; exact ((Below.refl _ _).alloc (Nat.le_refl _) _).alloc (by simp) _
  clear hW
  have c2 : W.cell? ⟨w.heap.size, 2, none⟩ = some (.int .u64 1) := K1.at 2
  have c3 : W.cell? ⟨w.heap.size, 3, none⟩ = some (.int .u64 0) := K1.at 3
  have c4 : W.cell? ⟨w.heap.size, 4, none⟩ = some (.int .i64 x1) := K1.at 4
  have f2 := K1.free 2
  have f3 := K1.free 3
  have f4 := K1.free 4
  have o1 : bits .or .u64 9223372036854775808 0 = 9223372036854775808 := by decide
  go_region
  have J1 : Blk (((W.setCell ⟨w.heap.size, 2, none⟩ (.int .u64 9223372036854775808)).setCell ⟨w.heap.size, 3, none⟩ (.int .u64 0)).setCell ⟨w.heap.size, 4, none⟩ (.int .i64 x2)).drew w.heap.size #[.int .i64 2, .bool false, .int .u64 9223372036854775808, .int .u64 0, .int .i64 x2, .bool false, .int .i64 0] 85 := blk_set (blk_set (blk_set K1))
  have J2 : Blk (((W.setCell ⟨w.heap.size, 2, none⟩ (.int .u64 9223372036854775808)).setCell ⟨w.heap.size, 3, none⟩ (.int .u64 0)).setCell ⟨w.heap.size, 4, none⟩ (.int .i64 x2)).drew (w.heap.size + 1) #[.int .i64 0, .bool false, .int .u64 0, .int .u64 0, .int .i64 0, .bool false, .int .i64 0] 85 := blk_set_other (blk_set_other (blk_set_other K2 (by omega)) (by omega)) (by omega)
  have pr2 : Below w.heap.size w (((W.setCell ⟨w.heap.size, 2, none⟩ (.int .u64 9223372036854775808)).setCell ⟨w.heap.size, 3, none⟩ (.int .u64 0)).setCell ⟨w.heap.size, 4, none⟩ (.int .i64 x2)).drew := (bel_set (bel_set (bel_set pr (Nat.le_refl _)) (Nat.le_refl _)) (Nat.le_refl _)).drew
  clear c2 c3 c4 f2 f3 f4 K1 K2 pr
  generalize (((W.setCell ⟨w.heap.size, 2, none⟩ (.int .u64 9223372036854775808)).setCell ⟨w.heap.size, 3, none⟩ (.int .u64 0)).setCell ⟨w.heap.size, 4, none⟩ (.int .i64 x2)).drew = W2 at *
  have c0 : W2.cell? ⟨w.heap.size, 0, none⟩ = some (.int .i64 2) := J1.at 0
  have c1 : W2.cell? ⟨w.heap.size, 1, none⟩ = some (.bool false) := J1.at 1
  have c2 : W2.cell? ⟨w.heap.size, 2, none⟩ = some (.int .u64 9223372036854775808) := J1.at 2
  have c3 : W2.cell? ⟨w.heap.size, 3, none⟩ = some (.int .u64 0) := J1.at 3
  have c4 : W2.cell? ⟨w.heap.size, 4, none⟩ = some (.int .i64 x2) := J1.at 4
  have c5 : W2.cell? ⟨w.heap.size, 5, none⟩ = some (.bool false) := J1.at 5
  have c6 : W2.cell? ⟨w.heap.size, 6, none⟩ = some (.int .i64 0) := J1.at 6
  have d0 : W2.cell? ⟨w.heap.size + 1, 0, none⟩ = some (.int .i64 0) := J2.at 0
  have d1 : W2.cell? ⟨w.heap.size + 1, 1, none⟩ = some (.bool false) := J2.at 1
  have d2 : W2.cell? ⟨w.heap.size + 1, 2, none⟩ = some (.int .u64 0) := J2.at 2
  have d3 : W2.cell? ⟨w.heap.size + 1, 3, none⟩ = some (.int .u64 0) := J2.at 3
  have d4 : W2.cell? ⟨w.heap.size + 1, 4, none⟩ = some (.int .i64 0) := J2.at 4
  have d5 : W2.cell? ⟨w.heap.size + 1, 5, none⟩ = some (.bool false) := J2.at 5
  have d6 : W2.cell? ⟨w.heap.size + 1, 6, none⟩ = some (.int .i64 0) := J2.at 6
  have f0 := J2.free 0
  have f1 := J2.free 1
  have f2 := J2.free 2
  have f3 := J2.free 3
  have f4 := J2.free 4
  have f5 := J2.free 5
  have f6 := J2.free 6
  go_wp2
  have JF : Blk (((((((W2.setCell ⟨w.heap.size + 1, 0, none⟩ (.int .i64 2)).setCell ⟨w.heap.size + 1, 1, none⟩ (.bool false)).setCell ⟨w.heap.size + 1, 2, none⟩ (.int .u64 9223372036854775808)).setCell ⟨w.heap.size + 1, 3, none⟩ (.int .u64 0)).setCell ⟨w.heap.size + 1, 4, none⟩ (.int .i64 x2)).setCell ⟨w.heap.size + 1, 5, none⟩ (.bool false)).setCell ⟨w.heap.size + 1, 6, none⟩ (.int .i64 0)) (w.heap.size + 1) #[.int .i64 2, .bool false, .int .u64 9223372036854775808, .int .u64 0, .int .i64 x2, .bool false, .int .i64 0] 85 := (blk_set (blk_set (blk_set (blk_set (blk_set (blk_set (blk_set J2)))))))
  have F0 : (((((((W2.setCell ⟨w.heap.size + 1, 0, none⟩ (.int .i64 2)).setCell ⟨w.heap.size + 1, 1, none⟩ (.bool false)).setCell ⟨w.heap.size + 1, 2, none⟩ (.int .u64 9223372036854775808)).setCell ⟨w.heap.size + 1, 3, none⟩ (.int .u64 0)).setCell ⟨w.heap.size + 1, 4, none⟩ (.int .i64 x2)).setCell ⟨w.heap.size + 1, 5, none⟩ (.bool false)).setCell ⟨w.heap.size + 1, 6, none⟩ (.int .i64 0)).cell? ⟨w.heap.size + 1, 0, none⟩ = some (.int .i64 2) := JF.at 0
  have F1 : (((((((W2.setCell ⟨w.heap.size + 1, 0, none⟩ (.int .i64 2)).setCell ⟨w.heap.size + 1, 1, none⟩ (.bool false)).setCell ⟨w.heap.size + 1, 2, none⟩ (.int .u64 9223372036854775808)).setCell ⟨w.heap.size + 1, 3, none⟩ (.int .u64 0)).setCell ⟨w.heap.size + 1, 4, none⟩ (.int .i64 x2)).setCell ⟨w.heap.size + 1, 5, none⟩ (.bool false)).setCell ⟨w.heap.size + 1, 6, none⟩ (.int .i64 0)).cell? ⟨w.heap.size + 1, 1, none⟩ = some (.bool false) := JF.at 1
  have F2 : (((((((W2.setCell ⟨w.heap.size + 1, 0, none⟩ (.int .i64 2)).setCell ⟨w.heap.size + 1, 1, none⟩ (.bool false)).setCell ⟨w.heap.size + 1, 2, none⟩ (.int .u64 9223372036854775808)).setCell ⟨w.heap.size + 1, 3, none⟩ (.int .u64 0)).setCell ⟨w.heap.size + 1, 4, none⟩ (.int .i64 x2)).setCell ⟨w.heap.size + 1, 5, none⟩ (.bool false)).setCell ⟨w.heap.size + 1, 6, none⟩ (.int .i64 0)).cell? ⟨w.heap.size + 1, 2, none⟩ = some (.int .u64 9223372036854775808) := JF.at 2
  have F3 : (((((((W2.setCell ⟨w.heap.size + 1, 0, none⟩ (.int .i64 2)).setCell ⟨w.heap.size + 1, 1, none⟩ (.bool false)).setCell ⟨w.heap.size + 1, 2, none⟩ (.int .u64 9223372036854775808)).setCell ⟨w.heap.size + 1, 3, none⟩ (.int .u64 0)).setCell ⟨w.heap.size + 1, 4, none⟩ (.int .i64 x2)).setCell ⟨w.heap.size + 1, 5, none⟩ (.bool false)).setCell ⟨w.heap.size + 1, 6, none⟩ (.int .i64 0)).cell? ⟨w.heap.size + 1, 3, none⟩ = some (.int .u64 0) := JF.at 3
  have F4 : (((((((W2.setCell ⟨w.heap.size + 1, 0, none⟩ (.int .i64 2)).setCell ⟨w.heap.size + 1, 1, none⟩ (.bool false)).setCell ⟨w.heap.size + 1, 2, none⟩ (.int .u64 9223372036854775808)).setCell ⟨w.heap.size + 1, 3, none⟩ (.int .u64 0)).setCell ⟨w.heap.size + 1, 4, none⟩ (.int .i64 x2)).setCell ⟨w.heap.size + 1, 5, none⟩ (.bool false)).setCell ⟨w.heap.size + 1, 6, none⟩ (.int .i64 0)).cell? ⟨w.heap.size + 1, 4, none⟩ = some (.int .i64 x2) := JF.at 4
  have F5 : (((((((W2.setCell ⟨w.heap.size + 1, 0, none⟩ (.int .i64 2)).setCell ⟨w.heap.size + 1, 1, none⟩ (.bool false)).setCell ⟨w.heap.size + 1, 2, none⟩ (.int .u64 9223372036854775808)).setCell ⟨w.heap.size + 1, 3, none⟩ (.int .u64 0)).setCell ⟨w.heap.size + 1, 4, none⟩ (.int .i64 x2)).setCell ⟨w.heap.size + 1, 5, none⟩ (.bool false)).setCell ⟨w.heap.size + 1, 6, none⟩ (.int .i64 0)).cell? ⟨w.heap.size + 1, 5, none⟩ = some (.bool false) := JF.at 5
  have F6 : (((((((W2.setCell ⟨w.heap.size + 1, 0, none⟩ (.int .i64 2)).setCell ⟨w.heap.size + 1, 1, none⟩ (.bool false)).setCell ⟨w.heap.size + 1, 2, none⟩ (.int .u64 9223372036854775808)).setCell ⟨w.heap.size + 1, 3, none⟩ (.int .u64 0)).setCell ⟨w.heap.size + 1, 4, none⟩ (.int .i64 x2)).setCell ⟨w.heap.size + 1, 5, none⟩ (.bool false)).setCell ⟨w.heap.size + 1, 6, none⟩ (.int .i64 0)).cell? ⟨w.heap.size + 1, 6, none⟩ = some (.int .i64 0) := JF.at 6
  exact bodyPost_ret (v := .agg #[.int .i64 2, .bool false, .int .u64 9223372036854775808, .int .u64 0, .int .i64 x2, .bool false, .int .i64 0]) (by simp [results, Try.results80, go_sem, F0, F1, F2, F3, F4, F5, F6]) rfl ⟨rfl, (bel_set (bel_set (bel_set (bel_set (bel_set (bel_set (bel_set pr2 (Nat.le_succ _)) (Nat.le_succ _)) (Nat.le_succ _)) (Nat.le_succ _)) (Nat.le_succ _)) (Nat.le_succ _)) (Nat.le_succ _))⟩
end Go.Proofs.Ytfpmegfdopnnpaa

namespace Go.Proofs.Ytfpmegfdopnnpaa
open Go.RowKit Tn

set_option maxRecDepth 100000 in
theorem IsWay_yes (way : Int) (h1 : 1 ≤ way) (h2 : way ≤ 6) (w : World) : Calls Try.prog 52 #[.int .i64 way] w fun e w' => e = .returned (.bool true) ∧ w' = w := by
  go_enter Try.func52, Try.ntmps52
  go_wp2
  go_ret
  exact ⟨rfl, rfl⟩
set_option maxRecDepth 100000 in
theorem IsWay_low (way : Int) (h1 : way < 1) (w : World) : Calls Try.prog 52 #[.int .i64 way] w fun e w' => e = .returned (.bool false) ∧ w' = w := by
  have h : ¬ 1 ≤ way := by omega
  go_enter Try.func52, Try.ntmps52
  go_wp2
  go_ret
  exact ⟨rfl, rfl⟩
set_option maxRecDepth 100000 in
theorem IsWay_high (way : Int) (h1 : 6 < way) (w : World) : Calls Try.prog 52 #[.int .i64 way] w fun e w' => e = .returned (.bool false) ∧ w' = w := by
  have h : 1 ≤ way := by omega
  have h2 : ¬ way ≤ 6 := by omega
  go_enter Try.func52, Try.ntmps52
  go_wp2
  go_ret
  exact ⟨rfl, rfl⟩
set_option maxRecDepth 100000 in
set_option maxHeartbeats 1600000 in
theorem tooGreat_w_inf (neg : Bool) (way N : Int) (hA : awayF way neg false 1 = true)
    (PK : ∀ w, Calls Try.prog 79 #[fmtW, .agg #[.int .i64 3, .bool neg, .int .u64 0, .int .i64 0]] w fun e w' => e = .returned (.int .u64 N) ∧ Below w.heap.size w w') (w : World) :
    Calls Try.prog 82 #[.agg #[.int .i64 53, .int .i64 (-1074), .int .i64 971], .bool neg, .int .i64 way] w fun e w' => e = .returned (.int .u64 N) ∧ Below w.heap.size w w' := by
  have A := IsAway_any neg false 1 way
  rw [hA] at A
  have c1 : IntKind.u64.wrap 9007199254740992 = 9007199254740992 := by decide
  have c2 : IntKind.u64.wrap 9007199254740991 = 9007199254740991 := by decide
  have K := Blk.new w #[.int .i64 53, .int .i64 (-1074), .int .i64 971] 72
  have pr : Below w.heap.size w (w.alloc (.cells #[.int .i64 53, .int .i64 (-1074), .int .i64 971] 72)) := (Below.refl _ _).alloc (Nat.le_refl _) _
  go_enter Try.func82, Try.ntmps82
  go_wp2_with (first
    | (go_at_call 105; refine (A _).mono ?_; rintro x w1 ⟨rfl, rfl⟩)
    | (go_at_call 79; refine (PK _).mono ?_; rintro x w2 ⟨rfl, b2⟩; replace pr := bel pr b2)
    | fail)
  go_ret
  exact ⟨rfl, pr⟩
set_option maxRecDepth 100000 in
set_option maxHeartbeats 1600000 in
theorem tooGreat_w_max (neg : Bool) (way N : Int) (hA : awayF way neg false 1 = false)
    (PK : ∀ w, Calls Try.prog 79 #[fmtW, prt4 (finW neg 9007199254740991 971)] w fun e w' => e = .returned (.int .u64 N) ∧ Below w.heap.size w w') (w : World) :
    Calls Try.prog 82 #[.agg #[.int .i64 53, .int .i64 (-1074), .int .i64 971], .bool neg, .int .i64 way] w fun e w' => e = .returned (.int .u64 N) ∧ Below w.heap.size w w' := by
  have A := IsAway_any neg false 1 way
  rw [hA] at A
  have c1 : IntKind.u64.wrap 9007199254740992 = 9007199254740992 := by decide
  have c2 : IntKind.u64.wrap 9007199254740991 = 9007199254740991 := by decide
  have K := Blk.new w #[.int .i64 53, .int .i64 (-1074), .int .i64 971] 72
  have pr : Below w.heap.size w (w.alloc (.cells #[.int .i64 53, .int .i64 (-1074), .int .i64 971] 72)) := (Below.refl _ _).alloc (Nat.le_refl _) _
  go_enter Try.func82, Try.ntmps82
  go_wp2_with (first
    | (go_at_call 105; refine (A _).mono ?_; rintro x w1 ⟨rfl, rfl⟩)
    | fail)
  generalize w.alloc (.cells #[.int .i64 53, .int .i64 (-1074), .int .i64 971] 72) = W at *
  have e0 : W.cell? ⟨w.heap.size, 0, none⟩ = some (.int .i64 53) := K.at 0
  have e1 : W.cell? ⟨w.heap.size, 1, none⟩ = some (.int .i64 (-1074)) := K.at 1
  have e2 : W.cell? ⟨w.heap.size, 2, none⟩ = some (.int .i64 971) := K.at 2
  go_region_held3 (fun x => x.cell? ⟨w.heap.size, 0, none⟩ = some (.int .i64 53) ∧ x.cell? ⟨w.heap.size, 1, none⟩ = some (.int .i64 (-1074)) ∧ x.cell? ⟨w.heap.size, 2, none⟩ = some (.int .i64 971)) (go_keep) (first
    | (go_at_call 77; (with_reducible refine (leastNormal_w _).mono ?_); rintro x w3 ⟨rfl, b5⟩; replace K := K.below b5 K.lt; replace pr := bel pr b5; clear b5; have e0 : w3.cell? ⟨w.heap.size, 0, none⟩ = some (.int .i64 53) := K.at 0; have e1 : w3.cell? ⟨w.heap.size, 1, none⟩ = some (.int .i64 (-1074)) := K.at 1; have e2 : w3.cell? ⟨w.heap.size, 2, none⟩ = some (.int .i64 971) := K.at 2)
    | (go_at_call 77; (with_reducible refine (leastNormal_w _).mono ?_); rintro x w3 ⟨rfl, b5⟩; replace K := K.below (below_undrew b5) K.lt; replace pr := bel pr (below_undrew b5); clear b5; have e0 : w3.cell? ⟨w.heap.size, 0, none⟩ = some (.int .i64 53) := K.at 0; have e1 : w3.cell? ⟨w.heap.size, 1, none⟩ = some (.int .i64 (-1074)) := K.at 1; have e2 : w3.cell? ⟨w.heap.size, 2, none⟩ = some (.int .i64 971) := K.at 2)
    | (go_at_call 83; (with_reducible refine (finite_w neg 9007199254740991 971 _).mono ?_); rintro x w4 ⟨rfl, b5⟩; replace K := K.below b5 K.lt; replace pr := bel pr b5; clear b5; have e0 : w4.cell? ⟨w.heap.size, 0, none⟩ = some (.int .i64 53) := K.at 0; have e1 : w4.cell? ⟨w.heap.size, 1, none⟩ = some (.int .i64 (-1074)) := K.at 1; have e2 : w4.cell? ⟨w.heap.size, 2, none⟩ = some (.int .i64 971) := K.at 2)
    | (go_at_call 83; (with_reducible refine (finite_w neg 9007199254740991 971 _).mono ?_); rintro x w4 ⟨rfl, b5⟩; replace K := K.below (below_undrew b5) K.lt; replace pr := bel pr (below_undrew b5); clear b5; have e0 : w4.cell? ⟨w.heap.size, 0, none⟩ = some (.int .i64 53) := K.at 0; have e1 : w4.cell? ⟨w.heap.size, 1, none⟩ = some (.int .i64 (-1074)) := K.at 1; have e2 : w4.cell? ⟨w.heap.size, 2, none⟩ = some (.int .i64 971) := K.at 2)
    | (go_at_call 79; (with_reducible refine (PK _).mono ?_); rintro x w5 ⟨rfl, b5⟩; replace K := K.below b5 K.lt; replace pr := bel pr b5; clear b5; have e0 : w5.cell? ⟨w.heap.size, 0, none⟩ = some (.int .i64 53) := K.at 0; have e1 : w5.cell? ⟨w.heap.size, 1, none⟩ = some (.int .i64 (-1074)) := K.at 1; have e2 : w5.cell? ⟨w.heap.size, 2, none⟩ = some (.int .i64 971) := K.at 2)
    | (go_at_call 79; (with_reducible refine (PK _).mono ?_); rintro x w5 ⟨rfl, b5⟩; replace K := K.below (below_undrew b5) K.lt; replace pr := bel pr (below_undrew b5); clear b5; have e0 : w5.cell? ⟨w.heap.size, 0, none⟩ = some (.int .i64 53) := K.at 0; have e1 : w5.cell? ⟨w.heap.size, 1, none⟩ = some (.int .i64 (-1074)) := K.at 1; have e2 : w5.cell? ⟨w.heap.size, 2, none⟩ = some (.int .i64 971) := K.at 2)
    | fail)
  go_wp2
  go_ret
  exact ⟨rfl, pr⟩
set_option maxRecDepth 100000 in
set_option maxHeartbeats 1600000 in
theorem tooGreat_s_inf (neg : Bool) (way N : Int) (hA : awayF way neg false 1 = true)
    (PK : ∀ w, Calls Try.prog 79 #[fmtS, .agg #[.int .i64 3, .bool neg, .int .u64 0, .int .i64 0]] w fun e w' => e = .returned (.int .u64 N) ∧ Below w.heap.size w w') (w : World) :
    Calls Try.prog 82 #[.agg #[.int .i64 24, .int .i64 (-149), .int .i64 104], .bool neg, .int .i64 way] w fun e w' => e = .returned (.int .u64 N) ∧ Below w.heap.size w w' := by
  have A := IsAway_any neg false 1 way
  rw [hA] at A
  have c1 : IntKind.u64.wrap 16777216 = 16777216 := by decide
  have c2 : IntKind.u64.wrap 16777215 = 16777215 := by decide
  have K := Blk.new w #[.int .i64 24, .int .i64 (-149), .int .i64 104] 72
  have pr : Below w.heap.size w (w.alloc (.cells #[.int .i64 24, .int .i64 (-149), .int .i64 104] 72)) := (Below.refl _ _).alloc (Nat.le_refl _) _
  go_enter Try.func82, Try.ntmps82
  go_wp2_with (first
    | (go_at_call 105; refine (A _).mono ?_; rintro x w1 ⟨rfl, rfl⟩)
    | (go_at_call 79; refine (PK _).mono ?_; rintro x w2 ⟨rfl, b2⟩; replace pr := bel pr b2)
    | fail)
  go_ret
  exact ⟨rfl, pr⟩
set_option maxRecDepth 100000 in
set_option maxHeartbeats 1600000 in
theorem tooGreat_s_max (neg : Bool) (way N : Int) (hA : awayF way neg false 1 = false)
    (PK : ∀ w, Calls Try.prog 79 #[fmtS, prt4 (finS neg 16777215 104)] w fun e w' => e = .returned (.int .u64 N) ∧ Below w.heap.size w w') (w : World) :
    Calls Try.prog 82 #[.agg #[.int .i64 24, .int .i64 (-149), .int .i64 104], .bool neg, .int .i64 way] w fun e w' => e = .returned (.int .u64 N) ∧ Below w.heap.size w w' := by
  have A := IsAway_any neg false 1 way
  rw [hA] at A
  have c1 : IntKind.u64.wrap 16777216 = 16777216 := by decide
  have c2 : IntKind.u64.wrap 16777215 = 16777215 := by decide
  have K := Blk.new w #[.int .i64 24, .int .i64 (-149), .int .i64 104] 72
  have pr : Below w.heap.size w (w.alloc (.cells #[.int .i64 24, .int .i64 (-149), .int .i64 104] 72)) := (Below.refl _ _).alloc (Nat.le_refl _) _
  go_enter Try.func82, Try.ntmps82
  go_wp2_with (first
    | (go_at_call 105; refine (A _).mono ?_; rintro x w1 ⟨rfl, rfl⟩)
    | fail)
  generalize w.alloc (.cells #[.int .i64 24, .int .i64 (-149), .int .i64 104] 72) = W at *
  have e0 : W.cell? ⟨w.heap.size, 0, none⟩ = some (.int .i64 24) := K.at 0
  have e1 : W.cell? ⟨w.heap.size, 1, none⟩ = some (.int .i64 (-149)) := K.at 1
  have e2 : W.cell? ⟨w.heap.size, 2, none⟩ = some (.int .i64 104) := K.at 2
  go_region_held3 (fun x => x.cell? ⟨w.heap.size, 0, none⟩ = some (.int .i64 24) ∧ x.cell? ⟨w.heap.size, 1, none⟩ = some (.int .i64 (-149)) ∧ x.cell? ⟨w.heap.size, 2, none⟩ = some (.int .i64 104)) (go_keep) (first
    | (go_at_call 77; (with_reducible refine (leastNormal_s _).mono ?_); rintro x w3 ⟨rfl, b5⟩; replace K := K.below b5 K.lt; replace pr := bel pr b5; clear b5; have e0 : w3.cell? ⟨w.heap.size, 0, none⟩ = some (.int .i64 24) := K.at 0; have e1 : w3.cell? ⟨w.heap.size, 1, none⟩ = some (.int .i64 (-149)) := K.at 1; have e2 : w3.cell? ⟨w.heap.size, 2, none⟩ = some (.int .i64 104) := K.at 2)
    | (go_at_call 77; (with_reducible refine (leastNormal_s _).mono ?_); rintro x w3 ⟨rfl, b5⟩; replace K := K.below (below_undrew b5) K.lt; replace pr := bel pr (below_undrew b5); clear b5; have e0 : w3.cell? ⟨w.heap.size, 0, none⟩ = some (.int .i64 24) := K.at 0; have e1 : w3.cell? ⟨w.heap.size, 1, none⟩ = some (.int .i64 (-149)) := K.at 1; have e2 : w3.cell? ⟨w.heap.size, 2, none⟩ = some (.int .i64 104) := K.at 2)
    | (go_at_call 83; (with_reducible refine (finite_s neg 16777215 104 _).mono ?_); rintro x w4 ⟨rfl, b5⟩; replace K := K.below b5 K.lt; replace pr := bel pr b5; clear b5; have e0 : w4.cell? ⟨w.heap.size, 0, none⟩ = some (.int .i64 24) := K.at 0; have e1 : w4.cell? ⟨w.heap.size, 1, none⟩ = some (.int .i64 (-149)) := K.at 1; have e2 : w4.cell? ⟨w.heap.size, 2, none⟩ = some (.int .i64 104) := K.at 2)
    | (go_at_call 83; (with_reducible refine (finite_s neg 16777215 104 _).mono ?_); rintro x w4 ⟨rfl, b5⟩; replace K := K.below (below_undrew b5) K.lt; replace pr := bel pr (below_undrew b5); clear b5; have e0 : w4.cell? ⟨w.heap.size, 0, none⟩ = some (.int .i64 24) := K.at 0; have e1 : w4.cell? ⟨w.heap.size, 1, none⟩ = some (.int .i64 (-149)) := K.at 1; have e2 : w4.cell? ⟨w.heap.size, 2, none⟩ = some (.int .i64 104) := K.at 2)
    | (go_at_call 79; (with_reducible refine (PK _).mono ?_); rintro x w5 ⟨rfl, b5⟩; replace K := K.below b5 K.lt; replace pr := bel pr b5; clear b5; have e0 : w5.cell? ⟨w.heap.size, 0, none⟩ = some (.int .i64 24) := K.at 0; have e1 : w5.cell? ⟨w.heap.size, 1, none⟩ = some (.int .i64 (-149)) := K.at 1; have e2 : w5.cell? ⟨w.heap.size, 2, none⟩ = some (.int .i64 104) := K.at 2)
    | (go_at_call 79; (with_reducible refine (PK _).mono ?_); rintro x w5 ⟨rfl, b5⟩; replace K := K.below (below_undrew b5) K.lt; replace pr := bel pr (below_undrew b5); clear b5; have e0 : w5.cell? ⟨w.heap.size, 0, none⟩ = some (.int .i64 24) := K.at 0; have e1 : w5.cell? ⟨w.heap.size, 1, none⟩ = some (.int .i64 (-149)) := K.at 1; have e2 : w5.cell? ⟨w.heap.size, 2, none⟩ = some (.int .i64 104) := K.at 2)
    | fail)
  go_wp2
  go_ret
  exact ⟨rfl, pr⟩
end Go.Proofs.Ytfpmegfdopnnpaa

/-
  Contracts of the library, laid at this program.
-/
namespace Go.Proofs
open Go.Shelf
def Try.lays134_ren : Go.Shelf.Ren := ⟨fun | 134 => 104 | 129 => 97 | n => n, fun | 53 => 22 | 3 => 3 | 4 => 4 | 46 => 105 | 5 => 5 | 9 => 9 | n => n, fun | n => n⟩
theorem Try.lays134 : Go.Proofs.Lays.n134 Try.prog Try.lays134_ren := {
  mixed := by kernel_rfl
  f129 := Try.func97.trans (congrArg some (by kernel_rfl))
  f134 := Try.func104.trans (congrArg some (by kernel_rfl))
  t3 := Try.underlying3
  a3 := Try.isAgg3
  z3 := Try.sizeOf3
  v3 := Try.zeroValue3
  t4 := Try.underlying4
  a4 := Try.isAgg4
  z4 := Try.sizeOf4
  v4 := Try.zeroValue4
  t5 := Try.underlying5
  a5 := Try.isAgg5
  z5 := Try.sizeOf5
  v5 := Try.zeroValue5
  t9 := Try.underlying9
  a9 := Try.isAgg9
  z9 := Try.sizeOf9
  v9 := Try.zeroValue9
  t46 := Try.underlying105
  a46 := Try.isAgg105
  z46 := Try.sizeOf105
  v46 := Try.zeroValue105
  t53 := Try.underlying22
  a53 := Try.isAgg22
  z53 := Try.sizeOf22
  v53 := Try.zeroValue22 }
theorem Try.bits_LeadingZeros64 (x : Int) (w : World) (h0 : 0 ≤ x) (h1 : x ≤ 18446744073709551615) :
    Calls Try.prog 104 #[.int .u64 x] w fun e w' => e = .returned (.int .i64 (64 - (Lib.bitLen x.toNat : Int))) ∧ w' = w := Any.bits_LeadingZeros64 Try.lays134 x w h0 h1
def Try.lays129_ren : Go.Shelf.Ren := ⟨fun | 129 => 97 | n => n, fun | 53 => 22 | 3 => 3 | 4 => 4 | 46 => 105 | 5 => 5 | 9 => 9 | n => n, fun | n => n⟩
theorem Try.lays129 : Go.Proofs.Lays.n129 Try.prog Try.lays129_ren := {
  mixed := by kernel_rfl
  f129 := Try.func97.trans (congrArg some (by kernel_rfl))
  t3 := Try.underlying3
  a3 := Try.isAgg3
  z3 := Try.sizeOf3
  v3 := Try.zeroValue3
  t4 := Try.underlying4
  a4 := Try.isAgg4
  z4 := Try.sizeOf4
  v4 := Try.zeroValue4
  t5 := Try.underlying5
  a5 := Try.isAgg5
  z5 := Try.sizeOf5
  v5 := Try.zeroValue5
  t9 := Try.underlying9
  a9 := Try.isAgg9
  z9 := Try.sizeOf9
  v9 := Try.zeroValue9
  t46 := Try.underlying105
  a46 := Try.isAgg105
  z46 := Try.sizeOf105
  v46 := Try.zeroValue105
  t53 := Try.underlying22
  a53 := Try.isAgg22
  z53 := Try.sizeOf22
  v53 := Try.zeroValue22 }
theorem Try.bits_Len64 (x : Int) (w : World) (h0 : 0 ≤ x) (h1 : x ≤ 18446744073709551615) :
    Calls Try.prog 97 #[.int .u64 x] w fun e w' => e = .returned (.int .i64 (Lib.bitLen x.toNat)) ∧ w' = w := Any.bits_Len64 Try.lays129 x w h0 h1
end Go.Proofs

namespace Go.Proofs.Ytfpmegfdopnnpaa
open Go.RowKit Tn

theorem bitLen_log2 : ∀ n : Nat, n < 2 ^ 64 → Lib.bitLen n = if n = 0 then 0 else n.log2 + 1 := by
  intro n
  induction n using Nat.strongRecOn with
  | ind n ih =>
    intro hn
    by_cases c : n = 0
    · rw [c]; rfl
    · rw [Lib.bitLen_half n c hn, ih (n / 2) (by omega) (by omega), if_neg c]
      by_cases d : n / 2 = 0
      · have : n = 1 := by omega
        subst this; rfl
      · rw [if_neg d, Nat.log2_def n, if_pos (by omega)]; omega
theorem bl_bitLen (x : Int) (h0 : 0 ≤ x) (h1 : x ≤ 18446744073709551615) : Lib.bitLen x.toNat = L.bl x := by
  rw [bitLen_log2 x.toNat (by omega)]
  unfold L.bl
  by_cases c : x ≤ 0
  · rw [if_pos c, if_pos (by omega)]
  · rw [if_neg c, if_neg (by omega)]
theorem LeadingZeros64_any (x : Int) (h0 : 0 ≤ x) (h1 : x ≤ 18446744073709551615) (w : World) : Calls Try.prog 104 #[.int .u64 x] w fun e w' => e = .returned (.int .i64 (64 - (L.bl x : Int))) ∧ w' = w := by
  have := Try.bits_LeadingZeros64 x w h0 h1
  rw [bl_bitLen x h0 h1] at this
  exact this
theorem Len64_any (x : Int) (h0 : 0 ≤ x) (h1 : x ≤ 18446744073709551615) (w : World) : Calls Try.prog 97 #[.int .u64 x] w fun e w' => e = .returned (.int .i64 (L.bl x : Int)) ∧ w' = w := by
  have := Try.bits_Len64 x w h0 h1
  rw [bl_bitLen x h0 h1] at this
  exact this
set_option maxRecDepth 100000 in
set_option maxHeartbeats 1600000 in
/-- raised, of a number whose high word is nought. -/
theorem raised_low (g mr : Bool) (fl x1 x2 x3 E L H : Int) (lz : Nat) (hx1 : IntKind.i64.wrap (E - 64) = x1) (hx2 : IntKind.i64.wrap (x1 - lz) = x2) (hx3 : IntKind.i64.wrap (64 - lz) = x3)
    (hs1 : Op.shift .shl .u64 L .i64 (lz : Int) = pure (.int .u64 H)) (hs2 : Op.shift .shl .u64 0 .i64 (lz : Int) = pure (.int .u64 0)) (hs3 : Op.shift .shr .u64 0 .i64 x3 = pure (.int .u64 0)) (o1 : bits .or .u64 H 0 = H)
    (LZ : ∀ w, Calls Try.prog 104 #[.int .u64 L] w fun e w' => e = .returned (.int .i64 (lz : Int)) ∧ w' = w) (w : World) :
    Calls Try.prog 80 #[.agg #[.int .i64 2, .bool g, .int .u64 0, .int .u64 L, .int .i64 E, .bool mr, .int .i64 fl]] w fun e w' => e = .returned (.agg #[.int .i64 2, .bool g, .int .u64 H, .int .u64 0, .int .i64 x2, .bool mr, .int .i64 fl]) ∧ Below w.heap.size w w' := by
  go_enter Try.func80, Try.ntmps80
  go_wp2_with (first
    | (go_at_call 104; refine (LZ _).mono ?_; rintro e w' ⟨rfl, rfl⟩)
    | fail)
  generalize hW : (w.alloc (.cells #[.int .i64 2, .bool g, .int .u64 L, .int .u64 0, .int .i64 x1, .bool mr, .int .i64 fl] 85)).alloc (.cells #[.int .i64 0, .bool false, .int .u64 0, .int .u64 0, .int .i64 0, .bool false, .int .i64 0] 85) = W
  have K1 : Blk W w.heap.size #[.int .i64 2, .bool g, .int .u64 L, .int .u64 0, .int .i64 x1, .bool mr, .int .i64 fl] 85 := by rw [← hW]; exact (Blk.new w _ _).alloc _
  have K2 : Blk W (w.heap.size + 1) #[.int .i64 0, .bool false, .int .u64 0, .int .u64 0, .int .i64 0, .bool false, .int .i64 0] 85 := by rw [← hW]; have := Blk.new (w.alloc (.cells #[.int .i64 2, .bool g, .int .u64 L, .int .u64 0, .int .i64 x1, .bool mr, .int .i64 fl] 85)) #[.int .i64 0, .bool false, .int .u64 0, .int .u64 0, .int .i64 0, .bool false, .int .i64 0] 85; simpa using this
  have pr : Below w.heap.size w W := by rw [← hW]; exact ((Below.refl _ _).alloc (Nat.le_refl _) _).alloc (by simp) _
  clear hW
  have c2 : W.cell? ⟨w.heap.size, 2, none⟩ = some (.int .u64 L) := K1.at 2
  have c3 : W.cell? ⟨w.heap.size, 3, none⟩ = some (.int .u64 0) := K1.at 3
  have c4 : W.cell? ⟨w.heap.size, 4, none⟩ = some (.int .i64 x1) := K1.at 4
  have f2 := K1.free 2
  have f3 := K1.free 3
  have f4 := K1.free 4
  go_region
  have J1 : Blk (((W.setCell ⟨w.heap.size, 2, none⟩ (.int .u64 H)).setCell ⟨w.heap.size, 3, none⟩ (.int .u64 0)).setCell ⟨w.heap.size, 4, none⟩ (.int .i64 x2)).drew w.heap.size #[.int .i64 2, .bool g, .int .u64 H, .int .u64 0, .int .i64 x2, .bool mr, .int .i64 fl] 85 := blk_set (blk_set (blk_set K1))
  have J2 : Blk (((W.setCell ⟨w.heap.size, 2, none⟩ (.int .u64 H)).setCell ⟨w.heap.size, 3, none⟩ (.int .u64 0)).setCell ⟨w.heap.size, 4, none⟩ (.int .i64 x2)).drew (w.heap.size + 1) #[.int .i64 0, .bool false, .int .u64 0, .int .u64 0, .int .i64 0, .bool false, .int .i64 0] 85 := blk_set_other (blk_set_other (blk_set_other K2 (by omega)) (by omega)) (by omega)
  have pr2 : Below w.heap.size w (((W.setCell ⟨w.heap.size, 2, none⟩ (.int .u64 H)).setCell ⟨w.heap.size, 3, none⟩ (.int .u64 0)).setCell ⟨w.heap.size, 4, none⟩ (.int .i64 x2)).drew := (bel_set (bel_set (bel_set pr (Nat.le_refl _)) (Nat.le_refl _)) (Nat.le_refl _)).drew
  clear c2 c3 c4 f2 f3 f4 K1 K2 pr
  generalize (((W.setCell ⟨w.heap.size, 2, none⟩ (.int .u64 H)).setCell ⟨w.heap.size, 3, none⟩ (.int .u64 0)).setCell ⟨w.heap.size, 4, none⟩ (.int .i64 x2)).drew = W2 at *
  have c0 : W2.cell? ⟨w.heap.size, 0, none⟩ = some (.int .i64 2) := J1.at 0
  have c1 : W2.cell? ⟨w.heap.size, 1, none⟩ = some (.bool g) := J1.at 1
  have c2 : W2.cell? ⟨w.heap.size, 2, none⟩ = some (.int .u64 H) := J1.at 2
  have c3 : W2.cell? ⟨w.heap.size, 3, none⟩ = some (.int .u64 0) := J1.at 3
  have c4 : W2.cell? ⟨w.heap.size, 4, none⟩ = some (.int .i64 x2) := J1.at 4
  have c5 : W2.cell? ⟨w.heap.size, 5, none⟩ = some (.bool mr) := J1.at 5
  have c6 : W2.cell? ⟨w.heap.size, 6, none⟩ = some (.int .i64 fl) := J1.at 6
  have d0 : W2.cell? ⟨w.heap.size + 1, 0, none⟩ = some (.int .i64 0) := J2.at 0
  have d1 : W2.cell? ⟨w.heap.size + 1, 1, none⟩ = some (.bool false) := J2.at 1
  have d2 : W2.cell? ⟨w.heap.size + 1, 2, none⟩ = some (.int .u64 0) := J2.at 2
  have d3 : W2.cell? ⟨w.heap.size + 1, 3, none⟩ = some (.int .u64 0) := J2.at 3
  have d4 : W2.cell? ⟨w.heap.size + 1, 4, none⟩ = some (.int .i64 0) := J2.at 4
  have d5 : W2.cell? ⟨w.heap.size + 1, 5, none⟩ = some (.bool false) := J2.at 5
  have d6 : W2.cell? ⟨w.heap.size + 1, 6, none⟩ = some (.int .i64 0) := J2.at 6
  have f0 := J2.free 0
  have f1 := J2.free 1
  have f2 := J2.free 2
  have f3 := J2.free 3
  have f4 := J2.free 4
  have f5 := J2.free 5
  have f6 := J2.free 6
  go_wp2
  have JF : Blk (((((((W2.setCell ⟨w.heap.size + 1, 0, none⟩ (.int .i64 2)).setCell ⟨w.heap.size + 1, 1, none⟩ (.bool g)).setCell ⟨w.heap.size + 1, 2, none⟩ (.int .u64 H)).setCell ⟨w.heap.size + 1, 3, none⟩ (.int .u64 0)).setCell ⟨w.heap.size + 1, 4, none⟩ (.int .i64 x2)).setCell ⟨w.heap.size + 1, 5, none⟩ (.bool mr)).setCell ⟨w.heap.size + 1, 6, none⟩ (.int .i64 fl)) (w.heap.size + 1) #[.int .i64 2, .bool g, .int .u64 H, .int .u64 0, .int .i64 x2, .bool mr, .int .i64 fl] 85 := (blk_set (blk_set (blk_set (blk_set (blk_set (blk_set (blk_set J2)))))))
  have F0 : (((((((W2.setCell ⟨w.heap.size + 1, 0, none⟩ (.int .i64 2)).setCell ⟨w.heap.size + 1, 1, none⟩ (.bool g)).setCell ⟨w.heap.size + 1, 2, none⟩ (.int .u64 H)).setCell ⟨w.heap.size + 1, 3, none⟩ (.int .u64 0)).setCell ⟨w.heap.size + 1, 4, none⟩ (.int .i64 x2)).setCell ⟨w.heap.size + 1, 5, none⟩ (.bool mr)).setCell ⟨w.heap.size + 1, 6, none⟩ (.int .i64 fl)).cell? ⟨w.heap.size + 1, 0, none⟩ = some (.int .i64 2) := JF.at 0
  have F1 : (((((((W2.setCell ⟨w.heap.size + 1, 0, none⟩ (.int .i64 2)).setCell ⟨w.heap.size + 1, 1, none⟩ (.bool g)).setCell ⟨w.heap.size + 1, 2, none⟩ (.int .u64 H)).setCell ⟨w.heap.size + 1, 3, none⟩ (.int .u64 0)).setCell ⟨w.heap.size + 1, 4, none⟩ (.int .i64 x2)).setCell ⟨w.heap.size + 1, 5, none⟩ (.bool mr)).setCell ⟨w.heap.size + 1, 6, none⟩ (.int .i64 fl)).cell? ⟨w.heap.size + 1, 1, none⟩ = some (.bool g) := JF.at 1
  have F2 : (((((((W2.setCell ⟨w.heap.size + 1, 0, none⟩ (.int .i64 2)).setCell ⟨w.heap.size + 1, 1, none⟩ (.bool g)).setCell ⟨w.heap.size + 1, 2, none⟩ (.int .u64 H)).setCell ⟨w.heap.size + 1, 3, none⟩ (.int .u64 0)).setCell ⟨w.heap.size + 1, 4, none⟩ (.int .i64 x2)).setCell ⟨w.heap.size + 1, 5, none⟩ (.bool mr)).setCell ⟨w.heap.size + 1, 6, none⟩ (.int .i64 fl)).cell? ⟨w.heap.size + 1, 2, none⟩ = some (.int .u64 H) := JF.at 2
  have F3 : (((((((W2.setCell ⟨w.heap.size + 1, 0, none⟩ (.int .i64 2)).setCell ⟨w.heap.size + 1, 1, none⟩ (.bool g)).setCell ⟨w.heap.size + 1, 2, none⟩ (.int .u64 H)).setCell ⟨w.heap.size + 1, 3, none⟩ (.int .u64 0)).setCell ⟨w.heap.size + 1, 4, none⟩ (.int .i64 x2)).setCell ⟨w.heap.size + 1, 5, none⟩ (.bool mr)).setCell ⟨w.heap.size + 1, 6, none⟩ (.int .i64 fl)).cell? ⟨w.heap.size + 1, 3, none⟩ = some (.int .u64 0) := JF.at 3
  have F4 : (((((((W2.setCell ⟨w.heap.size + 1, 0, none⟩ (.int .i64 2)).setCell ⟨w.heap.size + 1, 1, none⟩ (.bool g)).setCell ⟨w.heap.size + 1, 2, none⟩ (.int .u64 H)).setCell ⟨w.heap.size + 1, 3, none⟩ (.int .u64 0)).setCell ⟨w.heap.size + 1, 4, none⟩ (.int .i64 x2)).setCell ⟨w.heap.size + 1, 5, none⟩ (.bool mr)).setCell ⟨w.heap.size + 1, 6, none⟩ (.int .i64 fl)).cell? ⟨w.heap.size + 1, 4, none⟩ = some (.int .i64 x2) := JF.at 4
  have F5 : (((((((W2.setCell ⟨w.heap.size + 1, 0, none⟩ (.int .i64 2)).setCell ⟨w.heap.size + 1, 1, none⟩ (.bool g)).setCell ⟨w.heap.size + 1, 2, none⟩ (.int .u64 H)).setCell ⟨w.heap.size + 1, 3, none⟩ (.int .u64 0)).setCell ⟨w.heap.size + 1, 4, none⟩ (.int .i64 x2)).setCell ⟨w.heap.size + 1, 5, none⟩ (.bool mr)).setCell ⟨w.heap.size + 1, 6, none⟩ (.int .i64 fl)).cell? ⟨w.heap.size + 1, 5, none⟩ = some (.bool mr) := JF.at 5
  have F6 : (((((((W2.setCell ⟨w.heap.size + 1, 0, none⟩ (.int .i64 2)).setCell ⟨w.heap.size + 1, 1, none⟩ (.bool g)).setCell ⟨w.heap.size + 1, 2, none⟩ (.int .u64 H)).setCell ⟨w.heap.size + 1, 3, none⟩ (.int .u64 0)).setCell ⟨w.heap.size + 1, 4, none⟩ (.int .i64 x2)).setCell ⟨w.heap.size + 1, 5, none⟩ (.bool mr)).setCell ⟨w.heap.size + 1, 6, none⟩ (.int .i64 fl)).cell? ⟨w.heap.size + 1, 6, none⟩ = some (.int .i64 fl) := JF.at 6
  exact bodyPost_ret (v := .agg #[.int .i64 2, .bool g, .int .u64 H, .int .u64 0, .int .i64 x2, .bool mr, .int .i64 fl]) (by simp [results, Try.results80, go_sem, F0, F1, F2, F3, F4, F5, F6]) rfl ⟨rfl, (bel_set (bel_set (bel_set (bel_set (bel_set (bel_set (bel_set pr2 (Nat.le_succ _)) (Nat.le_succ _)) (Nat.le_succ _)) (Nat.le_succ _)) (Nat.le_succ _)) (Nat.le_succ _)) (Nat.le_succ _))⟩
end Go.Proofs.Ytfpmegfdopnnpaa
