import Derived.Test.YtjgljcifnklmeaaPart08
import Derived.Laws.Bits64b
import Derived.Laws.ShiftsVarLaws
import Derived.WalkKit
import Derived.Test.YtjgljcifnklmeaaPart07

namespace Go.Proofs.Ytjgljcifnklmeaa
open Go.RowKit Tn

/-- The reference's size of floats. -/
abbrev szW : Value := .agg #[.int .i64 53, .int .i64 (-1074), .int .i64 971, .int .i64 52]
set_option maxRecDepth 100000 in
set_option maxHeartbeats 1600000 in
theorem Wide_any (w : World) : Calls Try.prog 10 #[] w fun e w' => e = .returned szW ∧ Below w.heap.size w w' := by
  go_enter Try.func10, Try.ntmps10
  go_wp2
  refine bodyPost_ret (v := szW) (by simp [results, Try.results10, go_sem]) rfl ⟨rfl, ?_⟩
  exact (Below.refl _ _).alloc (Nat.le_refl _) _
set_option maxRecDepth 100000 in
set_option maxHeartbeats 1600000 in
theorem top_w (w : World) : Calls Try.prog 43 #[szW] w fun e w' => e = .returned (.int .u64 2047) ∧ Below w.heap.size w w' := by
  go_enter Try.func43, Try.ntmps43
  go_wp2
  go_ret
  exact ⟨rfl, (Below.refl _ _).alloc (Nat.le_refl _) _⟩
set_option maxRecDepth 100000 in
set_option maxHeartbeats 1600000 in
theorem sign_w (w : World) : Calls Try.prog 78 #[szW] w fun e w' => e = .returned (.int .i64 63) ∧ Below w.heap.size w w' := by
  go_enter Try.func78, Try.ntmps78
  go_wp2
  go_ret
  exact ⟨rfl, (Below.refl _ _).alloc (Nat.le_refl _) _⟩
set_option maxRecDepth 100000 in
set_option maxHeartbeats 1600000 in
theorem Neg_w (n : Int) (g : Bool) (h : (bits .and .u64 (n / 9223372036854775808) 1 == 1) = g) (w : World) : Calls Try.prog 44 #[szW, .int .u64 n] w fun e w' => e = .returned (.bool g) ∧ Below w.heap.size w w' := by
  go_enter Try.func44, Try.ntmps44
  have K0 := Blk.new w #[.int .i64 53, .int .i64 (-1074), .int .i64 971, .int .i64 52] 31
  have pr : Below w.heap.size w (w.alloc (.cells #[.int .i64 53, .int .i64 (-1074), .int .i64 971, .int .i64 52] 31)) := (Below.refl _ _).alloc (Nat.le_refl _) _
  go_wp2_with (first
    | (go_at_call 78; refine (sign_w _).mono ?_; rintro e w1 ⟨rfl, b1⟩; replace K0 := K0.below b1 K0.lt; replace pr := bel pr b1; clear b1)
    | fail)
  go_ret
  exact ⟨rfl, pr⟩
set_option maxRecDepth 100000 in
set_option maxHeartbeats 1600000 in
theorem signed_w_pos (n : Int) (w : World) : Calls Try.prog 50 #[szW, .bool false, .int .u64 n] w fun e w' => e = .returned (.int .u64 n) ∧ Below w.heap.size w w' := by
  go_enter Try.func50, Try.ntmps50
  have K0 := Blk.new w #[.int .i64 53, .int .i64 (-1074), .int .i64 971, .int .i64 52] 31
  have pr : Below w.heap.size w (w.alloc (.cells #[.int .i64 53, .int .i64 (-1074), .int .i64 971, .int .i64 52] 31)) := (Below.refl _ _).alloc (Nat.le_refl _) _
  go_wp2
  go_ret
  exact ⟨rfl, pr⟩
set_option maxRecDepth 100000 in
set_option maxHeartbeats 1600000 in
theorem signed_w_neg (n m : Int) (h : bits .or .u64 n 9223372036854775808 = m) (w : World) : Calls Try.prog 50 #[szW, .bool true, .int .u64 n] w fun e w' => e = .returned (.int .u64 m) ∧ Below w.heap.size w w' := by
  go_enter Try.func50, Try.ntmps50
  have K0 := Blk.new w #[.int .i64 53, .int .i64 (-1074), .int .i64 971, .int .i64 52] 31
  have pr : Below w.heap.size w (w.alloc (.cells #[.int .i64 53, .int .i64 (-1074), .int .i64 971, .int .i64 52] 31)) := (Below.refl _ _).alloc (Nat.le_refl _) _
  go_wp2_with (first
    | (go_at_call 78; refine (sign_w _).mono ?_; rintro e w1 ⟨rfl, b1⟩; replace K0 := K0.below b1 K0.lt; replace pr := bel pr b1; clear b1)
    | fail)
  go_ret
  exact ⟨rfl, pr⟩
set_option maxRecDepth 100000 in
set_option maxHeartbeats 1600000 in
theorem None_w (w : World) : Calls Try.prog 48 #[szW] w fun e w' => e = .returned (.int .u64 9221120237041090560) ∧ Below w.heap.size w w' := by
  go_enter Try.func48, Try.ntmps48
  go_wp2_with fail
  have K0 := Blk.new w #[.int .i64 53, .int .i64 (-1074), .int .i64 971, .int .i64 52] 31
  have pr : Below w.heap.size w (w.alloc (.cells #[.int .i64 53, .int .i64 (-1074), .int .i64 971, .int .i64 52] 31)) := (Below.refl _ _).alloc (Nat.le_refl _) _
  generalize w.alloc (.cells #[.int .i64 53, .int .i64 (-1074), .int .i64 971, .int .i64 52] 31) = W at *
  have L0 := K0.lt
  have e0 : W.cell? ⟨w.heap.size, 0, none⟩ = some (.int .i64 53) := K0.at 0
  have e1 : W.cell? ⟨w.heap.size, 1, none⟩ = some (.int .i64 (-1074)) := K0.at 1
  have e2 : W.cell? ⟨w.heap.size, 2, none⟩ = some (.int .i64 971) := K0.at 2
  have e3 : W.cell? ⟨w.heap.size, 3, none⟩ = some (.int .i64 52) := K0.at 3
  have h1 : IntKind.i64.wrap 51 = 51 := by decide
  have h2 : bits .or .u64 9218868437227405312 2251799813685248 = 9221120237041090560 := by decide
  have h3 : IntKind.u64.wrap 9218868437227405312 = 9218868437227405312 := by decide
  have h4 : IntKind.u64.wrap 2251799813685248 = 2251799813685248 := by decide
  go_region_held3 (fun x => x.cell? ⟨w.heap.size, 0, none⟩ = some (.int .i64 53) ∧ x.cell? ⟨w.heap.size, 1, none⟩ = some (.int .i64 (-1074)) ∧ x.cell? ⟨w.heap.size, 2, none⟩ = some (.int .i64 971) ∧ x.cell? ⟨w.heap.size, 3, none⟩ = some (.int .i64 52)) (go_keep) (first
    | (go_at_call 43; refine (top_w _).mono ?_; rintro e w1 ⟨rfl, b1⟩; have J0 := K0.below (below_undrew b1) K0.lt; have f0 : w1.cell? ⟨w.heap.size, 0, none⟩ = some (.int .i64 53) := J0.at 0; have f1 : w1.cell? ⟨w.heap.size, 1, none⟩ = some (.int .i64 (-1074)) := J0.at 1; have f2 : w1.cell? ⟨w.heap.size, 2, none⟩ = some (.int .i64 971) := J0.at 2; have f3 : w1.cell? ⟨w.heap.size, 3, none⟩ = some (.int .i64 52) := J0.at 3)
    | fail)
  go_wp2
  go_ret
  exact ⟨rfl, bel_drew pr b1⟩
/-- The reference's size of small floats. -/
abbrev szS : Value := .agg #[.int .i64 24, .int .i64 (-149), .int .i64 104, .int .i64 23]
set_option maxRecDepth 100000 in
set_option maxHeartbeats 1600000 in
theorem Small_any (w : World) : Calls Try.prog 14 #[] w fun e w' => e = .returned szS ∧ Below w.heap.size w w' := by
  go_enter Try.func14, Try.ntmps14
  go_wp2
  refine bodyPost_ret (v := szS) (by simp [results, Try.results14, go_sem]) rfl ⟨rfl, ?_⟩
  exact (Below.refl _ _).alloc (Nat.le_refl _) _
set_option maxRecDepth 100000 in
set_option maxHeartbeats 1600000 in
theorem top_s (w : World) : Calls Try.prog 43 #[szS] w fun e w' => e = .returned (.int .u64 255) ∧ Below w.heap.size w w' := by
  go_enter Try.func43, Try.ntmps43
  go_wp2
  go_ret
  exact ⟨rfl, (Below.refl _ _).alloc (Nat.le_refl _) _⟩
set_option maxRecDepth 100000 in
set_option maxHeartbeats 1600000 in
theorem sign_s (w : World) : Calls Try.prog 78 #[szS] w fun e w' => e = .returned (.int .i64 31) ∧ Below w.heap.size w w' := by
  go_enter Try.func78, Try.ntmps78
  go_wp2
  go_ret
  exact ⟨rfl, (Below.refl _ _).alloc (Nat.le_refl _) _⟩
set_option maxRecDepth 100000 in
set_option maxHeartbeats 1600000 in
theorem Neg_s (n : Int) (g : Bool) (h : (bits .and .u64 (n / 2147483648) 1 == 1) = g) (w : World) : Calls Try.prog 44 #[szS, .int .u64 n] w fun e w' => e = .returned (.bool g) ∧ Below w.heap.size w w' := by
  go_enter Try.func44, Try.ntmps44
  have K0 := Blk.new w #[.int .i64 24, .int .i64 (-149), .int .i64 104, .int .i64 23] 31
  have pr : Below w.heap.size w (w.alloc (.cells #[.int .i64 24, .int .i64 (-149), .int .i64 104, .int .i64 23] 31)) := (Below.refl _ _).alloc (Nat.le_refl _) _
  go_wp2_with (first
    | (go_at_call 78; refine (sign_s _).mono ?_; rintro e w1 ⟨rfl, b1⟩; replace K0 := K0.below b1 K0.lt; replace pr := bel pr b1; clear b1)
    | fail)
  go_ret
  exact ⟨rfl, pr⟩
set_option maxRecDepth 100000 in
set_option maxHeartbeats 1600000 in
theorem signed_s_pos (n : Int) (w : World) : Calls Try.prog 50 #[szS, .bool false, .int .u64 n] w fun e w' => e = .returned (.int .u64 n) ∧ Below w.heap.size w w' := by
  go_enter Try.func50, Try.ntmps50
  have K0 := Blk.new w #[.int .i64 24, .int .i64 (-149), .int .i64 104, .int .i64 23] 31
  have pr : Below w.heap.size w (w.alloc (.cells #[.int .i64 24, .int .i64 (-149), .int .i64 104, .int .i64 23] 31)) := (Below.refl _ _).alloc (Nat.le_refl _) _
  go_wp2
  go_ret
  exact ⟨rfl, pr⟩
set_option maxRecDepth 100000 in
set_option maxHeartbeats 1600000 in
theorem signed_s_neg (n m : Int) (h : bits .or .u64 n 2147483648 = m) (w : World) : Calls Try.prog 50 #[szS, .bool true, .int .u64 n] w fun e w' => e = .returned (.int .u64 m) ∧ Below w.heap.size w w' := by
  go_enter Try.func50, Try.ntmps50
  have K0 := Blk.new w #[.int .i64 24, .int .i64 (-149), .int .i64 104, .int .i64 23] 31
  have pr : Below w.heap.size w (w.alloc (.cells #[.int .i64 24, .int .i64 (-149), .int .i64 104, .int .i64 23] 31)) := (Below.refl _ _).alloc (Nat.le_refl _) _
  go_wp2_with (first
    | (go_at_call 78; refine (sign_s _).mono ?_; rintro e w1 ⟨rfl, b1⟩; replace K0 := K0.below b1 K0.lt; replace pr := bel pr b1; clear b1)
    | fail)
  go_ret
  exact ⟨rfl, pr⟩
set_option maxRecDepth 100000 in
set_option maxHeartbeats 1600000 in
theorem None_s (w : World) : Calls Try.prog 48 #[szS] w fun e w' => e = .returned (.int .u64 2143289344) ∧ Below w.heap.size w w' := by
  go_enter Try.func48, Try.ntmps48
  go_wp2_with fail
  have K0 := Blk.new w #[.int .i64 24, .int .i64 (-149), .int .i64 104, .int .i64 23] 31
  have pr : Below w.heap.size w (w.alloc (.cells #[.int .i64 24, .int .i64 (-149), .int .i64 104, .int .i64 23] 31)) := (Below.refl _ _).alloc (Nat.le_refl _) _
  generalize w.alloc (.cells #[.int .i64 24, .int .i64 (-149), .int .i64 104, .int .i64 23] 31) = W at *
  have L0 := K0.lt
  have e0 : W.cell? ⟨w.heap.size, 0, none⟩ = some (.int .i64 24) := K0.at 0
  have e1 : W.cell? ⟨w.heap.size, 1, none⟩ = some (.int .i64 (-149)) := K0.at 1
  have e2 : W.cell? ⟨w.heap.size, 2, none⟩ = some (.int .i64 104) := K0.at 2
  have e3 : W.cell? ⟨w.heap.size, 3, none⟩ = some (.int .i64 23) := K0.at 3
  have h1 : IntKind.i64.wrap 22 = 22 := by decide
  have h2 : bits .or .u64 2139095040 4194304 = 2143289344 := by decide
  have h3 : IntKind.u64.wrap 2139095040 = 2139095040 := by decide
  have h4 : IntKind.u64.wrap 4194304 = 4194304 := by decide
  go_region_held3 (fun x => x.cell? ⟨w.heap.size, 0, none⟩ = some (.int .i64 24) ∧ x.cell? ⟨w.heap.size, 1, none⟩ = some (.int .i64 (-149)) ∧ x.cell? ⟨w.heap.size, 2, none⟩ = some (.int .i64 104) ∧ x.cell? ⟨w.heap.size, 3, none⟩ = some (.int .i64 23)) (go_keep) (first
    | (go_at_call 43; refine (top_s _).mono ?_; rintro e w1 ⟨rfl, b1⟩; have J0 := K0.below (below_undrew b1) K0.lt; have f0 : w1.cell? ⟨w.heap.size, 0, none⟩ = some (.int .i64 24) := J0.at 0; have f1 : w1.cell? ⟨w.heap.size, 1, none⟩ = some (.int .i64 (-149)) := J0.at 1; have f2 : w1.cell? ⟨w.heap.size, 2, none⟩ = some (.int .i64 104) := J0.at 2; have f3 : w1.cell? ⟨w.heap.size, 3, none⟩ = some (.int .i64 23) := J0.at 3)
    | fail)
  go_wp2
  go_ret
  exact ⟨rfl, bel_drew pr b1⟩
end Go.Proofs.Ytjgljcifnklmeaa

namespace Tn
open Go

theorem and63 (n k c : Nat) (hc : c = 2 ^ k) : (n &&& c ≠ 0) ↔ n / c % 2 = 1 := by
  subst hc
  have h := and_two_pow_eq_zero (n : Int) k (by omega)
  rw [toNat_two_pow, Int.toNat_natCast] at h
  have e : ((n : Int) / 2 ^ k % 2 = 1) ↔ n / 2 ^ k % 2 = 1 := by
    have e2 : ((n / 2 ^ k % 2 : Nat) : Int) = (n : Int) / 2 ^ k % 2 := by simp
    omega
  rw [ne_eq, h, e, Decidable.not_not]
theorem or_low (f k c : Nat) (hc : c = 2 ^ k) (hf : f < c) : f ||| c = f + c := by
  subst hc
  have := Nat.two_pow_add_eq_or_of_lt hf 1
  rw [Nat.mul_one] at this
  rw [Nat.or_comm]; omega
theorem or_high (a f k c : Nat) (hc : c = 2 ^ k) (hf : f < c) : c * a ||| f = c * a + f := by
  subst hc
  exact (Nat.two_pow_add_eq_or_of_lt hf a).symm
theorem bits_or_bd (x y : Int) : 0 ≤ bits .or .u64 x y ∧ bits .or .u64 x y < 18446744073709551616 := by
  unfold bits
  rw [IntKind.wrap_u64]
  omega
theorem bits_andNot_pow (m c k : Nat) (hc : c = 2 ^ k) (hk : k < 64) (h0 : c ≤ m) (h1 : m < 2 * c) : bits .andNot .u64 (m : Int) (c : Int) = ((m - c : Nat) : Int) := by
  have hp : c ≤ 2 ^ 63 := by rw [hc]; exact Nat.pow_le_pow_right (by omega) (by omega)
  have a1 : (BitVec.ofInt 64 (m : Int)).toNat = m := by
    rw [BitVec.ofInt_natCast, BitVec.toNat_ofNat]; exact Nat.mod_eq_of_lt (by omega)
  have a2 : (BitVec.ofInt 64 (c : Int)).toNat = c := by
    rw [BitVec.ofInt_natCast, BitVec.toNat_ofNat]; exact Nat.mod_eq_of_lt (by omega)
  show IntKind.u64.wrap ((BitVec.ofInt 64 (m : Int) &&& ~~~ BitVec.ofInt 64 (c : Int)).toNat : Int) = _
  have key : (BitVec.ofInt 64 (m : Int) &&& ~~~ BitVec.ofInt 64 (c : Int)).toNat = m - c := by
    apply Nat.eq_of_testBit_eq
    intro i
    rw [BitVec.toNat_and, Nat.testBit_and, BitVec.testBit_toNat, BitVec.testBit_toNat, BitVec.getLsbD_not]
    rw [← BitVec.testBit_toNat, ← BitVec.testBit_toNat, a1, a2, hc, Nat.testBit_two_pow]
    have e : m = 2 ^ k * 1 + (m - c) := by omega
    have hf : m - c < 2 ^ k := by omega
    rw [e, Nat.testBit_two_pow_mul_add _ hf]
    rw [show 2 ^ k * 1 + (m - c) - 2 ^ k = m - c from by omega]
    by_cases hi : i < k
    · simp [hi, show ¬ k = i from by omega, show i < 64 from by omega]
    · rw [if_neg hi]
      have z : (m - c).testBit i = false := Nat.testBit_lt_two_pow (Nat.lt_of_lt_of_le hf (Nat.pow_le_pow_right (by omega) (by omega)))
      rw [z]
      by_cases hik : k = i
      · simp [hik]
      · have z1 : Nat.testBit 1 (i - k) = false := by
          rw [show (1 : Nat) = 2 ^ 0 from rfl, Nat.testBit_two_pow]; simp; omega
        simp [z1]
  rw [key, IntKind.wrap_u64]
  omega
/-- The sign of a float, by its bits. -/
def sgW (n : Nat) : Bool := decide (n / 9223372036854775808 % 2 = 1)
/-- The exponent's bits. -/
def fdW (n : Nat) : Nat := n / 4503599627370496 % 2048
/-- The fraction's bits. -/
def frW (n : Nat) : Nat := n % 4503599627370496
/-- The parts of a float, by its bits: its kind, whether it is below nought, m and e. -/
def splW (n : Nat) : Int × Bool × Int × Int :=
  if fdW n = 2047 then (if frW n = 0 then (3, sgW n, 0, 0) else (4, false, 0, 0))
  else if fdW n = 0 then (if frW n = 0 then (0, sgW n, 0, 0) else (1, sgW n, (frW n : Int), -1074))
  else (2, sgW n, (frW n : Int) + 4503599627370496, (fdW n : Int) - 1 - 1074)
/-- There is a float of these parts. -/
def OkW (p : Int × Bool × Int × Int) : Prop :=
  (p.1 = 0 ∧ p.2.2.1 = 0 ∧ p.2.2.2 = 0) ∨ (p.1 = 1 ∧ 0 < p.2.2.1 ∧ p.2.2.1 < 4503599627370496 ∧ p.2.2.2 = -1074) ∨
  (p.1 = 2 ∧ 4503599627370496 ≤ p.2.2.1 ∧ p.2.2.1 < 9007199254740992 ∧ -1074 ≤ p.2.2.2 ∧ p.2.2.2 ≤ 971) ∨
  (p.1 = 3 ∧ p.2.2.1 = 0 ∧ p.2.2.2 = 0) ∨ (p.1 = 4 ∧ p.2.1 = false ∧ p.2.2.1 = 0 ∧ p.2.2.2 = 0)
/-- Its bits. -/
def pckW (p : Int × Bool × Int × Int) : Int :=
  (if p.1 = 1 then p.2.2.1 else if p.1 = 2 then (p.2.2.2 + 1075) * 4503599627370496 + (p.2.2.1 - 4503599627370496) else if p.1 = 3 then 9218868437227405312 else if p.1 = 4 then 9221120237041090560 else 0) + (if p.2.1 = true then 9223372036854775808 else 0)
theorem splW_ok (n : Nat) : OkW (splW n) := by
  have h1 : fdW n < 2048 := Nat.mod_lt _ (by decide)
  have h2 : frW n < 4503599627370496 := Nat.mod_lt _ (by decide)
  unfold splW OkW
  split
  · split <;> simp
  · split
    · split
      · simp
      · simp; omega
    · simp; omega
theorem pckW_bd {p : Int × Bool × Int × Int} (h : OkW p) : 0 ≤ pckW p ∧ pckW p < 18446744073709551616 := by
  obtain ⟨k, g, m, e⟩ := p
  unfold OkW at h
  unfold pckW
  simp only at h ⊢
  cases g <;> rcases h with ⟨rfl, h⟩ | ⟨rfl, h⟩ | ⟨rfl, h⟩ | ⟨rfl, h⟩ | ⟨rfl, h⟩ <;> simp at h ⊢ <;> omega
theorem splW_pck {p : Int × Bool × Int × Int} (h : OkW p) : splW (pckW p).toNat = p := by
  have hb := pckW_bd h
  obtain ⟨N, hN⟩ := Int.eq_ofNat_of_zero_le hb.1
  rw [hN, Int.toNat_natCast]
  obtain ⟨k, g, m, e⟩ := p
  unfold OkW at h
  unfold pckW at hN
  simp only at h hN
  cases g <;> rcases h with ⟨rfl, h⟩ | ⟨rfl, h⟩ | ⟨rfl, h⟩ | ⟨rfl, h⟩ | ⟨rfl, h⟩ <;> simp at h hN
  all_goals
    have s : sgW N = false ∨ sgW N = true := by cases sgW N <;> simp
    rcases s with s | s <;> have s' := s <;> unfold sgW at s' <;> simp only [decide_eq_false_iff_not, decide_eq_true_eq] at s'
  all_goals
    first
    | (exfalso; omega)
    | (unfold splW
       rw [s]
       unfold fdW frW
       repeat' split
       all_goals first
         | (exfalso; omega)
         | (simp only [Prod.mk.injEq, true_and]; omega))
theorem hgW (n : Nat) (h : n < 18446744073709551616) : (bits .and .u64 (n : Int) 9223372036854775808 != 0) = sgW n := by
  have e := bits_and_u64_nat n 9223372036854775808 h (by decide)
  rw [show ((9223372036854775808 : Nat) : Int) = 9223372036854775808 from rfl] at e
  rw [e]
  have a := and63 n 63 9223372036854775808 (by decide)
  unfold sgW
  rw [Bool.eq_iff_iff, decide_eq_true_iff, ← a, bne_iff_ne]
  omega
theorem hg2W (n : Nat) (h : n < 18446744073709551616) : (bits .and .u64 ((n : Int) / 9223372036854775808) 1 == 1) = sgW n := by
  have e := bits_and_u64_nat (n / 9223372036854775808) 1 (by omega) (by decide)
  rw [show (((n / 9223372036854775808 : Nat)) : Int) = (n : Int) / 9223372036854775808 from by simp, show ((1 : Nat) : Int) = 1 from rfl, Nat.and_one_is_mod] at e
  rw [e]
  unfold sgW
  rw [Bool.eq_iff_iff, decide_eq_true_iff, beq_iff_eq]
  omega
theorem hdW (n : Nat) (h : n < 18446744073709551616) : bits .and .u64 ((n : Int) / 4503599627370496) 2047 = (fdW n : Int) := by
  have e := bits_and_u64_nat (n / 4503599627370496) 2047 (by omega) (by decide)
  rw [show (((n / 4503599627370496 : Nat)) : Int) = (n : Int) / 4503599627370496 from by simp, show ((2047 : Nat) : Int) = 2047 from rfl, show (2047 : Nat) = 2 ^ 11 - 1 from rfl, Nat.and_two_pow_sub_one_eq_mod] at e
  exact e
theorem hfW (n : Nat) (h : n < 18446744073709551616) : bits .and .u64 (n : Int) 4503599627370495 = (frW n : Int) := by
  have e := bits_and_u64_nat n 4503599627370495 h (by decide)
  rw [show ((4503599627370495 : Nat) : Int) = 4503599627370495 from rfl, show (4503599627370495 : Nat) = 2 ^ 52 - 1 from rfl, Nat.and_two_pow_sub_one_eq_mod] at e
  exact e
theorem horW (f : Nat) (h : f < 4503599627370496) : bits .or .u64 (f : Int) 4503599627370496 = (f : Int) + 4503599627370496 := by
  have e := bits_or_u64_nat f 4503599627370496 (by omega) (by decide)
  rw [show ((4503599627370496 : Nat) : Int) = 4503599627370496 from rfl, or_low f 52 4503599627370496 (by decide) h] at e
  rw [e]; omega
theorem hsgW (f : Nat) (h : f < 9223372036854775808) : bits .or .u64 (f : Int) 9223372036854775808 = (f : Int) + 9223372036854775808 := by
  have e := bits_or_u64_nat f 9223372036854775808 (by omega) (by decide)
  rw [show ((9223372036854775808 : Nat) : Int) = 9223372036854775808 from rfl, or_low f 63 9223372036854775808 (by decide) h] at e
  rw [e]; omega
/-- The bits of a normal one, put together. -/
theorem hpkW (d f : Nat) (hd : d < 2048) (h : f < 4503599627370496) : bits .or .u64 ((d : Int) * 4503599627370496) (f : Int) = (d : Int) * 4503599627370496 + (f : Int) := by
  have e := bits_or_u64_nat (4503599627370496 * d) f (by omega) (by omega)
  rw [or_high d f 52 4503599627370496 (by decide) h] at e
  rw [show (d : Int) * 4503599627370496 = ((4503599627370496 * d : Nat) : Int) from by omega, e]
  omega
/-- The sign of a small float, by its bits. -/
def sgS (n : Nat) : Bool := decide (n / 2147483648 % 2 = 1)
/-- The exponent's bits. -/
def fdS (n : Nat) : Nat := n / 8388608 % 256
/-- The fraction's bits. -/
def frS (n : Nat) : Nat := n % 8388608
/-- The parts of a small float, by its bits: its kind, whether it is below nought, m and e. -/
def splS (n : Nat) : Int × Bool × Int × Int :=
  if fdS n = 255 then (if frS n = 0 then (3, sgS n, 0, 0) else (4, false, 0, 0))
  else if fdS n = 0 then (if frS n = 0 then (0, sgS n, 0, 0) else (1, sgS n, (frS n : Int), -149))
  else (2, sgS n, (frS n : Int) + 8388608, (fdS n : Int) - 1 - 149)
/-- There is a small float of these parts. -/
def OkS (p : Int × Bool × Int × Int) : Prop :=
  (p.1 = 0 ∧ p.2.2.1 = 0 ∧ p.2.2.2 = 0) ∨ (p.1 = 1 ∧ 0 < p.2.2.1 ∧ p.2.2.1 < 8388608 ∧ p.2.2.2 = -149) ∨
  (p.1 = 2 ∧ 8388608 ≤ p.2.2.1 ∧ p.2.2.1 < 16777216 ∧ -149 ≤ p.2.2.2 ∧ p.2.2.2 ≤ 104) ∨
  (p.1 = 3 ∧ p.2.2.1 = 0 ∧ p.2.2.2 = 0) ∨ (p.1 = 4 ∧ p.2.1 = false ∧ p.2.2.1 = 0 ∧ p.2.2.2 = 0)
/-- Its bits. -/
def pckS (p : Int × Bool × Int × Int) : Int :=
  (if p.1 = 1 then p.2.2.1 else if p.1 = 2 then (p.2.2.2 + 150) * 8388608 + (p.2.2.1 - 8388608) else if p.1 = 3 then 2139095040 else if p.1 = 4 then 2143289344 else 0) + (if p.2.1 = true then 2147483648 else 0)
theorem splS_ok (n : Nat) : OkS (splS n) := by
  have h1 : fdS n < 256 := Nat.mod_lt _ (by decide)
  have h2 : frS n < 8388608 := Nat.mod_lt _ (by decide)
  unfold splS OkS
  split
  · split <;> simp
  · split
    · split
      · simp
      · simp; omega
    · simp; omega
theorem pckS_bd {p : Int × Bool × Int × Int} (h : OkS p) : 0 ≤ pckS p ∧ pckS p < 4294967296 := by
  obtain ⟨k, g, m, e⟩ := p
  unfold OkS at h
  unfold pckS
  simp only at h ⊢
  cases g <;> rcases h with ⟨rfl, h⟩ | ⟨rfl, h⟩ | ⟨rfl, h⟩ | ⟨rfl, h⟩ | ⟨rfl, h⟩ <;> simp at h ⊢ <;> omega
theorem splS_pck {p : Int × Bool × Int × Int} (h : OkS p) : splS (pckS p).toNat = p := by
  have hb := pckS_bd h
  obtain ⟨N, hN⟩ := Int.eq_ofNat_of_zero_le hb.1
  rw [hN, Int.toNat_natCast]
  obtain ⟨k, g, m, e⟩ := p
  unfold OkS at h
  unfold pckS at hN
  simp only at h hN
  cases g <;> rcases h with ⟨rfl, h⟩ | ⟨rfl, h⟩ | ⟨rfl, h⟩ | ⟨rfl, h⟩ | ⟨rfl, h⟩ <;> simp at h hN
  all_goals
    have s : sgS N = false ∨ sgS N = true := by cases sgS N <;> simp
    rcases s with s | s <;> have s' := s <;> unfold sgS at s' <;> simp only [decide_eq_false_iff_not, decide_eq_true_eq] at s'
  all_goals
    first
    | (exfalso; omega)
    | (unfold splS
       rw [s]
       unfold fdS frS
       repeat' split
       all_goals first
         | (exfalso; omega)
         | (simp only [Prod.mk.injEq, true_and]; omega))
theorem hgS (n : Nat) (h : n < 18446744073709551616) : (bits .and .u64 (n : Int) 2147483648 != 0) = sgS n := by
  have e := bits_and_u64_nat n 2147483648 h (by decide)
  rw [show ((2147483648 : Nat) : Int) = 2147483648 from rfl] at e
  rw [e]
  have a := and63 n 31 2147483648 (by decide)
  unfold sgS
  rw [Bool.eq_iff_iff, decide_eq_true_iff, ← a, bne_iff_ne]
  omega
theorem hg2S (n : Nat) (h : n < 18446744073709551616) : (bits .and .u64 ((n : Int) / 2147483648) 1 == 1) = sgS n := by
  have e := bits_and_u64_nat (n / 2147483648) 1 (by omega) (by decide)
  rw [show (((n / 2147483648 : Nat)) : Int) = (n : Int) / 2147483648 from by simp, show ((1 : Nat) : Int) = 1 from rfl, Nat.and_one_is_mod] at e
  rw [e]
  unfold sgS
  rw [Bool.eq_iff_iff, decide_eq_true_iff, beq_iff_eq]
  omega
theorem hdS (n : Nat) (h : n < 18446744073709551616) : bits .and .u64 ((n : Int) / 8388608) 255 = (fdS n : Int) := by
  have e := bits_and_u64_nat (n / 8388608) 255 (by omega) (by decide)
  rw [show (((n / 8388608 : Nat)) : Int) = (n : Int) / 8388608 from by simp, show ((255 : Nat) : Int) = 255 from rfl, show (255 : Nat) = 2 ^ 8 - 1 from rfl, Nat.and_two_pow_sub_one_eq_mod] at e
  exact e
theorem hfS (n : Nat) (h : n < 18446744073709551616) : bits .and .u64 (n : Int) 8388607 = (frS n : Int) := by
  have e := bits_and_u64_nat n 8388607 h (by decide)
  rw [show ((8388607 : Nat) : Int) = 8388607 from rfl, show (8388607 : Nat) = 2 ^ 23 - 1 from rfl, Nat.and_two_pow_sub_one_eq_mod] at e
  exact e
theorem horS (f : Nat) (h : f < 8388608) : bits .or .u64 (f : Int) 8388608 = (f : Int) + 8388608 := by
  have e := bits_or_u64_nat f 8388608 (by omega) (by decide)
  rw [show ((8388608 : Nat) : Int) = 8388608 from rfl, or_low f 23 8388608 (by decide) h] at e
  rw [e]; omega
theorem hsgS (f : Nat) (h : f < 2147483648) : bits .or .u64 (f : Int) 2147483648 = (f : Int) + 2147483648 := by
  have e := bits_or_u64_nat f 2147483648 (by omega) (by decide)
  rw [show ((2147483648 : Nat) : Int) = 2147483648 from rfl, or_low f 31 2147483648 (by decide) h] at e
  rw [e]; omega
/-- The bits of a normal one, put together. -/
theorem hpkS (d f : Nat) (hd : d < 256) (h : f < 8388608) : bits .or .u64 ((d : Int) * 8388608) (f : Int) = (d : Int) * 8388608 + (f : Int) := by
  have e := bits_or_u64_nat (8388608 * d) f (by omega) (by omega)
  rw [or_high d f 23 8388608 (by decide) h] at e
  rw [show (d : Int) * 8388608 = ((8388608 * d : Nat) : Int) from by omega, e]
  omega
end Tn

namespace Go.Proofs.Ytjgljcifnklmeaa.L
open Go.RowKit Tl

theorem Bits_q (v : Value) (xs : List Int) (w : World) (h : Rd w v xs) (n : Nm xs) (hL : xs.length ≤ 1099511627776) :
    Calls Try.prog 71 #[v] w fun e w' => e = .returned (.int .i64 (bl (val xs) : Nat)) ∧ ∃ n, w' = w.drewN n := by
  refine (Bits_fn v xs w h n hL).mono ?_
  rintro e w' ⟨rfl, rfl⟩
  exact ⟨rfl, 0, rfl⟩
theorem belN {n : Nat} {w W w1 : World} (h : Below w.heap.size w W) (k : Below (W.drewN n).heap.size (W.drewN n) w1) : Below w.heap.size w w1 := h.trans (Below.mono (show Below W.heap.size W w1 from ⟨k.os, k.tape, k.output, k.size, k.block⟩) h.size)
/-- The bits of m times 2 to the e. -/
def lay52 (m e : Int) : Int := if 4503599627370496 ≤ m then m - 4503599627370496 + (e + 1075) * 4503599627370496 else m
theorem bl_53 {m : Int} (h0 : 4503599627370496 ≤ m) (h1 : m < 9007199254740992) : bl m = 53 := by
  refine (bl_unique (L := 53) (by omega) ?_ (Or.inr ?_)).symm
  · have : (2 : Int) ^ 53 = 9007199254740992 := by decide
    omega
  · have : (2 : Int) ^ (53 - 1) = 4503599627370496 := by decide
    omega
theorem bl_52 {m : Int} (h0 : 0 ≤ m) (h1 : m < 4503599627370496) : bl m ≤ 52 := by
  by_cases c : 0 < m
  · have b := bl_pos c
    by_cases d : bl m ≤ 52
    · exact d
    · have := two_pow_le (show 52 ≤ bl m - 1 by omega)
      have e : (2 : Int) ^ 52 = 4503599627370496 := by decide
      omega
  · unfold bl; rw [if_pos (by omega)]; omega
theorem or_limb (b m : Int) (b0 : 0 ≤ b) (b1 : b < 17179869184) (m0 : 0 ≤ m) (m1 : m < 1073741824) : bits .or .u64 (b * 1073741824) m = b * 1073741824 + m := by
  obtain ⟨x, rfl⟩ := Int.eq_ofNat_of_zero_le b0
  obtain ⟨y, rfl⟩ := Int.eq_ofNat_of_zero_le m0
  have e := bits_or_u64_nat (1073741824 * x) y (by omega) (by omega)
  rw [Tn.or_high x y 30 1073741824 (by decide) (by omega)] at e
  rw [show (x : Int) * 1073741824 = ((1073741824 * x : Nat) : Int) from by omega, e]
  omega
theorem laid_step {ms : List Int} {i : Nat} {b : Int} (h : Wd ms) (hi : i < ms.length) (hb : b = val (ms.drop (i + 1))) (hm : val ms < 9007199254740992) : 0 ≤ b ∧ b < 17179869184 ∧ b * 1073741824 + nth ms i = val (ms.drop i) := by
  have e := drop_getD ms i hi
  have d0 := val_nonneg (h.drop (i + 1))
  have d1 := val_nonneg (h.drop i)
  have bx := nth_bd h i
  have e2 : val (ms.drop i) = nth ms i + 1073741824 * val (ms.drop (i + 1)) := by rw [e]; rfl
  have s := val_split ms i (by omega)
  have t0 := val_nonneg (h.take i)
  have p := pw_pos i
  have := Int.mul_le_mul_of_nonneg_right (show 1 ≤ pw i by omega) d1
  omega
set_option maxHeartbeats 1600000 in
set_option maxRecDepth 100000 in
/-- Size's laid: what is finite, above nought. -/
theorem laid_w_norm (v : Value) (ms : List Int) (e way K Z : Int) (w : World) (h : Rd w v ms) (n : Nm ms) (m0 : 4503599627370496 ≤ val ms) (m1 : val ms < 9007199254740992) (e0 : -1074 ≤ e) (e1 : e ≤ 971) (hK : e + 1075 = K) (hZ : val ms - 4503599627370496 + K * 4503599627370496 = Z) :
    Calls Try.prog 90 #[.agg #[.int .i64 53, .int .i64 (-1074), .int .i64 971, .int .i64 52], .bool false, v, .int .i64 e, .int .i64 way] w fun r w' => r = .returned (.tuple #[.int .u64 Z, .bool false]) ∧ Below w.heap.size w w' := by
  have hbl : bl (val ms) = 53 := bl_53 m0 m1
  have ll : ms.length ≤ 2 := by
    by_cases c : ms.length ≤ 2
    · exact c
    · have := val_low h.1 n (by intro e; rw [e] at c; simp at c)
      have := pw_mono (show 2 ≤ ms.length - 1 by omega)
      have : pw 2 = 1152921504606846976 := by decide
      omega
  have hw := h.1
  obtain ⟨a1, c1, rfl⟩ : ∃ a1 c1, v = .slice a1 ms.length c1 := by obtain ⟨_, a1, c1, e, _⟩ := h; exact ⟨a1, c1, e⟩
  have K0 := Blk.new w #[.int .i64 53, .int .i64 (-1074), .int .i64 971, .int .i64 52] 31
  have pr : Below w.heap.size w (w.alloc (.cells #[.int .i64 53, .int .i64 (-1074), .int .i64 971, .int .i64 52] 31)) := (Below.refl _ _).alloc (Nat.le_refl _) _
  have hR := h.grow pr
  go_enter Try.func90, Try.ntmps90
  go_wp2_with fail
  generalize w.alloc (.cells #[.int .i64 53, .int .i64 (-1074), .int .i64 971, .int .i64 52] 31) = W at *
  have q0 : W.cell? ⟨w.heap.size, 0, none⟩ = some (.int .i64 53) := K0.at 0
  have q1 : W.cell? ⟨w.heap.size, 1, none⟩ = some (.int .i64 (-1074)) := K0.at 1
  have q2 : W.cell? ⟨w.heap.size, 2, none⟩ = some (.int .i64 971) := K0.at 2
  have q3 : W.cell? ⟨w.heap.size, 3, none⟩ = some (.int .i64 52) := K0.at 3
  go_quiet ((go_at_call 71; exact Calls.quiet_of (Bits_q _ ms _ hR n (by omega))))
  go_wp2_with fail
  go_loop [12, 13] (fun b i => ∃ j : Nat, j ≤ ms.length ∧ i = .int .i64 ((j : Int) - 1) ∧ b = .int .u64 (val (ms.drop j))) (fun _ i => (intOf i + 1).toNat)
  case atStart => exact ⟨ms.length, Nat.le_refl _, by go_num, by simp [val]⟩
  case round =>
    obtain ⟨j, hj, rfl, rfl⟩ := hrel
    by_cases hlt : 0 < j
    · obtain ⟨i, rfl⟩ : ∃ i, j = i + 1 := ⟨j - 1, by omega⟩
      obtain ⟨b, hb⟩ : ∃ b, b = val (ms.drop (i + 1)) := ⟨_, rfl⟩
      have R := laid_step hw (by omega) hb m1
      rw [← hb]
      obtain ⟨_, _, _, e', _, _, g1⟩ := hR
      obtain ⟨b1, o1, rfl, hc⟩ := g1 (by omega)
      have cc := hc.at (i := i) (by omega)
      have bx := nth_bd hw i
      have t1 : ((i : Int) + 1 - 1) = i := by omega
      have f1 : IntKind.u64.wrap (b * 1073741824) = b * 1073741824 := by rw [IntKind.wrap_u64]; omega
      have f2 : IntKind.u64.wrap (nth ms i) = nth ms i := by rw [IntKind.wrap_u64]; omega
      have f3 := or_limb b (nth ms i) R.1 R.2.1 bx.1 bx.2
      rw [R.2.2] at f3
      clear R hb
      go_wp2
      go_round
      case rel => exact ⟨i, by omega, by go_num, rfl⟩
      case measure => simp [intOf]
    · have ej : j = 0 := by omega
      subst ej
      rw [List.drop_zero]
      have f1 : IntKind.u64.wrap (val ms - 4503599627370496) = val ms - 4503599627370496 := by rw [IntKind.wrap_u64]; omega
      have f2 : IntKind.i64.wrap (e - -1074) = e + 1074 := by rw [Int.sub_neg]; exact wrap_self _ (by omega) (by omega)
      have f3 : IntKind.i64.wrap (e + 1074 + 1) = K := by rw [show e + 1074 + 1 = K from by omega]; exact wrap_self _ (by omega) (by omega)
      have f4 : IntKind.u64.wrap K = K := by rw [IntKind.wrap_u64]; omega
      have f5 : IntKind.u64.wrap (K * 4503599627370496) = K * 4503599627370496 := by rw [IntKind.wrap_u64]; omega
      have f6 : IntKind.u64.wrap (val ms - 4503599627370496 + K * 4503599627370496) = Z := by rw [hZ, IntKind.wrap_u64]; omega
      have hR2 : Rd (W.drewN nq) (.slice a1 ms.length c1) ms := hR
      have K2 : Blk (W.drewN nq) w.heap.size #[.int .i64 53, .int .i64 (-1074), .int .i64 971, .int .i64 52] 31 := K0
      have pr2 : Below w.heap.size w (W.drewN nq) := ⟨pr.os, pr.tape, pr.output, pr.size, pr.block⟩
      clear hK hZ q0 q1 q2 q3 K0 pr hR
      generalize W.drewN nq = W2 at *
      have q0 : W2.cell? ⟨w.heap.size, 0, none⟩ = some (.int .i64 53) := K2.at 0
      have q1 : W2.cell? ⟨w.heap.size, 1, none⟩ = some (.int .i64 (-1074)) := K2.at 1
      have q2 : W2.cell? ⟨w.heap.size, 2, none⟩ = some (.int .i64 971) := K2.at 2
      have q3 : W2.cell? ⟨w.heap.size, 3, none⟩ = some (.int .i64 52) := K2.at 3
      go_wp2_with fail
      go_quiet ((go_at_call 71; exact Calls.quiet_of (Bits_q _ ms _ hR2 n (by omega))))
      go_wp2_with fail
      go_quiet (fail)
      go_wp2_with (first
        | (go_at_call 50; refine (signed_w_pos _ _).mono ?_; rintro r w1 ⟨rfl, b1⟩)
        | fail)
      exact bodyPost_ret (v := .tuple #[.int .u64 Z, .bool false]) (by simp [results, Try.results90, go_sem]) rfl ⟨rfl, belN pr2 b1⟩
set_option maxHeartbeats 1600000 in
set_option maxRecDepth 100000 in
/-- Size's laid: what is finite, above nought. -/
theorem laid_w_small (v : Value) (ms : List Int) (e way : Int) (w : World) (h : Rd w v ms) (n : Nm ms) (m0 : val ms < 4503599627370496) (e1 : e ≤ 971) :
    Calls Try.prog 90 #[.agg #[.int .i64 53, .int .i64 (-1074), .int .i64 971, .int .i64 52], .bool false, v, .int .i64 e, .int .i64 way] w fun r w' => r = .returned (.tuple #[.int .u64 (val ms), .bool false]) ∧ Below w.heap.size w w' := by
  have m1 : val ms < 9007199254740992 := by omega
  have hbl := bl_52 (val_nonneg h.1) m0
  have hb2 : ((bl (val ms) : Int) == 53) = false := by rw [beq_eq_false_iff_ne]; omega
  have ll : ms.length ≤ 2 := by
    by_cases c : ms.length ≤ 2
    · exact c
    · have := val_low h.1 n (by intro e; rw [e] at c; simp at c)
      have := pw_mono (show 2 ≤ ms.length - 1 by omega)
      have : pw 2 = 1152921504606846976 := by decide
      omega
  have hw := h.1
  obtain ⟨a1, c1, rfl⟩ : ∃ a1 c1, v = .slice a1 ms.length c1 := by obtain ⟨_, a1, c1, e, _⟩ := h; exact ⟨a1, c1, e⟩
  have K0 := Blk.new w #[.int .i64 53, .int .i64 (-1074), .int .i64 971, .int .i64 52] 31
  have pr : Below w.heap.size w (w.alloc (.cells #[.int .i64 53, .int .i64 (-1074), .int .i64 971, .int .i64 52] 31)) := (Below.refl _ _).alloc (Nat.le_refl _) _
  have hR := h.grow pr
  go_enter Try.func90, Try.ntmps90
  go_wp2_with fail
  generalize w.alloc (.cells #[.int .i64 53, .int .i64 (-1074), .int .i64 971, .int .i64 52] 31) = W at *
  have q0 : W.cell? ⟨w.heap.size, 0, none⟩ = some (.int .i64 53) := K0.at 0
  have q1 : W.cell? ⟨w.heap.size, 1, none⟩ = some (.int .i64 (-1074)) := K0.at 1
  have q2 : W.cell? ⟨w.heap.size, 2, none⟩ = some (.int .i64 971) := K0.at 2
  have q3 : W.cell? ⟨w.heap.size, 3, none⟩ = some (.int .i64 52) := K0.at 3
  go_quiet ((go_at_call 71; exact Calls.quiet_of (Bits_q _ ms _ hR n (by omega))))
  go_wp2_with fail
  go_loop [12, 13] (fun b i => ∃ j : Nat, j ≤ ms.length ∧ i = .int .i64 ((j : Int) - 1) ∧ b = .int .u64 (val (ms.drop j))) (fun _ i => (intOf i + 1).toNat)
  case atStart => exact ⟨ms.length, Nat.le_refl _, by go_num, by simp [val]⟩
  case round =>
    obtain ⟨j, hj, rfl, rfl⟩ := hrel
    by_cases hlt : 0 < j
    · obtain ⟨i, rfl⟩ : ∃ i, j = i + 1 := ⟨j - 1, by omega⟩
      obtain ⟨b, hb⟩ : ∃ b, b = val (ms.drop (i + 1)) := ⟨_, rfl⟩
      have R := laid_step hw (by omega) hb m1
      rw [← hb]
      obtain ⟨_, _, _, e', _, _, g1⟩ := hR
      obtain ⟨b1, o1, rfl, hc⟩ := g1 (by omega)
      have cc := hc.at (i := i) (by omega)
      have bx := nth_bd hw i
      have t1 : ((i : Int) + 1 - 1) = i := by omega
      have f1 : IntKind.u64.wrap (b * 1073741824) = b * 1073741824 := by rw [IntKind.wrap_u64]; omega
      have f2 : IntKind.u64.wrap (nth ms i) = nth ms i := by rw [IntKind.wrap_u64]; omega
      have f3 := or_limb b (nth ms i) R.1 R.2.1 bx.1 bx.2
      rw [R.2.2] at f3
      clear R hb
      go_wp2
      go_round
      case rel => exact ⟨i, by omega, by go_num, rfl⟩
      case measure => simp [intOf]
    · have ej : j = 0 := by omega
      subst ej
      rw [List.drop_zero]
      have hR2 : Rd (W.drewN nq) (.slice a1 ms.length c1) ms := hR
      have K2 : Blk (W.drewN nq) w.heap.size #[.int .i64 53, .int .i64 (-1074), .int .i64 971, .int .i64 52] 31 := K0
      have pr2 : Below w.heap.size w (W.drewN nq) := ⟨pr.os, pr.tape, pr.output, pr.size, pr.block⟩
      clear q0 q1 q2 q3 K0 pr hR
      generalize W.drewN nq = W2 at *
      have q0 : W2.cell? ⟨w.heap.size, 0, none⟩ = some (.int .i64 53) := K2.at 0
      have q1 : W2.cell? ⟨w.heap.size, 1, none⟩ = some (.int .i64 (-1074)) := K2.at 1
      have q2 : W2.cell? ⟨w.heap.size, 2, none⟩ = some (.int .i64 971) := K2.at 2
      have q3 : W2.cell? ⟨w.heap.size, 3, none⟩ = some (.int .i64 52) := K2.at 3
      go_wp2_with fail
      go_quiet ((go_at_call 71; exact Calls.quiet_of (Bits_q _ ms _ hR2 n (by omega))))
      go_wp2_with (first
        | (go_at_call 50; refine (signed_w_pos _ _).mono ?_; rintro r w1 ⟨rfl, b1⟩)
        | fail)
      exact bodyPost_ret (v := .tuple #[.int .u64 (val ms), .bool false]) (by simp [results, Try.results90, go_sem]) rfl ⟨rfl, belN pr2 b1⟩
theorem laid_w (v : Value) (ms : List Int) (e way : Int) (w : World) (h : Rd w v ms) (n : Nm ms) (m1 : val ms < 9007199254740992) (e0 : -1074 ≤ e) (e1 : e ≤ 971) :
    Calls Try.prog 90 #[.agg #[.int .i64 53, .int .i64 (-1074), .int .i64 971, .int .i64 52], .bool false, v, .int .i64 e, .int .i64 way] w fun r w' => r = .returned (.tuple #[.int .u64 (lay52 (val ms) e), .bool false]) ∧ Below w.heap.size w w' := by
  unfold lay52
  split
  · exact laid_w_norm v ms e way _ _ w h n (by assumption) m1 e0 e1 rfl rfl
  · exact laid_w_small v ms e way w h n (by omega) e1
end Go.Proofs.Ytjgljcifnklmeaa.L
