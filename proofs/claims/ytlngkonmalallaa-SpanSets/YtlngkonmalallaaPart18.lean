import Derived.Test.YtlngkonmalallaaPart12
import Derived.Test.YtlngkonmalallaaPart16
import Derived.Test.YtlngkonmalallaaPart17

namespace Tn
open Go

/-- The size of a float by its bits, in steps of 2 to the -1074. -/
def mag (r : Nat) : Nat := if r < 4503599627370496 then r else (4503599627370496 + r % 4503599627370496) * 2 ^ (r / 4503599627370496 - 1)
theorem mag_next (r : Nat) : mag r < mag (r + 1) := by
  unfold mag
  by_cases h : r + 1 < 4503599627370496
  · rw [if_pos (by omega), if_pos h]; omega
  · rw [if_neg h]
    by_cases h2 : r < 4503599627370496
    · have e : r + 1 = 4503599627370496 := by omega
      rw [if_pos h2, e]; omega
    · rw [if_neg h2]
      by_cases c : r % 4503599627370496 = 4503599627370495
      · have e1 : (r + 1) % 4503599627370496 = 0 := by omega
        have e2 : (r + 1) / 4503599627370496 - 1 = (r / 4503599627370496 - 1) + 1 := by omega
        rw [c, e1, e2, Nat.pow_succ]
        have := Nat.two_pow_pos (r / 4503599627370496 - 1)
        generalize 2 ^ (r / 4503599627370496 - 1) = p at *
        omega
      · have e1 : (r + 1) % 4503599627370496 = r % 4503599627370496 + 1 := by omega
        have e2 : (r + 1) / 4503599627370496 = r / 4503599627370496 := by omega
        rw [e1, e2]
        exact Nat.mul_lt_mul_of_pos_right (by omega) (Nat.two_pow_pos _)
theorem mag_lt {a b : Nat} (h : a < b) : mag a < mag b := by
  induction b with
  | zero => omega
  | succ b ih =>
    have s := mag_next b
    by_cases c : a = b
    · rw [c]; exact s
    · have := ih (by omega); omega
theorem mag_zero : mag 0 = 0 := rfl
/-- A float's number, in steps of 2 to the -1074. -/
def vl64 (n : Nat) : Int := if ng64 n = true then -(mag (rg64 n) : Int) else mag (rg64 n)
/-- Its place in the order of all floats. -/
def key64 (n : Nat) : Int := if ng64 n = true then -(rg64 n : Int) else rg64 n
theorem vl_lt {n m : Nat} (h : key64 n < key64 m) : vl64 n < vl64 m := by
  unfold key64 at h
  unfold vl64
  have z := mag_zero
  cases a : ng64 n <;> cases b : ng64 m <;> rw [a, b] at h <;> simp only [Bool.false_eq_true, if_false, if_true] at h ⊢
  · have := mag_lt (show rg64 n < rg64 m by omega); omega
  · exfalso; omega
  · by_cases c : rg64 n = 0
    · have := mag_lt (show rg64 n < rg64 m by omega); rw [c, z] at *; omega
    · have := mag_lt (show 0 < rg64 n by omega); omega
  · have := mag_lt (show rg64 m < rg64 n by omega); omega
theorem vl_eq {n m : Nat} (h : key64 n = key64 m) : vl64 n = vl64 m := by
  unfold key64 at h
  unfold vl64
  have z := mag_zero
  cases a : ng64 n <;> cases b : ng64 m <;> rw [a, b] at h <;> simp only [Bool.false_eq_true, if_false, if_true] at h ⊢
  · rw [show rg64 n = rg64 m by omega]
  · rw [show rg64 n = 0 by omega, show rg64 m = 0 by omega, z]; rfl
  · rw [show rg64 n = 0 by omega, show rg64 m = 0 by omega, z]; rfl
  · rw [show rg64 n = rg64 m by omega]
theorem vl_lt_iff (n m : Nat) : vl64 n < vl64 m ↔ key64 n < key64 m := by
  constructor
  · intro h
    rcases Int.lt_trichotomy (key64 n) (key64 m) with c | c | c
    · exact c
    · have := vl_eq c; omega
    · have := vl_lt c; omega
  · exact vl_lt
/-- How two ints stand. -/
def ordI (a b : Int) : Ordering := if a < b then .lt else if a = b then .eq else .gt
theorem cmp_scale (a b : Int) (k : Nat) : compare a b = ordI (a * 2 ^ k) (b * 2 ^ k) := by
  have p : (0 : Int) < 2 ^ k := Int.pow_pos (by decide)
  rw [cmp_int]
  unfold ordI
  have e1 : a * 2 ^ k < b * 2 ^ k ↔ a < b := ⟨fun h => Int.lt_of_mul_lt_mul_right h (Int.le_of_lt p), fun h => Int.mul_lt_mul_of_pos_right h p⟩
  have e2 : a * 2 ^ k = b * 2 ^ k ↔ a = b := ⟨fun h => Int.eq_of_mul_eq_mul_right (by omega) h, fun h => by rw [h]⟩
  simp only [e1, e2]
theorem signed_scale (s : Bool) (m : Nat) (i j : Int) (h : j ≤ i) (hj : -1074 ≤ j) : Ieee.signed s m (i - j).toNat * 2 ^ (j + 1074).toNat = if s = true then -((m * 2 ^ (i + 1074).toNat : Nat) : Int) else ((m * 2 ^ (i + 1074).toNat : Nat) : Int) := by
  unfold Ieee.signed
  have e : (i + 1074).toNat = (i - j).toNat + (j + 1074).toNat := by omega
  have e2 : ((m <<< (i - j).toNat : Nat) : Int) * 2 ^ (j + 1074).toNat = ((m * 2 ^ (i + 1074).toNat : Nat) : Int) := by
    rw [Nat.shiftLeft_eq, e, Nat.pow_add]
    simp only [Int.natCast_mul, Int.natCast_pow]
    rw [Int.mul_assoc]
    rfl
  cases s
  · simpa using e2
  · simp only [if_true]
    rw [Int.neg_mul, e2]
theorem num_order (s t : Bool) (m k : Nat) (i j : Int) (hi : -1074 ≤ i) (hj : -1074 ≤ j) : compare (Ieee.signed s m (i - min i j).toNat) (Ieee.signed t k (j - min i j).toNat) = ordI (if s = true then -((m * 2 ^ (i + 1074).toNat : Nat) : Int) else ((m * 2 ^ (i + 1074).toNat : Nat) : Int)) (if t = true then -((k * 2 ^ (j + 1074).toNat : Nat) : Int) else ((k * 2 ^ (j + 1074).toNat : Nat) : Int)) := by
  rw [cmp_scale _ _ (min i j + 1074).toNat, signed_scale s m i (min i j) (by omega) (by omega), signed_scale t k j (min i j) (by omega) (by omega)]
/-- The parts of a number that is finite. -/
theorem read_fin (n : Nat) (h : rg64 n < 9218868437227405312) : ∃ (m : Nat) (i : Int), Ieee.double.read n = .number (ng64 n) m i ∧ -1074 ≤ i ∧ m * 2 ^ (i + 1074).toNat = mag (rg64 n) := by
  rw [read64]
  unfold mag
  by_cases c : rg64 n < 4503599627370496
  · rw [if_pos c, if_pos c]
    exact ⟨_, _, rfl, by omega, by simp⟩
  · rw [if_neg c, if_neg c, if_pos h]
    refine ⟨_, _, rfl, by omega, ?_⟩
    rw [show (-1074 + ((rg64 n / 4503599627370496 - 1 : Nat) : Int) + 1074).toNat = rg64 n / 4503599627370496 - 1 by omega]
theorem ordI_lt {a b : Int} (h : a < b) : ordI a b = .lt := if_pos h
theorem ordI_gt {a b : Int} (h : b < a) : ordI a b = .gt := by unfold ordI; rw [if_neg (by omega), if_neg (by omega)]
theorem ordI_vl (n m : Nat) : ordI (vl64 n) (vl64 m) = ordI (key64 n) (key64 m) := by
  unfold ordI
  have a := vl_lt_iff n m
  have b := vl_lt_iff m n
  have e : vl64 n = vl64 m ↔ key64 n = key64 m := by omega
  simp only [a, e]
/-- How two floats stand, by their places. -/
theorem order_key (n m : Nat) (hn : nan64 n = false) (hm : nan64 m = false) : FloatKind.f64.format.order n m = some (ordI (key64 n) (key64 m)) := by
  rw [fmt64]
  unfold Ieee.Format.order
  simp only [nan64, decide_eq_false_iff_not] at hn hm
  by_cases h1 : rg64 n < 9218868437227405312
  · obtain ⟨a, i, ea, hi, va⟩ := read_fin n h1
    by_cases h2 : rg64 m < 9218868437227405312
    · obtain ⟨b, j, eb, hj, vb⟩ := read_fin m h2
      rw [ea, eb]
      simp only [Ieee.Datum.order]
      rw [num_order _ _ _ _ _ _ hi hj, va, vb]
      congr 1
      exact ordI_vl n m
    · have e : rg64 m = 9218868437227405312 := by omega
      rw [ea, read64 m, if_neg (by omega), if_neg h2, if_pos e]
      simp only [Ieee.Datum.order]
      have kn : key64 n < 9218868437227405312 ∧ -9218868437227405312 < key64 n := by unfold key64; split <;> omega
      have km : key64 m = if ng64 m = true then -9218868437227405312 else 9218868437227405312 := by unfold key64; rw [e]; rfl
      rw [km]
      cases ng64 m
      · rw [if_neg (by simp), if_neg (by simp), ordI_lt (by omega)]
      · rw [if_pos rfl, if_pos rfl, ordI_gt (by omega)]
  · have e : rg64 n = 9218868437227405312 := by omega
    rw [read64 n, if_neg (by omega), if_neg h1, if_pos e]
    have kn : key64 n = if ng64 n = true then -9218868437227405312 else 9218868437227405312 := by unfold key64; rw [e]; rfl
    by_cases h2 : rg64 m < 9218868437227405312
    · obtain ⟨b, j, eb, hj, vb⟩ := read_fin m h2
      rw [eb]
      simp only [Ieee.Datum.order]
      have km : key64 m < 9218868437227405312 ∧ -9218868437227405312 < key64 m := by unfold key64; split <;> omega
      rw [kn]
      cases ng64 n
      · rw [if_neg (by simp), if_neg (by simp), ordI_gt (by omega)]
      · rw [if_pos rfl, if_pos rfl, ordI_lt (by omega)]
    · have e2 : rg64 m = 9218868437227405312 := by omega
      have km : key64 m = if ng64 m = true then -9218868437227405312 else 9218868437227405312 := by unfold key64; rw [e2]; rfl
      rw [read64 m, if_neg (by omega), if_neg h2, if_pos e2]
      simp only [Ieee.Datum.order]
      rw [kn, km]
      cases ng64 n <;> cases ng64 m <;> decide
end Tn

namespace Go.Proofs.Ytlngkonmalallaa
open Go.RowKit Tn

theorem sg_ng (n : Nat) : sgW n = ng64 n := by unfold sgW ng64; rw [Bool.eq_iff_iff, decide_eq_true_iff, beq_iff_eq]
theorem rg_parts (n : Nat) : rg64 n = fdW n * 4503599627370496 + frW n := by unfold rg64 fdW frW; omega
theorem fr_lt (n : Nat) : frW n < 4503599627370496 := Nat.mod_lt _ (by decide)
theorem vl_sgI (n : Nat) : vl64 n = L.sgI (ng64 n) (mag (rg64 n) : Int) := rfl
theorem sgI_mul (g : Bool) (a b : Int) : L.sgI g a * b = L.sgI g (a * b) := by
  unfold L.sgI
  split
  · rw [Int.neg_mul]
  · rfl
/-- The bits of a finite float that is not nought, as a mantissa and an exponent. -/
theorem mag_parts (r : Nat) (h0 : 0 < r) (h : r < 9218868437227405312) : ∃ l E : Int, 0 < l ∧ l < 9007199254740992 ∧ -1074 ≤ E ∧ E ≤ 971 ∧ (l < 4503599627370496 → E = -1074) ∧ (mag r : Int) = l * 2 ^ (E + 1074).toNat ∧ L.layW l E = r := by
  unfold mag L.layW
  by_cases c : r < 4503599627370496
  · rw [if_pos c]
    refine ⟨r, -1074, by omega, by omega, by omega, by omega, fun _ => rfl, by simp, ?_⟩
    rw [if_neg (by omega)]
  · rw [if_neg c]
    refine ⟨((4503599627370496 + r % 4503599627370496 : Nat) : Int), ((r / 4503599627370496 : Nat) : Int) - 1 - 1074, by omega, by omega, by omega, by omega, by omega, ?_, ?_⟩
    · rw [show (((r / 4503599627370496 : Nat) : Int) - 1 - 1074 + 1074).toNat = r / 4503599627370496 - 1 by omega]
      simp only [Int.natCast_mul, Int.natCast_pow]
      rfl
    · rw [if_pos (by omega)]; omega
theorem two74 : ((2 ^ 1074 : Nat) : Int) = (2 : Int) ^ 1074 := L.two_cast 1074
/-- The reference's Number, of a finite float. -/
theorem number_64 (n : Nat) (hn : n < 18446744073709551616) (h : rg64 n < 9218868437227405312) (w : World) :
    Calls Try.prog 68 #[szW, .int .u64 n] w fun r w' => ∃ v, r = .returned v ∧ L.IsQ w' v (mkRat (vl64 n) (2 ^ 1074)) ∧ Below w.heap.size w w' := by
  have S := Split_w n hn
  have e := rg_parts n
  have f := fr_lt n
  have z2 : (2 : Nat) ^ 1074 ≠ 0 := Nat.ne_of_gt (Nat.two_pow_pos 1074)
  rw [vl_sgI, ← sg_ng]
  by_cases d0 : fdW n = 0
  · by_cases f0 : frW n = 0
    · have s : splW n = (0, sgW n, 0, 0) := by unfold splW; rw [if_neg (by omega), if_pos d0, if_pos f0]
      rw [s] at S
      have r : rg64 n = 0 := by omega
      rw [r]
      refine (L.Numq_pos 53 (-1074) 971 52 n 0 0 (sgW n) 0 S (by decide) (by decide) (by decide) w).mono ?_
      rintro x w' ⟨v, rfl, q, b⟩
      refine ⟨v, rfl, ?_, b⟩
      have : mkRat (L.sgI (sgW n) (0 * 2 ^ 0)) 1 = mkRat (L.sgI (sgW n) ((mag 0 : Nat) : Int)) (2 ^ 1074) := by
        rw [show (0 : Int) * 2 ^ 0 = 0 from rfl, mag_zero, show ((0 : Nat) : Int) = 0 from rfl, show L.sgI (sgW n) 0 = 0 from by unfold L.sgI; split <;> rfl, Rat.zero_mkRat, Rat.zero_mkRat]
      rw [← this]; exact q
    · have s : splW n = (1, sgW n, (frW n : Int), -1074) := by unfold splW; rw [if_neg (by omega), if_pos d0, if_neg f0]
      rw [s] at S
      have r : rg64 n = frW n := by omega
      rw [r, show mag (frW n) = frW n from if_pos f]
      exact L.Numq_neg 53 (-1074) 971 52 n 1 (frW n) (-1074) (sgW n) 1074 S (by omega) (by omega) (by decide) (by decide) (by decide) w
  · have s : splW n = (2, sgW n, (frW n : Int) + 4503599627370496, (fdW n : Int) - 1 - 1074) := by unfold splW; rw [if_neg (by omega), if_neg d0]
    rw [s] at S
    have m : ((mag (rg64 n) : Nat) : Int) = ((frW n : Int) + 4503599627370496) * 2 ^ (fdW n - 1) := by
      unfold mag
      rw [if_neg (by omega), show rg64 n % 4503599627370496 = frW n from by omega, show rg64 n / 4503599627370496 = fdW n from by omega]
      simp only [Int.natCast_mul, Int.natCast_pow, Int.natCast_add]
      rw [Int.add_comm]; rfl
    rw [m]
    by_cases c : 1075 ≤ fdW n
    · obtain ⟨T, hT⟩ : ∃ T, fdW n = T + 1075 := ⟨fdW n - 1075, by omega⟩
      rw [show (fdW n : Int) - 1 - 1074 = (T : Int) from by omega] at S
      refine (L.Numq_pos 53 (-1074) 971 52 n 2 ((frW n : Int) + 4503599627370496) (sgW n) T S (by omega) (by omega) (by omega) w).mono ?_
      rintro x w' ⟨v, rfl, q, b⟩
      refine ⟨v, rfl, ?_, b⟩
      have : mkRat (L.sgI (sgW n) (((frW n : Int) + 4503599627370496) * 2 ^ T)) 1 = mkRat (L.sgI (sgW n) (((frW n : Int) + 4503599627370496) * 2 ^ (fdW n - 1))) (2 ^ 1074) := by
        rw [Rat.mkRat_eq_iff (by decide) z2, two74, sgI_mul, sgI_mul, show ((1 : Nat) : Int) = 1 from rfl, Int.mul_one, Int.mul_assoc, ← Int.pow_add, show fdW n - 1 = T + 1074 from by omega]
      rw [← this]; exact q
    · obtain ⟨T, hT⟩ : ∃ T, fdW n + T = 1075 := ⟨1075 - fdW n, by omega⟩
      refine (L.Numq_neg 53 (-1074) 971 52 n 2 ((frW n : Int) + 4503599627370496) ((fdW n : Int) - 1 - 1074) (sgW n) T S (by omega) (by omega) (by omega) (by omega) (by omega) w).mono ?_
      rintro x w' ⟨v, rfl, q, b⟩
      refine ⟨v, rfl, ?_, b⟩
      have : mkRat (L.sgI (sgW n) ((frW n : Int) + 4503599627370496)) (2 ^ T) = mkRat (L.sgI (sgW n) (((frW n : Int) + 4503599627370496) * 2 ^ (fdW n - 1))) (2 ^ 1074) := by
        rw [Rat.mkRat_eq_iff (Nat.ne_of_gt (Nat.two_pow_pos T)) z2, two74, L.two_cast T, sgI_mul, sgI_mul, Int.mul_assoc, ← Int.pow_add, show fdW n - 1 + T = 1074 from by omega]
      rw [← this]; exact q
theorem vl_qs (n : Nat) (h : rg64 n < 9218868437227405312) : L.QS (mkRat (vl64 n) (2 ^ 1074)) 100 := by
  have pw : Tl.pw 100 = 2 ^ 3000 := L.pw_two 100
  have a1 : ((mag (rg64 n) : Nat) : Int) < Tl.pw 100 := by
    rw [pw]
    by_cases c : 0 < rg64 n
    · obtain ⟨l, E, l0, l1, e0, e1, _, m, _⟩ := mag_parts _ c h
      rw [m]
      have a := Int.mul_lt_mul_of_pos_right l1 (L.two_pow_pos (E + 1074).toNat)
      have b : (9007199254740992 : Int) * 2 ^ (E + 1074).toNat = 2 ^ (53 + (E + 1074).toNat) := by rw [Int.pow_add]; rfl
      have d := L.two_pow_le (show 53 + (E + 1074).toNat ≤ 3000 by omega)
      omega
    · rw [show rg64 n = 0 from by omega, mag_zero]
      exact L.two_pow_pos 3000
  have a2 : ((2 ^ 1074 : Nat) : Int) < Tl.pw 100 := by
    rw [two74, pw]
    have d := L.two_pow_le (show 1075 ≤ 3000 by omega)
    have s : (2 : Int) ^ 1075 = 2 ^ 1074 * 2 := Int.pow_succ 2 1074
    have := L.two_pow_pos 1074
    omega
  have d0 : (2 : Nat) ^ 1074 ≠ 0 := Nat.ne_of_gt (Nat.two_pow_pos 1074)
  have ab : ((vl64 n).natAbs : Int) = mag (rg64 n) := by rw [vl_sgI]; exact L.sgI_abs _ (by omega)
  refine ⟨?_, ?_⟩
  · rw [Rat.num_mkRat, if_neg d0]
    have := Int.natAbs_ediv_le_natAbs (vl64 n) (((2 ^ 1074 : Nat).gcd (vl64 n).natAbs : Nat) : Int)
    omega
  · rw [Rat.den_mkRat, if_neg d0]
    have := Nat.div_le_self (2 ^ 1074) ((2 ^ 1074 : Nat).gcd (vl64 n).natAbs)
    omega
/-- How the exact numbers of two finite floats stand. -/
theorem cmpR_key (n m : Nat) : L.cmpR (mkRat (vl64 n) (2 ^ 1074)) (mkRat (vl64 m) (2 ^ 1074)) = L.cmp3 (key64 n) (key64 m) := by
  have z : 0 < (2 : Nat) ^ 1074 := Nat.two_pow_pos 1074
  rw [L.cmp_mk _ _ z z, two74]
  have p := L.two_pow_pos 1074
  have e1 : vl64 n * 2 ^ 1074 < vl64 m * 2 ^ 1074 ↔ key64 n < key64 m := by
    rw [← vl_lt_iff]
    exact ⟨fun h => Int.lt_of_mul_lt_mul_right h (Int.le_of_lt p), fun h => Int.mul_lt_mul_of_pos_right h p⟩
  have e2 : vl64 m * 2 ^ 1074 < vl64 n * 2 ^ 1074 ↔ key64 m < key64 n := by
    rw [← vl_lt_iff]
    exact ⟨fun h => Int.lt_of_mul_lt_mul_right h (Int.le_of_lt p), fun h => Int.mul_lt_mul_of_pos_right h p⟩
  unfold L.cmp3
  simp only [e1, e2]
end Go.Proofs.Ytlngkonmalallaa

namespace Go.Proofs.Ytlngkonmalallaa
open Go.RowKit Tn

theorem xor_flip (n : Nat) (hn : n < 18446744073709551616) : bits .xor .u64 (n : Int) 9223372036854775808 = (flip64 n : Int) := by
  have e := bits_xor_u64_nat n 9223372036854775808 hn (by decide)
  rw [show ((9223372036854775808 : Nat) : Int) = 9223372036854775808 from rfl] at e
  exact e
set_option maxRecDepth 100000 in
set_option maxHeartbeats 1600000 in
theorem RDown_any (n : Nat) (hn : n < 18446744073709551616) (w : World) : Calls Try.prog 28 #[.int .u64 n] w fun e w' => e = .returned (.int .u64 (flip64 (up64 (flip64 n)))) ∧ Below w.heap.size w w' := by
  have e1 := xor_flip n hn
  have U := RUp_any (flip64 n) (flip_lt n hn)
  have e2 := xor_flip (up64 (flip64 n)) (up_lt _ (flip_lt n hn))
  generalize flip64 (up64 (flip64 n)) = z at *
  generalize up64 (flip64 n) = y at *
  generalize flip64 n = x at *
  go_enter Try.func28, Try.ntmps28
  go_wp2_with (first
    | (go_at_call 26; refine (U _).mono ?_; rintro x w1 ⟨rfl, b1⟩)
    | fail)
  go_ret
  exact ⟨rfl, b1⟩
set_option maxRecDepth 100000 in
set_option maxHeartbeats 1600000 in
theorem RSteps_walk (n m : Nat) (t1 t2 : Bool) (x y a b d : Int) (N1 : ∀ w : World, Calls Try.prog 62 #[szW, .int .u64 n] w fun e w' => e = .returned (.bool t1) ∧ Below w.heap.size w w') (N2 : ∀ w : World, Calls Try.prog 62 #[szW, .int .u64 m] w fun e w' => e = .returned (.bool t2) ∧ Below w.heap.size w w')
    (P1 : ∀ w : World, Calls Try.prog 73 #[.int .u64 n] w fun e w' => e = .returned (.int .i64 x) ∧ w' = w) (P2 : ∀ w : World, Calls Try.prog 73 #[.int .u64 m] w fun e w' => e = .returned (.int .i64 y) ∧ w' = w)
    (ha : IntKind.u64.wrap x = a) (hb : IntKind.u64.wrap y = b) (hd1 : x ≤ y → IntKind.u64.wrap (b - a) = d) (hd2 : y < x → IntKind.u64.wrap (a - b) = d) (w : World) :
    Calls Try.prog 34 #[.int .u64 n, .int .u64 m] w fun e w' => e = .returned (if (t1 || t2) = true then .tuple #[.int .u64 0, .bool false] else .tuple #[.int .u64 d, .bool true]) ∧ Below w.heap.size w w' := by
  cases t1
  · cases t2
    · simp only [Bool.or_self, Bool.false_eq_true, if_false]
      by_cases c : y < x
      · have e := hd2 c
        have c1 : decide (x > y) = true := decide_eq_true c
        clear hd1 hd2 c
        go_enter Try.func34, Try.ntmps34
        go_wp2_with (first
          | (go_at_call 11; refine (Wide_any _).mono ?_; rintro x w1 ⟨rfl, b1⟩; have pr := b1; clear b1; have m0 := Blk.new w1 #[.int .i64 53, .int .i64 (-1074), .int .i64 971, .int .i64 52] 31; have q0 : (w1.alloc (.cells #[.int .i64 53, .int .i64 (-1074), .int .i64 971, .int .i64 52] 31)).cell? ⟨w1.heap.size, 0, none⟩ = some (.int .i64 53) := m0.at 0; have q1 : (w1.alloc (.cells #[.int .i64 53, .int .i64 (-1074), .int .i64 971, .int .i64 52] 31)).cell? ⟨w1.heap.size, 1, none⟩ = some (.int .i64 (-1074)) := m0.at 1; have q2 : (w1.alloc (.cells #[.int .i64 53, .int .i64 (-1074), .int .i64 971, .int .i64 52] 31)).cell? ⟨w1.heap.size, 2, none⟩ = some (.int .i64 971) := m0.at 2; have q3 : (w1.alloc (.cells #[.int .i64 53, .int .i64 (-1074), .int .i64 971, .int .i64 52] 31)).cell? ⟨w1.heap.size, 3, none⟩ = some (.int .i64 52) := m0.at 3; clear m0)
          | (go_at_call 62; (with_reducible refine (N1 _).mono ?_); rintro x w4 ⟨rfl, b4⟩; replace K2 := K2.below b4 K2.lt; replace pr := bel pr b4; clear b4; have q0 : w4.cell? ⟨w1.heap.size, 0, none⟩ = some (.int .i64 53) := K2.at 0; have q1 : w4.cell? ⟨w1.heap.size, 1, none⟩ = some (.int .i64 (-1074)) := K2.at 1; have q2 : w4.cell? ⟨w1.heap.size, 2, none⟩ = some (.int .i64 971) := K2.at 2; have q3 : w4.cell? ⟨w1.heap.size, 3, none⟩ = some (.int .i64 52) := K2.at 3)
          | (go_at_call 62; (with_reducible refine (N1 _).mono ?_); rintro x w4 ⟨rfl, b4⟩; obtain ⟨b5, K2⟩ := var4 b4; clear b4; replace pr := bel pr b5; clear b5; have q0 : w4.cell? ⟨w1.heap.size, 0, none⟩ = some (.int .i64 53) := K2.at 0; have q1 : w4.cell? ⟨w1.heap.size, 1, none⟩ = some (.int .i64 (-1074)) := K2.at 1; have q2 : w4.cell? ⟨w1.heap.size, 2, none⟩ = some (.int .i64 971) := K2.at 2; have q3 : w4.cell? ⟨w1.heap.size, 3, none⟩ = some (.int .i64 52) := K2.at 3)
          | (go_at_call 62; (with_reducible refine (N2 _).mono ?_); rintro x w4 ⟨rfl, b4⟩; replace K2 := K2.below b4 K2.lt; replace pr := bel pr b4; clear b4; have q0 : w4.cell? ⟨w1.heap.size, 0, none⟩ = some (.int .i64 53) := K2.at 0; have q1 : w4.cell? ⟨w1.heap.size, 1, none⟩ = some (.int .i64 (-1074)) := K2.at 1; have q2 : w4.cell? ⟨w1.heap.size, 2, none⟩ = some (.int .i64 971) := K2.at 2; have q3 : w4.cell? ⟨w1.heap.size, 3, none⟩ = some (.int .i64 52) := K2.at 3)
          | (go_at_call 62; (with_reducible refine (N2 _).mono ?_); rintro x w4 ⟨rfl, b4⟩; obtain ⟨b5, K2⟩ := var4 b4; clear b4; replace pr := bel pr b5; clear b5; have q0 : w4.cell? ⟨w1.heap.size, 0, none⟩ = some (.int .i64 53) := K2.at 0; have q1 : w4.cell? ⟨w1.heap.size, 1, none⟩ = some (.int .i64 (-1074)) := K2.at 1; have q2 : w4.cell? ⟨w1.heap.size, 2, none⟩ = some (.int .i64 971) := K2.at 2; have q3 : w4.cell? ⟨w1.heap.size, 3, none⟩ = some (.int .i64 52) := K2.at 3)
          | (go_at_call 73; (with_reducible refine (P1 _).mono ?_); rintro x w9 ⟨rfl, rfl⟩)
          | (go_at_call 73; (with_reducible refine (P2 _).mono ?_); rintro x w9 ⟨rfl, rfl⟩)
          | fail)
        exact bodyPost_ret (v := .tuple #[.int .u64 d, .bool true]) (by simp [results, Try.results34, go_sem]) rfl ⟨rfl, pr⟩
      · have e := hd1 (by omega)
        have c1 : decide (x > y) = false := decide_eq_false c
        clear hd1 hd2 c
        go_enter Try.func34, Try.ntmps34
        go_wp2_with (first
          | (go_at_call 11; refine (Wide_any _).mono ?_; rintro x w1 ⟨rfl, b1⟩; have pr := b1; clear b1; have m0 := Blk.new w1 #[.int .i64 53, .int .i64 (-1074), .int .i64 971, .int .i64 52] 31; have q0 : (w1.alloc (.cells #[.int .i64 53, .int .i64 (-1074), .int .i64 971, .int .i64 52] 31)).cell? ⟨w1.heap.size, 0, none⟩ = some (.int .i64 53) := m0.at 0; have q1 : (w1.alloc (.cells #[.int .i64 53, .int .i64 (-1074), .int .i64 971, .int .i64 52] 31)).cell? ⟨w1.heap.size, 1, none⟩ = some (.int .i64 (-1074)) := m0.at 1; have q2 : (w1.alloc (.cells #[.int .i64 53, .int .i64 (-1074), .int .i64 971, .int .i64 52] 31)).cell? ⟨w1.heap.size, 2, none⟩ = some (.int .i64 971) := m0.at 2; have q3 : (w1.alloc (.cells #[.int .i64 53, .int .i64 (-1074), .int .i64 971, .int .i64 52] 31)).cell? ⟨w1.heap.size, 3, none⟩ = some (.int .i64 52) := m0.at 3; clear m0)
          | (go_at_call 62; (with_reducible refine (N1 _).mono ?_); rintro x w4 ⟨rfl, b4⟩; replace K2 := K2.below b4 K2.lt; replace pr := bel pr b4; clear b4; have q0 : w4.cell? ⟨w1.heap.size, 0, none⟩ = some (.int .i64 53) := K2.at 0; have q1 : w4.cell? ⟨w1.heap.size, 1, none⟩ = some (.int .i64 (-1074)) := K2.at 1; have q2 : w4.cell? ⟨w1.heap.size, 2, none⟩ = some (.int .i64 971) := K2.at 2; have q3 : w4.cell? ⟨w1.heap.size, 3, none⟩ = some (.int .i64 52) := K2.at 3)
          | (go_at_call 62; (with_reducible refine (N1 _).mono ?_); rintro x w4 ⟨rfl, b4⟩; obtain ⟨b5, K2⟩ := var4 b4; clear b4; replace pr := bel pr b5; clear b5; have q0 : w4.cell? ⟨w1.heap.size, 0, none⟩ = some (.int .i64 53) := K2.at 0; have q1 : w4.cell? ⟨w1.heap.size, 1, none⟩ = some (.int .i64 (-1074)) := K2.at 1; have q2 : w4.cell? ⟨w1.heap.size, 2, none⟩ = some (.int .i64 971) := K2.at 2; have q3 : w4.cell? ⟨w1.heap.size, 3, none⟩ = some (.int .i64 52) := K2.at 3)
          | (go_at_call 62; (with_reducible refine (N2 _).mono ?_); rintro x w4 ⟨rfl, b4⟩; replace K2 := K2.below b4 K2.lt; replace pr := bel pr b4; clear b4; have q0 : w4.cell? ⟨w1.heap.size, 0, none⟩ = some (.int .i64 53) := K2.at 0; have q1 : w4.cell? ⟨w1.heap.size, 1, none⟩ = some (.int .i64 (-1074)) := K2.at 1; have q2 : w4.cell? ⟨w1.heap.size, 2, none⟩ = some (.int .i64 971) := K2.at 2; have q3 : w4.cell? ⟨w1.heap.size, 3, none⟩ = some (.int .i64 52) := K2.at 3)
          | (go_at_call 62; (with_reducible refine (N2 _).mono ?_); rintro x w4 ⟨rfl, b4⟩; obtain ⟨b5, K2⟩ := var4 b4; clear b4; replace pr := bel pr b5; clear b5; have q0 : w4.cell? ⟨w1.heap.size, 0, none⟩ = some (.int .i64 53) := K2.at 0; have q1 : w4.cell? ⟨w1.heap.size, 1, none⟩ = some (.int .i64 (-1074)) := K2.at 1; have q2 : w4.cell? ⟨w1.heap.size, 2, none⟩ = some (.int .i64 971) := K2.at 2; have q3 : w4.cell? ⟨w1.heap.size, 3, none⟩ = some (.int .i64 52) := K2.at 3)
          | (go_at_call 73; (with_reducible refine (P1 _).mono ?_); rintro x w9 ⟨rfl, rfl⟩)
          | (go_at_call 73; (with_reducible refine (P2 _).mono ?_); rintro x w9 ⟨rfl, rfl⟩)
          | fail)
        exact bodyPost_ret (v := .tuple #[.int .u64 d, .bool true]) (by simp [results, Try.results34, go_sem]) rfl ⟨rfl, pr⟩
    · simp only [Bool.false_or, if_true]
      clear hd1 hd2
      go_enter Try.func34, Try.ntmps34
      go_wp2_with (first
        | (go_at_call 11; refine (Wide_any _).mono ?_; rintro x w1 ⟨rfl, b1⟩; have pr := b1; clear b1; have m0 := Blk.new w1 #[.int .i64 53, .int .i64 (-1074), .int .i64 971, .int .i64 52] 31; have q0 : (w1.alloc (.cells #[.int .i64 53, .int .i64 (-1074), .int .i64 971, .int .i64 52] 31)).cell? ⟨w1.heap.size, 0, none⟩ = some (.int .i64 53) := m0.at 0; have q1 : (w1.alloc (.cells #[.int .i64 53, .int .i64 (-1074), .int .i64 971, .int .i64 52] 31)).cell? ⟨w1.heap.size, 1, none⟩ = some (.int .i64 (-1074)) := m0.at 1; have q2 : (w1.alloc (.cells #[.int .i64 53, .int .i64 (-1074), .int .i64 971, .int .i64 52] 31)).cell? ⟨w1.heap.size, 2, none⟩ = some (.int .i64 971) := m0.at 2; have q3 : (w1.alloc (.cells #[.int .i64 53, .int .i64 (-1074), .int .i64 971, .int .i64 52] 31)).cell? ⟨w1.heap.size, 3, none⟩ = some (.int .i64 52) := m0.at 3; clear m0)
        | (go_at_call 62; (with_reducible refine (N1 _).mono ?_); rintro x w4 ⟨rfl, b4⟩; replace K2 := K2.below b4 K2.lt; replace pr := bel pr b4; clear b4; have q0 : w4.cell? ⟨w1.heap.size, 0, none⟩ = some (.int .i64 53) := K2.at 0; have q1 : w4.cell? ⟨w1.heap.size, 1, none⟩ = some (.int .i64 (-1074)) := K2.at 1; have q2 : w4.cell? ⟨w1.heap.size, 2, none⟩ = some (.int .i64 971) := K2.at 2; have q3 : w4.cell? ⟨w1.heap.size, 3, none⟩ = some (.int .i64 52) := K2.at 3)
        | (go_at_call 62; (with_reducible refine (N1 _).mono ?_); rintro x w4 ⟨rfl, b4⟩; obtain ⟨b5, K2⟩ := var4 b4; clear b4; replace pr := bel pr b5; clear b5; have q0 : w4.cell? ⟨w1.heap.size, 0, none⟩ = some (.int .i64 53) := K2.at 0; have q1 : w4.cell? ⟨w1.heap.size, 1, none⟩ = some (.int .i64 (-1074)) := K2.at 1; have q2 : w4.cell? ⟨w1.heap.size, 2, none⟩ = some (.int .i64 971) := K2.at 2; have q3 : w4.cell? ⟨w1.heap.size, 3, none⟩ = some (.int .i64 52) := K2.at 3)
        | (go_at_call 62; (with_reducible refine (N2 _).mono ?_); rintro x w4 ⟨rfl, b4⟩; replace K2 := K2.below b4 K2.lt; replace pr := bel pr b4; clear b4; have q0 : w4.cell? ⟨w1.heap.size, 0, none⟩ = some (.int .i64 53) := K2.at 0; have q1 : w4.cell? ⟨w1.heap.size, 1, none⟩ = some (.int .i64 (-1074)) := K2.at 1; have q2 : w4.cell? ⟨w1.heap.size, 2, none⟩ = some (.int .i64 971) := K2.at 2; have q3 : w4.cell? ⟨w1.heap.size, 3, none⟩ = some (.int .i64 52) := K2.at 3)
        | (go_at_call 62; (with_reducible refine (N2 _).mono ?_); rintro x w4 ⟨rfl, b4⟩; obtain ⟨b5, K2⟩ := var4 b4; clear b4; replace pr := bel pr b5; clear b5; have q0 : w4.cell? ⟨w1.heap.size, 0, none⟩ = some (.int .i64 53) := K2.at 0; have q1 : w4.cell? ⟨w1.heap.size, 1, none⟩ = some (.int .i64 (-1074)) := K2.at 1; have q2 : w4.cell? ⟨w1.heap.size, 2, none⟩ = some (.int .i64 971) := K2.at 2; have q3 : w4.cell? ⟨w1.heap.size, 3, none⟩ = some (.int .i64 52) := K2.at 3)
        | fail)
      exact bodyPost_ret (v := .tuple #[.int .u64 0, .bool false]) (by simp [results, Try.results34, go_sem]) rfl ⟨rfl, pr⟩
  · simp only [Bool.true_or, if_true]
    clear hd1 hd2
    go_enter Try.func34, Try.ntmps34
    go_wp2_with (first
      | (go_at_call 11; refine (Wide_any _).mono ?_; rintro x w1 ⟨rfl, b1⟩; have pr := b1; clear b1; have m0 := Blk.new w1 #[.int .i64 53, .int .i64 (-1074), .int .i64 971, .int .i64 52] 31; have q0 : (w1.alloc (.cells #[.int .i64 53, .int .i64 (-1074), .int .i64 971, .int .i64 52] 31)).cell? ⟨w1.heap.size, 0, none⟩ = some (.int .i64 53) := m0.at 0; have q1 : (w1.alloc (.cells #[.int .i64 53, .int .i64 (-1074), .int .i64 971, .int .i64 52] 31)).cell? ⟨w1.heap.size, 1, none⟩ = some (.int .i64 (-1074)) := m0.at 1; have q2 : (w1.alloc (.cells #[.int .i64 53, .int .i64 (-1074), .int .i64 971, .int .i64 52] 31)).cell? ⟨w1.heap.size, 2, none⟩ = some (.int .i64 971) := m0.at 2; have q3 : (w1.alloc (.cells #[.int .i64 53, .int .i64 (-1074), .int .i64 971, .int .i64 52] 31)).cell? ⟨w1.heap.size, 3, none⟩ = some (.int .i64 52) := m0.at 3; clear m0)
      | (go_at_call 62; (with_reducible refine (N1 _).mono ?_); rintro x w4 ⟨rfl, b4⟩; replace K2 := K2.below b4 K2.lt; replace pr := bel pr b4; clear b4; have q0 : w4.cell? ⟨w1.heap.size, 0, none⟩ = some (.int .i64 53) := K2.at 0; have q1 : w4.cell? ⟨w1.heap.size, 1, none⟩ = some (.int .i64 (-1074)) := K2.at 1; have q2 : w4.cell? ⟨w1.heap.size, 2, none⟩ = some (.int .i64 971) := K2.at 2; have q3 : w4.cell? ⟨w1.heap.size, 3, none⟩ = some (.int .i64 52) := K2.at 3)
      | (go_at_call 62; (with_reducible refine (N1 _).mono ?_); rintro x w4 ⟨rfl, b4⟩; obtain ⟨b5, K2⟩ := var4 b4; clear b4; replace pr := bel pr b5; clear b5; have q0 : w4.cell? ⟨w1.heap.size, 0, none⟩ = some (.int .i64 53) := K2.at 0; have q1 : w4.cell? ⟨w1.heap.size, 1, none⟩ = some (.int .i64 (-1074)) := K2.at 1; have q2 : w4.cell? ⟨w1.heap.size, 2, none⟩ = some (.int .i64 971) := K2.at 2; have q3 : w4.cell? ⟨w1.heap.size, 3, none⟩ = some (.int .i64 52) := K2.at 3)
      | fail)
    exact bodyPost_ret (v := .tuple #[.int .u64 0, .bool false]) (by simp [results, Try.results34, go_sem]) rfl ⟨rfl, pr⟩
/-- The order as the reference tells it. -/
def rord (t1 t2 : Bool) (x y : Int) (same neg : Bool) : Int := if t1 = true then (if t2 = true then 0 else 1) else if t2 = true then -1 else if x < y then -1 else if y < x then 1 else if same = true then 0 else if neg = true then -1 else 1
set_option maxRecDepth 100000 in
set_option maxHeartbeats 1600000 in
theorem ROrder_walk (n m : Nat) (t1 t2 s g : Bool) (x y : Int) (N1 : ∀ w : World, Calls Try.prog 62 #[szW, .int .u64 n] w fun e w' => e = .returned (.bool t1) ∧ Below w.heap.size w w') (N2 : ∀ w : World, Calls Try.prog 62 #[szW, .int .u64 m] w fun e w' => e = .returned (.bool t2) ∧ Below w.heap.size w w')
    (P1 : ∀ w : World, Calls Try.prog 73 #[.int .u64 n] w fun e w' => e = .returned (.int .i64 x) ∧ w' = w) (P2 : ∀ w : World, Calls Try.prog 73 #[.int .u64 m] w fun e w' => e = .returned (.int .i64 y) ∧ w' = w)
    (G : ∀ w : World, Calls Try.prog 55 #[szW, .int .u64 n] w fun e w' => e = .returned (.bool g) ∧ Below w.heap.size w w') (hs : ((n : Int) == (m : Int)) = s) (w : World) :
    Calls Try.prog 30 #[.int .u64 n, .int .u64 m] w fun e w' => e = .returned (.int .i64 (rord t1 t2 x y s g)) ∧ Below w.heap.size w w' := by
  unfold rord
  cases t1
  · simp only [Bool.false_eq_true, if_false]
    cases t2
    · simp only [Bool.false_eq_true, if_false]
      by_cases c : x < y
      · rw [if_pos c]
        have c1 : decide (x < y) = true := decide_eq_true c
        clear c
        go_enter Try.func30, Try.ntmps30
        go_wp2_with (first
          | (go_at_call 11; refine (Wide_any _).mono ?_; rintro x w1 ⟨rfl, b1⟩; have pr := b1; clear b1; have m0 := Blk.new w1 #[.int .i64 53, .int .i64 (-1074), .int .i64 971, .int .i64 52] 31; have q0 : (w1.alloc (.cells #[.int .i64 53, .int .i64 (-1074), .int .i64 971, .int .i64 52] 31)).cell? ⟨w1.heap.size, 0, none⟩ = some (.int .i64 53) := m0.at 0; have q1 : (w1.alloc (.cells #[.int .i64 53, .int .i64 (-1074), .int .i64 971, .int .i64 52] 31)).cell? ⟨w1.heap.size, 1, none⟩ = some (.int .i64 (-1074)) := m0.at 1; have q2 : (w1.alloc (.cells #[.int .i64 53, .int .i64 (-1074), .int .i64 971, .int .i64 52] 31)).cell? ⟨w1.heap.size, 2, none⟩ = some (.int .i64 971) := m0.at 2; have q3 : (w1.alloc (.cells #[.int .i64 53, .int .i64 (-1074), .int .i64 971, .int .i64 52] 31)).cell? ⟨w1.heap.size, 3, none⟩ = some (.int .i64 52) := m0.at 3; clear m0)
          | (go_at_call 62; (with_reducible refine (N1 _).mono ?_); rintro x w4 ⟨rfl, b4⟩; replace K2 := K2.below b4 K2.lt; replace pr := bel pr b4; clear b4; have q0 : w4.cell? ⟨w1.heap.size, 0, none⟩ = some (.int .i64 53) := K2.at 0; have q1 : w4.cell? ⟨w1.heap.size, 1, none⟩ = some (.int .i64 (-1074)) := K2.at 1; have q2 : w4.cell? ⟨w1.heap.size, 2, none⟩ = some (.int .i64 971) := K2.at 2; have q3 : w4.cell? ⟨w1.heap.size, 3, none⟩ = some (.int .i64 52) := K2.at 3)
          | (go_at_call 62; (with_reducible refine (N1 _).mono ?_); rintro x w4 ⟨rfl, b4⟩; obtain ⟨b5, K2⟩ := var4 b4; clear b4; replace pr := bel pr b5; clear b5; have q0 : w4.cell? ⟨w1.heap.size, 0, none⟩ = some (.int .i64 53) := K2.at 0; have q1 : w4.cell? ⟨w1.heap.size, 1, none⟩ = some (.int .i64 (-1074)) := K2.at 1; have q2 : w4.cell? ⟨w1.heap.size, 2, none⟩ = some (.int .i64 971) := K2.at 2; have q3 : w4.cell? ⟨w1.heap.size, 3, none⟩ = some (.int .i64 52) := K2.at 3)
          | (go_at_call 62; (with_reducible refine (N2 _).mono ?_); rintro x w4 ⟨rfl, b4⟩; replace K2 := K2.below b4 K2.lt; replace pr := bel pr b4; clear b4; have q0 : w4.cell? ⟨w1.heap.size, 0, none⟩ = some (.int .i64 53) := K2.at 0; have q1 : w4.cell? ⟨w1.heap.size, 1, none⟩ = some (.int .i64 (-1074)) := K2.at 1; have q2 : w4.cell? ⟨w1.heap.size, 2, none⟩ = some (.int .i64 971) := K2.at 2; have q3 : w4.cell? ⟨w1.heap.size, 3, none⟩ = some (.int .i64 52) := K2.at 3)
          | (go_at_call 62; (with_reducible refine (N2 _).mono ?_); rintro x w4 ⟨rfl, b4⟩; obtain ⟨b5, K2⟩ := var4 b4; clear b4; replace pr := bel pr b5; clear b5; have q0 : w4.cell? ⟨w1.heap.size, 0, none⟩ = some (.int .i64 53) := K2.at 0; have q1 : w4.cell? ⟨w1.heap.size, 1, none⟩ = some (.int .i64 (-1074)) := K2.at 1; have q2 : w4.cell? ⟨w1.heap.size, 2, none⟩ = some (.int .i64 971) := K2.at 2; have q3 : w4.cell? ⟨w1.heap.size, 3, none⟩ = some (.int .i64 52) := K2.at 3)
          | (go_at_call 73; (with_reducible refine (P1 _).mono ?_); rintro x w9 ⟨rfl, rfl⟩)
          | (go_at_call 73; (with_reducible refine (P2 _).mono ?_); rintro x w9 ⟨rfl, rfl⟩)
          | (go_at_call 55; (with_reducible refine (G _).mono ?_); rintro x w4 ⟨rfl, b4⟩; replace K2 := K2.below b4 K2.lt; replace pr := bel pr b4; clear b4; have q0 : w4.cell? ⟨w1.heap.size, 0, none⟩ = some (.int .i64 53) := K2.at 0; have q1 : w4.cell? ⟨w1.heap.size, 1, none⟩ = some (.int .i64 (-1074)) := K2.at 1; have q2 : w4.cell? ⟨w1.heap.size, 2, none⟩ = some (.int .i64 971) := K2.at 2; have q3 : w4.cell? ⟨w1.heap.size, 3, none⟩ = some (.int .i64 52) := K2.at 3)
          | (go_at_call 55; (with_reducible refine (G _).mono ?_); rintro x w4 ⟨rfl, b4⟩; obtain ⟨b5, K2⟩ := var4 b4; clear b4; replace pr := bel pr b5; clear b5; have q0 : w4.cell? ⟨w1.heap.size, 0, none⟩ = some (.int .i64 53) := K2.at 0; have q1 : w4.cell? ⟨w1.heap.size, 1, none⟩ = some (.int .i64 (-1074)) := K2.at 1; have q2 : w4.cell? ⟨w1.heap.size, 2, none⟩ = some (.int .i64 971) := K2.at 2; have q3 : w4.cell? ⟨w1.heap.size, 3, none⟩ = some (.int .i64 52) := K2.at 3)
          | fail)
        go_ret
        exact ⟨rfl, pr⟩
      · rw [if_neg c]
        have c1 : decide (x < y) = false := decide_eq_false c
        by_cases d : y < x
        · rw [if_pos d]
          have d1 : decide (x > y) = true := decide_eq_true d
          clear c d
          go_enter Try.func30, Try.ntmps30
          go_wp2_with (first
            | (go_at_call 11; refine (Wide_any _).mono ?_; rintro x w1 ⟨rfl, b1⟩; have pr := b1; clear b1; have m0 := Blk.new w1 #[.int .i64 53, .int .i64 (-1074), .int .i64 971, .int .i64 52] 31; have q0 : (w1.alloc (.cells #[.int .i64 53, .int .i64 (-1074), .int .i64 971, .int .i64 52] 31)).cell? ⟨w1.heap.size, 0, none⟩ = some (.int .i64 53) := m0.at 0; have q1 : (w1.alloc (.cells #[.int .i64 53, .int .i64 (-1074), .int .i64 971, .int .i64 52] 31)).cell? ⟨w1.heap.size, 1, none⟩ = some (.int .i64 (-1074)) := m0.at 1; have q2 : (w1.alloc (.cells #[.int .i64 53, .int .i64 (-1074), .int .i64 971, .int .i64 52] 31)).cell? ⟨w1.heap.size, 2, none⟩ = some (.int .i64 971) := m0.at 2; have q3 : (w1.alloc (.cells #[.int .i64 53, .int .i64 (-1074), .int .i64 971, .int .i64 52] 31)).cell? ⟨w1.heap.size, 3, none⟩ = some (.int .i64 52) := m0.at 3; clear m0)
            | (go_at_call 62; (with_reducible refine (N1 _).mono ?_); rintro x w4 ⟨rfl, b4⟩; replace K2 := K2.below b4 K2.lt; replace pr := bel pr b4; clear b4; have q0 : w4.cell? ⟨w1.heap.size, 0, none⟩ = some (.int .i64 53) := K2.at 0; have q1 : w4.cell? ⟨w1.heap.size, 1, none⟩ = some (.int .i64 (-1074)) := K2.at 1; have q2 : w4.cell? ⟨w1.heap.size, 2, none⟩ = some (.int .i64 971) := K2.at 2; have q3 : w4.cell? ⟨w1.heap.size, 3, none⟩ = some (.int .i64 52) := K2.at 3)
            | (go_at_call 62; (with_reducible refine (N1 _).mono ?_); rintro x w4 ⟨rfl, b4⟩; obtain ⟨b5, K2⟩ := var4 b4; clear b4; replace pr := bel pr b5; clear b5; have q0 : w4.cell? ⟨w1.heap.size, 0, none⟩ = some (.int .i64 53) := K2.at 0; have q1 : w4.cell? ⟨w1.heap.size, 1, none⟩ = some (.int .i64 (-1074)) := K2.at 1; have q2 : w4.cell? ⟨w1.heap.size, 2, none⟩ = some (.int .i64 971) := K2.at 2; have q3 : w4.cell? ⟨w1.heap.size, 3, none⟩ = some (.int .i64 52) := K2.at 3)
            | (go_at_call 62; (with_reducible refine (N2 _).mono ?_); rintro x w4 ⟨rfl, b4⟩; replace K2 := K2.below b4 K2.lt; replace pr := bel pr b4; clear b4; have q0 : w4.cell? ⟨w1.heap.size, 0, none⟩ = some (.int .i64 53) := K2.at 0; have q1 : w4.cell? ⟨w1.heap.size, 1, none⟩ = some (.int .i64 (-1074)) := K2.at 1; have q2 : w4.cell? ⟨w1.heap.size, 2, none⟩ = some (.int .i64 971) := K2.at 2; have q3 : w4.cell? ⟨w1.heap.size, 3, none⟩ = some (.int .i64 52) := K2.at 3)
            | (go_at_call 62; (with_reducible refine (N2 _).mono ?_); rintro x w4 ⟨rfl, b4⟩; obtain ⟨b5, K2⟩ := var4 b4; clear b4; replace pr := bel pr b5; clear b5; have q0 : w4.cell? ⟨w1.heap.size, 0, none⟩ = some (.int .i64 53) := K2.at 0; have q1 : w4.cell? ⟨w1.heap.size, 1, none⟩ = some (.int .i64 (-1074)) := K2.at 1; have q2 : w4.cell? ⟨w1.heap.size, 2, none⟩ = some (.int .i64 971) := K2.at 2; have q3 : w4.cell? ⟨w1.heap.size, 3, none⟩ = some (.int .i64 52) := K2.at 3)
            | (go_at_call 73; (with_reducible refine (P1 _).mono ?_); rintro x w9 ⟨rfl, rfl⟩)
            | (go_at_call 73; (with_reducible refine (P2 _).mono ?_); rintro x w9 ⟨rfl, rfl⟩)
            | (go_at_call 55; (with_reducible refine (G _).mono ?_); rintro x w4 ⟨rfl, b4⟩; replace K2 := K2.below b4 K2.lt; replace pr := bel pr b4; clear b4; have q0 : w4.cell? ⟨w1.heap.size, 0, none⟩ = some (.int .i64 53) := K2.at 0; have q1 : w4.cell? ⟨w1.heap.size, 1, none⟩ = some (.int .i64 (-1074)) := K2.at 1; have q2 : w4.cell? ⟨w1.heap.size, 2, none⟩ = some (.int .i64 971) := K2.at 2; have q3 : w4.cell? ⟨w1.heap.size, 3, none⟩ = some (.int .i64 52) := K2.at 3)
            | (go_at_call 55; (with_reducible refine (G _).mono ?_); rintro x w4 ⟨rfl, b4⟩; obtain ⟨b5, K2⟩ := var4 b4; clear b4; replace pr := bel pr b5; clear b5; have q0 : w4.cell? ⟨w1.heap.size, 0, none⟩ = some (.int .i64 53) := K2.at 0; have q1 : w4.cell? ⟨w1.heap.size, 1, none⟩ = some (.int .i64 (-1074)) := K2.at 1; have q2 : w4.cell? ⟨w1.heap.size, 2, none⟩ = some (.int .i64 971) := K2.at 2; have q3 : w4.cell? ⟨w1.heap.size, 3, none⟩ = some (.int .i64 52) := K2.at 3)
            | fail)
          go_ret
          exact ⟨rfl, pr⟩
        · rw [if_neg d]
          have d1 : decide (x > y) = false := decide_eq_false d
          clear c d
          cases s
          · simp only [Bool.false_eq_true, if_false]
            cases g
            · simp only [Bool.false_eq_true, if_false]
              go_enter Try.func30, Try.ntmps30
              go_wp2_with (first
                | (go_at_call 11; refine (Wide_any _).mono ?_; rintro x w1 ⟨rfl, b1⟩; have pr := b1; clear b1; have m0 := Blk.new w1 #[.int .i64 53, .int .i64 (-1074), .int .i64 971, .int .i64 52] 31; have q0 : (w1.alloc (.cells #[.int .i64 53, .int .i64 (-1074), .int .i64 971, .int .i64 52] 31)).cell? ⟨w1.heap.size, 0, none⟩ = some (.int .i64 53) := m0.at 0; have q1 : (w1.alloc (.cells #[.int .i64 53, .int .i64 (-1074), .int .i64 971, .int .i64 52] 31)).cell? ⟨w1.heap.size, 1, none⟩ = some (.int .i64 (-1074)) := m0.at 1; have q2 : (w1.alloc (.cells #[.int .i64 53, .int .i64 (-1074), .int .i64 971, .int .i64 52] 31)).cell? ⟨w1.heap.size, 2, none⟩ = some (.int .i64 971) := m0.at 2; have q3 : (w1.alloc (.cells #[.int .i64 53, .int .i64 (-1074), .int .i64 971, .int .i64 52] 31)).cell? ⟨w1.heap.size, 3, none⟩ = some (.int .i64 52) := m0.at 3; clear m0)
                | (go_at_call 62; (with_reducible refine (N1 _).mono ?_); rintro x w4 ⟨rfl, b4⟩; replace K2 := K2.below b4 K2.lt; replace pr := bel pr b4; clear b4; have q0 : w4.cell? ⟨w1.heap.size, 0, none⟩ = some (.int .i64 53) := K2.at 0; have q1 : w4.cell? ⟨w1.heap.size, 1, none⟩ = some (.int .i64 (-1074)) := K2.at 1; have q2 : w4.cell? ⟨w1.heap.size, 2, none⟩ = some (.int .i64 971) := K2.at 2; have q3 : w4.cell? ⟨w1.heap.size, 3, none⟩ = some (.int .i64 52) := K2.at 3)
                | (go_at_call 62; (with_reducible refine (N1 _).mono ?_); rintro x w4 ⟨rfl, b4⟩; obtain ⟨b5, K2⟩ := var4 b4; clear b4; replace pr := bel pr b5; clear b5; have q0 : w4.cell? ⟨w1.heap.size, 0, none⟩ = some (.int .i64 53) := K2.at 0; have q1 : w4.cell? ⟨w1.heap.size, 1, none⟩ = some (.int .i64 (-1074)) := K2.at 1; have q2 : w4.cell? ⟨w1.heap.size, 2, none⟩ = some (.int .i64 971) := K2.at 2; have q3 : w4.cell? ⟨w1.heap.size, 3, none⟩ = some (.int .i64 52) := K2.at 3)
                | (go_at_call 62; (with_reducible refine (N2 _).mono ?_); rintro x w4 ⟨rfl, b4⟩; replace K2 := K2.below b4 K2.lt; replace pr := bel pr b4; clear b4; have q0 : w4.cell? ⟨w1.heap.size, 0, none⟩ = some (.int .i64 53) := K2.at 0; have q1 : w4.cell? ⟨w1.heap.size, 1, none⟩ = some (.int .i64 (-1074)) := K2.at 1; have q2 : w4.cell? ⟨w1.heap.size, 2, none⟩ = some (.int .i64 971) := K2.at 2; have q3 : w4.cell? ⟨w1.heap.size, 3, none⟩ = some (.int .i64 52) := K2.at 3)
                | (go_at_call 62; (with_reducible refine (N2 _).mono ?_); rintro x w4 ⟨rfl, b4⟩; obtain ⟨b5, K2⟩ := var4 b4; clear b4; replace pr := bel pr b5; clear b5; have q0 : w4.cell? ⟨w1.heap.size, 0, none⟩ = some (.int .i64 53) := K2.at 0; have q1 : w4.cell? ⟨w1.heap.size, 1, none⟩ = some (.int .i64 (-1074)) := K2.at 1; have q2 : w4.cell? ⟨w1.heap.size, 2, none⟩ = some (.int .i64 971) := K2.at 2; have q3 : w4.cell? ⟨w1.heap.size, 3, none⟩ = some (.int .i64 52) := K2.at 3)
                | (go_at_call 73; (with_reducible refine (P1 _).mono ?_); rintro x w9 ⟨rfl, rfl⟩)
                | (go_at_call 73; (with_reducible refine (P2 _).mono ?_); rintro x w9 ⟨rfl, rfl⟩)
                | (go_at_call 55; (with_reducible refine (G _).mono ?_); rintro x w4 ⟨rfl, b4⟩; replace K2 := K2.below b4 K2.lt; replace pr := bel pr b4; clear b4; have q0 : w4.cell? ⟨w1.heap.size, 0, none⟩ = some (.int .i64 53) := K2.at 0; have q1 : w4.cell? ⟨w1.heap.size, 1, none⟩ = some (.int .i64 (-1074)) := K2.at 1; have q2 : w4.cell? ⟨w1.heap.size, 2, none⟩ = some (.int .i64 971) := K2.at 2; have q3 : w4.cell? ⟨w1.heap.size, 3, none⟩ = some (.int .i64 52) := K2.at 3)
                | (go_at_call 55; (with_reducible refine (G _).mono ?_); rintro x w4 ⟨rfl, b4⟩; obtain ⟨b5, K2⟩ := var4 b4; clear b4; replace pr := bel pr b5; clear b5; have q0 : w4.cell? ⟨w1.heap.size, 0, none⟩ = some (.int .i64 53) := K2.at 0; have q1 : w4.cell? ⟨w1.heap.size, 1, none⟩ = some (.int .i64 (-1074)) := K2.at 1; have q2 : w4.cell? ⟨w1.heap.size, 2, none⟩ = some (.int .i64 971) := K2.at 2; have q3 : w4.cell? ⟨w1.heap.size, 3, none⟩ = some (.int .i64 52) := K2.at 3)
                | fail)
              go_ret
              exact ⟨rfl, pr⟩
            · simp only [if_true]
              go_enter Try.func30, Try.ntmps30
              go_wp2_with (first
                | (go_at_call 11; refine (Wide_any _).mono ?_; rintro x w1 ⟨rfl, b1⟩; have pr := b1; clear b1; have m0 := Blk.new w1 #[.int .i64 53, .int .i64 (-1074), .int .i64 971, .int .i64 52] 31; have q0 : (w1.alloc (.cells #[.int .i64 53, .int .i64 (-1074), .int .i64 971, .int .i64 52] 31)).cell? ⟨w1.heap.size, 0, none⟩ = some (.int .i64 53) := m0.at 0; have q1 : (w1.alloc (.cells #[.int .i64 53, .int .i64 (-1074), .int .i64 971, .int .i64 52] 31)).cell? ⟨w1.heap.size, 1, none⟩ = some (.int .i64 (-1074)) := m0.at 1; have q2 : (w1.alloc (.cells #[.int .i64 53, .int .i64 (-1074), .int .i64 971, .int .i64 52] 31)).cell? ⟨w1.heap.size, 2, none⟩ = some (.int .i64 971) := m0.at 2; have q3 : (w1.alloc (.cells #[.int .i64 53, .int .i64 (-1074), .int .i64 971, .int .i64 52] 31)).cell? ⟨w1.heap.size, 3, none⟩ = some (.int .i64 52) := m0.at 3; clear m0)
                | (go_at_call 62; (with_reducible refine (N1 _).mono ?_); rintro x w4 ⟨rfl, b4⟩; replace K2 := K2.below b4 K2.lt; replace pr := bel pr b4; clear b4; have q0 : w4.cell? ⟨w1.heap.size, 0, none⟩ = some (.int .i64 53) := K2.at 0; have q1 : w4.cell? ⟨w1.heap.size, 1, none⟩ = some (.int .i64 (-1074)) := K2.at 1; have q2 : w4.cell? ⟨w1.heap.size, 2, none⟩ = some (.int .i64 971) := K2.at 2; have q3 : w4.cell? ⟨w1.heap.size, 3, none⟩ = some (.int .i64 52) := K2.at 3)
                | (go_at_call 62; (with_reducible refine (N1 _).mono ?_); rintro x w4 ⟨rfl, b4⟩; obtain ⟨b5, K2⟩ := var4 b4; clear b4; replace pr := bel pr b5; clear b5; have q0 : w4.cell? ⟨w1.heap.size, 0, none⟩ = some (.int .i64 53) := K2.at 0; have q1 : w4.cell? ⟨w1.heap.size, 1, none⟩ = some (.int .i64 (-1074)) := K2.at 1; have q2 : w4.cell? ⟨w1.heap.size, 2, none⟩ = some (.int .i64 971) := K2.at 2; have q3 : w4.cell? ⟨w1.heap.size, 3, none⟩ = some (.int .i64 52) := K2.at 3)
                | (go_at_call 62; (with_reducible refine (N2 _).mono ?_); rintro x w4 ⟨rfl, b4⟩; replace K2 := K2.below b4 K2.lt; replace pr := bel pr b4; clear b4; have q0 : w4.cell? ⟨w1.heap.size, 0, none⟩ = some (.int .i64 53) := K2.at 0; have q1 : w4.cell? ⟨w1.heap.size, 1, none⟩ = some (.int .i64 (-1074)) := K2.at 1; have q2 : w4.cell? ⟨w1.heap.size, 2, none⟩ = some (.int .i64 971) := K2.at 2; have q3 : w4.cell? ⟨w1.heap.size, 3, none⟩ = some (.int .i64 52) := K2.at 3)
                | (go_at_call 62; (with_reducible refine (N2 _).mono ?_); rintro x w4 ⟨rfl, b4⟩; obtain ⟨b5, K2⟩ := var4 b4; clear b4; replace pr := bel pr b5; clear b5; have q0 : w4.cell? ⟨w1.heap.size, 0, none⟩ = some (.int .i64 53) := K2.at 0; have q1 : w4.cell? ⟨w1.heap.size, 1, none⟩ = some (.int .i64 (-1074)) := K2.at 1; have q2 : w4.cell? ⟨w1.heap.size, 2, none⟩ = some (.int .i64 971) := K2.at 2; have q3 : w4.cell? ⟨w1.heap.size, 3, none⟩ = some (.int .i64 52) := K2.at 3)
                | (go_at_call 73; (with_reducible refine (P1 _).mono ?_); rintro x w9 ⟨rfl, rfl⟩)
                | (go_at_call 73; (with_reducible refine (P2 _).mono ?_); rintro x w9 ⟨rfl, rfl⟩)
                | (go_at_call 55; (with_reducible refine (G _).mono ?_); rintro x w4 ⟨rfl, b4⟩; replace K2 := K2.below b4 K2.lt; replace pr := bel pr b4; clear b4; have q0 : w4.cell? ⟨w1.heap.size, 0, none⟩ = some (.int .i64 53) := K2.at 0; have q1 : w4.cell? ⟨w1.heap.size, 1, none⟩ = some (.int .i64 (-1074)) := K2.at 1; have q2 : w4.cell? ⟨w1.heap.size, 2, none⟩ = some (.int .i64 971) := K2.at 2; have q3 : w4.cell? ⟨w1.heap.size, 3, none⟩ = some (.int .i64 52) := K2.at 3)
                | (go_at_call 55; (with_reducible refine (G _).mono ?_); rintro x w4 ⟨rfl, b4⟩; obtain ⟨b5, K2⟩ := var4 b4; clear b4; replace pr := bel pr b5; clear b5; have q0 : w4.cell? ⟨w1.heap.size, 0, none⟩ = some (.int .i64 53) := K2.at 0; have q1 : w4.cell? ⟨w1.heap.size, 1, none⟩ = some (.int .i64 (-1074)) := K2.at 1; have q2 : w4.cell? ⟨w1.heap.size, 2, none⟩ = some (.int .i64 971) := K2.at 2; have q3 : w4.cell? ⟨w1.heap.size, 3, none⟩ = some (.int .i64 52) := K2.at 3)
                | fail)
              go_ret
              exact ⟨rfl, pr⟩
          · simp only [if_true]
            go_enter Try.func30, Try.ntmps30
            go_wp2_with (first
              | (go_at_call 11; refine (Wide_any _).mono ?_; rintro x w1 ⟨rfl, b1⟩; have pr := b1; clear b1; have m0 := Blk.new w1 #[.int .i64 53, .int .i64 (-1074), .int .i64 971, .int .i64 52] 31; have q0 : (w1.alloc (.cells #[.int .i64 53, .int .i64 (-1074), .int .i64 971, .int .i64 52] 31)).cell? ⟨w1.heap.size, 0, none⟩ = some (.int .i64 53) := m0.at 0; have q1 : (w1.alloc (.cells #[.int .i64 53, .int .i64 (-1074), .int .i64 971, .int .i64 52] 31)).cell? ⟨w1.heap.size, 1, none⟩ = some (.int .i64 (-1074)) := m0.at 1; have q2 : (w1.alloc (.cells #[.int .i64 53, .int .i64 (-1074), .int .i64 971, .int .i64 52] 31)).cell? ⟨w1.heap.size, 2, none⟩ = some (.int .i64 971) := m0.at 2; have q3 : (w1.alloc (.cells #[.int .i64 53, .int .i64 (-1074), .int .i64 971, .int .i64 52] 31)).cell? ⟨w1.heap.size, 3, none⟩ = some (.int .i64 52) := m0.at 3; clear m0)
              | (go_at_call 62; (with_reducible refine (N1 _).mono ?_); rintro x w4 ⟨rfl, b4⟩; replace K2 := K2.below b4 K2.lt; replace pr := bel pr b4; clear b4; have q0 : w4.cell? ⟨w1.heap.size, 0, none⟩ = some (.int .i64 53) := K2.at 0; have q1 : w4.cell? ⟨w1.heap.size, 1, none⟩ = some (.int .i64 (-1074)) := K2.at 1; have q2 : w4.cell? ⟨w1.heap.size, 2, none⟩ = some (.int .i64 971) := K2.at 2; have q3 : w4.cell? ⟨w1.heap.size, 3, none⟩ = some (.int .i64 52) := K2.at 3)
              | (go_at_call 62; (with_reducible refine (N1 _).mono ?_); rintro x w4 ⟨rfl, b4⟩; obtain ⟨b5, K2⟩ := var4 b4; clear b4; replace pr := bel pr b5; clear b5; have q0 : w4.cell? ⟨w1.heap.size, 0, none⟩ = some (.int .i64 53) := K2.at 0; have q1 : w4.cell? ⟨w1.heap.size, 1, none⟩ = some (.int .i64 (-1074)) := K2.at 1; have q2 : w4.cell? ⟨w1.heap.size, 2, none⟩ = some (.int .i64 971) := K2.at 2; have q3 : w4.cell? ⟨w1.heap.size, 3, none⟩ = some (.int .i64 52) := K2.at 3)
              | (go_at_call 62; (with_reducible refine (N2 _).mono ?_); rintro x w4 ⟨rfl, b4⟩; replace K2 := K2.below b4 K2.lt; replace pr := bel pr b4; clear b4; have q0 : w4.cell? ⟨w1.heap.size, 0, none⟩ = some (.int .i64 53) := K2.at 0; have q1 : w4.cell? ⟨w1.heap.size, 1, none⟩ = some (.int .i64 (-1074)) := K2.at 1; have q2 : w4.cell? ⟨w1.heap.size, 2, none⟩ = some (.int .i64 971) := K2.at 2; have q3 : w4.cell? ⟨w1.heap.size, 3, none⟩ = some (.int .i64 52) := K2.at 3)
              | (go_at_call 62; (with_reducible refine (N2 _).mono ?_); rintro x w4 ⟨rfl, b4⟩; obtain ⟨b5, K2⟩ := var4 b4; clear b4; replace pr := bel pr b5; clear b5; have q0 : w4.cell? ⟨w1.heap.size, 0, none⟩ = some (.int .i64 53) := K2.at 0; have q1 : w4.cell? ⟨w1.heap.size, 1, none⟩ = some (.int .i64 (-1074)) := K2.at 1; have q2 : w4.cell? ⟨w1.heap.size, 2, none⟩ = some (.int .i64 971) := K2.at 2; have q3 : w4.cell? ⟨w1.heap.size, 3, none⟩ = some (.int .i64 52) := K2.at 3)
              | (go_at_call 73; (with_reducible refine (P1 _).mono ?_); rintro x w9 ⟨rfl, rfl⟩)
              | (go_at_call 73; (with_reducible refine (P2 _).mono ?_); rintro x w9 ⟨rfl, rfl⟩)
              | (go_at_call 55; (with_reducible refine (G _).mono ?_); rintro x w4 ⟨rfl, b4⟩; replace K2 := K2.below b4 K2.lt; replace pr := bel pr b4; clear b4; have q0 : w4.cell? ⟨w1.heap.size, 0, none⟩ = some (.int .i64 53) := K2.at 0; have q1 : w4.cell? ⟨w1.heap.size, 1, none⟩ = some (.int .i64 (-1074)) := K2.at 1; have q2 : w4.cell? ⟨w1.heap.size, 2, none⟩ = some (.int .i64 971) := K2.at 2; have q3 : w4.cell? ⟨w1.heap.size, 3, none⟩ = some (.int .i64 52) := K2.at 3)
              | (go_at_call 55; (with_reducible refine (G _).mono ?_); rintro x w4 ⟨rfl, b4⟩; obtain ⟨b5, K2⟩ := var4 b4; clear b4; replace pr := bel pr b5; clear b5; have q0 : w4.cell? ⟨w1.heap.size, 0, none⟩ = some (.int .i64 53) := K2.at 0; have q1 : w4.cell? ⟨w1.heap.size, 1, none⟩ = some (.int .i64 (-1074)) := K2.at 1; have q2 : w4.cell? ⟨w1.heap.size, 2, none⟩ = some (.int .i64 971) := K2.at 2; have q3 : w4.cell? ⟨w1.heap.size, 3, none⟩ = some (.int .i64 52) := K2.at 3)
              | fail)
            go_ret
            exact ⟨rfl, pr⟩
    · simp only [if_true]
      go_enter Try.func30, Try.ntmps30
      go_wp2_with (first
        | (go_at_call 11; refine (Wide_any _).mono ?_; rintro x w1 ⟨rfl, b1⟩; have pr := b1; clear b1; have m0 := Blk.new w1 #[.int .i64 53, .int .i64 (-1074), .int .i64 971, .int .i64 52] 31; have q0 : (w1.alloc (.cells #[.int .i64 53, .int .i64 (-1074), .int .i64 971, .int .i64 52] 31)).cell? ⟨w1.heap.size, 0, none⟩ = some (.int .i64 53) := m0.at 0; have q1 : (w1.alloc (.cells #[.int .i64 53, .int .i64 (-1074), .int .i64 971, .int .i64 52] 31)).cell? ⟨w1.heap.size, 1, none⟩ = some (.int .i64 (-1074)) := m0.at 1; have q2 : (w1.alloc (.cells #[.int .i64 53, .int .i64 (-1074), .int .i64 971, .int .i64 52] 31)).cell? ⟨w1.heap.size, 2, none⟩ = some (.int .i64 971) := m0.at 2; have q3 : (w1.alloc (.cells #[.int .i64 53, .int .i64 (-1074), .int .i64 971, .int .i64 52] 31)).cell? ⟨w1.heap.size, 3, none⟩ = some (.int .i64 52) := m0.at 3; clear m0)
        | (go_at_call 62; (with_reducible refine (N1 _).mono ?_); rintro x w4 ⟨rfl, b4⟩; replace K2 := K2.below b4 K2.lt; replace pr := bel pr b4; clear b4; have q0 : w4.cell? ⟨w1.heap.size, 0, none⟩ = some (.int .i64 53) := K2.at 0; have q1 : w4.cell? ⟨w1.heap.size, 1, none⟩ = some (.int .i64 (-1074)) := K2.at 1; have q2 : w4.cell? ⟨w1.heap.size, 2, none⟩ = some (.int .i64 971) := K2.at 2; have q3 : w4.cell? ⟨w1.heap.size, 3, none⟩ = some (.int .i64 52) := K2.at 3)
        | (go_at_call 62; (with_reducible refine (N1 _).mono ?_); rintro x w4 ⟨rfl, b4⟩; obtain ⟨b5, K2⟩ := var4 b4; clear b4; replace pr := bel pr b5; clear b5; have q0 : w4.cell? ⟨w1.heap.size, 0, none⟩ = some (.int .i64 53) := K2.at 0; have q1 : w4.cell? ⟨w1.heap.size, 1, none⟩ = some (.int .i64 (-1074)) := K2.at 1; have q2 : w4.cell? ⟨w1.heap.size, 2, none⟩ = some (.int .i64 971) := K2.at 2; have q3 : w4.cell? ⟨w1.heap.size, 3, none⟩ = some (.int .i64 52) := K2.at 3)
        | (go_at_call 62; (with_reducible refine (N2 _).mono ?_); rintro x w4 ⟨rfl, b4⟩; replace K2 := K2.below b4 K2.lt; replace pr := bel pr b4; clear b4; have q0 : w4.cell? ⟨w1.heap.size, 0, none⟩ = some (.int .i64 53) := K2.at 0; have q1 : w4.cell? ⟨w1.heap.size, 1, none⟩ = some (.int .i64 (-1074)) := K2.at 1; have q2 : w4.cell? ⟨w1.heap.size, 2, none⟩ = some (.int .i64 971) := K2.at 2; have q3 : w4.cell? ⟨w1.heap.size, 3, none⟩ = some (.int .i64 52) := K2.at 3)
        | (go_at_call 62; (with_reducible refine (N2 _).mono ?_); rintro x w4 ⟨rfl, b4⟩; obtain ⟨b5, K2⟩ := var4 b4; clear b4; replace pr := bel pr b5; clear b5; have q0 : w4.cell? ⟨w1.heap.size, 0, none⟩ = some (.int .i64 53) := K2.at 0; have q1 : w4.cell? ⟨w1.heap.size, 1, none⟩ = some (.int .i64 (-1074)) := K2.at 1; have q2 : w4.cell? ⟨w1.heap.size, 2, none⟩ = some (.int .i64 971) := K2.at 2; have q3 : w4.cell? ⟨w1.heap.size, 3, none⟩ = some (.int .i64 52) := K2.at 3)
        | (go_at_call 73; (with_reducible refine (P1 _).mono ?_); rintro x w9 ⟨rfl, rfl⟩)
        | (go_at_call 73; (with_reducible refine (P2 _).mono ?_); rintro x w9 ⟨rfl, rfl⟩)
        | (go_at_call 55; (with_reducible refine (G _).mono ?_); rintro x w4 ⟨rfl, b4⟩; replace K2 := K2.below b4 K2.lt; replace pr := bel pr b4; clear b4; have q0 : w4.cell? ⟨w1.heap.size, 0, none⟩ = some (.int .i64 53) := K2.at 0; have q1 : w4.cell? ⟨w1.heap.size, 1, none⟩ = some (.int .i64 (-1074)) := K2.at 1; have q2 : w4.cell? ⟨w1.heap.size, 2, none⟩ = some (.int .i64 971) := K2.at 2; have q3 : w4.cell? ⟨w1.heap.size, 3, none⟩ = some (.int .i64 52) := K2.at 3)
        | (go_at_call 55; (with_reducible refine (G _).mono ?_); rintro x w4 ⟨rfl, b4⟩; obtain ⟨b5, K2⟩ := var4 b4; clear b4; replace pr := bel pr b5; clear b5; have q0 : w4.cell? ⟨w1.heap.size, 0, none⟩ = some (.int .i64 53) := K2.at 0; have q1 : w4.cell? ⟨w1.heap.size, 1, none⟩ = some (.int .i64 (-1074)) := K2.at 1; have q2 : w4.cell? ⟨w1.heap.size, 2, none⟩ = some (.int .i64 971) := K2.at 2; have q3 : w4.cell? ⟨w1.heap.size, 3, none⟩ = some (.int .i64 52) := K2.at 3)
        | fail)
      go_ret
      exact ⟨rfl, pr⟩
  · simp only [if_true]
    cases t2
    · simp only [Bool.false_eq_true, if_false]
      go_enter Try.func30, Try.ntmps30
      go_wp2_with (first
        | (go_at_call 11; refine (Wide_any _).mono ?_; rintro x w1 ⟨rfl, b1⟩; have pr := b1; clear b1; have m0 := Blk.new w1 #[.int .i64 53, .int .i64 (-1074), .int .i64 971, .int .i64 52] 31; have q0 : (w1.alloc (.cells #[.int .i64 53, .int .i64 (-1074), .int .i64 971, .int .i64 52] 31)).cell? ⟨w1.heap.size, 0, none⟩ = some (.int .i64 53) := m0.at 0; have q1 : (w1.alloc (.cells #[.int .i64 53, .int .i64 (-1074), .int .i64 971, .int .i64 52] 31)).cell? ⟨w1.heap.size, 1, none⟩ = some (.int .i64 (-1074)) := m0.at 1; have q2 : (w1.alloc (.cells #[.int .i64 53, .int .i64 (-1074), .int .i64 971, .int .i64 52] 31)).cell? ⟨w1.heap.size, 2, none⟩ = some (.int .i64 971) := m0.at 2; have q3 : (w1.alloc (.cells #[.int .i64 53, .int .i64 (-1074), .int .i64 971, .int .i64 52] 31)).cell? ⟨w1.heap.size, 3, none⟩ = some (.int .i64 52) := m0.at 3; clear m0)
        | (go_at_call 62; (with_reducible refine (N1 _).mono ?_); rintro x w4 ⟨rfl, b4⟩; replace K2 := K2.below b4 K2.lt; replace pr := bel pr b4; clear b4; have q0 : w4.cell? ⟨w1.heap.size, 0, none⟩ = some (.int .i64 53) := K2.at 0; have q1 : w4.cell? ⟨w1.heap.size, 1, none⟩ = some (.int .i64 (-1074)) := K2.at 1; have q2 : w4.cell? ⟨w1.heap.size, 2, none⟩ = some (.int .i64 971) := K2.at 2; have q3 : w4.cell? ⟨w1.heap.size, 3, none⟩ = some (.int .i64 52) := K2.at 3)
        | (go_at_call 62; (with_reducible refine (N1 _).mono ?_); rintro x w4 ⟨rfl, b4⟩; obtain ⟨b5, K2⟩ := var4 b4; clear b4; replace pr := bel pr b5; clear b5; have q0 : w4.cell? ⟨w1.heap.size, 0, none⟩ = some (.int .i64 53) := K2.at 0; have q1 : w4.cell? ⟨w1.heap.size, 1, none⟩ = some (.int .i64 (-1074)) := K2.at 1; have q2 : w4.cell? ⟨w1.heap.size, 2, none⟩ = some (.int .i64 971) := K2.at 2; have q3 : w4.cell? ⟨w1.heap.size, 3, none⟩ = some (.int .i64 52) := K2.at 3)
        | (go_at_call 62; (with_reducible refine (N2 _).mono ?_); rintro x w4 ⟨rfl, b4⟩; replace K2 := K2.below b4 K2.lt; replace pr := bel pr b4; clear b4; have q0 : w4.cell? ⟨w1.heap.size, 0, none⟩ = some (.int .i64 53) := K2.at 0; have q1 : w4.cell? ⟨w1.heap.size, 1, none⟩ = some (.int .i64 (-1074)) := K2.at 1; have q2 : w4.cell? ⟨w1.heap.size, 2, none⟩ = some (.int .i64 971) := K2.at 2; have q3 : w4.cell? ⟨w1.heap.size, 3, none⟩ = some (.int .i64 52) := K2.at 3)
        | (go_at_call 62; (with_reducible refine (N2 _).mono ?_); rintro x w4 ⟨rfl, b4⟩; obtain ⟨b5, K2⟩ := var4 b4; clear b4; replace pr := bel pr b5; clear b5; have q0 : w4.cell? ⟨w1.heap.size, 0, none⟩ = some (.int .i64 53) := K2.at 0; have q1 : w4.cell? ⟨w1.heap.size, 1, none⟩ = some (.int .i64 (-1074)) := K2.at 1; have q2 : w4.cell? ⟨w1.heap.size, 2, none⟩ = some (.int .i64 971) := K2.at 2; have q3 : w4.cell? ⟨w1.heap.size, 3, none⟩ = some (.int .i64 52) := K2.at 3)
        | (go_at_call 73; (with_reducible refine (P1 _).mono ?_); rintro x w9 ⟨rfl, rfl⟩)
        | (go_at_call 73; (with_reducible refine (P2 _).mono ?_); rintro x w9 ⟨rfl, rfl⟩)
        | (go_at_call 55; (with_reducible refine (G _).mono ?_); rintro x w4 ⟨rfl, b4⟩; replace K2 := K2.below b4 K2.lt; replace pr := bel pr b4; clear b4; have q0 : w4.cell? ⟨w1.heap.size, 0, none⟩ = some (.int .i64 53) := K2.at 0; have q1 : w4.cell? ⟨w1.heap.size, 1, none⟩ = some (.int .i64 (-1074)) := K2.at 1; have q2 : w4.cell? ⟨w1.heap.size, 2, none⟩ = some (.int .i64 971) := K2.at 2; have q3 : w4.cell? ⟨w1.heap.size, 3, none⟩ = some (.int .i64 52) := K2.at 3)
        | (go_at_call 55; (with_reducible refine (G _).mono ?_); rintro x w4 ⟨rfl, b4⟩; obtain ⟨b5, K2⟩ := var4 b4; clear b4; replace pr := bel pr b5; clear b5; have q0 : w4.cell? ⟨w1.heap.size, 0, none⟩ = some (.int .i64 53) := K2.at 0; have q1 : w4.cell? ⟨w1.heap.size, 1, none⟩ = some (.int .i64 (-1074)) := K2.at 1; have q2 : w4.cell? ⟨w1.heap.size, 2, none⟩ = some (.int .i64 971) := K2.at 2; have q3 : w4.cell? ⟨w1.heap.size, 3, none⟩ = some (.int .i64 52) := K2.at 3)
        | fail)
      go_ret
      exact ⟨rfl, pr⟩
    · simp only [if_true]
      go_enter Try.func30, Try.ntmps30
      go_wp2_with (first
        | (go_at_call 11; refine (Wide_any _).mono ?_; rintro x w1 ⟨rfl, b1⟩; have pr := b1; clear b1; have m0 := Blk.new w1 #[.int .i64 53, .int .i64 (-1074), .int .i64 971, .int .i64 52] 31; have q0 : (w1.alloc (.cells #[.int .i64 53, .int .i64 (-1074), .int .i64 971, .int .i64 52] 31)).cell? ⟨w1.heap.size, 0, none⟩ = some (.int .i64 53) := m0.at 0; have q1 : (w1.alloc (.cells #[.int .i64 53, .int .i64 (-1074), .int .i64 971, .int .i64 52] 31)).cell? ⟨w1.heap.size, 1, none⟩ = some (.int .i64 (-1074)) := m0.at 1; have q2 : (w1.alloc (.cells #[.int .i64 53, .int .i64 (-1074), .int .i64 971, .int .i64 52] 31)).cell? ⟨w1.heap.size, 2, none⟩ = some (.int .i64 971) := m0.at 2; have q3 : (w1.alloc (.cells #[.int .i64 53, .int .i64 (-1074), .int .i64 971, .int .i64 52] 31)).cell? ⟨w1.heap.size, 3, none⟩ = some (.int .i64 52) := m0.at 3; clear m0)
        | (go_at_call 62; (with_reducible refine (N1 _).mono ?_); rintro x w4 ⟨rfl, b4⟩; replace K2 := K2.below b4 K2.lt; replace pr := bel pr b4; clear b4; have q0 : w4.cell? ⟨w1.heap.size, 0, none⟩ = some (.int .i64 53) := K2.at 0; have q1 : w4.cell? ⟨w1.heap.size, 1, none⟩ = some (.int .i64 (-1074)) := K2.at 1; have q2 : w4.cell? ⟨w1.heap.size, 2, none⟩ = some (.int .i64 971) := K2.at 2; have q3 : w4.cell? ⟨w1.heap.size, 3, none⟩ = some (.int .i64 52) := K2.at 3)
        | (go_at_call 62; (with_reducible refine (N1 _).mono ?_); rintro x w4 ⟨rfl, b4⟩; obtain ⟨b5, K2⟩ := var4 b4; clear b4; replace pr := bel pr b5; clear b5; have q0 : w4.cell? ⟨w1.heap.size, 0, none⟩ = some (.int .i64 53) := K2.at 0; have q1 : w4.cell? ⟨w1.heap.size, 1, none⟩ = some (.int .i64 (-1074)) := K2.at 1; have q2 : w4.cell? ⟨w1.heap.size, 2, none⟩ = some (.int .i64 971) := K2.at 2; have q3 : w4.cell? ⟨w1.heap.size, 3, none⟩ = some (.int .i64 52) := K2.at 3)
        | (go_at_call 62; (with_reducible refine (N2 _).mono ?_); rintro x w4 ⟨rfl, b4⟩; replace K2 := K2.below b4 K2.lt; replace pr := bel pr b4; clear b4; have q0 : w4.cell? ⟨w1.heap.size, 0, none⟩ = some (.int .i64 53) := K2.at 0; have q1 : w4.cell? ⟨w1.heap.size, 1, none⟩ = some (.int .i64 (-1074)) := K2.at 1; have q2 : w4.cell? ⟨w1.heap.size, 2, none⟩ = some (.int .i64 971) := K2.at 2; have q3 : w4.cell? ⟨w1.heap.size, 3, none⟩ = some (.int .i64 52) := K2.at 3)
        | (go_at_call 62; (with_reducible refine (N2 _).mono ?_); rintro x w4 ⟨rfl, b4⟩; obtain ⟨b5, K2⟩ := var4 b4; clear b4; replace pr := bel pr b5; clear b5; have q0 : w4.cell? ⟨w1.heap.size, 0, none⟩ = some (.int .i64 53) := K2.at 0; have q1 : w4.cell? ⟨w1.heap.size, 1, none⟩ = some (.int .i64 (-1074)) := K2.at 1; have q2 : w4.cell? ⟨w1.heap.size, 2, none⟩ = some (.int .i64 971) := K2.at 2; have q3 : w4.cell? ⟨w1.heap.size, 3, none⟩ = some (.int .i64 52) := K2.at 3)
        | (go_at_call 73; (with_reducible refine (P1 _).mono ?_); rintro x w9 ⟨rfl, rfl⟩)
        | (go_at_call 73; (with_reducible refine (P2 _).mono ?_); rintro x w9 ⟨rfl, rfl⟩)
        | (go_at_call 55; (with_reducible refine (G _).mono ?_); rintro x w4 ⟨rfl, b4⟩; replace K2 := K2.below b4 K2.lt; replace pr := bel pr b4; clear b4; have q0 : w4.cell? ⟨w1.heap.size, 0, none⟩ = some (.int .i64 53) := K2.at 0; have q1 : w4.cell? ⟨w1.heap.size, 1, none⟩ = some (.int .i64 (-1074)) := K2.at 1; have q2 : w4.cell? ⟨w1.heap.size, 2, none⟩ = some (.int .i64 971) := K2.at 2; have q3 : w4.cell? ⟨w1.heap.size, 3, none⟩ = some (.int .i64 52) := K2.at 3)
        | (go_at_call 55; (with_reducible refine (G _).mono ?_); rintro x w4 ⟨rfl, b4⟩; obtain ⟨b5, K2⟩ := var4 b4; clear b4; replace pr := bel pr b5; clear b5; have q0 : w4.cell? ⟨w1.heap.size, 0, none⟩ = some (.int .i64 53) := K2.at 0; have q1 : w4.cell? ⟨w1.heap.size, 1, none⟩ = some (.int .i64 (-1074)) := K2.at 1; have q2 : w4.cell? ⟨w1.heap.size, 2, none⟩ = some (.int .i64 971) := K2.at 2; have q3 : w4.cell? ⟨w1.heap.size, 3, none⟩ = some (.int .i64 52) := K2.at 3)
        | fail)
      go_ret
      exact ⟨rfl, pr⟩
end Go.Proofs.Ytlngkonmalallaa

namespace Go.Proofs.Ytlngkonmalallaa
open Go.RowKit Tn

theorem ng_cases (n : Nat) (hn : n < 18446744073709551616) : (ng64 n = true ∧ n = 9223372036854775808 + rg64 n) ∨ (ng64 n = false ∧ n = rg64 n) := by
  have s : ng64 n = (n / 9223372036854775808 % 2 == 1) := rfl
  have r : rg64 n = n % 9223372036854775808 := rfl
  cases h : ng64 n
  · right
    rw [h] at s
    have := s.symm
    simp at this
    exact ⟨rfl, by omega⟩
  · left
    rw [h] at s
    have := s.symm
    simp at this
    exact ⟨rfl, by omega⟩
theorem place_bd (n : Nat) : -9223372036854775808 < place64 n ∧ place64 n < 9223372036854775808 := by
  have r := rg64_lt n
  unfold place64
  split <;> omega
theorem steps_place (n m : Nat) (hn : n < 18446744073709551616) (hm : m < 18446744073709551616) : steps64 n m = if place64 n ≤ place64 m then place64 m - place64 n else place64 n - place64 m := by
  unfold place64 steps64
  rcases ng_cases n hn with ⟨g1, _⟩ | ⟨g1, _⟩ <;> rcases ng_cases m hm with ⟨g2, _⟩ | ⟨g2, _⟩ <;> rw [g1, g2] <;> simp only [if_true, if_false, Bool.false_eq_true, Bool.true_eq_false]
  · rcases Nat.le_total (rg64 n) (rg64 m) with l | l
    · rw [Int.max_eq_right (by omega), Int.min_eq_left (by omega)]; split <;> omega
    · rw [Int.max_eq_left (by omega), Int.min_eq_right (by omega)]; split <;> omega
  · split <;> omega
  · split <;> omega
  · rcases Nat.le_total (rg64 n) (rg64 m) with l | l
    · rw [Int.max_eq_right (by omega), Int.min_eq_left (by omega)]; split <;> omega
    · rw [Int.max_eq_left (by omega), Int.min_eq_right (by omega)]; split <;> omega
theorem RSteps_any (n m : Nat) (hn : n < 18446744073709551616) (hm : m < 18446744073709551616) (w : World) :
    Calls Try.prog 34 #[.int .u64 n, .int .u64 m] w fun e w' => e = .returned (if (nan64 n || nan64 m) = true then .tuple #[.int .u64 0, .bool false] else .tuple #[.int .u64 (steps64 n m), .bool true]) ∧ Below w.heap.size w w' := by
  refine RSteps_walk n m _ _ (place64 n) (place64 m) _ _ _ (IsNone64 n hn) (IsNone64 m hm) (place_any n hn) (place_any m hm) rfl rfl ?_ ?_ w
  · intro c
    rw [IntKind.wrap_u64, IntKind.wrap_u64, IntKind.wrap_u64, ← Int.sub_emod, steps_place n m hn hm, if_pos c]
    have := place_bd n
    have := place_bd m
    omega
  · intro c
    rw [IntKind.wrap_u64, IntKind.wrap_u64, IntKind.wrap_u64, ← Int.sub_emod, steps_place n m hn hm, if_neg (by omega)]
    have := place_bd n
    have := place_bd m
    omega
theorem rord_cmp (n m : Nat) (hn : n < 18446744073709551616) (hm : m < 18446744073709551616) : rord (nan64 n) (nan64 m) (place64 n) (place64 m) ((n : Int) == (m : Int)) (ng64 n) = ord3 (rank64 n) (rank64 m) := by
  have r1 := rg64_lt n
  have r2 := rg64_lt m
  have k1 : nan64 n = false → rg64 n ≤ 9218868437227405312 := by unfold nan64; rw [decide_eq_false_iff_not]; omega
  have k2 : nan64 m = false → rg64 m ≤ 9218868437227405312 := by unfold nan64; rw [decide_eq_false_iff_not]; omega
  have q : ((n : Int) == (m : Int)) = decide (n = m) := by rw [Bool.eq_iff_iff, beq_iff_eq, decide_eq_true_iff]; omega
  rw [q]
  unfold rord ord3 rank64 place64
  cases t1 : nan64 n <;> cases t2 : nan64 m <;> simp only [if_true, if_false, Bool.false_eq_true]
  · have j1 := k1 t1
    have j2 := k2 t2
    rcases ng_cases n hn with ⟨g1, e1⟩ | ⟨g1, e1⟩ <;> rcases ng_cases m hm with ⟨g2, e2⟩ | ⟨g2, e2⟩ <;> rw [g1, g2] <;> simp only [if_true, if_false, Bool.false_eq_true, decide_eq_true_eq]
    all_goals
      repeat' split
      all_goals omega
  · have j1 := k1 t1
    rcases ng_cases n hn with ⟨g1, e1⟩ | ⟨g1, e1⟩ <;> rw [g1] <;> simp only [if_true, if_false, Bool.false_eq_true]
    all_goals
      repeat' split
      all_goals omega
  · have j2 := k2 t2
    rcases ng_cases m hm with ⟨g2, e2⟩ | ⟨g2, e2⟩ <;> rw [g2] <;> simp only [if_true, if_false, Bool.false_eq_true]
    all_goals
      repeat' split
      all_goals omega
  · simp
theorem ROrder_any (n m : Nat) (hn : n < 18446744073709551616) (hm : m < 18446744073709551616) (w : World) :
    Calls Try.prog 30 #[.int .u64 n, .int .u64 m] w fun e w' => e = .returned (.int .i64 (ord3 (rank64 n) (rank64 m))) ∧ Below w.heap.size w w' := by
  have H := ROrder_walk n m _ _ _ _ (place64 n) (place64 m) (IsNone64 n hn) (IsNone64 m hm) (place_any n hn) (place_any m hm) (Neg_w n (ng64 n) (hg2W n hn)) rfl w
  rw [rord_cmp n m hn hm] at H
  exact H
set_option maxRecDepth 100000 in
theorem RSame_any (n m : Nat) (hn : n < 18446744073709551616) (hm : m < 18446744073709551616) (w : World) :
    Calls Try.prog 32 #[.int .u64 n, .int .u64 m] w fun e w' => e = .returned (.bool (ord3 (rank64 n) (rank64 m) == 0)) ∧ Below w.heap.size w w' := by
  have C := ROrder_any n m hn hm
  generalize ord3 (rank64 n) (rank64 m) = c at *
  go_enter Try.func32, Try.ntmps32
  go_wp2_with (first
    | (go_at_call 30; refine (C _).mono ?_; rintro x w1 ⟨rfl, b1⟩)
    | fail)
  go_ret
  exact ⟨rfl, b1⟩
end Go.Proofs.Ytlngkonmalallaa

namespace Go.Proofs.Ytlngkonmalallaa
open Go.RowKit Tn

theorem quo_one {X b m l q : Int} (h1 : X = m * b + q) (q0 : 0 ≤ q) (q1 : q < b) (h2 : X = l * b) : m = l ∧ q = 0 := by
  have b0 : 0 < b := by omega
  have a := L.emod_of h1 q0 q1 b0
  have c := L.emod_of (a := X) (b := b) (q := l) (r := 0) (by rw [h2]; omega) (by omega) b0 b0
  omega
/-- The exact number of a float is rounded to that float. -/
theorem rounded_own (n : Nat) (hn : n < 18446744073709551616) (h : rg64 n < 9218868437227405312) (way : Int) (v : Value) (w : World) (hv : L.IsQ w v (mkRat (vl64 n) (2 ^ 1074))) :
    Calls Try.prog 67 #[szW, v, .int .i64 way] w fun e w' => e = .returned (.tuple #[.int .u64 (if rg64 n = 0 then 0 else (n : Int)), .bool false]) ∧ Below w.heap.size w w' := by
  have z : 0 < (2 : Nat) ^ 1074 := Nat.two_pow_pos 1074
  have Q := vl_qs n h
  have X := L.cross (vl64 n) z
  have NG := L.neg_mk (vl64 n) z
  have dp := L.den_pos' (mkRat (vl64 n) (2 ^ 1074))
  obtain ⟨ns, ds, a1, a2, c1, c2, rfl, h1, n1, v1, h2, n2, v2⟩ := hv
  have l1 : ns.length ≤ 100 := L.len_of_lt h1.1 n1 (by rw [v1]; exact Q.1)
  have l2 : ds.length ≤ 100 := L.len_of_lt h2.1 n2 (by rw [v2]; exact Q.2)
  have ab : ((vl64 n).natAbs : Int) = mag (rg64 n) := by rw [vl_sgI]; exact L.sgI_abs _ (by omega)
  have XA : ((mkRat (vl64 n) (2 ^ 1074)).num.natAbs : Int) * 2 ^ 1074 = mag (rg64 n) * ((mkRat (vl64 n) (2 ^ 1074)).den : Int) := by
    have k := congrArg (fun y : Int => (y.natAbs : Int)) X
    simp only [Int.natAbs_mul, Int.natCast_mul] at k
    rw [ab, Int.natAbs_natCast, Int.natAbs_natCast, two74] at k
    exact k
  clear X Q
  rw [NG] at *
  clear NG
  generalize ((mkRat (vl64 n) (2 ^ 1074)).num.natAbs : Int) = N at *
  generalize ((mkRat (vl64 n) (2 ^ 1074)).den : Int) = D at *
  by_cases c : rg64 n = 0
  · rw [if_pos c]
    rw [c, mag_zero, show ((0 : Nat) : Int) = 0 from rfl, Int.zero_mul] at XA
    have p := L.two_pow_pos 1074
    have N0 : N = 0 := by
      rcases Int.mul_eq_zero.1 XA with k | k
      · exact k
      · omega
    have e : ns.length = 0 := L.rest_none h1.1 n1 (by omega)
    rw [e]
    exact L.Rounded_zero 53 (-1074) 971 52 _ a1 a2 c1 ds.length c2 way w
  · rw [if_neg c]
    obtain ⟨l, E, l0, lt, e0, e1, st, hm, hl⟩ := mag_parts (rg64 n) (by omega) h
    rw [hm] at XA
    have hc : N * 2 ^ (-E).toNat = D * (l * 2 ^ E.toNat) := by
      by_cases k : 0 ≤ E
      · rw [show (-E).toNat = 0 from by omega, show (E + 1074).toNat = E.toNat + 1074 from by omega, Int.pow_add] at *
        refine Int.eq_of_mul_eq_mul_right (a := 2 ^ 1074) (by have := L.two_pow_pos 1074; omega) ?_
        rw [show (2 : Int) ^ 0 = 1 from rfl, Int.mul_one, XA]
        grind
      · rw [show E.toNat = 0 from by omega]
        refine Int.eq_of_mul_eq_mul_right (a := 2 ^ (E + 1074).toNat) (by have := L.two_pow_pos (E + 1074).toNat; omega) ?_
        rw [Int.mul_assoc, ← Int.pow_add, show (-E).toNat + (E + 1074).toNat = 1074 from by omega, XA, show (2 : Int) ^ 0 = 1 from rfl]
        grind
    have N0 : 0 < N := by
      have a : 0 < D * (l * 2 ^ E.toNat) := Int.mul_pos dp (Int.mul_pos l0 (L.two_pow_pos _))
      rw [← hc] at a
      have p := L.two_pow_pos (-E).toNat
      by_cases k : 0 < N
      · exact k
      · have := Int.mul_le_mul_of_nonneg_right (show N ≤ 0 by omega) (Int.le_of_lt p)
        omega
    have neg : decide (vl64 n < 0) = ng64 n := by
      have m0 : (0 : Int) < mag (rg64 n) := by have := mag_lt (show 0 < rg64 n by omega); rw [mag_zero] at this; omega
      unfold vl64
      cases ng64 n
      · rw [if_neg (by simp)]; exact decide_eq_false (by omega)
      · rw [if_pos rfl]; exact decide_eq_true (by omega)
    rw [neg]
    refine (L.Rounded_w_any (ng64 n) _ _ ns ds way w h1 h2 n1 n2 (by omega) (by omega) (by omega) (by omega)).mono ?_
    rintro x w' ⟨e, m, q, F, m0, m1, ee, es, rfl, b⟩
    rw [v1, v2] at F
    refine ⟨?_, b⟩
    have ec := L.can_w l0 dp F hc m0 m1 ee es
    have eE : e = E := by
      rw [ec]
      unfold L.canW
      by_cases k : 4503599627370496 ≤ l
      · rw [L.bl_53 k lt]; omega
      · have k2 := L.bl_52 (show 0 ≤ l by omega) (show l < 4503599627370496 by omega)
        have k3 := st (by omega)
        omega
    clear ec
    subst eE
    obtain ⟨f1, f2, f3⟩ := F
    have key := quo_one f1 f2 f3 (l := l) (by rw [hc]; grind)
    obtain ⟨rfl, rfl⟩ := key
    have r1 : L.rnd (ng64 n) way m 0 (Tl.val ds * 2 ^ e.toNat) = m := by unfold L.rnd; rw [if_neg (by simp)]
    have la : L.laidW (ng64 n) m e way = ((n : Int), false) := by
      unfold L.laidW L.endW
      rw [if_neg (by omega), if_neg (by omega), hl]
      unfold L.sgnW
      rcases ng_cases n hn with ⟨k1, k2⟩ | ⟨k1, k2⟩
      · rw [k1, if_pos rfl]; congr 1; omega
      · rw [k1, if_neg (by simp)]; congr 1; omega
    rw [r1, la]
end Go.Proofs.Ytlngkonmalallaa
