import Derived.Test.YtiobnojcmeeikaaGreatDoorPart25
import Derived.Test.YtiobnojcmeeikaaGreatDoorPart04
import Derived.WalkLawsBesides
import Derived.Deep.DeepCutAuto
import Derived.Deep.CutBlock

namespace Go.Proofs.YtiobnojcmeeikaaGreatDoor
open Go.RowKit Tn

theorem wrap_u64 (x : Int) : IntKind.u64.wrap x = x % 18446744073709551616 := by simp [IntKind.wrap, IntKind.bits, IntKind.signed]
theorem and32 (x : Int) (h0 : 0 ≤ x) (h1 : x < 18446744073709551616) : bits .and .u64 x 4294967295 = x % 4294967296 := by
  rw [u64_and x 4294967295 h0 h1 (by decide) (by decide)]
  obtain ⟨n, rfl⟩ := Int.eq_ofNat_of_zero_le h0
  have := Nat.and_two_pow_sub_one_eq_mod n 32
  simp only [Int.toNat_natCast]
  have e : (4294967295 : Int).toNat = 2 ^ 32 - 1 := rfl
  rw [e, this]; rfl
theorem two_pos (s : Nat) : (0 : Int) < 2 ^ s := Int.pow_pos (by decide)
theorem or_shift (s : Nat) (a b : Int) (a0 : 0 ≤ a) (a1 : a * 2 ^ s < 18446744073709551616) (b0 : 0 ≤ b) (b1 : b < 2 ^ s) (b2 : b < 18446744073709551616) : bits .or .u64 (a * 2 ^ s) b = a * 2 ^ s + b := by
  have p := two_pos s
  rw [u64_or _ _ (Int.mul_nonneg a0 (Int.le_of_lt p)) a1 b0 b2]
  obtain ⟨m, rfl⟩ := Int.eq_ofNat_of_zero_le a0
  obtain ⟨n, rfl⟩ := Int.eq_ofNat_of_zero_le b0
  have h : n < 2 ^ s := by
    have h3 : ((n : Nat) : Int) < ((2 ^ s : Nat) : Int) := by rw [Int.natCast_pow]; exact b1
    exact Int.ofNat_lt.1 h3
  have e := Nat.two_pow_add_eq_or_of_lt h m
  have e1 : ((m : Int) * 2 ^ s).toNat = 2 ^ s * m := by
    have : (m : Int) * 2 ^ s = ((2 ^ s * m : Nat) : Int) := by rw [Int.natCast_mul, Int.natCast_pow, Int.mul_comm]; rfl
    rw [this]; rfl
  rw [e1, Int.toNat_natCast, ← e, Int.natCast_add, Int.natCast_mul, Int.natCast_pow, Int.mul_comm]; rfl
theorem pow_split {s : Nat} (h : s ≤ 64) : (2 : Int) ^ s * 2 ^ (64 - s) = 18446744073709551616 := by
  rw [← Int.pow_add, Nat.add_sub_cancel' h]; rfl
/-- What is shifted out of a word at its top. -/
theorem shift_out (lo : Int) (s : Nat) (h : s ≤ 64) : lo * 2 ^ s / 18446744073709551616 = lo / 2 ^ (64 - s) := by
  rw [← pow_split h, Int.mul_comm lo, Int.mul_ediv_mul_of_pos _ _ (two_pos s)]
theorem shift_out_lt (lo : Int) (s : Nat) (h : s ≤ 64) (l0 : 0 ≤ lo) (l1 : lo < 18446744073709551616) : 0 ≤ lo / 2 ^ (64 - s) ∧ lo / 2 ^ (64 - s) < 2 ^ s := by
  refine ⟨Int.ediv_nonneg l0 (Int.le_of_lt (two_pos _)), ?_⟩
  refine Int.ediv_lt_of_lt_mul (two_pos _) ?_
  rw [pow_split h]; exact l1
/-- The divisor, shifted so that its first bit is set. -/
theorem norm_bd (y : Int) (s : Nat) (y0 : 0 < y) (y1 : y < 18446744073709551616) (hs : (s : Int) = 64 - (Lib.bitLen y.toNat : Int)) : s ≤ 63 ∧ 9223372036854775808 ≤ y * 2 ^ s ∧ y * 2 ^ s < 18446744073709551616 := by
  have hb := bitLen_bd y y0 y1
  have h1 : s = 64 - Lib.bitLen y.toNat := by omega
  have p := two_pos s
  refine ⟨by omega, ?_, ?_⟩
  · have := Int.mul_le_mul_of_nonneg_right hb.2.2.1 (Int.le_of_lt p)
    rw [← Int.pow_add, show Lib.bitLen y.toNat - 1 + s = 63 from by omega] at this
    exact this
  · have := Int.mul_lt_mul_of_pos_right hb.2.2.2 p
    rw [← Int.pow_add, show Lib.bitLen y.toNat + s = 64 from by omega] at this
    exact this

/-- One digit of the quotient: its guess g by the first digit, and what that leaves. -/
structure Est (b v1 v0 uh u0 g r : Int) : Prop where
  sum : g * v1 + r = uh
  ge : (uh * b + u0) / (v1 * b + v0) ≤ g
  r0 : 0 ≤ r
  r1 : r < b
  g0 : 0 ≤ g
  g1 : g ≤ b + 1
theorem Est.start {b v1 v0 uh u0 : Int} (hb : b = 4294967296) (h1 : 2147483648 ≤ v1) (h1' : v1 < b) (hv0 : 0 ≤ v0) (hv0' : v0 < b) (hu : 0 ≤ u0) (hu0 : u0 < b) (hh : 0 ≤ uh) (hlt : uh < v1 * b + v0) : Est b v1 v0 uh u0 (uh / v1) (uh - uh / v1 * v1) := by
  have hv : 0 < v1 * b + v0 := by have := Int.mul_nonneg (show 0 ≤ v1 by omega) (show 0 ≤ b by omega); have := Int.mul_le_mul_of_nonneg_right (show 1 ≤ v1 by omega) (show 0 ≤ b by omega); omega
  have e := Int.emod_add_mul_ediv uh v1
  have m0 := Int.emod_nonneg uh (show v1 ≠ 0 by omega)
  have m1 := Int.emod_lt_of_pos uh (show 0 < v1 by omega)
  have c : uh / v1 * v1 = v1 * (uh / v1) := Int.mul_comm _ _
  refine ⟨by omega, ?_, by omega, by omega, Int.ediv_nonneg hh (by omega), ?_⟩
  · refine est_start (by omega) (by omega) hv0 hu0 (Int.ediv_nonneg (by have := Int.mul_nonneg hh (show 0 ≤ b by omega); omega) (by omega)) ?_
    exact quo_le hv
  · have h3 : uh / v1 < b + 2 := by
      refine Int.ediv_lt_of_lt_mul (by omega) ?_
      have : (b + 2) * v1 = v1 * b + 2 * v1 := by grind
      omega
    omega
theorem Est.down {b v1 v0 uh u0 g r : Int} (h : Est b v1 v0 uh u0 g r) (hb : b = 4294967296) (h1 : 2147483648 ≤ v1) (h1' : v1 < b) (hv0 : 0 ≤ v0) (hu0 : 0 ≤ u0) (hh : uh < v1 * b + v0) (hlt' : u0 < b) (hc : b ≤ g ∨ b * r + u0 < g * v0) :
    (uh * b + u0) / (v1 * b + v0) ≤ g - 1 ∧ (g - 1) * v1 + (r + v1) = uh ∧ 1 ≤ g := by
  have hv : 0 < v1 * b + v0 := by have := Int.mul_le_mul_of_nonneg_right (show 1 ≤ v1 by omega) (show 0 ≤ b by omega); omega
  have hge : (uh * b + u0) / (v1 * b + v0) ≤ g - 1 := by
    rcases hc with hc | hc
    · have : (uh * b + u0) / (v1 * b + v0) < b := by
        refine Int.ediv_lt_of_lt_mul hv ?_
        have := Int.mul_le_mul_of_nonneg_right (show uh + 1 ≤ v1 * b + v0 by omega) (show 0 ≤ b by omega)
        grind
      omega
    · exact est_down hv h.sum (quo_le hv) hc
  have hq : 0 ≤ (uh * b + u0) / (v1 * b + v0) := by
    have hu : 0 ≤ uh := by have := h.sum; have := Int.mul_nonneg h.g0 (show 0 ≤ v1 by omega); have := h.r0; omega
    exact Int.ediv_nonneg (by have := Int.mul_nonneg hu (show 0 ≤ b by omega); omega) (by omega)
  refine ⟨hge, by have := h.sum; grind, by omega⟩
theorem Est.next {b v1 v0 uh u0 g r : Int} (h : Est b v1 v0 uh u0 g r) (hd : (uh * b + u0) / (v1 * b + v0) ≤ g - 1 ∧ (g - 1) * v1 + (r + v1) = uh ∧ 1 ≤ g) (h1 : 0 ≤ v1) (hr : r + v1 < b) : Est b v1 v0 uh u0 (g - 1) (r + v1) :=
  ⟨hd.2.1, hd.1, by have := h.r0; omega, hr, by omega, by have := h.g1; omega⟩
theorem Est.isBrk {b v1 v0 uh u0 g r : Int} (h : Est b v1 v0 uh u0 g r) (hd : (uh * b + u0) / (v1 * b + v0) ≤ g - 1 ∧ (g - 1) * v1 + (r + v1) = uh ∧ 1 ≤ g) (hb : b = 4294967296) (h1 : 2147483648 ≤ v1) (hv0 : 0 ≤ v0) (hv0' : v0 < b) (hu0 : 0 ≤ u0) (hr : b ≤ r + v1) : g - 1 = (uh * b + u0) / (v1 * b + v0) := by
  have hv : 0 < v1 * b + v0 := by have := Int.mul_le_mul_of_nonneg_right (show 1 ≤ v1 by omega) (show 0 ≤ b by omega); omega
  refine quo_of hv rfl hd.1 (est_fits hd.2.1 ?_)
  have a1 := Int.mul_le_mul_of_nonneg_left (show v0 ≤ b - 1 by omega) (show 0 ≤ g - 1 by omega)
  have a2 := Int.mul_le_mul_of_nonneg_right (show g - 1 ≤ b by have := h.g1; omega) (show 0 ≤ b - 1 by omega)
  have a3 := Int.mul_le_mul_of_nonneg_left hr (show 0 ≤ b by omega)
  have : b * (b - 1) = b * b - b := by grind
  omega
theorem Est.done {b v1 v0 uh u0 g r : Int} (h : Est b v1 v0 uh u0 g r) (hb : 0 < b) (h1 : 0 < v1) (hv0 : 0 ≤ v0) (hc : g * v0 ≤ b * r + u0) : g = (uh * b + u0) / (v1 * b + v0) := by
  have hv : 0 < v1 * b + v0 := by have := Int.mul_le_mul_of_nonneg_right (show 1 ≤ v1 by omega) (show 0 ≤ b by omega); omega
  exact quo_of hv rfl h.ge (est_fits h.sum hc)
end Go.Proofs.YtiobnojcmeeikaaGreatDoor

namespace Go.Proofs.YtiobnojcmeeikaaGreatDoor
open Go.RowKit Tn

set_option maxRecDepth 100000 in
set_option maxHeartbeats 3200000 in
theorem div64_core (hi lo y : Int) (w : World) (h0 : 0 < hi) (h1 : hi < y) (y1 : y < 18446744073709551616) (s : Nat) (hs : (s : Int) = 64 - (Lib.bitLen y.toNat : Int)) (s1 : s ≤ 63)
    (Y v1 v0 uh ul u1 u0 Q1 R1 Q0 R0 : Int) (r1 : IntKind.u64.wrap (y * 2 ^ s) = Y) (r2 : Y / 4294967296 = v1) (r3 : bits .and .u64 Y 4294967295 = v0) (r4 : bits .or .u64 (IntKind.u64.wrap (hi * 2 ^ s)) (lo / 2 ^ (64 - s)) = uh)
    (r5 : IntKind.u64.wrap (lo * 2 ^ s) = ul) (r6 : ul / 4294967296 = u1) (r7 : bits .and .u64 ul 4294967295 = u0)
    (a1 : 2147483648 ≤ v1) (a2 : v1 < 4294967296) (a3 : 0 ≤ v0) (a4 : v0 < 4294967296) (a5 : 0 ≤ u1) (a6 : u1 < 4294967296) (a7 : 0 ≤ u0) (a8 : u0 < 4294967296) (a9 : 0 ≤ uh) (a10 : uh < v1 * 4294967296 + v0) (a11 : Y = v1 * 4294967296 + v0) (a12 : uh < 18446744073709551616)
    (d1 : Q1 = (uh * 4294967296 + u1) / Y) (d3 : Q0 = (R1 * 4294967296 + u0) / Y)
    (e1 : IntKind.u64.wrap (uh / v1 * v1) = uh / v1 * v1) (e2 : IntKind.u64.wrap (uh - uh / v1 * v1) = uh - uh / v1 * v1)
    (e3 : IntKind.u64.wrap (IntKind.u64.wrap (IntKind.u64.wrap (uh * 4294967296) + u1) - IntKind.u64.wrap (Q1 * Y)) = R1)
    (e4 : IntKind.u64.wrap (R1 / v1 * v1) = R1 / v1 * v1) (e5 : IntKind.u64.wrap (R1 - R1 / v1 * v1) = R1 - R1 / v1 * v1)
    (e6 : IntKind.u64.wrap (IntKind.u64.wrap (IntKind.u64.wrap (R1 * 4294967296) + u0) - IntKind.u64.wrap (Q0 * Y)) = R0)
    (e7 : 0 ≤ Q1) (e8 : Q1 < 4294967296) (e9 : 0 ≤ Q0) (e10 : Q0 < 4294967296) (e11 : 0 ≤ R1) (e12 : R1 < v1 * 4294967296 + v0) (e13 : R1 < 18446744073709551616) :
    Calls Tryz.prog 90 #[.int .u64 hi, .int .u64 lo, .int .u64 y] w fun e w' => e = .returned (.tuple #[.int .u64 (Q1 * 4294967296 + Q0), .int .u64 (R0 / 2 ^ s)]) ∧ w' = w := by
  have t1 : (y == 0) = false := by rw [beq_eq_false_iff_ne]; omega
  have t2 : (hi == 0) = false := by rw [beq_eq_false_iff_ne]; omega
  have HS : Hid ((64 - (Lib.bitLen y.toNat : Int)) = (s : Int)) := hs.symm
  have S1 : Hid (Est 4294967296 v1 v0 uh u1 (uh / v1) (uh - uh / v1 * v1)) := Est.start rfl a1 a2 a3 a4 a5 a6 a9 a10
  have S2 : Hid (Est 4294967296 v1 v0 R1 u0 (R1 / v1) (R1 - R1 / v1 * v1)) := Est.start rfl a1 a2 a3 a4 a7 a8 e11 e12
  have D1 : Hid (Q1 = (uh * 4294967296 + u1) / (v1 * 4294967296 + v0)) := by rw [d1, a11]; exact rfl
  have D3 : Hid (Q0 = (R1 * 4294967296 + u0) / (v1 * 4294967296 + v0)) := by rw [d3, a11]; exact rfl
  have H10 : Hid (uh < v1 * 4294967296 + v0) := a10
  have H12 : Hid (R1 < v1 * 4294967296 + v0) := e12
  have n1 : ¬ v1 = 0 := by omega
  clear hs a10 a11 d1 d3 e12
  go_enter Tryz.func90, Tryz.ntmps90
  go_upto_block 0 with (go_at_call 57; refine (Tryz.bits_LeadingZeros64 _ _ (by omega) (by omega)).mono ?_; rintro e w' ⟨rfl, hw'⟩; have hw2 := hw'.symm; subst hw2; rw [HS.out])
  go_cut [15, 16] (fun a _ wc => a = .int .u64 Q1 ∧ wc = w)
  case first =>
    go_wp2_with fail
    go_loop [15, 16] (fun a b => ∃ g r : Int, a = .int .u64 g ∧ b = .int .u64 r ∧ Est 4294967296 v1 v0 uh u1 g r) (fun a _ => (intOf a).toNat)
    case atStart => exact ⟨_, _, rfl, rfl, S1.out⟩
    case round =>
      obtain ⟨g, r, rfl, rfl, hE⟩ := hrel
      have g0 := hE.g0; have g1 := hE.g1; have q0 := hE.r0; have q1 := hE.r1
      by_cases hg : 4294967296 ≤ g
      · have hd : Hid _ := hE.down rfl a1 a2 a3 a5 H10.out a6 (Or.inl hg)
        by_cases hr : r + v1 < 4294967296
        · go_wp2
          go_round
          case rel => exact ⟨g - 1, r + v1, rfl, rfl, hE.next hd.out (by omega) hr⟩
          case measure => simp [intOf]; omega
        · go_wp2
          go_meet
          case rel => exact ⟨by rw [D1.out]; exact congrArg _ (hE.isBrk hd.out rfl a1 a3 a4 a5 (by omega)), rfl⟩
      · have m := mul_hi (M := 4294967295) g0 (by omega) a3 (by omega)
        have p1 : IntKind.u64.wrap (g * v0) = g * v0 := by rw [wrap_u64]; omega
        by_cases hc : 4294967296 * r + u1 < g * v0
        · have hd : Hid _ := hE.down rfl a1 a2 a3 a5 H10.out a6 (Or.inr hc)
          have hg1 : 1 ≤ g := hd.out.2.2
          by_cases hr : r + v1 < 4294967296
          · go_wp2
            go_round
            case rel => exact ⟨g - 1, r + v1, rfl, rfl, hE.next hd.out (by omega) hr⟩
            case measure => simp [intOf]; omega
          · go_wp2
            go_meet
            case rel => exact ⟨by rw [D1.out]; exact congrArg _ (hE.isBrk hd.out rfl a1 a3 a4 a5 (by omega)), rfl⟩
        · go_wp2
          go_meet
          case rel => exact ⟨by rw [D1.out]; exact congrArg _ (hE.done (by omega) (by omega) a3 (by omega)), rfl⟩
  case rest =>
    obtain ⟨rfl, rfl⟩ := hcut
    go_upto_block 2 with fail
    go_cut [18, 16] (fun a _ wd => a = .int .u64 Q0 ∧ wd = wc)
    case first =>
      go_wp2_with fail
      go_loop [18, 16] (fun a b => ∃ g r : Int, a = .int .u64 g ∧ b = .int .u64 r ∧ Est 4294967296 v1 v0 R1 u0 g r) (fun a _ => (intOf a).toNat)
      case atStart => exact ⟨_, _, rfl, rfl, S2.out⟩
      case round =>
        obtain ⟨g, r, rfl, rfl, hE⟩ := hrel
        have g0 := hE.g0; have g1 := hE.g1; have q0 := hE.r0; have q1 := hE.r1
        by_cases hg : 4294967296 ≤ g
        · have hd : Hid _ := hE.down rfl a1 a2 a3 a7 H12.out a8 (Or.inl hg)
          by_cases hr : r + v1 < 4294967296
          · go_wp2
            go_round
            case rel => exact ⟨g - 1, r + v1, rfl, rfl, hE.next hd.out (by omega) hr⟩
            case measure => simp [intOf]; omega
          · go_wp2
            go_meet
            case rel => exact ⟨by rw [D3.out]; exact congrArg _ (hE.isBrk hd.out rfl a1 a3 a4 a7 (by omega)), rfl⟩
        · have m := mul_hi (M := 4294967295) g0 (by omega) a3 (by omega)
          have p1 : IntKind.u64.wrap (g * v0) = g * v0 := by rw [wrap_u64]; omega
          by_cases hc : 4294967296 * r + u0 < g * v0
          · have hd : Hid _ := hE.down rfl a1 a2 a3 a7 H12.out a8 (Or.inr hc)
            have hg1 : 1 ≤ g := hd.out.2.2
            by_cases hr : r + v1 < 4294967296
            · go_wp2
              go_round
              case rel => exact ⟨g - 1, r + v1, rfl, rfl, hE.next hd.out (by omega) hr⟩
              case measure => simp [intOf]; omega
            · go_wp2
              go_meet
              case rel => exact ⟨by rw [D3.out]; exact congrArg _ (hE.isBrk hd.out rfl a1 a3 a4 a7 (by omega)), rfl⟩
          · go_wp2
            go_meet
            case rel => exact ⟨by rw [D3.out]; exact congrArg _ (hE.done (by omega) (by omega) a3 (by omega)), rfl⟩
    case rest =>
      obtain ⟨rfl, rfl⟩ := hcut
      go_wp2
      go_ret2
      exact ⟨rfl, rfl⟩

set_option maxRecDepth 100000 in
theorem div64_small (lo y : Int) (w : World) (h1 : 0 < y) (l0 : 0 ≤ lo) (l1 : lo < 18446744073709551616) :
    Calls Tryz.prog 90 #[.int .u64 0, .int .u64 lo, .int .u64 y] w fun e w' => e = .returned (.tuple #[.int .u64 (lo / y), .int .u64 (lo % y)]) ∧ ∃ n, w' = w.drewN n := by
  have t1 : (y == 0) = false := by rw [beq_eq_false_iff_ne]; omega
  have t2 : ¬ y ≤ 0 := by omega
  have n1 : ¬ y = 0 := by omega
  go_enter Tryz.func90, Tryz.ntmps90
  go_wp2
  go_quiet (fail)
  go_wp2
  go_ret2
  exact ⟨rfl, _, rfl⟩
end Go.Proofs.YtiobnojcmeeikaaGreatDoor

namespace Go.Proofs.YtiobnojcmeeikaaGreatDoor
open Go.RowKit Tn

theorem divmod_eq (u v : Int) : u = u / v * v + u % v := by
  have := Int.emod_add_mul_ediv u v; rw [Int.mul_comm v] at this; omega
theorem step_wrap {A P R u : Int} (h : A + u = P + R) (r0 : 0 ≤ R) (r1 : R < 18446744073709551616) : IntKind.u64.wrap (IntKind.u64.wrap (IntKind.u64.wrap A + u) - IntKind.u64.wrap P) = R := by
  simp only [wrap_u64]; omega
theorem le_wrap {A : Int} (h0 : 0 ≤ A) (h1 : A < 18446744073709551616) : IntKind.u64.wrap A = A := by rw [wrap_u64]; omega
theorem part_le {u v : Int} (hu : 0 ≤ u) (hv : 0 < v) : 0 ≤ u / v * v ∧ u / v * v ≤ u := ⟨Int.mul_nonneg (Int.ediv_nonneg hu (by omega)) (by omega), quo_le hv⟩

/-- math/bits.Div64. -/
theorem Div64_any (hi lo y : Int) (w : World) (h0 : 0 ≤ hi) (h1 : hi < y) (l0 : 0 ≤ lo) (l1 : lo < 18446744073709551616) (y1 : y < 18446744073709551616) :
    Calls Tryz.prog 90 #[.int .u64 hi, .int .u64 lo, .int .u64 y] w fun e w' => ∃ q r, e = .returned (.tuple #[.int .u64 q, .int .u64 r]) ∧ q * y + r = hi * 18446744073709551616 + lo ∧ 0 ≤ r ∧ r < y ∧ 0 ≤ q ∧ q < 18446744073709551616 ∧ ∃ n, w' = w.drewN n := by
  by_cases hz : hi = 0
  · subst hz
    refine (div64_small lo y w h1 l0 l1).mono ?_
    rintro e w' ⟨rfl, n, rfl⟩
    have e := Int.emod_add_mul_ediv lo y
    refine ⟨_, _, rfl, by rw [Int.mul_comm]; omega, Int.emod_nonneg _ (by omega), Int.emod_lt_of_pos _ h1, Int.ediv_nonneg l0 (by omega), ?_, n, rfl⟩
    exact Int.lt_of_le_of_lt (Int.ediv_le_self _ l0) l1
  · obtain ⟨s, hs⟩ : ∃ s : Nat, (s : Int) = 64 - (Lib.bitLen y.toNat : Int) := ⟨64 - Lib.bitLen y.toNat, by have := bitLen_bd y (by omega) y1; omega⟩
    obtain ⟨s1, n1, n2⟩ := norm_bd y s (by omega) y1 hs
    have p := two_pos s
    have so := shift_out_lt lo s (by omega) l0 l1
    have se := shift_out lo s (by omega)
    obtain ⟨Y, hY⟩ : ∃ Y, Y = y * 2 ^ s := ⟨_, rfl⟩
    obtain ⟨T, hT⟩ : ∃ T : Int, T = lo / 2 ^ (64 - s) := ⟨_, rfl⟩
    obtain ⟨A, hA⟩ : ∃ A : Int, A = hi * 2 ^ s := ⟨_, rfl⟩
    obtain ⟨L, hL⟩ : ∃ L : Int, L = lo * 2 ^ s := ⟨_, rfl⟩
    have hA0 : 0 ≤ A := by rw [hA]; exact Int.mul_nonneg h0 (by omega)
    have hAY : A + 2 ^ s ≤ Y := by
      have := Int.mul_le_mul_of_nonneg_right (show hi + 1 ≤ y by omega) (Int.le_of_lt p)
      rw [hA, hY]; grind
    rw [← hT] at so se
    rw [← hL] at se
    rw [← hY] at n1 n2
    have hL0 : 0 ≤ L := by rw [hL]; exact Int.mul_nonneg l0 (by omega)
    have e1 := part_le (u := A + T) (v := Y / 4294967296) (by omega) (by omega)
    have dY : Y = Y / 4294967296 * 4294967296 + Y % 4294967296 := by omega
    obtain ⟨Q1, hQ1⟩ : ∃ Q1, Q1 = ((A + T) * 4294967296 + L % 18446744073709551616 / 4294967296) / Y := ⟨_, rfl⟩
    obtain ⟨R1, hR1⟩ : ∃ R1, R1 = ((A + T) * 4294967296 + L % 18446744073709551616 / 4294967296) % Y := ⟨_, rfl⟩
    obtain ⟨Q0, hQ0⟩ : ∃ Q0, Q0 = (R1 * 4294967296 + L % 18446744073709551616 % 4294967296) / Y := ⟨_, rfl⟩
    obtain ⟨R0, hR0⟩ : ∃ R0, R0 = (R1 * 4294967296 + L % 18446744073709551616 % 4294967296) % Y := ⟨_, rfl⟩
    have k1 : (A + T) * 4294967296 + L % 18446744073709551616 / 4294967296 = Q1 * Y + R1 := by rw [hQ1, hR1]; exact divmod_eq _ _
    have k2 : R1 * 4294967296 + L % 18446744073709551616 % 4294967296 = Q0 * Y + R0 := by rw [hQ0, hR0]; exact divmod_eq _ _
    have b1 : 0 ≤ R1 ∧ R1 < Y := by rw [hR1]; exact ⟨Int.emod_nonneg _ (by omega), Int.emod_lt_of_pos _ (by omega)⟩
    have b2 : 0 ≤ R0 ∧ R0 < Y := by rw [hR0]; exact ⟨Int.emod_nonneg _ (by omega), Int.emod_lt_of_pos _ (by omega)⟩
    have b3 : 0 ≤ Q1 := by rw [hQ1]; exact Int.ediv_nonneg (by omega) (by omega)
    have b4 : 0 ≤ Q0 := by rw [hQ0]; exact Int.ediv_nonneg (by omega) (by omega)
    have b5 : Q1 < 4294967296 := by
      rw [hQ1]; refine Int.ediv_lt_of_lt_mul (by omega) ?_; omega
    have b6 : Q0 < 4294967296 := by
      rw [hQ0]; refine Int.ediv_lt_of_lt_mul (by omega) ?_; omega
    have e4 := part_le (u := R1) (v := Y / 4294967296) b1.1 (by omega)
    have wA : IntKind.u64.wrap (hi * 2 ^ s) = hi * 2 ^ s := by rw [← hA]; exact le_wrap hA0 (by omega)
    refine (div64_core hi lo y w (by omega) h1 y1 s hs s1 Y (Y / 4294967296) (Y % 4294967296) (A + T) (L % 18446744073709551616) (L % 18446744073709551616 / 4294967296) (L % 18446744073709551616 % 4294967296) Q1 R1 Q0 R0
      (by rw [← hY]; exact le_wrap (by omega) n2) rfl (and32 Y (by omega) n2) (by rw [wA, ← hT, or_shift s hi T h0 (by rw [← hA]; omega) so.1 so.2 (by omega), hA]) (by rw [← hL, wrap_u64]) rfl (and32 _ (by omega) (by omega))
      (by omega) (by omega) (by omega) (by omega) (by omega) (by omega) (by omega) (by omega) (by omega) (by omega) dY (by omega) hQ1 hQ0
      (le_wrap e1.1 (by omega)) (le_wrap (by omega) (by omega)) (step_wrap k1 b1.1 (by omega)) (le_wrap e4.1 (by omega)) (le_wrap (by omega) (by omega)) (step_wrap k2 b2.1 (by omega))
      b3 b5 b4 b6 b1.1 (by omega) (by omega)).mono ?_
    rintro e w' ⟨rfl, hw'⟩
    have main : (hi * 18446744073709551616 + lo) * 2 ^ s = (Q1 * 4294967296 + Q0) * y * 2 ^ s + R0 := by
      have f1 : (hi * 18446744073709551616 + lo) * 2 ^ s = A * 18446744073709551616 + L := by rw [hA, hL]; grind
      have f2 : (Q1 * 4294967296 + Q0) * y * 2 ^ s = (Q1 * Y) * 4294967296 + Q0 * Y := by rw [hY]; grind
      rw [f1, f2]; omega
    have f3 : R0 = (hi * 18446744073709551616 + lo - (Q1 * 4294967296 + Q0) * y) * 2 ^ s := by
      have : (hi * 18446744073709551616 + lo - (Q1 * 4294967296 + Q0) * y) * 2 ^ s = (hi * 18446744073709551616 + lo) * 2 ^ s - (Q1 * 4294967296 + Q0) * y * 2 ^ s := by grind
      rw [this]; omega
    have f4 : R0 / 2 ^ s = hi * 18446744073709551616 + lo - (Q1 * 4294967296 + Q0) * y := by
      rw [f3]; exact Int.mul_ediv_cancel _ (by omega)
    refine ⟨_, _, rfl, by rw [f4]; omega, Int.ediv_nonneg b2.1 (by omega), ?_, by omega, by omega, 0, hw'⟩
    refine Int.ediv_lt_of_lt_mul p ?_
    rw [← hY]; exact b2.2
end Go.Proofs.YtiobnojcmeeikaaGreatDoor

namespace Go.Proofs.YtiobnojcmeeikaaGreatDoor
open Go.RowKit Tn

/-- What a product, a word and a carry come to: the words. -/
def apLow (x y s c : Int) : Int := (low x y + s + c) % 18446744073709551616
def apHigh (x y s c : Int) : Int := hiw x y + (low x y + s) / 18446744073709551616 + ((low x y + s) % 18446744073709551616 + c) / 18446744073709551616
theorem ap_eq (x y s c : Int) : apLow x y s c + 18446744073709551616 * apHigh x y s c = x * y + s + c := by
  have := hilo x y; unfold apLow apHigh; omega
theorem ap_bd {x y s c : Int} (x0 : 0 ≤ x) (x1 : x < 18446744073709551616) (y0 : 0 ≤ y) (y1 : y < 18446744073709551616) (s0 : 0 ≤ s) (s1 : s < 18446744073709551616) (c0 : 0 ≤ c) (c1 : c < 18446744073709551616) : 0 ≤ apHigh x y s c ∧ apHigh x y s c < 18446744073709551616 := by
  have e := ap_eq x y s c
  have h := mul_hi (M := 18446744073709551615) x0 (by omega) y0 (by omega)
  have : 0 ≤ apLow x y s c ∧ apLow x y s c < 18446744073709551616 := by unfold apLow; omega
  omega
theorem prod_step {X S W : List Int} {k : Nat} {c f : Int} (h : Part X S k) (hW : Wd W) (hk : k < W.length) (hk' : k < S.length) (h0 : 0 ≤ c) (h1 : c < 18446744073709551616) (f0 : 0 ≤ f) (f1 : f < 18446744073709551616) (hv : val (X.take k) + pw k * c = val (S.take k) + val (W.take k) * f) :
    Part (X.set k (apLow (nth W k) f (nth X k) c)) S (k + 1) ∧ 0 ≤ apHigh (nth W k) f (nth X k) c ∧ apHigh (nth W k) f (nth X k) c < 18446744073709551616 ∧
    val ((X.set k (apLow (nth W k) f (nth X k) c)).take (k + 1)) + pw (k + 1) * apHigh (nth W k) f (nth X k) c = val (S.take (k + 1)) + val (W.take (k + 1)) * f := by
  have b1 := nth_bd hW k
  have b2 := nth_bd h.wd k
  have b3 := ap_bd b1.1 b1.2 f0 f1 b2.1 b2.2 h0 h1
  refine ⟨h.step (by unfold apLow; omega) (by unfold apLow; omega), b3.1, b3.2, ?_⟩
  rw [h.val hk', val_at S k hk', val_at W k hk, h.nth]
  have e := ap_eq (nth W k) f (nth S k) c
  simp only [pw]
  grind

set_option maxHeartbeats 800000 in
/-- whole.addProduct. -/
theorem addProduct_any (b o cap n : Nat) (S : List Int) (a : Option Addr) (cap2 : Nat) (W : List Int) (f : Int) (w : World) (en : n = S.length) (hS : Wd S) (hW : Wd W) (hl : W.length = S.length) (f0 : 0 ≤ f) (f1 : f < 18446744073709551616) (hL : S.length ≤ 1099511627776) (hcS : Cells w b o S) (hF : Free w b o S.length)
    (ha : 0 < W.length → ∃ b2 o2, a = some ⟨b2, o2, none⟩ ∧ b2 ≠ b ∧ Cells w b2 o2 W) :
    Calls Tryz.prog 93 #[.slice (some ⟨b, o, none⟩) n cap, .slice a W.length cap2, .int .u64 f] w fun e w' => ∃ S' c, e = .returned (.int .u64 c) ∧ 0 ≤ c ∧ c < 18446744073709551616 ∧ S'.length = S.length ∧ Wd S' ∧ val S' + pw S.length * c = val S + val W * f ∧ Cells w' b o S' ∧ Wr b o S.length w w' := by
  subst en
  have HL : Hid (W.length = S.length) := hl
  have hl2 : W.length ≤ S.length := by omega
  clear hl
  go_enter Tryz.func93, Tryz.ntmps93
  go_wp2
  go_loopw [7, 15] (fun t i wr => ∃ (k : Nat) (c : Int) (X : List Int), k ≤ W.length ∧ i = .int .i64 k ∧ t = .int .u64 c ∧ 0 ≤ c ∧ c < 18446744073709551616 ∧ Part X S k ∧ val (X.take k) + pw k * c = val (S.take k) + val (W.take k) * f ∧ Cells wr b o X ∧ Wr b o S.length w wr) (fun _ i _ => W.length - (intOf i).toNat)
  case atStart => exact ⟨0, 0, S, Nat.zero_le _, rfl, rfl, by omega, by omega, Part.refl hS 0, by simp [val, pw], hcS, Wr.refl _ _ _ _⟩
  case round =>
    obtain ⟨k, c, X, hk, rfl, rfl, h0, h1, hP, hv, hcX, hwr⟩ := hrel
    have HV : Hid (val (X.take k) + pw k * c = val (S.take k) + val (W.take k) * f) := hv
    clear hv
    by_cases hlt : k < W.length
    · obtain ⟨b2, o2, rfl, hne, hcW⟩ := ha (by omega)
      have k1 := (hcW.other hwr hne).at (i := k) hlt
      have k2 := hcX.at (i := k) (by rw [hP.len]; omega)
      have k3 := (hF.wr hwr (hcS.lt (by omega))) k (by omega)
      have b1 := nth_bd hW k
      have b2 := nth_bd hP.wd k
      have R : Hid _ := prod_step hP hW hlt (by omega) h0 h1 f0 f1 HV.out
      have e1 := hiw_bd b1.1 b1.2 f0 f1
      have e2 := low_bd (nth W k) f
      have e3 : 0 ≤ (low (nth W k) f + nth X k) % 18446744073709551616 := by omega
      have e4 : hiw (nth W k) f + (low (nth W k) f + nth X k) / 18446744073709551616 + ((low (nth W k) f + nth X k) % 18446744073709551616 + c) / 18446744073709551616 < 18446744073709551616 := (ap_bd b1.1 b1.2 f0 f1 b2.1 b2.2 h0 h1).2
      go_wp2_with (first | (go_at_call 103; refine (mul64 _ _ _ b1.1 b1.2 f0 f1).mono ?_; rintro e w' ⟨rfl, rfl⟩) | simp only [add64_0 _ _ e2.1 b2.1] | simp only [add64_0 _ _ e3 h0])
      go_roundw
      case rel => exact ⟨k + 1, apHigh (nth W k) f (nth X k) c, _, by omega, by go_num, rfl, R.out.2.1, R.out.2.2.1, R.out.1, R.out.2.2.2, hcX.set k (by rw [hP.len]; omega) _, hwr.setCell _ (by omega) _⟩
      case measure => simp [intOf]; omega
    · have ek : k = W.length := by omega
      subst ek
      have R : Hid (val X + pw S.length * c = val S + val W * f) := by
        have := HV.out
        have h5 := hP.len
        rw [List.take_length, HL.out, List.take_length] at this
        rw [← h5, List.take_length] at this
        rw [← h5]; exact this
      go_wp2
      go_ret
      exact ⟨X, c, rfl, h0, h1, hP.len, hP.wd, R.out, hcX, hwr⟩
end Go.Proofs.YtiobnojcmeeikaaGreatDoor
