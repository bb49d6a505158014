import Derived.Test.YtebilgnmnambnaaGreatDoorPart16
import Derived.Test.YtebilgnmnambnaaGreatDoorPart03
import Derived.WalkLawsBesides
import Derived.Deep.DeepCutAuto
import Derived.Deep.CutBlock

namespace Go.Proofs.YtebilgnmnambnaaGreatDoor
open Go.RowKit Tn
theorem wrap_u64 (x : Int) : IntKind.u64.wrap x = x % 18446744073709551616 := by simp [IntKind.wrap, IntKind.bits, IntKind.signed]
theorem and32 (x : Int) (h0 : 0 ≤ x) (h1 : x < 18446744073709551616) : bits .and .u64 x 4294967295 = x % 4294967296 := by
  rw [u64_and x 4294967295 h0 h1 (by decide) (by decide)]
  obtain ⟨n, rfl⟩ := Int.eq_ofNat_of_zero_le h0
  have := Nat.and_two_pow_sub_one_eq_mod n 32
  simp only [Int.toNat_natCast]
  have e : (4294967295 : Int).toNat = 2 ^ 32 - 1 := rfl
  rw [e, this]; rfl
theorem two_pos (s : Nat) : (0 : Int) < 2 ^ s := Int.pow_pos (by decide)
theorem or_shift (s : Nat) (a b : Int) (a0 : 0 ≤ a) (a1 : a * 2 ^ s < 18446744073709551616) (b0 : 0 ≤ b) (b1 : b < 2 ^ s) (b2 : b < 18446744073709551616) : bits .or .u64 (a * 2 ^ s) b = a * 2 ^ s + b := by
  have p := two_pos s
  rw [u64_or _ _ (Int.mul_nonneg a0 (Int.le_of_lt p)) a1 b0 b2]
  obtain ⟨m, rfl⟩ := Int.eq_ofNat_of_zero_le a0
  obtain ⟨n, rfl⟩ := Int.eq_ofNat_of_zero_le b0
  have h : n < 2 ^ s := by
    have h3 : ((n : Nat) : Int) < ((2 ^ s : Nat) : Int) := by rw [Int.natCast_pow]; exact b1
    exact Int.ofNat_lt.1 h3
  have e := Nat.two_pow_add_eq_or_of_lt h m
  have e1 : ((m : Int) * 2 ^ s).toNat = 2 ^ s * m := by
    have : (m : Int) * 2 ^ s = ((2 ^ s * m : Nat) : Int) := by rw [Int.natCast_mul, Int.natCast_pow, Int.mul_comm]; rfl
    rw [this]; rfl
  rw [e1, Int.toNat_natCast, ← e, Int.natCast_add, Int.natCast_mul, Int.natCast_pow, Int.mul_comm]; rfl
theorem pow_split {s : Nat} (h : s ≤ 64) : (2 : Int) ^ s * 2 ^ (64 - s) = 18446744073709551616 := by
  rw [← Int.pow_add, Nat.add_sub_cancel' h]; rfl
theorem shift_out (lo : Int) (s : Nat) (h : s ≤ 64) : lo * 2 ^ s / 18446744073709551616 = lo / 2 ^ (64 - s) := by
  rw [← pow_split h, Int.mul_comm lo, Int.mul_ediv_mul_of_pos _ _ (two_pos s)]
theorem shift_out_lt (lo : Int) (s : Nat) (h : s ≤ 64) (l0 : 0 ≤ lo) (l1 : lo < 18446744073709551616) : 0 ≤ lo / 2 ^ (64 - s) ∧ lo / 2 ^ (64 - s) < 2 ^ s := by
  refine ⟨Int.ediv_nonneg l0 (Int.le_of_lt (two_pos _)), ?_⟩
  refine Int.ediv_lt_of_lt_mul (two_pos _) ?_
  rw [pow_split h]; exact l1
theorem norm_bd (y : Int) (s : Nat) (y0 : 0 < y) (y1 : y < 18446744073709551616) (hs : (s : Int) = 64 - (Lib.bitLen y.toNat : Int)) : s ≤ 63 ∧ 9223372036854775808 ≤ y * 2 ^ s ∧ y * 2 ^ s < 18446744073709551616 := by
  have hb := bitLen_bd y y0 y1
  have h1 : s = 64 - Lib.bitLen y.toNat := by omega
  have p := two_pos s
  refine ⟨by omega, ?_, ?_⟩
  · have := Int.mul_le_mul_of_nonneg_right hb.2.2.1 (Int.le_of_lt p)
    rw [← Int.pow_add, show Lib.bitLen y.toNat - 1 + s = 63 from by omega] at this
    exact this
  · have := Int.mul_lt_mul_of_pos_right hb.2.2.2 p
    rw [← Int.pow_add, show Lib.bitLen y.toNat + s = 64 from by omega] at this
    exact this
structure Est (b v1 v0 uh u0 g r : Int) : Prop where
  sum : g * v1 + r = uh
  ge : (uh * b + u0) / (v1 * b + v0) ≤ g
  r0 : 0 ≤ r
  r1 : r < b
  g0 : 0 ≤ g
  g1 : g ≤ b + 1
theorem Est.start {b v1 v0 uh u0 : Int} (hb : b = 4294967296) (h1 : 2147483648 ≤ v1) (h1' : v1 < b) (hv0 : 0 ≤ v0) (hv0' : v0 < b) (hu : 0 ≤ u0) (hu0 : u0 < b) (hh : 0 ≤ uh) (hlt : uh < v1 * b + v0) : Est b v1 v0 uh u0 (uh / v1) (uh - uh / v1 * v1) := by
  have hv : 0 < v1 * b + v0 := by have := Int.mul_nonneg (show 0 ≤ v1 by omega) (show 0 ≤ b by omega); have := Int.mul_le_mul_of_nonneg_right (show 1 ≤ v1 by omega) (show 0 ≤ b by omega); omega
  have e := Int.emod_add_mul_ediv uh v1
  have m0 := Int.emod_nonneg uh (show v1 ≠ 0 by omega)
  have m1 := Int.emod_lt_of_pos uh (show 0 < v1 by omega)
  have c : uh / v1 * v1 = v1 * (uh / v1) := Int.mul_comm _ _
  refine ⟨by omega, ?_, by omega, by omega, Int.ediv_nonneg hh (by omega), ?_⟩
  · refine est_start (by omega) (by omega) hv0 hu0 (Int.ediv_nonneg (by have := Int.mul_nonneg hh (show 0 ≤ b by omega); omega) (by omega)) ?_
    exact quo_le hv
  · have h3 : uh / v1 < b + 2 := by
      refine Int.ediv_lt_of_lt_mul (by omega) ?_
      have : (b + 2) * v1 = v1 * b + 2 * v1 := by grind
      omega
    omega
theorem Est.down {b v1 v0 uh u0 g r : Int} (h : Est b v1 v0 uh u0 g r) (hb : b = 4294967296) (h1 : 2147483648 ≤ v1) (h1' : v1 < b) (hv0 : 0 ≤ v0) (hu0 : 0 ≤ u0) (hh : uh < v1 * b + v0) (hlt' : u0 < b) (hc : b ≤ g ∨ b * r + u0 < g * v0) :
    (uh * b + u0) / (v1 * b + v0) ≤ g - 1 ∧ (g - 1) * v1 + (r + v1) = uh ∧ 1 ≤ g := by
  have hv : 0 < v1 * b + v0 := by have := Int.mul_le_mul_of_nonneg_right (show 1 ≤ v1 by omega) (show 0 ≤ b by omega); omega
  have hge : (uh * b + u0) / (v1 * b + v0) ≤ g - 1 := by
    rcases hc with hc | hc
    · have : (uh * b + u0) / (v1 * b + v0) < b := by
        refine Int.ediv_lt_of_lt_mul hv ?_
        have := Int.mul_le_mul_of_nonneg_right (show uh + 1 ≤ v1 * b + v0 by omega) (show 0 ≤ b by omega)
        grind
      omega
    · exact est_down hv h.sum (quo_le hv) hc
  have hq : 0 ≤ (uh * b + u0) / (v1 * b + v0) := by
    have hu : 0 ≤ uh := by have := h.sum; have := Int.mul_nonneg h.g0 (show 0 ≤ v1 by omega); have := h.r0; omega
    exact Int.ediv_nonneg (by have := Int.mul_nonneg hu (show 0 ≤ b by omega); omega) (by omega)
  refine ⟨hge, by have := h.sum; grind, by omega⟩
theorem Est.next {b v1 v0 uh u0 g r : Int} (h : Est b v1 v0 uh u0 g r) (hd : (uh * b + u0) / (v1 * b + v0) ≤ g - 1 ∧ (g - 1) * v1 + (r + v1) = uh ∧ 1 ≤ g) (h1 : 0 ≤ v1) (hr : r + v1 < b) : Est b v1 v0 uh u0 (g - 1) (r + v1) :=
  ⟨hd.2.1, hd.1, by have := h.r0; omega, hr, by omega, by have := h.g1; omega⟩
theorem Est.isBrk {b v1 v0 uh u0 g r : Int} (h : Est b v1 v0 uh u0 g r) (hd : (uh * b + u0) / (v1 * b + v0) ≤ g - 1 ∧ (g - 1) * v1 + (r + v1) = uh ∧ 1 ≤ g) (hb : b = 4294967296) (h1 : 2147483648 ≤ v1) (hv0 : 0 ≤ v0) (hv0' : v0 < b) (hu0 : 0 ≤ u0) (hr : b ≤ r + v1) : g - 1 = (uh * b + u0) / (v1 * b + v0) := by
  have hv : 0 < v1 * b + v0 := by have := Int.mul_le_mul_of_nonneg_right (show 1 ≤ v1 by omega) (show 0 ≤ b by omega); omega
  refine quo_of hv rfl hd.1 (est_fits hd.2.1 ?_)
  have a1 := Int.mul_le_mul_of_nonneg_left (show v0 ≤ b - 1 by omega) (show 0 ≤ g - 1 by omega)
  have a2 := Int.mul_le_mul_of_nonneg_right (show g - 1 ≤ b by have := h.g1; omega) (show 0 ≤ b - 1 by omega)
  have a3 := Int.mul_le_mul_of_nonneg_left hr (show 0 ≤ b by omega)
  have : b * (b - 1) = b * b - b := by grind
  omega
theorem Est.done {b v1 v0 uh u0 g r : Int} (h : Est b v1 v0 uh u0 g r) (hb : 0 < b) (h1 : 0 < v1) (hv0 : 0 ≤ v0) (hc : g * v0 ≤ b * r + u0) : g = (uh * b + u0) / (v1 * b + v0) := by
  have hv : 0 < v1 * b + v0 := by have := Int.mul_le_mul_of_nonneg_right (show 1 ≤ v1 by omega) (show 0 ≤ b by omega); omega
  exact quo_of hv rfl h.ge (est_fits h.sum hc)
end Go.Proofs.YtebilgnmnambnaaGreatDoor

namespace Go.Proofs.YtebilgnmnambnaaGreatDoor
open Go.RowKit Tn
set_option maxRecDepth 100000 in
set_option maxHeartbeats 3200000 in
theorem div64_core (hi lo y : Int) (w : World) (h0 : 0 < hi) (h1 : hi < y) (y1 : y < 18446744073709551616) (s : Nat) (hs : (s : Int) = 64 - (Lib.bitLen y.toNat : Int)) (s1 : s ≤ 63)
    (Y v1 v0 uh ul u1 u0 Q1 R1 Q0 R0 : Int) (r1 : IntKind.u64.wrap (y * 2 ^ s) = Y) (r2 : Y / 4294967296 = v1) (r3 : bits .and .u64 Y 4294967295 = v0) (r4 : bits .or .u64 (IntKind.u64.wrap (hi * 2 ^ s)) (lo / 2 ^ (64 - s)) = uh)
    (r5 : IntKind.u64.wrap (lo * 2 ^ s) = ul) (r6 : ul / 4294967296 = u1) (r7 : bits .and .u64 ul 4294967295 = u0)
    (a1 : 2147483648 ≤ v1) (a2 : v1 < 4294967296) (a3 : 0 ≤ v0) (a4 : v0 < 4294967296) (a5 : 0 ≤ u1) (a6 : u1 < 4294967296) (a7 : 0 ≤ u0) (a8 : u0 < 4294967296) (a9 : 0 ≤ uh) (a10 : uh < v1 * 4294967296 + v0) (a11 : Y = v1 * 4294967296 + v0) (a12 : uh < 18446744073709551616)
    (d1 : Q1 = (uh * 4294967296 + u1) / Y) (d3 : Q0 = (R1 * 4294967296 + u0) / Y)
    (e1 : IntKind.u64.wrap (uh / v1 * v1) = uh / v1 * v1) (e2 : IntKind.u64.wrap (uh - uh / v1 * v1) = uh - uh / v1 * v1)
    (e3 : IntKind.u64.wrap (IntKind.u64.wrap (IntKind.u64.wrap (uh * 4294967296) + u1) - IntKind.u64.wrap (Q1 * Y)) = R1)
    (e4 : IntKind.u64.wrap (R1 / v1 * v1) = R1 / v1 * v1) (e5 : IntKind.u64.wrap (R1 - R1 / v1 * v1) = R1 - R1 / v1 * v1)
    (e6 : IntKind.u64.wrap (IntKind.u64.wrap (IntKind.u64.wrap (R1 * 4294967296) + u0) - IntKind.u64.wrap (Q0 * Y)) = R0)
    (e7 : 0 ≤ Q1) (e8 : Q1 < 4294967296) (e9 : 0 ≤ Q0) (e10 : Q0 < 4294967296) (e11 : 0 ≤ R1) (e12 : R1 < v1 * 4294967296 + v0) (e13 : R1 < 18446744073709551616) :
    Calls Tryz.prog 197 #[.int .u64 hi, .int .u64 lo, .int .u64 y] w fun e w' => e = .returned (.tuple #[.int .u64 (Q1 * 4294967296 + Q0), .int .u64 (R0 / 2 ^ s)]) ∧ w' = w := by
  have t1 : (y == 0) = false := by rw [beq_eq_false_iff_ne]; omega
  have t2 : (hi == 0) = false := by rw [beq_eq_false_iff_ne]; omega
  have HS : Hid ((64 - (Lib.bitLen y.toNat : Int)) = (s : Int)) := hs.symm
  have S1 : Hid (Est 4294967296 v1 v0 uh u1 (uh / v1) (uh - uh / v1 * v1)) := Est.start rfl a1 a2 a3 a4 a5 a6 a9 a10
  have S2 : Hid (Est 4294967296 v1 v0 R1 u0 (R1 / v1) (R1 - R1 / v1 * v1)) := Est.start rfl a1 a2 a3 a4 a7 a8 e11 e12
  have D1 : Hid (Q1 = (uh * 4294967296 + u1) / (v1 * 4294967296 + v0)) := by rw [d1, a11]; exact rfl
  have D3 : Hid (Q0 = (R1 * 4294967296 + u0) / (v1 * 4294967296 + v0)) := by rw [d3, a11]; exact rfl
  have H10 : Hid (uh < v1 * 4294967296 + v0) := a10
  have H12 : Hid (R1 < v1 * 4294967296 + v0) := e12
  have n1 : ¬ v1 = 0 := by omega
  clear hs a10 a11 d1 d3 e12
  go_enter Tryz.func197, Tryz.ntmps197
  go_upto_block 0 with (go_at_call 161; refine (Tryz.bits_LeadingZeros64 _ _ (by omega) (by omega)).mono ?_; rintro e w' ⟨rfl, hw'⟩; have hw2 := hw'.symm; subst hw2; rw [HS.out])
  go_cut [15, 16] (fun a _ wc => a = .int .u64 Q1 ∧ wc = w)
  case first =>
    go_wp2_with fail
    go_loop [15, 16] (fun a b => ∃ g r : Int, a = .int .u64 g ∧ b = .int .u64 r ∧ Est 4294967296 v1 v0 uh u1 g r) (fun a _ => (intOf a).toNat)
    case atStart => exact ⟨_, _, rfl, rfl, S1.out⟩
    case round =>
      obtain ⟨g, r, rfl, rfl, hE⟩ := hrel
      have g0 := hE.g0; have g1 := hE.g1; have q0 := hE.r0; have q1 := hE.r1
      by_cases hg : 4294967296 ≤ g
      · have hd : Hid _ := hE.down rfl a1 a2 a3 a5 H10.out a6 (Or.inl hg)
        by_cases hr : r + v1 < 4294967296
        · go_wp2
          go_round
          case rel => exact ⟨g - 1, r + v1, rfl, rfl, hE.next hd.out (by omega) hr⟩
          case measure => simp [intOf]; omega
        · go_wp2
          go_meet
          case rel => exact ⟨by rw [D1.out]; exact congrArg _ (hE.isBrk hd.out rfl a1 a3 a4 a5 (by omega)), rfl⟩
      · have m := mul_hi (M := 4294967295) g0 (by omega) a3 (by omega)
        have p1 : IntKind.u64.wrap (g * v0) = g * v0 := by rw [wrap_u64]; omega
        by_cases hc : 4294967296 * r + u1 < g * v0
        · have hd : Hid _ := hE.down rfl a1 a2 a3 a5 H10.out a6 (Or.inr hc)
          have hg1 : 1 ≤ g := hd.out.2.2
          by_cases hr : r + v1 < 4294967296
          · go_wp2
            go_round
            case rel => exact ⟨g - 1, r + v1, rfl, rfl, hE.next hd.out (by omega) hr⟩
            case measure => simp [intOf]; omega
          · go_wp2
            go_meet
            case rel => exact ⟨by rw [D1.out]; exact congrArg _ (hE.isBrk hd.out rfl a1 a3 a4 a5 (by omega)), rfl⟩
        · go_wp2
          go_meet
          case rel => exact ⟨by rw [D1.out]; exact congrArg _ (hE.done (by omega) (by omega) a3 (by omega)), rfl⟩
  case rest =>
    obtain ⟨rfl, rfl⟩ := hcut
    go_upto_block 2 with fail
    go_cut [18, 16] (fun a _ wd => a = .int .u64 Q0 ∧ wd = wc)
    case first =>
      go_wp2_with fail
      go_loop [18, 16] (fun a b => ∃ g r : Int, a = .int .u64 g ∧ b = .int .u64 r ∧ Est 4294967296 v1 v0 R1 u0 g r) (fun a _ => (intOf a).toNat)
      case atStart => exact ⟨_, _, rfl, rfl, S2.out⟩
      case round =>
        obtain ⟨g, r, rfl, rfl, hE⟩ := hrel
        have g0 := hE.g0; have g1 := hE.g1; have q0 := hE.r0; have q1 := hE.r1
        by_cases hg : 4294967296 ≤ g
        · have hd : Hid _ := hE.down rfl a1 a2 a3 a7 H12.out a8 (Or.inl hg)
          by_cases hr : r + v1 < 4294967296
          · go_wp2
            go_round
            case rel => exact ⟨g - 1, r + v1, rfl, rfl, hE.next hd.out (by omega) hr⟩
            case measure => simp [intOf]; omega
          · go_wp2
            go_meet
            case rel => exact ⟨by rw [D3.out]; exact congrArg _ (hE.isBrk hd.out rfl a1 a3 a4 a7 (by omega)), rfl⟩
        · have m := mul_hi (M := 4294967295) g0 (by omega) a3 (by omega)
          have p1 : IntKind.u64.wrap (g * v0) = g * v0 := by rw [wrap_u64]; omega
          by_cases hc : 4294967296 * r + u0 < g * v0
          · have hd : Hid _ := hE.down rfl a1 a2 a3 a7 H12.out a8 (Or.inr hc)
            have hg1 : 1 ≤ g := hd.out.2.2
            by_cases hr : r + v1 < 4294967296
            · go_wp2
              go_round
              case rel => exact ⟨g - 1, r + v1, rfl, rfl, hE.next hd.out (by omega) hr⟩
              case measure => simp [intOf]; omega
            · go_wp2
              go_meet
              case rel => exact ⟨by rw [D3.out]; exact congrArg _ (hE.isBrk hd.out rfl a1 a3 a4 a7 (by omega)), rfl⟩
          · go_wp2
            go_meet
            case rel => exact ⟨by rw [D3.out]; exact congrArg _ (hE.done (by omega) (by omega) a3 (by omega)), rfl⟩
    case rest =>
      obtain ⟨rfl, rfl⟩ := hcut
      go_wp2
      go_ret2
      exact ⟨rfl, rfl⟩
set_option maxRecDepth 100000 in
theorem div64_small (lo y : Int) (w : World) (h1 : 0 < y) (l0 : 0 ≤ lo) (l1 : lo < 18446744073709551616) :
    Calls Tryz.prog 197 #[.int .u64 0, .int .u64 lo, .int .u64 y] w fun e w' => e = .returned (.tuple #[.int .u64 (lo / y), .int .u64 (lo % y)]) ∧ ∃ n, w' = w.drewN n := by
  have t1 : (y == 0) = false := by rw [beq_eq_false_iff_ne]; omega
  have t2 : ¬ y ≤ 0 := by omega
  have n1 : ¬ y = 0 := by omega
  go_enter Tryz.func197, Tryz.ntmps197
  go_wp2
  go_quiet (fail)
  go_wp2
  go_ret2
  exact ⟨rfl, _, rfl⟩
end Go.Proofs.YtebilgnmnambnaaGreatDoor

namespace Go.Proofs.YtebilgnmnambnaaGreatDoor
open Go.RowKit Tn
theorem divmod_eq (u v : Int) : u = u / v * v + u % v := by
  have := Int.emod_add_mul_ediv u v; rw [Int.mul_comm v] at this; omega
theorem step_wrap {A P R u : Int} (h : A + u = P + R) (r0 : 0 ≤ R) (r1 : R < 18446744073709551616) : IntKind.u64.wrap (IntKind.u64.wrap (IntKind.u64.wrap A + u) - IntKind.u64.wrap P) = R := by
  simp only [wrap_u64]; omega
theorem le_wrap {A : Int} (h0 : 0 ≤ A) (h1 : A < 18446744073709551616) : IntKind.u64.wrap A = A := by rw [wrap_u64]; omega
theorem part_le {u v : Int} (hu : 0 ≤ u) (hv : 0 < v) : 0 ≤ u / v * v ∧ u / v * v ≤ u := ⟨Int.mul_nonneg (Int.ediv_nonneg hu (by omega)) (by omega), quo_le hv⟩
theorem Div64_any (hi lo y : Int) (w : World) (h0 : 0 ≤ hi) (h1 : hi < y) (l0 : 0 ≤ lo) (l1 : lo < 18446744073709551616) (y1 : y < 18446744073709551616) :
    Calls Tryz.prog 197 #[.int .u64 hi, .int .u64 lo, .int .u64 y] w fun e w' => ∃ q r, e = .returned (.tuple #[.int .u64 q, .int .u64 r]) ∧ q * y + r = hi * 18446744073709551616 + lo ∧ 0 ≤ r ∧ r < y ∧ 0 ≤ q ∧ q < 18446744073709551616 ∧ ∃ n, w' = w.drewN n := by
  by_cases hz : hi = 0
  · subst hz
    refine (div64_small lo y w h1 l0 l1).mono ?_
    rintro e w' ⟨rfl, n, rfl⟩
    have e := Int.emod_add_mul_ediv lo y
    refine ⟨_, _, rfl, by rw [Int.mul_comm]; omega, Int.emod_nonneg _ (by omega), Int.emod_lt_of_pos _ h1, Int.ediv_nonneg l0 (by omega), ?_, n, rfl⟩
    exact Int.lt_of_le_of_lt (Int.ediv_le_self _ l0) l1
  · obtain ⟨s, hs⟩ : ∃ s : Nat, (s : Int) = 64 - (Lib.bitLen y.toNat : Int) := ⟨64 - Lib.bitLen y.toNat, by have := bitLen_bd y (by omega) y1; omega⟩
    obtain ⟨s1, n1, n2⟩ := norm_bd y s (by omega) y1 hs
    have p := two_pos s
    have so := shift_out_lt lo s (by omega) l0 l1
    have se := shift_out lo s (by omega)
    obtain ⟨Y, hY⟩ : ∃ Y, Y = y * 2 ^ s := ⟨_, rfl⟩
    obtain ⟨T, hT⟩ : ∃ T : Int, T = lo / 2 ^ (64 - s) := ⟨_, rfl⟩
    obtain ⟨A, hA⟩ : ∃ A : Int, A = hi * 2 ^ s := ⟨_, rfl⟩
    obtain ⟨L, hL⟩ : ∃ L : Int, L = lo * 2 ^ s := ⟨_, rfl⟩
    have hA0 : 0 ≤ A := by rw [hA]; exact Int.mul_nonneg h0 (by omega)
    have hAY : A + 2 ^ s ≤ Y := by
      have := Int.mul_le_mul_of_nonneg_right (show hi + 1 ≤ y by omega) (Int.le_of_lt p)
      rw [hA, hY]; grind
    rw [← hT] at so se
    rw [← hL] at se
    rw [← hY] at n1 n2
    have hL0 : 0 ≤ L := by rw [hL]; exact Int.mul_nonneg l0 (by omega)
    have e1 := part_le (u := A + T) (v := Y / 4294967296) (by omega) (by omega)
    have dY : Y = Y / 4294967296 * 4294967296 + Y % 4294967296 := by omega
    obtain ⟨Q1, hQ1⟩ : ∃ Q1, Q1 = ((A + T) * 4294967296 + L % 18446744073709551616 / 4294967296) / Y := ⟨_, rfl⟩
    obtain ⟨R1, hR1⟩ : ∃ R1, R1 = ((A + T) * 4294967296 + L % 18446744073709551616 / 4294967296) % Y := ⟨_, rfl⟩
    obtain ⟨Q0, hQ0⟩ : ∃ Q0, Q0 = (R1 * 4294967296 + L % 18446744073709551616 % 4294967296) / Y := ⟨_, rfl⟩
    obtain ⟨R0, hR0⟩ : ∃ R0, R0 = (R1 * 4294967296 + L % 18446744073709551616 % 4294967296) % Y := ⟨_, rfl⟩
    have k1 : (A + T) * 4294967296 + L % 18446744073709551616 / 4294967296 = Q1 * Y + R1 := by rw [hQ1, hR1]; exact divmod_eq _ _
    have k2 : R1 * 4294967296 + L % 18446744073709551616 % 4294967296 = Q0 * Y + R0 := by rw [hQ0, hR0]; exact divmod_eq _ _
    have b1 : 0 ≤ R1 ∧ R1 < Y := by rw [hR1]; exact ⟨Int.emod_nonneg _ (by omega), Int.emod_lt_of_pos _ (by omega)⟩
    have b2 : 0 ≤ R0 ∧ R0 < Y := by rw [hR0]; exact ⟨Int.emod_nonneg _ (by omega), Int.emod_lt_of_pos _ (by omega)⟩
    have b3 : 0 ≤ Q1 := by rw [hQ1]; exact Int.ediv_nonneg (by omega) (by omega)
    have b4 : 0 ≤ Q0 := by rw [hQ0]; exact Int.ediv_nonneg (by omega) (by omega)
    have b5 : Q1 < 4294967296 := by
      rw [hQ1]; refine Int.ediv_lt_of_lt_mul (by omega) ?_; omega
    have b6 : Q0 < 4294967296 := by
      rw [hQ0]; refine Int.ediv_lt_of_lt_mul (by omega) ?_; omega
    have e4 := part_le (u := R1) (v := Y / 4294967296) b1.1 (by omega)
    have wA : IntKind.u64.wrap (hi * 2 ^ s) = hi * 2 ^ s := by rw [← hA]; exact le_wrap hA0 (by omega)
    refine (div64_core hi lo y w (by omega) h1 y1 s hs s1 Y (Y / 4294967296) (Y % 4294967296) (A + T) (L % 18446744073709551616) (L % 18446744073709551616 / 4294967296) (L % 18446744073709551616 % 4294967296) Q1 R1 Q0 R0
      (by rw [← hY]; exact le_wrap (by omega) n2) rfl (and32 Y (by omega) n2) (by rw [wA, ← hT, or_shift s hi T h0 (by rw [← hA]; omega) so.1 so.2 (by omega), hA]) (by rw [← hL, wrap_u64]) rfl (and32 _ (by omega) (by omega))
      (by omega) (by omega) (by omega) (by omega) (by omega) (by omega) (by omega) (by omega) (by omega) (by omega) dY (by omega) hQ1 hQ0
      (le_wrap e1.1 (by omega)) (le_wrap (by omega) (by omega)) (step_wrap k1 b1.1 (by omega)) (le_wrap e4.1 (by omega)) (le_wrap (by omega) (by omega)) (step_wrap k2 b2.1 (by omega))
      b3 b5 b4 b6 b1.1 (by omega) (by omega)).mono ?_
    rintro e w' ⟨rfl, hw'⟩
    have main : (hi * 18446744073709551616 + lo) * 2 ^ s = (Q1 * 4294967296 + Q0) * y * 2 ^ s + R0 := by
      have f1 : (hi * 18446744073709551616 + lo) * 2 ^ s = A * 18446744073709551616 + L := by rw [hA, hL]; grind
      have f2 : (Q1 * 4294967296 + Q0) * y * 2 ^ s = (Q1 * Y) * 4294967296 + Q0 * Y := by rw [hY]; grind
      rw [f1, f2]; omega
    have f3 : R0 = (hi * 18446744073709551616 + lo - (Q1 * 4294967296 + Q0) * y) * 2 ^ s := by
      have : (hi * 18446744073709551616 + lo - (Q1 * 4294967296 + Q0) * y) * 2 ^ s = (hi * 18446744073709551616 + lo) * 2 ^ s - (Q1 * 4294967296 + Q0) * y * 2 ^ s := by grind
      rw [this]; omega
    have f4 : R0 / 2 ^ s = hi * 18446744073709551616 + lo - (Q1 * 4294967296 + Q0) * y := by
      rw [f3]; exact Int.mul_ediv_cancel _ (by omega)
    refine ⟨_, _, rfl, by rw [f4]; omega, Int.ediv_nonneg b2.1 (by omega), ?_, by omega, by omega, 0, hw'⟩
    refine Int.ediv_lt_of_lt_mul p ?_
    rw [← hY]; exact b2.2
end Go.Proofs.YtebilgnmnambnaaGreatDoor

namespace Go.Proofs.YtebilgnmnambnaaGreatDoor
open Go.RowKit Tn
theorem drop_set_here (X : List Int) (k : Nat) (v : Int) (h : k < X.length) : (X.set k v).drop k = v :: X.drop (k + 1) := by
  rw [drop_getD _ k (by simpa using h), drop_set_succ]
  congr 1
  exact nth_set_same X k v h
theorem take_set_le (X : List Int) (k j : Nat) (v : Int) (h : j ≤ k) : (X.set k v).take j = X.take j := by
  rw [List.take_set]; exact List.set_eq_of_length_le (by simp; omega)
set_option maxHeartbeats 800000 in
theorem divWord_any (b o cap n : Nat) (S : List Int) (d : Int) (w : World) (en : n = S.length) (hS : Wd S) (d0 : 0 < d) (d1 : d < 18446744073709551616) (hL : S.length ≤ 1099511627776) (hcS : Cells w b o S) (hF : Free w b o S.length) :
    Calls Tryz.prog 162 #[.slice (some ⟨b, o, none⟩) n cap, .int .u64 d] w fun e w' => ∃ S' r, e = .returned (.int .u64 r) ∧ 0 ≤ r ∧ r < d ∧ S'.length = S.length ∧ Wd S' ∧ val S' * d + r = val S ∧ Cells w' b o S' ∧ Wr b o S.length w w' := by
  subst en
  go_enter Tryz.func162, Tryz.ntmps162
  go_wp2
  go_loopw [5, 10] (fun t i wr => ∃ (k : Nat) (r : Int) (X : List Int), k ≤ S.length ∧ i = .int .i64 k ∧ t = .int .u64 r ∧ 0 ≤ r ∧ r < d ∧ X.length = S.length ∧ Wd X ∧ X.take (S.length - k) = S.take (S.length - k) ∧ val (X.drop (S.length - k)) * d + r = val (S.drop (S.length - k)) ∧ Cells wr b o X ∧ Wr b o S.length w wr) (fun _ i _ => S.length - (intOf i).toNat)
  case atStart => exact ⟨0, 0, S, Nat.zero_le _, rfl, rfl, by omega, d0, rfl, hS, rfl, by simp [val], hcS, Wr.refl _ _ _ _⟩
  case round =>
    obtain ⟨k, r, X, hk, rfl, rfl, h0, h1, hX, hwX, ht, hv, hcX, hwr⟩ := hrel
    have HV : Hid (val (X.drop (S.length - k)) * d + r = val (S.drop (S.length - k))) := hv
    have HT : Hid (X.take (S.length - k) = S.take (S.length - k)) := ht
    have HX : Hid (X.length = S.length) := hX
    clear hv ht hX
    by_cases hlt : k < S.length
    · have k2 := hcX.at (i := S.length - 1 - k) (by have := HX.out; omega)
      have k3 := (hF.wr hwr (hcS.lt (by omega))) (S.length - 1 - k) (by omega)
      have b2 := nth_bd hwX (S.length - 1 - k)
      go_wp2_with (go_at_call 197; refine (Div64_any _ _ _ _ h0 h1 b2.1 b2.2 d1).mono ?_; rintro e w' ⟨q, r', rfl, he, r0, r1, q0, q1, m, rfl⟩; have HE : Hid (q * d + r' = r * 18446744073709551616 + nth X (S.length - 1 - k)) := he; clear he)
      go_roundw
      case rel =>
        refine ⟨k + 1, r', X.set (S.length - 1 - k) q, by omega, by go_num, rfl, r0, r1, by rw [List.length_set]; exact HX.out, hwX.set _ q0 q1, ?_, ?_, hcX.set _ (by have := HX.out; omega) q, (hwr.drewN m).setCell _ (by omega) _⟩
        · rw [take_set_le _ _ _ _ (by omega)]
          have := congrArg (List.take (S.length - (k + 1))) HT.out
          rwa [List.take_take, List.take_take, Nat.min_eq_left (by omega)] at this
        · have e1 : S.length - (k + 1) = S.length - 1 - k := by omega
          have e2 : S.length - k = S.length - 1 - k + 1 := by omega
          rw [e1, drop_set_here _ _ _ (by have := HX.out; omega), drop_getD S _ (by omega), ← e2]
          have e3 : nth X (S.length - 1 - k) = nth S (S.length - 1 - k) := by
            have := congrArg (fun l => nth l (S.length - 1 - k)) HT.out
            rwa [nth_take _ _ _ (by omega), nth_take _ _ _ (by omega)] at this
          have e4 := HE.out
          have e5 := HV.out
          rw [e3] at e4
          unfold nth at e4
          simp only [val]
          grind
      case measure => simp [intOf]; omega
    · have R : Hid (val X * d + r = val S) := by
        have ek : S.length - k = 0 := by omega
        have := HV.out
        rwa [ek, List.drop_zero, List.drop_zero] at this
      go_wp2
      go_ret
      exact ⟨X, r, rfl, h0, h1, HX.out, hwX, R.out, hcX, hwr⟩
def spLow (x y c : Int) : Int := (low x y + c) % 18446744073709551616
def spHigh (x y c : Int) : Int := hiw x y + (low x y + c) / 18446744073709551616
theorem sp_eq (x y c : Int) : spLow x y c + 18446744073709551616 * spHigh x y c = x * y + c := by
  have := hilo x y; unfold spLow spHigh; omega
theorem sp_low (x y c : Int) : 0 ≤ spLow x y c ∧ spLow x y c < 18446744073709551616 := by unfold spLow; omega
theorem sp_bd {x y c : Int} (s : Int) (x0 : 0 ≤ x) (x1 : x < 18446744073709551616) (y0 : 0 ≤ y) (y1 : y < 18446744073709551616) (c0 : 0 ≤ c) (c1 : c < 18446744073709551616) (s0 : 0 ≤ s) : 0 ≤ spHigh x y c ∧ spHigh x y c + bor s (spLow x y c) < 18446744073709551616 := by
  have e := sp_eq x y c
  have h := mul_hi (M := 18446744073709551615) x0 (by omega) y0 (by omega)
  have l := sp_low x y c
  unfold bor; split <;> omega
theorem subp_step {X S W : List Int} {k : Nat} {c f : Int} (h : Part X S k) (hW : Wd W) (hk : k < W.length) (hk' : k < S.length) (h0 : 0 ≤ c) (h1 : c < 18446744073709551616) (f0 : 0 ≤ f) (f1 : f < 18446744073709551616) (hv : val (X.take k) - pw k * c = val (S.take k) - val (W.take k) * f) :
    Part (X.set k (nth X k - spLow (nth W k) f c + 18446744073709551616 * bor (nth X k) (spLow (nth W k) f c))) S (k + 1) ∧ 0 ≤ spHigh (nth W k) f c + bor (nth X k) (spLow (nth W k) f c) ∧
    val ((X.set k (nth X k - spLow (nth W k) f c + 18446744073709551616 * bor (nth X k) (spLow (nth W k) f c))).take (k + 1)) - pw (k + 1) * (spHigh (nth W k) f c + bor (nth X k) (spLow (nth W k) f c)) = val (S.take (k + 1)) - val (W.take (k + 1)) * f := by
  have b1 := nth_bd hW k
  have b2 := nth_bd h.wd k
  have b3 := sp_bd (nth X k) b1.1 b1.2 f0 f1 h0 h1 b2.1
  have b4 := bor_word (x := nth X k) (y := spLow (nth W k) f c) (b := 0) b2 (sp_low _ _ _) ⟨by omega, by omega⟩
  simp only [Int.sub_zero, Int.add_zero] at b4
  refine ⟨h.step b4.1 b4.2, by have := (bor_bd (nth X k) (spLow (nth W k) f c)).1; omega, ?_⟩
  rw [h.val hk', val_at S k hk', val_at W k hk, h.nth]
  have e := sp_eq (nth W k) f c
  simp only [pw]
  grind
set_option maxHeartbeats 800000 in
theorem subProduct_any (b o cap n : Nat) (S : List Int) (b2 o2 cap2 m : Nat) (W : List Int) (f : Int) (w : World) (en : n = S.length) (em : m = W.length) (hS : Wd S) (hW : Wd W) (hl : W.length = S.length) (f0 : 0 ≤ f) (f1 : f < 18446744073709551616) (hL : S.length ≤ 1099511627776) (hcS : Cells w b o S) (hF : Free w b o S.length) (hne : b2 ≠ b) (hcW : Cells w b2 o2 W) :
    Calls Tryz.prog 222 #[.slice (some ⟨b, o, none⟩) n cap, .slice (some ⟨b2, o2, none⟩) m cap2, .int .u64 f] w fun e w' => ∃ S' c, e = .returned (.int .u64 c) ∧ 0 ≤ c ∧ c < 18446744073709551616 ∧ S'.length = S.length ∧ Wd S' ∧ val S' - pw S.length * c = val S - val W * f ∧ Cells w' b o S' ∧ Wr b o S.length w w' := by
  subst en em
  have HL : Hid (W.length = S.length) := hl
  have hl2 : W.length ≤ S.length := by omega
  clear hl
  go_enter Tryz.func222, Tryz.ntmps222
  go_wp2
  go_loopw [7, 16] (fun t i wr => ∃ (k : Nat) (c : Int) (X : List Int), k ≤ W.length ∧ i = .int .i64 k ∧ t = .int .u64 c ∧ 0 ≤ c ∧ c < 18446744073709551616 ∧ Part X S k ∧ val (X.take k) - pw k * c = val (S.take k) - val (W.take k) * f ∧ Cells wr b o X ∧ Wr b o S.length w wr) (fun _ i _ => W.length - (intOf i).toNat)
  case atStart => exact ⟨0, 0, S, Nat.zero_le _, rfl, rfl, by omega, by omega, Part.refl hS 0, by simp [val], hcS, Wr.refl _ _ _ _⟩
  case round =>
    obtain ⟨k, c, X, hk, rfl, rfl, h0, h1, hP, hv, hcX, hwr⟩ := hrel
    have HV : Hid (val (X.take k) - pw k * c = val (S.take k) - val (W.take k) * f) := hv
    clear hv
    by_cases hlt : k < W.length
    · have k1 := (hcW.other hwr hne).at (i := k) hlt
      have k2 := hcX.at (i := k) (by rw [hP.len]; omega)
      have k3 := (hF.wr hwr (hcS.lt (by omega))) k (by omega)
      have b1 := nth_bd hW k
      have b2 := nth_bd hP.wd k
      have R : Hid _ := subp_step hP hW hlt (by omega) h0 h1 f0 f1 HV.out
      have e1 := hiw_bd b1.1 b1.2 f0 f1
      have e2 := low_bd (nth W k) f
      have e3 : 0 ≤ (low (nth W k) f + c) % 18446744073709551616 := by omega
      have e3' : (low (nth W k) f + c) % 18446744073709551616 < 18446744073709551616 := by omega
      have e4 : hiw (nth W k) f + (low (nth W k) f + c) / 18446744073709551616 + bor (nth X k) ((low (nth W k) f + c) % 18446744073709551616) < 18446744073709551616 := (sp_bd (nth X k) b1.1 b1.2 f0 f1 h0 h1 b2.1).2
      have e5 := bor_bd (nth X k) ((low (nth W k) f + c) % 18446744073709551616)
      go_wp2_with (first | (go_at_call 177; refine (mul64 _ _ _ b1.1 b1.2 f0 f1).mono ?_; rintro e w' ⟨rfl, rfl⟩) | simp only [add64_0 _ _ e2.1 h0] | simp only [sub64_0 _ _ b2.1 b2.2 e3 e3'])
      go_roundw
      case rel => exact ⟨k + 1, spHigh (nth W k) f c + bor (nth X k) (spLow (nth W k) f c), _, by omega, by go_num, rfl, R.out.2.1, e4, R.out.1, R.out.2.2, hcX.set k (by rw [hP.len]; omega) _, hwr.setCell _ (by omega) _⟩
      case measure => simp [intOf]; omega
    · have ek : k = W.length := by omega
      subst ek
      have R : Hid (val X - pw S.length * c = val S - val W * f) := by
        have := HV.out
        have h5 := hP.len
        rw [List.take_length, HL.out, List.take_length] at this
        rw [← h5, List.take_length] at this
        rw [← h5]; exact this
      go_wp2
      go_ret
      exact ⟨X, c, rfl, h0, h1, hP.len, hP.wd, R.out, hcX, hwr⟩
theorem guess_pos {g d0 l r0 : Int} (h : l * 18446744073709551616 + r0 < g * d0) (g0 : 0 ≤ g) (l0 : 0 ≤ l) (r : 0 ≤ r0) : 1 ≤ g := by
  by_cases hz : g = 0
  · subst hz; simp at h; omega
  · omega
def gF (d1 d0 r0 : Int) : Nat → Int → Int → Int
  | 0, g, _ => g
  | n + 1, g, l => if g * d0 ≤ l * 18446744073709551616 + r0 then g else if 18446744073709551616 ≤ l + d1 then g - 1 else gF d1 d0 r0 n (g - 1) (l + d1)
theorem gF_stop {d1 d0 r0 g l : Int} (h : g * d0 ≤ l * 18446744073709551616 + r0) : gF d1 d0 r0 g.toNat g l = g := by
  cases e : g.toNat with
  | zero => rfl
  | succ n => simp [gF, h]
theorem gF_brk {d1 d0 r0 g l : Int} (g1 : 1 ≤ g) (h : l * 18446744073709551616 + r0 < g * d0) (h2 : 18446744073709551616 ≤ l + d1) : gF d1 d0 r0 g.toNat g l = g - 1 := by
  obtain ⟨n, hn⟩ : ∃ n, g.toNat = n + 1 := ⟨g.toNat - 1, by omega⟩
  rw [hn, gF, if_neg (by omega), if_pos h2]
theorem gF_step {d1 d0 r0 g l : Int} (g1 : 1 ≤ g) (h : l * 18446744073709551616 + r0 < g * d0) (h2 : l + d1 < 18446744073709551616) : gF d1 d0 r0 g.toNat g l = gF d1 d0 r0 (g - 1).toNat (g - 1) (l + d1) := by
  obtain ⟨n, hn⟩ : ∃ n, g.toNat = n + 1 := ⟨g.toNat - 1, by omega⟩
  have e : (g - 1).toNat = n := by omega
  rw [hn, e, gF, if_neg (by omega), if_neg (by omega)]
theorem gF_spec {d1 d0 r2 r1 r0 : Int} (b1 : 0 < d1) (b0 : 0 ≤ d0) (a0 : 0 ≤ r0) : ∀ (n : Nat) (g l : Int), g.toNat = n → 0 ≤ g → g < 18446744073709551616 → 0 ≤ l → g * d1 + l = r2 * 18446744073709551616 + r1 → (∀ q, q * (d1 * 18446744073709551616 + d0) ≤ (r2 * 18446744073709551616 + r1) * 18446744073709551616 + r0 → q ≤ g) →
    0 ≤ gF d1 d0 r0 n g l ∧ gF d1 d0 r0 n g l < 18446744073709551616 ∧ (∀ q, q * (d1 * 18446744073709551616 + d0) ≤ (r2 * 18446744073709551616 + r1) * 18446744073709551616 + r0 → q ≤ gF d1 d0 r0 n g l) := by
  intro n
  induction n with
  | zero => intro g l _ g0 g1 _ _ hq; exact ⟨g0, g1, hq⟩
  | succ n ih =>
    intro g l hn g0 g1 l0 he hq
    rw [gF]
    by_cases c : g * d0 ≤ l * 18446744073709551616 + r0
    · rw [if_pos c]; exact ⟨g0, g1, hq⟩
    · rw [if_neg c]
      have hc : l * 18446744073709551616 + r0 < g * d0 := by omega
      have gp := guess_pos hc g0 l0 a0
      have hq' : ∀ q, q * (d1 * 18446744073709551616 + d0) ≤ (r2 * 18446744073709551616 + r1) * 18446744073709551616 + r0 → q ≤ g - 1 := fun q h2 => by
        have e : 18446744073709551616 * l = l * 18446744073709551616 := Int.mul_comm _ _
        exact est_down (b := 18446744073709551616) (by omega) he h2 (by omega)
      by_cases c2 : 18446744073709551616 ≤ l + d1
      · rw [if_pos c2]; exact ⟨by omega, by omega, hq'⟩
      · rw [if_neg c2]
        exact ih (g - 1) (l + d1) (by omega) (by omega) (by omega) (by omega) (by grind) hq'
def guessF (r2 r1 r0 d1 d0 : Int) : Int :=
  if d1 ≤ r2 then 18446744073709551615 else gF d1 d0 r0 ((r2 * 18446744073709551616 + r1) / d1).toNat ((r2 * 18446744073709551616 + r1) / d1) ((r2 * 18446744073709551616 + r1) % d1)
theorem guessF_spec {r2 r1 r0 d1 d0 : Int} (a2 : 0 ≤ r2) (a1 : 0 ≤ r1 ∧ r1 < 18446744073709551616) (a0 : 0 ≤ r0 ∧ r0 < 18446744073709551616) (b1 : 0 < d1) (b0 : 0 ≤ d0) :
    0 ≤ guessF r2 r1 r0 d1 d0 ∧ guessF r2 r1 r0 d1 d0 < 18446744073709551616 ∧ (∀ q, 0 ≤ q → q < 18446744073709551616 → q * (d1 * 18446744073709551616 + d0) ≤ (r2 * 18446744073709551616 + r1) * 18446744073709551616 + r0 → q ≤ guessF r2 r1 r0 d1 d0) := by
  unfold guessF
  split
  · exact ⟨by omega, by omega, fun q _ h _ => by omega⟩
  · have hN : 0 ≤ r2 * 18446744073709551616 + r1 := by omega
    have hq : ∀ q, q * (d1 * 18446744073709551616 + d0) ≤ (r2 * 18446744073709551616 + r1) * 18446744073709551616 + r0 → q ≤ (r2 * 18446744073709551616 + r1) / d1 := by
      intro q hq
      by_cases c : 0 ≤ q
      · exact est_start (b := 18446744073709551616) (by omega) b1 b0 a0.2 c hq
      · have := Int.ediv_nonneg hN (show 0 ≤ d1 by omega); omega
    have := gF_spec (r2 := r2) (r1 := r1) b1 b0 a0.1 _ _ _ rfl (Int.ediv_nonneg hN (by omega)) (by refine Int.ediv_lt_of_lt_mul b1 ?_; omega) (Int.emod_nonneg _ (by omega)) (divmod_eq _ _).symm hq
    exact ⟨this.1, this.2.1, fun q _ _ h => this.2.2 q h⟩
set_option maxHeartbeats 800000 in
theorem guess_any (r2 r1 r0 d1 d0 : Int) (w : World) (a2 : 0 ≤ r2 ∧ r2 < 18446744073709551616) (a1 : 0 ≤ r1 ∧ r1 < 18446744073709551616) (a0 : 0 ≤ r0 ∧ r0 < 18446744073709551616) (b1 : 0 < d1 ∧ d1 < 18446744073709551616) (b0 : 0 ≤ d0 ∧ d0 < 18446744073709551616) :
    Calls Tryz.prog 221 #[.int .u64 r2, .int .u64 r1, .int .u64 r0, .int .u64 d1, .int .u64 d0] w fun e w' => e = .returned (.int .u64 (guessF r2 r1 r0 d1 d0)) ∧ ∃ n, w' = w.drewN n := by
  by_cases hge : d1 ≤ r2
  · have R : Hid (guessF r2 r1 r0 d1 d0 = 18446744073709551615) := if_pos hge
    go_enter Tryz.func221, Tryz.ntmps221
    go_wp2
    go_ret
    exact ⟨by rw [R.out]; rfl, 0, rfl⟩
  · have hlt : ¬ d1 ≤ r2 := hge
    have hlt2 : r2 < d1 := by omega
    have R : Hid (guessF r2 r1 r0 d1 d0 = gF d1 d0 r0 ((r2 * 18446744073709551616 + r1) / d1).toNat ((r2 * 18446744073709551616 + r1) / d1) ((r2 * 18446744073709551616 + r1) % d1)) := if_neg hge
    obtain ⟨G, hG⟩ : ∃ G, G = guessF r2 r1 r0 d1 d0 := ⟨_, rfl⟩
    rw [← hG] at R ⊢
    clear hG
    go_enter Tryz.func221, Tryz.ntmps221
    go_wp2_with (go_at_call 197; refine (Div64_any _ _ _ _ a2.1 hlt2 a1.1 a1.2 b1.2).mono ?_; rintro e w' ⟨g0, l0, rfl, he, p0, p1, p2, p3, m, rfl⟩; have HE : Hid (g0 * d1 + l0 = r2 * 18446744073709551616 + r1) := he; clear he)
    have start : Hid (gF d1 d0 r0 g0.toNat g0 l0 = G) := by
      have h2 : (r2 * 18446744073709551616 + r1) / d1 = g0 := by
        rw [← HE.out, Int.add_comm, Int.add_mul_ediv_right _ _ (by omega), Int.ediv_eq_zero_of_lt p0 p1]; omega
      have h3 : (r2 * 18446744073709551616 + r1) % d1 = l0 := by
        have := divmod_eq (r2 * 18446744073709551616 + r1) d1
        rw [h2] at this; have := HE.out; omega
      have := R.out
      rw [h2, h3] at this
      exact this.symm
    go_loop [11, 12] (fun a b => ∃ g l : Int, a = .int .u64 g ∧ b = .int .u64 l ∧ 0 ≤ g ∧ g < 18446744073709551616 ∧ 0 ≤ l ∧ l < 18446744073709551616 ∧ gF d1 d0 r0 g.toNat g l = G) (fun a _ => (intOf a).toNat)
    case atStart => exact ⟨_, _, rfl, rfl, p2, p3, p0, by omega, start.out⟩
    case round =>
      clear p0 p1 p2 p3 start HE R
      obtain ⟨g, l, rfl, rfl, p0, p1, p2, p3, hg⟩ := hrel
      have HG : Hid (gF d1 d0 r0 g.toNat g l = G) := hg
      clear hg
      have e1 := hiw_bd p0 p1 b0.1 b0.2
      have e2 := low_bd g d0
      have e3 := hilo g d0
      have E3 : Hid (low g d0 + 18446744073709551616 * hiw g d0 = g * d0) := e3
      clear e3
      by_cases c1 : hiw g d0 < l
      · have hs : Hid (g * d0 ≤ l * 18446744073709551616 + r0) := by have := E3.out; show _ ≤ _; omega
        go_wp2_with (go_at_call 177; refine (mul64 _ _ _ p0 p1 b0.1 b0.2).mono ?_; rintro e w' ⟨rfl, rfl⟩)
        go_ret
        exact ⟨by rw [← HG.out, gF_stop hs.out]; rfl, m, rfl⟩
      · by_cases c2 : hiw g d0 = l
        · by_cases c3 : low g d0 ≤ r0
          · have hs : Hid (g * d0 ≤ l * 18446744073709551616 + r0) := by have := E3.out; show _ ≤ _; omega
            go_wp2_with (go_at_call 177; refine (mul64 _ _ _ p0 p1 b0.1 b0.2).mono ?_; rintro e w' ⟨rfl, rfl⟩)
            go_ret
            exact ⟨by rw [← HG.out, gF_stop hs.out]; rfl, m, rfl⟩
          · have hd : Hid (l * 18446744073709551616 + r0 < g * d0) := by have := E3.out; show _ < _; omega
            have g1 : 1 ≤ g := guess_pos hd.out p0 p2 a0.1
            by_cases ov : l + d1 < 18446744073709551616
            · go_wp2_with (go_at_call 177; refine (mul64 _ _ _ p0 p1 b0.1 b0.2).mono ?_; rintro e w' ⟨rfl, rfl⟩)
              go_round
              case rel => exact ⟨g - 1, l + d1, rfl, rfl, by omega, by omega, by omega, ov, (gF_step g1 hd.out ov).symm.trans HG.out⟩
              case measure => simp [intOf]; omega
            · have hwp : IntKind.u64.wrap (l + d1) = l + d1 - 18446744073709551616 := by rw [wrap_u64]; omega
              go_wp2_with (go_at_call 177; refine (mul64 _ _ _ p0 p1 b0.1 b0.2).mono ?_; rintro e w' ⟨rfl, rfl⟩)
              go_ret
              exact ⟨by rw [← HG.out, gF_brk g1 hd.out (by omega)]; rfl, m, rfl⟩
        · have c2' : (hiw g d0 == l) = false := by rw [beq_eq_false_iff_ne]; exact c2
          have hd : Hid (l * 18446744073709551616 + r0 < g * d0) := by have := E3.out; show _ < _; omega
          have g1 : 1 ≤ g := guess_pos hd.out p0 p2 a0.1
          by_cases ov : l + d1 < 18446744073709551616
          · go_wp2_with (go_at_call 177; refine (mul64 _ _ _ p0 p1 b0.1 b0.2).mono ?_; rintro e w' ⟨rfl, rfl⟩)
            go_round
            case rel => exact ⟨g - 1, l + d1, rfl, rfl, by omega, by omega, by omega, ov, (gF_step g1 hd.out ov).symm.trans HG.out⟩
            case measure => simp [intOf]; omega
          · have hwp : IntKind.u64.wrap (l + d1) = l + d1 - 18446744073709551616 := by rw [wrap_u64]; omega
            go_wp2_with (go_at_call 177; refine (mul64 _ _ _ p0 p1 b0.1 b0.2).mono ?_; rintro e w' ⟨rfl, rfl⟩)
            go_ret
            exact ⟨by rw [← HG.out, gF_brk g1 hd.out (by omega)]; rfl, m, rfl⟩
end Go.Proofs.YtebilgnmnambnaaGreatDoor

namespace Go.Proofs.YtebilgnmnambnaaGreatDoor
open Go.RowKit Tn
structure Left (X R D : List Int) (g : Int) : Prop where
  len : X.length = D.length + 1
  wd : Wd X
  ge : val R / val D ≤ g
  g1 : g < 18446744073709551616
  cong : ∃ k : Int, val X = val R - g * val D + pw (D.length + 1) * k
theorem val_last {X : List Int} {n : Nat} (h : X.length = n + 1) : val X = val (X.take n) + pw n * nth X n := by
  have e := val_at X n (by omega)
  rw [← h, List.take_length] at e; exact e
theorem Left.top {X R D : List Int} {g : Int} (h : Left X R D g) (hR : Wd R) (hD : Wd D) (d0 : 0 < val D) (g0 : 0 ≤ g) : (nth X D.length = 0 → g = val R / val D ∧ val (X.take D.length) = val R - g * val D) ∧ (nth X D.length ≠ 0 → val R / val D ≤ g - 1) := by
  obtain ⟨k, hk⟩ := h.cong
  have e := val_last h.len
  have x0 := val_nonneg h.wd
  have x1 := val_lt h.wd
  rw [h.len] at x1
  have p := pw_pos D.length
  have dl := val_lt hD
  have R0 := val_nonneg hR
  have tb := nth_bd h.wd D.length
  have t0 := val_nonneg (h.wd.take D.length)
  have t1 := val_lt (h.wd.take D.length)
  rw [List.length_take, Nat.min_eq_left (by have := h.len; omega)] at t1
  have m1 : (val R / val D) * val D ≤ val R := quo_le d0
  have m2 : val R < (val R / val D + 1) * val D := by have := divmod_eq (val R) (val D); have := Int.emod_lt_of_pos (val R) d0; grind
  have pe : pw (D.length + 1) = 18446744073709551616 * pw D.length := rfl
  rw [pe] at hk x1
  by_cases hg : g = val R / val D
  · have v0 : 0 ≤ val R - g * val D := by rw [hg]; omega
    have v1 : val R - g * val D < val D := by rw [hg]; grind
    have hk0 : k = 0 := by
      by_cases c : k = 0
      · exact c
      · rcases Int.lt_or_gt_of_ne c with c | c
        · have := Int.mul_le_mul_of_nonneg_left (show k ≤ -1 by omega) (show 0 ≤ 18446744073709551616 * pw D.length by omega); omega
        · have := Int.mul_le_mul_of_nonneg_left (show 1 ≤ k by omega) (show 0 ≤ 18446744073709551616 * pw D.length by omega); omega
    rw [hk0] at hk
    have ht : nth X D.length = 0 := by
      by_cases c : nth X D.length = 0
      · exact c
      · have := Int.mul_le_mul_of_nonneg_left (show 1 ≤ nth X D.length by omega) (Int.le_of_lt p); omega
    refine ⟨fun _ => ⟨hg, ?_⟩, fun c => absurd ht c⟩
    rw [ht] at e; omega
  · have hg2 : val R / val D + 1 ≤ g := by have := h.ge; omega
    have v0 : val R - g * val D < 0 := by
      have := Int.mul_le_mul_of_nonneg_right hg2 (Int.le_of_lt d0); omega
    have v1 : -(18446744073709551615 * pw D.length) < val R - g * val D ∨ g = 0 := by
      by_cases c : g = 0
      · exact Or.inr c
      · left
        have a1 := Int.mul_lt_mul_of_pos_left dl (show 0 < g by omega)
        have a2 := Int.mul_le_mul_of_nonneg_right (show g ≤ 18446744073709551615 by have := h.g1; omega) (Int.le_of_lt p)
        omega
    have v1' : -(18446744073709551615 * pw D.length) < val R - g * val D := by
      rcases v1 with v1 | v1
      · exact v1
      · rw [v1] at v0; simp at v0; omega
    have hk1 : 1 ≤ k := by
      by_cases c : 1 ≤ k
      · exact c
      · have := Int.mul_le_mul_of_nonneg_left (show k ≤ 0 by omega) (show 0 ≤ 18446744073709551616 * pw D.length by omega); omega
    have hx : pw D.length < val X := by
      have := Int.mul_le_mul_of_nonneg_left hk1 (show 0 ≤ 18446744073709551616 * pw D.length by omega); omega
    refine ⟨fun c => ?_, fun _ => by omega⟩
    rw [c] at e; omega
theorem guess_fits {R D : List Int} {q : Int} (hR : Wd R) (hD : Wd D) (n : Nat) (hn : D.length = n + 2) (hl : R.length = n + 3) (q0 : 0 ≤ q) (hq : q * val D ≤ val R) :
    q * (nth D (n + 1) * 18446744073709551616 + nth D n) ≤ (nth R (n + 2) * 18446744073709551616 + nth R (n + 1)) * 18446744073709551616 + nth R n := by
  have e1 := val_last (X := D) (n := n + 1) (by omega)
  have e2 := val_at D n (by omega)
  have e3 := val_last (X := R) (n := n + 2) (by omega)
  have e4 := val_at R (n + 1) (by omega)
  have e5 := val_at R n (by omega)
  have d0 := val_nonneg (hD.take n)
  have r1 := val_lt (hR.take n)
  rw [List.length_take, Nat.min_eq_left (by omega)] at r1
  have p := pw_pos n
  have p1 : pw (n + 1) = 18446744073709551616 * pw n := rfl
  have p2 : pw (n + 2) = 18446744073709551616 * (18446744073709551616 * pw n) := rfl
  have f1 : val D = val (D.take n) + (nth D (n + 1) * 18446744073709551616 + nth D n) * pw n := by rw [e1, e2, p1]; grind
  have f2 : val R = val (R.take n) + ((nth R (n + 2) * 18446744073709551616 + nth R (n + 1)) * 18446744073709551616 + nth R n) * pw n := by rw [e3, e4, e5, p1, p2]; grind
  have g1 := Int.mul_nonneg q0 d0
  have g2 : q * (nth D (n + 1) * 18446744073709551616 + nth D n) * pw n < ((nth R (n + 2) * 18446744073709551616 + nth R (n + 1)) * 18446744073709551616 + nth R n + 1) * pw n := by
    rw [f1, f2] at hq; grind
  have := Int.lt_of_mul_lt_mul_right g2 (Int.le_of_lt p)
  omega
theorem Left.first {R D S' : List Int} {g c : Int} (hR : R.length = D.length + 1) (hw : Wd S') (hl : S'.length = D.length) (ge : val R / val D ≤ g) (g1 : g < 18446744073709551616) (hv : val S' - pw D.length * c = val (R.take D.length) - val D * g) : Left (S' ++ [IntKind.u64.wrap (nth R D.length - c)]) R D g := by
  refine ⟨by simp [hl], hw.append (Wd.cons (by rw [wrap_u64]; omega) (by rw [wrap_u64]; omega) Wd.nil), ge, g1, ?_⟩
  have e := val_last hR
  rw [val_snoc, hl, wrap_u64]
  have dm := Int.emod_add_mul_ediv (nth R D.length - c) 18446744073709551616
  refine ⟨-((nth R D.length - c) / 18446744073709551616), ?_⟩
  have pe : pw (D.length + 1) = 18446744073709551616 * pw D.length := rfl
  rw [e, pe]
  grind
theorem Left.back {X R D S' : List Int} {g c : Int} (h : Left X R D g) (hw : Wd S') (hl : S'.length = D.length) (ge : val R / val D ≤ g - 1) (hv : val S' + pw D.length * c = val (X.take D.length) + val D) : Left (S' ++ [IntKind.u64.wrap (nth X D.length + c)]) R D (g - 1) := by
  refine ⟨by simp [hl], hw.append (Wd.cons (by rw [wrap_u64]; omega) (by rw [wrap_u64]; omega) Wd.nil), ge, by have := h.g1; omega, ?_⟩
  have e := val_last h.len
  obtain ⟨k, hk⟩ := h.cong
  rw [val_snoc, hl, wrap_u64]
  have dm := Int.emod_add_mul_ediv (nth X D.length + c) 18446744073709551616
  refine ⟨k - (nth X D.length + c) / 18446744073709551616, ?_⟩
  have pe : pw (D.length + 1) = 18446744073709551616 * pw D.length := rfl
  rw [pe] at hk ⊢
  grind
theorem Cells.snoc {w : World} {b o : Nat} {S : List Int} (h : Cells w b o S) (v : Int) {u : Value} (hu : w.cell? ⟨b, o + S.length, none⟩ = some u) : Cells (w.setCell ⟨b, o + S.length, none⟩ (.int .u64 v)) b o (S ++ [v]) := by
  refine Cells.append (fun i hi => ?_) (fun i hi => ?_)
  · rw [World.cell?_setCell_other _ _ _ _ (by simp; try omega)]; exact h i hi
  · have : i = 0 := by simp at hi; omega
    subst this
    exact World.cell?_setCell_same _ _ _ hu
end Go.Proofs.YtebilgnmnambnaaGreatDoor

namespace Go.Proofs.YtebilgnmnambnaaGreatDoor
open Go.RowKit Tn
theorem slice_h (g o len cap : Nat) (h : Int) (n : Nat) (eh : h = n) (h2 : n ≤ cap) (w : World) :
    (Instr.slice 63 (.slice (some ⟨g, o, none⟩) len cap) none (some (.int .i64 h)) none).run Tryz.prog w = .ok (.slice (some ⟨g, o, none⟩) n cap) w := by
  subst eh
  rw [run_slice_h w 63 _ len cap (by rw [Tryz.elemU]; exact Tryz.underlying63) .i64 _ (by omega) (by omega), Tryz.elemU]
  simp [Tryz.sizeOf87, Result.andThen, sliced, Addr.add]
set_option maxHeartbeats 3200000 in
set_option maxRecDepth 100000 in
theorem divStep_any (b o cap m : Nat) (R : List Int) (b2 o2 cap2 : Nat) (D : List Int) (n : Nat) (w : World) (hn : D.length = n + 2) (em : m = n + 3) (hl : R.length = n + 3) (hR : Wd R) (hD : Wd D) (hd : 0 < nth D (n + 1)) (hlt : val R < val D * 18446744073709551616) (hL : n ≤ 549755813888) (hcap : m ≤ cap)
    (hcR : Cells w b o R) (hF : Own w b) (hne : b2 ≠ b) (hcD : Cells w b2 o2 D) :
    Calls Tryz.prog 198 #[.slice (some ⟨b, o, none⟩) m cap, .slice (some ⟨b2, o2, none⟩) (n + 2) cap2] w fun e w' => ∃ q R', e = .returned (.int .u64 q) ∧ 0 ≤ q ∧ q < 18446744073709551616 ∧ R'.length = n + 3 ∧ Wd R' ∧ nth R' (n + 2) = 0 ∧ q * val D + val R' = val R ∧ val R' < val D ∧ Cells w' b o R' ∧ Wr b o (n + 3) w w' := by
  subst em
  have D0 : 0 < val D := by
    have e := val_last (X := D) (n := n + 1) (by omega)
    have := val_nonneg (hD.take (n + 1)); have := Int.mul_le_mul_of_nonneg_left (show 1 ≤ nth D (n + 1) by omega) (Int.le_of_lt (pw_pos (n + 1))); have := pw_pos (n + 1); omega
  have k1 := hcR.at (i := n + 2) (by omega)
  have k2 := hcR.at (i := n + 1) (by omega)
  have k3 := hcR.at (i := n) (by omega)
  have k4 := hcD.at (i := n + 1) (by omega)
  have k5 := hcD.at (i := n) (by omega)
  have c2 := nth_bd hR (n + 2)
  have c1 := nth_bd hR (n + 1)
  have c0 := nth_bd hR n
  have d1 := nth_bd hD (n + 1)
  have d0 := nth_bd hD n
  have w1 : IntKind.i64.wrap ((n : Int) + 2 - 1) = (n : Int) + 1 := by rw [IntWalk.i64_in _ (by omega)]; omega
  have w2 : IntKind.i64.wrap ((n : Int) + 2 - 2) = (n : Int) := by rw [IntWalk.i64_in _ (by omega)]; omega
  have H : Hid (0 < val D ∧ val R < val D * 18446744073709551616 ∧ 0 < nth D (n + 1)) := ⟨D0, hlt, hd⟩
  have HN : Hid (D.length = n + 2) := hn
  have HL : Hid (R.length = n + 3) := hl
  clear hlt hn hl
  go_enter Tryz.func198, Tryz.ntmps198
  go_wp2_with fail
  go_quiet ((go_at_call 221; exact Calls.quiet_of (guess_any _ _ _ _ _ _ c2 c1 c0 ⟨hd, d1.2⟩ d0)))
  have HG : Hid _ := guessF_spec c2.1 c1 c0 hd d0.1 (r2 := nth R (n + 2)) (r1 := nth R (n + 1)) (r0 := nth R n) (d1 := nth D (n + 1)) (d0 := nth D n)
  have hq0 : 0 ≤ val R / val D := Int.ediv_nonneg (val_nonneg hR) (by omega)
  have hq1 : val R / val D < 18446744073709551616 := Int.ediv_lt_of_lt_mul D0 (by have := H.out.2.1; rw [Int.mul_comm]; exact this)
  have HQ : Hid (val R / val D ≤ guessF (nth R (n + 2)) (nth R (n + 1)) (nth R n) (nth D (n + 1)) (nth D n)) := HG.out.2.2 _ hq0 hq1 (guess_fits hR hD n HN.out HL.out hq0 (quo_le D0))
  have g0 := HG.out.1
  have g1 := HG.out.2.1
  generalize guessF (nth R (n + 2)) (nth R (n + 1)) (nth R n) (nth D (n + 1)) (nth D n) = G at *
  have cR0 : Cells (w.drewN nq) b o R := hcR
  have cD0 : Cells (w.drewN nq) b2 o2 D := hcD
  have O0 : Own (w.drewN nq) b := hF
  have W0 : Wr b o (n + 3) w (w.drewN nq) := (Wr.refl _ _ _ _).drewN nq
  generalize w.drewN nq = w0 at *
  have HCD : Hid (Cells w b2 o2 D) := hcD
  have HO : Hid (Own w b) := hF
  clear k1 k2 k3 k4 k5 c2 c1 c0 d1 d0 w1 w2 HG hcR hcD hF
  have k1 := cR0.at (i := n + 2) (by have := HL.out; omega)
  have hsl := slice_h b o (n + 3) cap ((n : Int) + 2) (n + 2) (by omega) (by omega)
  have hb1 : (0 : Int) ≤ (n : Int) + 2 := by omega
  have ht1 : ((n : Int) + 2).toNat = n + 2 := by omega
  have tk : Hid ((R.take (n + 2)).length = n + 2) := by show _ = _; rw [List.length_take, HL.out]; omega
  go_upto_region 3 with fail
  go_cut [6] (fun t wc => ∃ X, t = .int .u64 G ∧ Left X R D G ∧ Cells wc b o X ∧ Wr b o (n + 3) w wc)
  case first =>
    go_region_with (go_at_call 222; refine (subProduct_any b o _ _ (R.take (n + 2)) b2 o2 _ _ D G _ tk.out.symm HN.out.symm (hR.take _) hD (HN.out.trans tk.out.symm) g0 g1 (by have := tk.out; omega) (cR0.take _).drew (O0.free _ _).drew hne cD0.drew).mono ?_; rintro e w2 ⟨S', c, rfl, c0, c1, hl', hw', hv', hc', hwr'⟩; rw [tk.out] at hl' hv' hwr'; have k2 := (hwr'.undrew.cell (o + (n + 2)) (by omega)).trans k1; have k3 := (O0.wr hwr'.undrew).free o (n + 3) (n + 2) (by omega))
    all_goals
      go_wp2_with fail
      go_meet
      case rel =>
        refine ⟨_, rfl, Left.first (HL.out.trans (by rw [HN.out])) hw' (hl'.trans HN.out.symm) HQ.out g1 (by rw [HN.out]; exact hv'), ?_, (W0.trans (hwr'.undrew.mono (Nat.le_refl _) (by omega))).setCell _ (by omega) _⟩
        have := hc'.snoc (IntKind.u64.wrap (nth R (n + 2) - c)) (by rw [hl']; exact k2)
        rw [hl'] at this
        rw [HN.out]; exact this
  case rest =>
    obtain ⟨X0, rfl, hX0, hc0, hwr0⟩ := hcut
    clear k1 cR0 cD0 O0 W0
    go_wp2_with fail
    go_loopw [6] (fun t wr => ∃ (g : Int) (X : List Int), t = .int .u64 g ∧ 0 ≤ g ∧ Left X R D g ∧ Cells wr b o X ∧ Wr b o (n + 3) w wr) (fun t _ => (intOf t).toNat)
    case atStart => exact ⟨G, X0, rfl, g0, hX0, hc0, hwr0⟩
    case round =>
      clear hX0 hc0 hwr0 hq0 hq1 HQ g0 g1
      obtain ⟨g, X, rfl, g0, hX, hc, hwr⟩ := hrel
      have T : Hid _ := hX.top hR hD H.out.1 g0
      have g1 := hX.g1
      have XL : Hid (X.length = n + 3) := hX.len.trans (by rw [HN.out])
      have k1 := hc.at (i := n + 2) (by have := XL.out; omega)
      by_cases hz : nth X (n + 2) = 0
      · have F := T.out.1 (by rw [HN.out]; exact hz)
        have F1 : Hid _ := F
        rw [hz] at k1
        have E : Hid (val X = val R - g * val D) := by
          have e := val_last XL.out
          have f := F.2
          rw [HN.out] at f
          rw [hz] at e
          show _ = _
          omega
        have M : Hid (val X < val D) := by
          have e := E.out
          have e2 := divmod_eq (val R) (val D)
          have e3 := Int.emod_lt_of_pos (val R) H.out.1
          rw [← F.1] at e2
          show _ < _
          omega
        have HZ : Hid (nth X (n + 2) = 0) := hz
        clear F hz
        go_wp2
        go_ret
        exact ⟨g, X, rfl, g0, g1, XL.out, hX.wd, HZ.out, by have := E.out; omega, M.out, hc, hwr⟩
      · have F : Hid (val R / val D ≤ g - 1) := T.out.2 (by rw [HN.out]; exact hz)
        have gp : 1 ≤ g := by have := F.out; have := Int.ediv_nonneg (val_nonneg hR) (Int.le_of_lt H.out.1); omega
        have hz' : (nth X (n + 2) != 0) = true := by rw [bne_iff_ne]; exact hz
        have O := HO.out.wr hwr
        have cD := HCD.out.other hwr hne
        have xk : Hid ((X.take (n + 2)).length = n + 2) := by show _ = _; rw [List.length_take, XL.out]; omega
        clear hz
        go_wp2_with fail
        go_region_with (go_at_call 165; refine (addInto_at b o _ _ (X.take (n + 2)) (some ⟨b2, o2, none⟩) _ _ D _ xk.out.symm HN.out.symm (hX.wd.take _) hD (by have := xk.out; have := HN.out; omega) (by have := xk.out; omega) (hc.take _).drew (O.free _ _).drew (fun _ => ⟨_, _, rfl, hne, cD.drew⟩)).mono ?_; rintro e w2 ⟨S', c, rfl, c0, c1, hl', hw', hv', hc', hwr'⟩; rw [xk.out] at hl' hv' hwr'; have k2 := (hwr'.undrew.cell (o + (n + 2)) (by omega)).trans k1; have k3 := (O.wr hwr'.undrew).free o (n + 3) (n + 2) (by omega))
        all_goals
          go_wp2_with fail
          go_roundw
          case rel =>
            refine ⟨g - 1, _, rfl, by omega, hX.back hw' (hl'.trans HN.out.symm) F.out (by rw [HN.out]; exact hv'), ?_, (hwr.trans (hwr'.undrew.mono (Nat.le_refl _) (by omega))).setCell _ (by omega) _⟩
            have := hc'.snoc (IntKind.u64.wrap (nth X (n + 2) + c)) (by rw [hl']; exact k2)
            rw [hl'] at this
            rw [HN.out]; exact this
          case measure => simp [intOf]; omega
end Go.Proofs.YtebilgnmnambnaaGreatDoor
