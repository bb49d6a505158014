import Derived.Test.YtfalncbcomlelaaGreatDoorDiv64M
import Derived.WalkLawsBesides
import Derived.Deep.DeepCutAuto
import Derived.Deep.CutBlock
namespace Go.Proofs.YtfalncbcomlelaaGreatDoor
open Go.RowKit Tn

set_option maxRecDepth 100000 in
set_option maxHeartbeats 3200000 in
theorem div64_core (hi lo y : Int) (w : World) (h0 : 0 < hi) (h1 : hi < y) (y1 : y < 18446744073709551616) (s : Nat) (hs : (s : Int) = 64 - (Lib.bitLen y.toNat : Int)) (s1 : s ≤ 63)
    (Y v1 v0 uh ul u1 u0 Q1 R1 Q0 R0 : Int) (r1 : IntKind.u64.wrap (y * 2 ^ s) = Y) (r2 : Y / 4294967296 = v1) (r3 : bits .and .u64 Y 4294967295 = v0) (r4 : bits .or .u64 (IntKind.u64.wrap (hi * 2 ^ s)) (lo / 2 ^ (64 - s)) = uh)
    (r5 : IntKind.u64.wrap (lo * 2 ^ s) = ul) (r6 : ul / 4294967296 = u1) (r7 : bits .and .u64 ul 4294967295 = u0)
    (a1 : 2147483648 ≤ v1) (a2 : v1 < 4294967296) (a3 : 0 ≤ v0) (a4 : v0 < 4294967296) (a5 : 0 ≤ u1) (a6 : u1 < 4294967296) (a7 : 0 ≤ u0) (a8 : u0 < 4294967296) (a9 : 0 ≤ uh) (a10 : uh < v1 * 4294967296 + v0) (a11 : Y = v1 * 4294967296 + v0) (a12 : uh < 18446744073709551616)
    (d1 : Q1 = (uh * 4294967296 + u1) / Y) (d3 : Q0 = (R1 * 4294967296 + u0) / Y)
    (e1 : IntKind.u64.wrap (uh / v1 * v1) = uh / v1 * v1) (e2 : IntKind.u64.wrap (uh - uh / v1 * v1) = uh - uh / v1 * v1)
    (e3 : IntKind.u64.wrap (IntKind.u64.wrap (IntKind.u64.wrap (uh * 4294967296) + u1) - IntKind.u64.wrap (Q1 * Y)) = R1)
    (e4 : IntKind.u64.wrap (R1 / v1 * v1) = R1 / v1 * v1) (e5 : IntKind.u64.wrap (R1 - R1 / v1 * v1) = R1 - R1 / v1 * v1)
    (e6 : IntKind.u64.wrap (IntKind.u64.wrap (IntKind.u64.wrap (R1 * 4294967296) + u0) - IntKind.u64.wrap (Q0 * Y)) = R0)
    (e7 : 0 ≤ Q1) (e8 : Q1 < 4294967296) (e9 : 0 ≤ Q0) (e10 : Q0 < 4294967296) (e11 : 0 ≤ R1) (e12 : R1 < v1 * 4294967296 + v0) (e13 : R1 < 18446744073709551616) :
    Calls Tryz.prog 140 #[.int .u64 hi, .int .u64 lo, .int .u64 y] w fun e w' => e = .returned (.tuple #[.int .u64 (Q1 * 4294967296 + Q0), .int .u64 (R0 / 2 ^ s)]) ∧ w' = w := by
  have t1 : (y == 0) = false := by rw [beq_eq_false_iff_ne]; omega
  have t2 : (hi == 0) = false := by rw [beq_eq_false_iff_ne]; omega
  have HS : Hid ((64 - (Lib.bitLen y.toNat : Int)) = (s : Int)) := hs.symm
  have S1 : Hid (Est 4294967296 v1 v0 uh u1 (uh / v1) (uh - uh / v1 * v1)) := Est.start rfl a1 a2 a3 a4 a5 a6 a9 a10
  have S2 : Hid (Est 4294967296 v1 v0 R1 u0 (R1 / v1) (R1 - R1 / v1 * v1)) := Est.start rfl a1 a2 a3 a4 a7 a8 e11 e12
  have D1 : Hid (Q1 = (uh * 4294967296 + u1) / (v1 * 4294967296 + v0)) := by rw [d1, a11]; exact rfl
  have D3 : Hid (Q0 = (R1 * 4294967296 + u0) / (v1 * 4294967296 + v0)) := by rw [d3, a11]; exact rfl
  have H10 : Hid (uh < v1 * 4294967296 + v0) := a10
  have H12 : Hid (R1 < v1 * 4294967296 + v0) := e12
  have n1 : ¬ v1 = 0 := by omega
  clear hs a10 a11 d1 d3 e12
  go_enter Tryz.func140, Tryz.ntmps140
  go_upto_block 0 with (go_at_call 125; refine (Tryz.bits_LeadingZeros64 _ _ (by omega) (by omega)).mono ?_; rintro e w' ⟨rfl, hw'⟩; have hw2 := hw'.symm; subst hw2; rw [HS.out])
  go_cut [15, 16] (fun a _ wc => a = .int .u64 Q1 ∧ wc = w)
  case first =>
    go_wp2_with fail
    go_loop [15, 16] (fun a b => ∃ g r : Int, a = .int .u64 g ∧ b = .int .u64 r ∧ Est 4294967296 v1 v0 uh u1 g r) (fun a _ => (intOf a).toNat)
    case atStart => exact ⟨_, _, rfl, rfl, S1.out⟩
    case round =>
      obtain ⟨g, r, rfl, rfl, hE⟩ := hrel
      have g0 := hE.g0; have g1 := hE.g1; have q0 := hE.r0; have q1 := hE.r1
      by_cases hg : 4294967296 ≤ g
      · have hd : Hid _ := hE.down rfl a1 a2 a3 a5 H10.out a6 (Or.inl hg)
        by_cases hr : r + v1 < 4294967296
        · go_wp2
          go_round
          case rel => exact ⟨g - 1, r + v1, rfl, rfl, hE.next hd.out (by omega) hr⟩
          case measure => simp [intOf]; omega
        · go_wp2
          go_meet
          case rel => exact ⟨by rw [D1.out]; exact congrArg _ (hE.isBrk hd.out rfl a1 a3 a4 a5 (by omega)), rfl⟩
      · have m := mul_hi (M := 4294967295) g0 (by omega) a3 (by omega)
        have p1 : IntKind.u64.wrap (g * v0) = g * v0 := by rw [wrap_u64]; omega
        by_cases hc : 4294967296 * r + u1 < g * v0
        · have hd : Hid _ := hE.down rfl a1 a2 a3 a5 H10.out a6 (Or.inr hc)
          have hg1 : 1 ≤ g := hd.out.2.2
          by_cases hr : r + v1 < 4294967296
          · go_wp2
            go_round
            case rel => exact ⟨g - 1, r + v1, rfl, rfl, hE.next hd.out (by omega) hr⟩
            case measure => simp [intOf]; omega
          · go_wp2
            go_meet
            case rel => exact ⟨by rw [D1.out]; exact congrArg _ (hE.isBrk hd.out rfl a1 a3 a4 a5 (by omega)), rfl⟩
        · go_wp2
          go_meet
          case rel => exact ⟨by rw [D1.out]; exact congrArg _ (hE.done (by omega) (by omega) a3 (by omega)), rfl⟩
  case rest =>
    obtain ⟨rfl, rfl⟩ := hcut
    go_upto_block 2 with fail
    go_cut [18, 16] (fun a _ wd => a = .int .u64 Q0 ∧ wd = wc)
    case first =>
      go_wp2_with fail
      go_loop [18, 16] (fun a b => ∃ g r : Int, a = .int .u64 g ∧ b = .int .u64 r ∧ Est 4294967296 v1 v0 R1 u0 g r) (fun a _ => (intOf a).toNat)
      case atStart => exact ⟨_, _, rfl, rfl, S2.out⟩
      case round =>
        obtain ⟨g, r, rfl, rfl, hE⟩ := hrel
        have g0 := hE.g0; have g1 := hE.g1; have q0 := hE.r0; have q1 := hE.r1
        by_cases hg : 4294967296 ≤ g
        · have hd : Hid _ := hE.down rfl a1 a2 a3 a7 H12.out a8 (Or.inl hg)
          by_cases hr : r + v1 < 4294967296
          · go_wp2
            go_round
            case rel => exact ⟨g - 1, r + v1, rfl, rfl, hE.next hd.out (by omega) hr⟩
            case measure => simp [intOf]; omega
          · go_wp2
            go_meet
            case rel => exact ⟨by rw [D3.out]; exact congrArg _ (hE.isBrk hd.out rfl a1 a3 a4 a7 (by omega)), rfl⟩
        · have m := mul_hi (M := 4294967295) g0 (by omega) a3 (by omega)
          have p1 : IntKind.u64.wrap (g * v0) = g * v0 := by rw [wrap_u64]; omega
          by_cases hc : 4294967296 * r + u0 < g * v0
          · have hd : Hid _ := hE.down rfl a1 a2 a3 a7 H12.out a8 (Or.inr hc)
            have hg1 : 1 ≤ g := hd.out.2.2
            by_cases hr : r + v1 < 4294967296
            · go_wp2
              go_round
              case rel => exact ⟨g - 1, r + v1, rfl, rfl, hE.next hd.out (by omega) hr⟩
              case measure => simp [intOf]; omega
            · go_wp2
              go_meet
              case rel => exact ⟨by rw [D3.out]; exact congrArg _ (hE.isBrk hd.out rfl a1 a3 a4 a7 (by omega)), rfl⟩
          · go_wp2
            go_meet
            case rel => exact ⟨by rw [D3.out]; exact congrArg _ (hE.done (by omega) (by omega) a3 (by omega)), rfl⟩
    case rest =>
      obtain ⟨rfl, rfl⟩ := hcut
      go_wp2
      go_ret2
      exact ⟨rfl, rfl⟩

set_option maxRecDepth 100000 in
theorem div64_small (lo y : Int) (w : World) (h1 : 0 < y) (l0 : 0 ≤ lo) (l1 : lo < 18446744073709551616) :
    Calls Tryz.prog 140 #[.int .u64 0, .int .u64 lo, .int .u64 y] w fun e w' => e = .returned (.tuple #[.int .u64 (lo / y), .int .u64 (lo % y)]) ∧ ∃ n, w' = w.drewN n := by
  have t1 : (y == 0) = false := by rw [beq_eq_false_iff_ne]; omega
  have t2 : ¬ y ≤ 0 := by omega
  have n1 : ¬ y = 0 := by omega
  go_enter Tryz.func140, Tryz.ntmps140
  go_wp2
  go_quiet (fail)
  go_wp2
  go_ret2
  exact ⟨rfl, _, rfl⟩
end Go.Proofs.YtfalncbcomlelaaGreatDoor
