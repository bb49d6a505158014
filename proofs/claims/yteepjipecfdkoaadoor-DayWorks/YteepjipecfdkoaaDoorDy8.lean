import Derived.Test.YteepjipecfdkoaaDoorDy7
import Derived.Test.YteepjipecfdkoaaDoorDy5
namespace Go.Proofs.YteepjipecfdkoaaDoor.Dy
open Go.RowKit Tn

set_option maxHeartbeats 400000 in
theorem yearOf_any (n : Int) (h : nr n = true) (w : World) : Calls Tryd.prog 18 #[.int .i64 n] w fun e w' => e = .returned (.int .i64 (fy n)) ∧ w' = w := by
  have hn := nr_iff.1 h
  have hg := good_iff.1 (fr_good h).1
  obtain ⟨a, ha⟩ : ∃ a, n - 1 = a := ⟨_, rfl⟩
  obtain ⟨q, hq⟩ : ∃ q, a / 366 = q := ⟨_, rfl⟩
  have e0 : IntKind.i64.wrap (n - 1) = a := by rw [wrapI _ (by omega) (by omega)]; exact ha
  have e1 : a.tdiv 366 = q := by rw [Int.tdiv_eq_ediv_of_nonneg (by omega)]; exact hq
  have e2 : IntKind.i64.wrap q = q := wrapI _ (by omega) (by omega)
  have e3 : IntKind.i64.wrap (1 + q) = 1 + q := wrapI _ (by omega) (by omega)
  have i0 : 1 ≤ 1 + q ∧ 1 + q ≤ fy n := ⟨by omega, fr_first h (by have := hd_bd (show 1 ≤ 1 + q by omega); omega)⟩
  clear hq ha
  go_enter Tryd.func18, Tryd.ntmps18
  go_wp2_with fail
  go_loop [3] (fun t => ∃ z : Int, 1 ≤ z ∧ z ≤ fy n ∧ t = .int .i64 z) (fun t => (fy n - RowKit.intOf t).toNat)
  case atStart => exact ⟨_, i0.1, i0.2, rfl⟩
  case round =>
    obtain ⟨z, z1, z2, rfl⟩ := hrel
    have f := fr_year h z2
    have A := daysAhead_any (z + 1) (by omega) (by omega)
    have f6 : IntKind.i64.wrap (z + 1) = z + 1 := wrapI _ (by omega) (by omega)
    by_cases c : z < fy n
    · replace f := f.2 c
      generalize hd (z + 1) = H at *
      go_wp2_with (first | (go_at_call 19; refine (A _).mono ?_; rintro x w1 ⟨rfl, rfl⟩) | fail)
      go_round
      case rel => exact ⟨z + 1, by omega, by omega, rfl⟩
      case measure => simp [RowKit.intOf]; omega
    · replace f : ¬ hd (z + 1) < n := fun k => c (f.1 k)
      obtain rfl : z = fy n := by omega
      generalize hd (fy n + 1) = H at *
      go_wp2_with (first | (go_at_call 19; refine (A _).mono ?_; rintro x w1 ⟨rfl, rfl⟩) | fail)
      go_ret
      exact ⟨rfl, rfl⟩
set_option maxHeartbeats 400000 in
theorem FromNumber_any (n : Int) (w : World) (G : Gl w) : Calls Tryd.prog 8 #[.int .i64 n] w fun e w' => e = .returned (.tuple #[dt (fy n) (fm n) (fd n), .int .i64 (rg (nr n))]) ∧ Below w.heap.size w w' := by
  have I := isNumber_any n
  cases g : nr n
  · obtain ⟨p, q, r⟩ := fr_bad g
    rw [p, q, r]
    rw [g] at I
    unfold dt rg
    go_enter Tryd.func8, Tryd.ntmps8
    go_wp2_with (first | (go_at_call 17; refine (I _).mono ?_; rintro x w1 ⟨rfl, rfl⟩) | fail)
    exact bodyPost_ret (v := .tuple #[.agg #[.int .i64 0, .int .i64 0, .int .i64 0], .int .i64 1]) (by simp [results, Tryd.results8, go_sem]) rfl ⟨rfl, bl _ _⟩
  · have Y := yearOf_any n g
    have hn := nr_iff.1 g
    obtain ⟨gg, ge⟩ := fr_good g
    have hg := good_iff.1 gg
    have A := daysAhead_any (fy n) (by omega) (by omega)
    have F := fun z => fr_month (n := n) (z := z) g
    have hb := hd_bd hg.1
    have G' := G.alloc (.cells #[.int .i64 0, .int .i64 0, .int .i64 0] 23)
    unfold num at ge
    clear gg G
    rw [g] at I
    unfold dt rg
    generalize fy n = Y0 at *
    generalize fm n = M0 at *
    generalize fd n = D0 at *
    obtain ⟨R, hR⟩ : ∃ R, n - hd Y0 = R := ⟨_, rfl⟩
    have f0 : IntKind.i64.wrap (n - hd Y0) = R := by rw [wrapI _ (by omega) (by omega)]; exact hR
    go_enter Tryd.func8, Tryd.ntmps8
    go_wp2_with (first | (go_at_call 17; refine (I _).mono ?_; rintro x w1 ⟨rfl, rfl⟩) | (go_at_call 18; refine (Y _).mono ?_; rintro x w1 ⟨rfl, rfl⟩) | (go_at_call 19; refine (A _).mono ?_; rintro x w1 ⟨rfl, rfl⟩) | fail)
    go_loop [5, 6] (fun t r => ∃ z : Int, 1 ≤ z ∧ z ≤ M0 ∧ t = .int .i64 z ∧ r = .int .i64 (R - cu (lp Y0) z)) (fun t _ => (M0 - RowKit.intOf t).toNat)
    case atStart => exact ⟨1, by omega, by omega, rfl, by rw [cu_one]; simp⟩
    case round =>
      obtain ⟨z, z1, z2, rfl, rfl⟩ := hrel
      have L := lengthOf_any Y0 z (by omega) z1 (by omega) _ G'
      have f := F z z1 z2
      have cb := cu_bd (lp Y0) z1 (by omega)
      have sb := sz_bd (lp Y0)
      have mb := ml_bd (lp Y0) z
      have f6 : IntKind.i64.wrap (z + 1) = z + 1 := wrapI _ (by omega) (by omega)
      obtain ⟨H, hH⟩ : ∃ H, R - cu (lp Y0) z = H := ⟨_, rfl⟩
      rw [show n - hd Y0 - cu (lp Y0) z = H by omega] at f
      rw [hH]
      by_cases c : z < M0
      · replace f := f.2 c
        have cc := cu_add (lp Y0) z1 c (by omega)
        have E : Hid (H - ml (lp Y0) z = R - cu (lp Y0) (z + 1)) := by show _ = _; rw [cu_succ _ z1 (by omega)]; omega
        have f5 : IntKind.i64.wrap (H - ml (lp Y0) z) = H - ml (lp Y0) z := wrapI _ (by omega) (by omega)
        clear cb sb mb hH cc hb
        generalize ml (lp Y0) z = S0 at *
        go_wp2_with (first | (go_at_call 20; refine L.mono ?_; rintro x w1 ⟨rfl, rfl⟩) | fail)
        go_round
        case rel => exact ⟨z + 1, by omega, by omega, rfl, by rw [E.out]⟩
        case measure => simp [RowKit.intOf]; omega
      · replace f : ¬ ml (lp Y0) z < H := fun k => c (f.1 k)
        obtain rfl : z = M0 := by omega
        obtain rfl : H = D0 := by omega
        generalize ml (lp Y0) z = S0 at *
        go_wp2_with (first | (go_at_call 20; refine L.mono ?_; rintro x w1 ⟨rfl, rfl⟩) | fail)
        exact bodyPost_ret (v := .tuple #[.agg #[.int .i64 Y0, .int .i64 z, .int .i64 H], .int .i64 0]) (by simp [results, Tryd.results8, go_sem]) rfl ⟨rfl, bl _ _⟩
end Go.Proofs.YteepjipecfdkoaaDoor.Dy
