import Derived.Test.YtfalncbcomlelaaGreatDoorDiv3
import Derived.Deep.DeepCutAuto
import Derived.Deep.CutBlock
namespace Go.Proofs.YtfalncbcomlelaaGreatDoor
open Go.RowKit Tn

/-- s[:n]. -/
theorem slice_h (g o len cap : Nat) (h : Int) (n : Nat) (eh : h = n) (h2 : n ≤ cap) (w : World) :
    (Instr.slice 54 (.slice (some ⟨g, o, none⟩) len cap) none (some (.int .i64 h)) none).run Tryz.prog w = .ok (.slice (some ⟨g, o, none⟩) n cap) w := by
  subst eh
  rw [run_slice_h w 54 _ len cap (by rw [Tryz.elemU]; exact Tryz.underlying54) .i64 _ (by omega) (by omega), Tryz.elemU]
  simp [Tryz.sizeOf95, Result.andThen, sliced, Addr.add]

set_option maxHeartbeats 3200000 in
set_option maxRecDepth 100000 in
/-- whole.divideStep. -/
theorem divStep_any (b o cap m : Nat) (R : List Int) (b2 o2 cap2 : Nat) (D : List Int) (n : Nat) (w : World) (hn : D.length = n + 2) (em : m = n + 3) (hl : R.length = n + 3) (hR : Wd R) (hD : Wd D) (hd : 0 < nth D (n + 1)) (hlt : val R < val D * 18446744073709551616) (hL : n ≤ 549755813888) (hcap : m ≤ cap)
    (hcR : Cells w b o R) (hF : Own w b) (hne : b2 ≠ b) (hcD : Cells w b2 o2 D) :
    Calls Tryz.prog 141 #[.slice (some ⟨b, o, none⟩) m cap, .slice (some ⟨b2, o2, none⟩) (n + 2) cap2] w fun e w' => ∃ q R', e = .returned (.int .u64 q) ∧ 0 ≤ q ∧ q < 18446744073709551616 ∧ R'.length = n + 3 ∧ Wd R' ∧ nth R' (n + 2) = 0 ∧ q * val D + val R' = val R ∧ val R' < val D ∧ Cells w' b o R' ∧ Wr b o (n + 3) w w' := by
  subst em
  have D0 : 0 < val D := by
    have e := val_last (X := D) (n := n + 1) (by omega)
    have := val_nonneg (hD.take (n + 1)); have := Int.mul_le_mul_of_nonneg_left (show 1 ≤ nth D (n + 1) by omega) (Int.le_of_lt (pw_pos (n + 1))); have := pw_pos (n + 1); omega
  have k1 := hcR.at (i := n + 2) (by omega)
  have k2 := hcR.at (i := n + 1) (by omega)
  have k3 := hcR.at (i := n) (by omega)
  have k4 := hcD.at (i := n + 1) (by omega)
  have k5 := hcD.at (i := n) (by omega)
  have c2 := nth_bd hR (n + 2)
  have c1 := nth_bd hR (n + 1)
  have c0 := nth_bd hR n
  have d1 := nth_bd hD (n + 1)
  have d0 := nth_bd hD n
  have w1 : IntKind.i64.wrap ((n : Int) + 2 - 1) = (n : Int) + 1 := by rw [IntWalk.i64_in _ (by omega)]; omega
  have w2 : IntKind.i64.wrap ((n : Int) + 2 - 2) = (n : Int) := by rw [IntWalk.i64_in _ (by omega)]; omega
  have H : Hid (0 < val D ∧ val R < val D * 18446744073709551616 ∧ 0 < nth D (n + 1)) := ⟨D0, hlt, hd⟩
  have HN : Hid (D.length = n + 2) := hn
  have HL : Hid (R.length = n + 3) := hl
  clear hlt hn hl
  go_enter Tryz.func141, Tryz.ntmps141
  go_wp2_with fail
  go_quiet ((go_at_call 152; exact Calls.quiet_of (guess_any _ _ _ _ _ _ c2 c1 c0 ⟨hd, d1.2⟩ d0)))
  have HG : Hid _ := guessF_spec c2.1 c1 c0 hd d0.1 (r2 := nth R (n + 2)) (r1 := nth R (n + 1)) (r0 := nth R n) (d1 := nth D (n + 1)) (d0 := nth D n)
  have hq0 : 0 ≤ val R / val D := Int.ediv_nonneg (val_nonneg hR) (by omega)
  have hq1 : val R / val D < 18446744073709551616 := Int.ediv_lt_of_lt_mul D0 (by have := H.out.2.1; rw [Int.mul_comm]; exact this)
  have HQ : Hid (val R / val D ≤ guessF (nth R (n + 2)) (nth R (n + 1)) (nth R n) (nth D (n + 1)) (nth D n)) := HG.out.2.2 _ hq0 hq1 (guess_fits hR hD n HN.out HL.out hq0 (quo_le D0))
  have g0 := HG.out.1
  have g1 := HG.out.2.1
  generalize guessF (nth R (n + 2)) (nth R (n + 1)) (nth R n) (nth D (n + 1)) (nth D n) = G at *
  have cR0 : Cells (w.drewN nq) b o R := hcR
  have cD0 : Cells (w.drewN nq) b2 o2 D := hcD
  have O0 : Own (w.drewN nq) b := hF
  have W0 : Wr b o (n + 3) w (w.drewN nq) := (Wr.refl _ _ _ _).drewN nq
  generalize w.drewN nq = w0 at *
  have HCD : Hid (Cells w b2 o2 D) := hcD
  have HO : Hid (Own w b) := hF
  clear k1 k2 k3 k4 k5 c2 c1 c0 d1 d0 w1 w2 HG hcR hcD hF
  have k1 := cR0.at (i := n + 2) (by have := HL.out; omega)
  have hsl := slice_h b o (n + 3) cap ((n : Int) + 2) (n + 2) (by omega) (by omega)
  have hb1 : (0 : Int) ≤ (n : Int) + 2 := by omega
  have ht1 : ((n : Int) + 2).toNat = n + 2 := by omega
  have tk : Hid ((R.take (n + 2)).length = n + 2) := by show _ = _; rw [List.length_take, HL.out]; omega
  go_upto_region 3 with fail
  go_cut [6] (fun t wc => ∃ X, t = .int .u64 G ∧ Left X R D G ∧ Cells wc b o X ∧ Wr b o (n + 3) w wc)
  case first =>
    go_region_with (go_at_call 153; refine (subProduct_any b o _ _ (R.take (n + 2)) b2 o2 _ _ D G _ tk.out.symm HN.out.symm (hR.take _) hD (HN.out.trans tk.out.symm) g0 g1 (by have := tk.out; omega) (cR0.take _).drew (O0.free _ _).drew hne cD0.drew).mono ?_; rintro e w2 ⟨S', c, rfl, c0, c1, hl', hw', hv', hc', hwr'⟩; rw [tk.out] at hl' hv' hwr'; have k2 := (hwr'.undrew.cell (o + (n + 2)) (by omega)).trans k1; have k3 := (O0.wr hwr'.undrew).free o (n + 3) (n + 2) (by omega))
    all_goals
      go_wp2_with fail
      go_meet
      case rel =>
        refine ⟨_, rfl, Left.first (HL.out.trans (by rw [HN.out])) hw' (hl'.trans HN.out.symm) HQ.out g1 (by rw [HN.out]; exact hv'), ?_, (W0.trans (hwr'.undrew.mono (Nat.le_refl _) (by omega))).setCell _ (by omega) _⟩
        have := hc'.snoc (IntKind.u64.wrap (nth R (n + 2) - c)) (by rw [hl']; exact k2)
        rw [hl'] at this
        rw [HN.out]; exact this
  case rest =>
    obtain ⟨X0, rfl, hX0, hc0, hwr0⟩ := hcut
    clear k1 cR0 cD0 O0 W0
    go_wp2_with fail
    go_loopw [6] (fun t wr => ∃ (g : Int) (X : List Int), t = .int .u64 g ∧ 0 ≤ g ∧ Left X R D g ∧ Cells wr b o X ∧ Wr b o (n + 3) w wr) (fun t _ => (intOf t).toNat)
    case atStart => exact ⟨G, X0, rfl, g0, hX0, hc0, hwr0⟩
    case round =>
      clear hX0 hc0 hwr0 hq0 hq1 HQ g0 g1
      obtain ⟨g, X, rfl, g0, hX, hc, hwr⟩ := hrel
      have T : Hid _ := hX.top hR hD H.out.1 g0
      have g1 := hX.g1
      have XL : Hid (X.length = n + 3) := hX.len.trans (by rw [HN.out])
      have k1 := hc.at (i := n + 2) (by have := XL.out; omega)
      by_cases hz : nth X (n + 2) = 0
      · have F := T.out.1 (by rw [HN.out]; exact hz)
        have F1 : Hid _ := F
        rw [hz] at k1
        have E : Hid (val X = val R - g * val D) := by
          have e := val_last XL.out
          have f := F.2
          rw [HN.out] at f
          rw [hz] at e
          show _ = _
          omega
        have M : Hid (val X < val D) := by
          have e := E.out
          have e2 := divmod_eq (val R) (val D)
          have e3 := Int.emod_lt_of_pos (val R) H.out.1
          rw [← F.1] at e2
          show _ < _
          omega
        have HZ : Hid (nth X (n + 2) = 0) := hz
        clear F hz
        go_wp2
        go_ret
        exact ⟨g, X, rfl, g0, g1, XL.out, hX.wd, HZ.out, by have := E.out; omega, M.out, hc, hwr⟩
      · have F : Hid (val R / val D ≤ g - 1) := T.out.2 (by rw [HN.out]; exact hz)
        have gp : 1 ≤ g := by have := F.out; have := Int.ediv_nonneg (val_nonneg hR) (Int.le_of_lt H.out.1); omega
        have hz' : (nth X (n + 2) != 0) = true := by rw [bne_iff_ne]; exact hz
        have O := HO.out.wr hwr
        have cD := HCD.out.other hwr hne
        have xk : Hid ((X.take (n + 2)).length = n + 2) := by show _ = _; rw [List.length_take, XL.out]; omega
        clear hz
        go_wp2_with fail
        go_region_with (go_at_call 84; refine (addInto_at b o _ _ (X.take (n + 2)) (some ⟨b2, o2, none⟩) _ _ D _ xk.out.symm HN.out.symm (hX.wd.take _) hD (by have := xk.out; have := HN.out; omega) (by have := xk.out; omega) (hc.take _).drew (O.free _ _).drew (fun _ => ⟨_, _, rfl, hne, cD.drew⟩)).mono ?_; rintro e w2 ⟨S', c, rfl, c0, c1, hl', hw', hv', hc', hwr'⟩; rw [xk.out] at hl' hv' hwr'; have k2 := (hwr'.undrew.cell (o + (n + 2)) (by omega)).trans k1; have k3 := (O.wr hwr'.undrew).free o (n + 3) (n + 2) (by omega))
        all_goals
          go_wp2_with fail
          go_roundw
          case rel =>
            refine ⟨g - 1, _, rfl, by omega, hX.back hw' (hl'.trans HN.out.symm) F.out (by rw [HN.out]; exact hv'), ?_, (hwr.trans (hwr'.undrew.mono (Nat.le_refl _) (by omega))).setCell _ (by omega) _⟩
            have := hc'.snoc (IntKind.u64.wrap (nth X (n + 2) + c)) (by rw [hl']; exact k2)
            rw [hl'] at this
            rw [HN.out]; exact this
          case measure => simp [intOf]; omega
end Go.Proofs.YtfalncbcomlelaaGreatDoor
