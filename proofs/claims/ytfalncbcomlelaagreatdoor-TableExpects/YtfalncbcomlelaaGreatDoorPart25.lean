import Derived.Test.YtfalncbcomlelaaGreatDoorPart24
import Derived.Deep.DeepCutAuto
import Derived.Deep.CutBlock

namespace Go.Proofs.YtfalncbcomlelaaGreatDoor
open Go.RowKit Tn

/-- s[:n]. -/
theorem slice_h (g o len cap : Nat) (h : Int) (n : Nat) (eh : h = n) (h2 : n ≤ cap) (w : World) :
    (Instr.slice 54 (.slice (some ⟨g, o, none⟩) len cap) none (some (.int .i64 h)) none).run Tryz.prog w = .ok (.slice (some ⟨g, o, none⟩) n cap) w := by
  subst eh
  rw [run_slice_h w 54 _ len cap (by rw [Tryz.elemU]; exact Tryz.underlying54) .i64 _ (by omega) (by omega), Tryz.elemU]
  simp [Tryz.sizeOf95, Result.andThen, sliced, Addr.add]

set_option maxHeartbeats 3200000 in
set_option maxRecDepth 100000 in
/-- whole.divideStep. -/
theorem divStep_any (b o cap m : Nat) (R : List Int) (b2 o2 cap2 : Nat) (D : List Int) (n : Nat) (w : World) (hn : D.length = n + 2) (em : m = n + 3) (hl : R.length = n + 3) (hR : Wd R) (hD : Wd D) (hd : 0 < nth D (n + 1)) (hlt : val R < val D * 18446744073709551616) (hL : n ≤ 549755813888) (hcap : m ≤ cap)
    (hcR : Cells w b o R) (hF : Own w b) (hne : b2 ≠ b) (hcD : Cells w b2 o2 D) :
    Calls Tryz.prog 141 #[.slice (some ⟨b, o, none⟩) m cap, .slice (some ⟨b2, o2, none⟩) (n + 2) cap2] w fun e w' => ∃ q R', e = .returned (.int .u64 q) ∧ 0 ≤ q ∧ q < 18446744073709551616 ∧ R'.length = n + 3 ∧ Wd R' ∧ nth R' (n + 2) = 0 ∧ q * val D + val R' = val R ∧ val R' < val D ∧ Cells w' b o R' ∧ Wr b o (n + 3) w w' := by
  subst em
  have D0 : 0 < val D := by
    have e := val_last (X := D) (n := n + 1) (by omega)
    have := val_nonneg (hD.take (n + 1)); have := Int.mul_le_mul_of_nonneg_left (show 1 ≤ nth D (n + 1) by omega) (Int.le_of_lt (pw_pos (n + 1))); have := pw_pos (n + 1); omega
  have k1 := hcR.at (i := n + 2) (by omega)
  have k2 := hcR.at (i := n + 1) (by omega)
  have k3 := hcR.at (i := n) (by omega)
  have k4 := hcD.at (i := n + 1) (by omega)
  have k5 := hcD.at (i := n) (by omega)
  have c2 := nth_bd hR (n + 2)
  have c1 := nth_bd hR (n + 1)
  have c0 := nth_bd hR n
  have d1 := nth_bd hD (n + 1)
  have d0 := nth_bd hD n
  have w1 : IntKind.i64.wrap ((n : Int) + 2 - 1) = (n : Int) + 1 := by rw [IntWalk.i64_in _ (by omega)]; omega
  have w2 : IntKind.i64.wrap ((n : Int) + 2 - 2) = (n : Int) := by rw [IntWalk.i64_in _ (by omega)]; omega
  have H : Hid (0 < val D ∧ val R < val D * 18446744073709551616 ∧ 0 < nth D (n + 1)) := ⟨D0, hlt, hd⟩
  have HN : Hid (D.length = n + 2) := hn
  have HL : Hid (R.length = n + 3) := hl
  clear hlt hn hl
  go_enter Tryz.func141, Tryz.ntmps141
  go_wp2_with fail
  go_quiet ((go_at_call 152; exact Calls.quiet_of (guess_any _ _ _ _ _ _ c2 c1 c0 ⟨hd, d1.2⟩ d0)))
  have HG : Hid _ := guessF_spec c2.1 c1 c0 hd d0.1 (r2 := nth R (n + 2)) (r1 := nth R (n + 1)) (r0 := nth R n) (d1 := nth D (n + 1)) (d0 := nth D n)
  have hq0 : 0 ≤ val R / val D := Int.ediv_nonneg (val_nonneg hR) (by omega)
  have hq1 : val R / val D < 18446744073709551616 := Int.ediv_lt_of_lt_mul D0 (by have := H.out.2.1; rw [Int.mul_comm]; exact this)
  have HQ : Hid (val R / val D ≤ guessF (nth R (n + 2)) (nth R (n + 1)) (nth R n) (nth D (n + 1)) (nth D n)) := HG.out.2.2 _ hq0 hq1 (guess_fits hR hD n HN.out HL.out hq0 (quo_le D0))
  have g0 := HG.out.1
  have g1 := HG.out.2.1
  generalize guessF (nth R (n + 2)) (nth R (n + 1)) (nth R n) (nth D (n + 1)) (nth D n) = G at *
  have cR0 : Cells (w.drewN nq) b o R := hcR
  have cD0 : Cells (w.drewN nq) b2 o2 D := hcD
  have O0 : Own (w.drewN nq) b := hF
  have W0 : Wr b o (n + 3) w (w.drewN nq) := (Wr.refl _ _ _ _).drewN nq
  generalize w.drewN nq = w0 at *
  have HCD : Hid (Cells w b2 o2 D) := hcD
  have HO : Hid (Own w b) := hF
  clear k1 k2 k3 k4 k5 c2 c1 c0 d1 d0 w1 w2 HG hcR hcD hF
  have k1 := cR0.at (i := n + 2) (by have := HL.out; omega)
  have hsl := slice_h b o (n + 3) cap ((n : Int) + 2) (n + 2) (by omega) (by omega)
  have hb1 : (0 : Int) ≤ (n : Int) + 2 := by omega
  have ht1 : ((n : Int) + 2).toNat = n + 2 := by omega
  have tk : Hid ((R.take (n + 2)).length = n + 2) := by show _ = _; rw [List.length_take, HL.out]; omega
  go_upto_region 3 with fail
  go_cut [6] (fun t wc => ∃ X, t = .int .u64 G ∧ Left X R D G ∧ Cells wc b o X ∧ Wr b o (n + 3) w wc)
  case first =>
    go_region_with (go_at_call 153; refine (subProduct_any b o _ _ (R.take (n + 2)) b2 o2 _ _ D G _ tk.out.symm HN.out.symm (hR.take _) hD (HN.out.trans tk.out.symm) g0 g1 (by have := tk.out; omega) (cR0.take _).drew (O0.free _ _).drew hne cD0.drew).mono ?_; rintro e w2 ⟨S', c, rfl, c0, c1, hl', hw', hv', hc', hwr'⟩; rw [tk.out] at hl' hv' hwr'; have k2 := (hwr'.undrew.cell (o + (n + 2)) (by omega)).trans k1; have k3 := (O0.wr hwr'.undrew).free o (n + 3) (n + 2) (by omega))
    all_goals
      go_wp2_with fail
      go_meet
      case rel =>
        refine ⟨_, rfl, Left.first (HL.out.trans (by rw [HN.out])) hw' (hl'.trans HN.out.symm) HQ.out g1 (by rw [HN.out]; exact hv'), ?_, (W0.trans (hwr'.undrew.mono (Nat.le_refl _) (by omega))).setCell _ (by omega) _⟩
        have := hc'.snoc (IntKind.u64.wrap (nth R (n + 2) - c)) (by rw [hl']; exact k2)
        rw [hl'] at this
        rw [HN.out]; exact this
  case rest =>
    obtain ⟨X0, rfl, hX0, hc0, hwr0⟩ := hcut
    clear k1 cR0 cD0 O0 W0
    go_wp2_with fail
    go_loopw [6] (fun t wr => ∃ (g : Int) (X : List Int), t = .int .u64 g ∧ 0 ≤ g ∧ Left X R D g ∧ Cells wr b o X ∧ Wr b o (n + 3) w wr) (fun t _ => (intOf t).toNat)
    case atStart => exact ⟨G, X0, rfl, g0, hX0, hc0, hwr0⟩
    case round =>
      clear hX0 hc0 hwr0 hq0 hq1 HQ g0 g1
      obtain ⟨g, X, rfl, g0, hX, hc, hwr⟩ := hrel
      have T : Hid _ := hX.top hR hD H.out.1 g0
      have g1 := hX.g1
      have XL : Hid (X.length = n + 3) := hX.len.trans (by rw [HN.out])
      have k1 := hc.at (i := n + 2) (by have := XL.out; omega)
      by_cases hz : nth X (n + 2) = 0
      · have F := T.out.1 (by rw [HN.out]; exact hz)
        have F1 : Hid _ := F
        rw [hz] at k1
        have E : Hid (val X = val R - g * val D) := by
          have e := val_last XL.out
          have f := F.2
          rw [HN.out] at f
          rw [hz] at e
          show _ = _
          omega
        have M : Hid (val X < val D) := by
          have e := E.out
          have e2 := divmod_eq (val R) (val D)
          have e3 := Int.emod_lt_of_pos (val R) H.out.1
          rw [← F.1] at e2
          show _ < _
          omega
        have HZ : Hid (nth X (n + 2) = 0) := hz
        clear F hz
        go_wp2
        go_ret
        exact ⟨g, X, rfl, g0, g1, XL.out, hX.wd, HZ.out, by have := E.out; omega, M.out, hc, hwr⟩
      · have F : Hid (val R / val D ≤ g - 1) := T.out.2 (by rw [HN.out]; exact hz)
        have gp : 1 ≤ g := by have := F.out; have := Int.ediv_nonneg (val_nonneg hR) (Int.le_of_lt H.out.1); omega
        have hz' : (nth X (n + 2) != 0) = true := by rw [bne_iff_ne]; exact hz
        have O := HO.out.wr hwr
        have cD := HCD.out.other hwr hne
        have xk : Hid ((X.take (n + 2)).length = n + 2) := by show _ = _; rw [List.length_take, XL.out]; omega
        clear hz
        go_wp2_with fail
        go_region_with (go_at_call 84; refine (addInto_at b o _ _ (X.take (n + 2)) (some ⟨b2, o2, none⟩) _ _ D _ xk.out.symm HN.out.symm (hX.wd.take _) hD (by have := xk.out; have := HN.out; omega) (by have := xk.out; omega) (hc.take _).drew (O.free _ _).drew (fun _ => ⟨_, _, rfl, hne, cD.drew⟩)).mono ?_; rintro e w2 ⟨S', c, rfl, c0, c1, hl', hw', hv', hc', hwr'⟩; rw [xk.out] at hl' hv' hwr'; have k2 := (hwr'.undrew.cell (o + (n + 2)) (by omega)).trans k1; have k3 := (O.wr hwr'.undrew).free o (n + 3) (n + 2) (by omega))
        all_goals
          go_wp2_with fail
          go_roundw
          case rel =>
            refine ⟨g - 1, _, rfl, by omega, hX.back hw' (hl'.trans HN.out.symm) F.out (by rw [HN.out]; exact hv'), ?_, (hwr.trans (hwr'.undrew.mono (Nat.le_refl _) (by omega))).setCell _ (by omega) _⟩
            have := hc'.snoc (IntKind.u64.wrap (nth X (n + 2) + c)) (by rw [hl']; exact k2)
            rw [hl'] at this
            rw [HN.out]; exact this
          case measure => simp [intOf]; omega
end Go.Proofs.YtfalncbcomlelaaGreatDoor

namespace Go.Proofs.YtfalncbcomlelaaGreatDoor
open Go.RowKit Tn

theorem or_shift' (s : Nat) (a b : Int) (a0 : 0 ≤ a) (a1 : a * 2 ^ s < 18446744073709551616) (b0 : 0 ≤ b) (b1 : b < 2 ^ s) (b2 : b < 18446744073709551616) : bits .or .u64 b (a * 2 ^ s) = b + a * 2 ^ s := by
  have p := Int.mul_nonneg a0 (Int.le_of_lt (two_pos s))
  have e := or_shift s a b a0 a1 b0 b1 b2
  rw [u64_or _ _ p a1 b0 b2] at e
  rw [u64_or _ _ b0 b2 p a1, Nat.or_comm, e]; omega
/-- A word shifted up: what stays, what goes out. -/
theorem shl_mod (x : Int) (s : Nat) (h : s ≤ 64) : x * 2 ^ s % 18446744073709551616 = x % 2 ^ (64 - s) * 2 ^ s := by
  rw [← pow_split h, Int.mul_comm x, Int.mul_emod_mul_of_pos _ _ (two_pos s), Int.mul_comm]
theorem shl_or {x l : Int} {s : Nat} (h : s ≤ 63) (l0 : 0 ≤ l) (l1 : l < 2 ^ s) : bits .or .u64 (x * 2 ^ s % 18446744073709551616) l = x * 2 ^ s % 18446744073709551616 + l ∧ x * 2 ^ s % 18446744073709551616 + l < 18446744073709551616 := by
  have p := two_pos s
  have q := two_pos (64 - s)
  have m0 := Int.emod_nonneg x (show (2 : Int) ^ (64 - s) ≠ 0 by omega)
  have m1 := Int.emod_lt_of_pos x q
  have e := pow_split (show s ≤ 64 by omega)
  have m2 := Int.mul_le_mul_of_nonneg_right (show x % 2 ^ (64 - s) + 1 ≤ 2 ^ (64 - s) by omega) (Int.le_of_lt p)
  have e2 : (2 : Int) ^ (64 - s) * 2 ^ s = 2 ^ s * 2 ^ (64 - s) := Int.mul_comm _ _
  have e3 : (x % 2 ^ (64 - s) + 1) * 2 ^ s = x % 2 ^ (64 - s) * 2 ^ s + 2 ^ s := by grind
  have sm : (2 : Int) ^ s ≤ 2 ^ 63 := by
    have : (2 : Int) ^ 63 = 2 ^ s * 2 ^ (63 - s) := by rw [← Int.pow_add]; congr 1; omega
    have := Int.mul_le_mul_of_nonneg_left (show (1 : Int) ≤ 2 ^ (63 - s) from two_pos _) (Int.le_of_lt p)
    omega
  have sm' : (2 : Int) ^ 63 = 9223372036854775808 := rfl
  rw [shl_mod x s (by omega)]
  exact ⟨or_shift s _ l m0 (by omega) l0 l1 (by omega), by omega⟩

theorem shift_step {X S W : List Int} {k s : Nat} {l : Int} (h : Part X S k) (hs : s ≤ 63) (hk : k < W.length) (hk' : k < S.length) (l0 : 0 ≤ l) (l1 : l < 2 ^ s) (hv : val (X.take k) + pw k * l = val (W.take k) * 2 ^ s) :
    Part (X.set k (nth W k * 2 ^ s % 18446744073709551616 + l)) S (k + 1) ∧ val ((X.set k (nth W k * 2 ^ s % 18446744073709551616 + l)).take (k + 1)) + pw (k + 1) * (nth W k / 2 ^ (64 - s)) = val (W.take (k + 1)) * 2 ^ s := by
  have o := shl_or (x := nth W k) hs l0 l1
  refine ⟨h.step (by omega) o.2, ?_⟩
  rw [h.val hk', val_at W k hk, ← shift_out _ s (by omega)]
  have e := Int.emod_add_mul_ediv (nth W k * 2 ^ s) 18446744073709551616
  simp only [pw]
  grind

set_option maxHeartbeats 800000 in
/-- whole.shiftInto. -/
theorem shiftInto_any (b o cap n : Nat) (S : List Int) (a : Option Addr) (cap2 m : Nat) (W : List Int) (s : Nat) (w : World) (en : n = S.length) (em : m = W.length) (hS : Wd S) (hW : Wd W) (hl : S.length = W.length + 1) (hs : s ≤ 63) (hL : S.length ≤ 1099511627776) (hcS : Cells w b o S) (hF : Own w b)
    (ha : 0 < W.length → ∃ b2 o2, a = some ⟨b2, o2, none⟩ ∧ b2 ≠ b ∧ Cells w b2 o2 W) :
    Calls Tryz.prog 92 #[.slice (some ⟨b, o, none⟩) n cap, .slice a m cap2, .int .i64 s] w fun e w' => ∃ X, e = .returned (.tuple #[]) ∧ X.length = W.length + 1 ∧ Wd X ∧ val X = val W * 2 ^ s ∧ Cells w' b o X ∧ Wr b o (W.length + 1) w w' := by
  subst em
  have HL : Hid (S.length = W.length + 1) := hl
  rw [hl] at en
  subst en
  have hL2 : W.length ≤ 1099511627776 := by omega
  clear hl
  go_enter Tryz.func92, Tryz.ntmps92
  go_wp2
  go_loopw [6, 11] (fun t i wr => ∃ (k : Nat) (l : Int) (X : List Int), k ≤ W.length ∧ i = .int .i64 k ∧ t = .int .u64 l ∧ 0 ≤ l ∧ l < 2 ^ s ∧ Part X S k ∧ val (X.take k) + pw k * l = val (W.take k) * 2 ^ s ∧ Cells wr b o X ∧ Wr b o (W.length + 1) w wr) (fun _ i _ => W.length - (intOf i).toNat)
  case atStart => exact ⟨0, 0, S, Nat.zero_le _, rfl, rfl, by omega, two_pos s, Part.refl hS 0, by simp [val], hcS, Wr.refl _ _ _ _⟩
  case round =>
    obtain ⟨k, l, X, hk, rfl, rfl, l0, l1, hP, hv, hcX, hwr⟩ := hrel
    have HV : Hid (val (X.take k) + pw k * l = val (W.take k) * 2 ^ s) := hv
    have XL : Hid (X.length = W.length + 1) := hP.len.trans HL.out
    clear hv
    have O := hF.wr hwr
    by_cases hlt : k < W.length
    · obtain ⟨b2, o2, rfl, hne, hcW⟩ := ha (by omega)
      have k1 := (hcW.other hwr hne).at (i := k) hlt
      have k2 := hcX.at (i := k) (by have := XL.out; omega)
      have k3 := O.free o (W.length + 1) k (by omega)
      have b1 := nth_bd hW k
      have oo := shl_or (x := nth W k) hs l0 l1
      have r1 : IntKind.u64.wrap (nth W k * 2 ^ s) = nth W k * 2 ^ s % 18446744073709551616 := wrap_u64 _
      have r2 := oo.1
      have so := shift_out_lt (nth W k) s (by omega) b1.1 b1.2
      have R : Hid _ := shift_step (W := W) hP hs hlt (by have := HL.out; omega) l0 l1 HV.out
      clear oo
      go_wp2
      go_roundw
      case rel => exact ⟨k + 1, _, _, by omega, by go_num, rfl, so.1, so.2, R.out.1, R.out.2, hcX.set k (by have := XL.out; omega) _, hwr.setCell _ (by omega) _⟩
      case measure => simp [intOf]; omega
    · have ek : k = W.length := by omega
      subst ek
      have k2 := hcX.at (i := W.length) (by have := XL.out; omega)
      have k3 := O.free o (W.length + 1) W.length (by omega)
      have sm : l < 18446744073709551616 := by
        have : (2 : Int) ^ s * 2 ^ (64 - s) = 18446744073709551616 := pow_split (by omega)
        have := Int.mul_le_mul_of_nonneg_left (show (1 : Int) ≤ 2 ^ (64 - s) from two_pos _) (Int.le_of_lt (two_pos s))
        omega
      have E : Hid (val (X.set W.length l) = val W * 2 ^ s) := by
        have hv := HV.out
        rw [List.take_length] at hv
        have e := hP.val (by have := HL.out; omega) l
        have t : (X.set W.length l).take (W.length + 1) = X.set W.length l := List.take_of_length_le (by rw [List.length_set, XL.out]; exact Nat.le_refl _)
        rw [t] at e
        show _ = _
        rw [e, hv]
      go_wp2
      go_end0
      exact ⟨X.set W.length l, rfl, by rw [List.length_set]; exact XL.out, hP.wd.set _ l0 sm, E.out, hcX.set _ (by have := XL.out; omega) l, hwr.setCell _ (by omega) _⟩

set_option maxHeartbeats 800000 in
/-- whole.shiftDown. -/
theorem shiftDown_any (b o cap n : Nat) (S : List Int) (s : Nat) (w : World) (en : n = S.length) (hS : Wd S) (hs : s ≤ 63) (hL : S.length ≤ 1099511627776) (hcS : Cells w b o S) (hF : Own w b) :
    Calls Tryz.prog 142 #[.slice (some ⟨b, o, none⟩) n cap, .int .i64 s] w fun e w' => ∃ X, e = .returned (.tuple #[]) ∧ X.length = S.length ∧ Wd X ∧ val X = val S / 2 ^ s ∧ Cells w' b o X ∧ Wr b o S.length w w' := by
  subst en
  have p := two_pos s
  have p' := two_pos (64 - s)
  have pe := pow_split (show s ≤ 64 by omega)
  have PE : Hid ((2 : Int) ^ s * 2 ^ (64 - s) = 18446744073709551616) := pe
  clear pe
  go_enter Tryz.func142, Tryz.ntmps142
  go_wp2
  go_loopw [4, 10] (fun t i wr => ∃ (k : Nat) (r : Int) (X : List Int), k ≤ S.length ∧ i = .int .i64 k ∧ t = .int .u64 (r * 2 ^ (64 - s)) ∧ 0 ≤ r ∧ r < 2 ^ s ∧ X.length = S.length ∧ Wd X ∧ X.take (S.length - k) = S.take (S.length - k) ∧ val (X.drop (S.length - k)) * 2 ^ s + r = val (S.drop (S.length - k)) ∧ Cells wr b o X ∧ Wr b o S.length w wr) (fun _ i _ => S.length - (intOf i).toNat)
  case atStart => exact ⟨0, 0, S, Nat.zero_le _, rfl, by simp, by omega, p, rfl, hS, rfl, by simp [val], hcS, Wr.refl _ _ _ _⟩
  case round =>
    obtain ⟨k, r, X, hk, rfl, rfl, h0, h1, hX, hwX, ht, hv, hcX, hwr⟩ := hrel
    have HV : Hid (val (X.drop (S.length - k)) * 2 ^ s + r = val (S.drop (S.length - k))) := hv
    have HT : Hid (X.take (S.length - k) = S.take (S.length - k)) := ht
    have HX : Hid (X.length = S.length) := hX
    clear hv ht hX
    by_cases hlt : k < S.length
    · have k2 := hcX.at (i := S.length - 1 - k) (by have := HX.out; omega)
      have k3 := (hF.wr hwr).free o S.length (S.length - 1 - k) (by omega)
      have b2 := nth_bd hwX (S.length - 1 - k)
      have q0 := Int.ediv_nonneg b2.1 (Int.le_of_lt p)
      have q1 : nth X (S.length - 1 - k) / 2 ^ s < 2 ^ (64 - s) := Int.ediv_lt_of_lt_mul p (by rw [Int.mul_comm, PE.out]; exact b2.2)
      have m := Int.mul_le_mul_of_nonneg_right (show r + 1 ≤ 2 ^ s by omega) (Int.le_of_lt p')
      have me : (r + 1) * 2 ^ (64 - s) = r * 2 ^ (64 - s) + 2 ^ (64 - s) := by grind
      have r1 : bits .or .u64 (nth X (S.length - 1 - k) / 2 ^ s) (r * 2 ^ (64 - s)) = nth X (S.length - 1 - k) / 2 ^ s + r * 2 ^ (64 - s) := or_shift' (64 - s) r _ h0 (by have := PE.out; omega) q0 q1 (by have := Int.ediv_le_self (2 ^ s) b2.1; omega)
      have r2 : IntKind.u64.wrap (nth X (S.length - 1 - k) * 2 ^ (64 - s)) = nth X (S.length - 1 - k) % 2 ^ s * 2 ^ (64 - s) := by
        rw [wrap_u64, shl_mod _ (64 - s) (by omega), show 64 - (64 - s) = s from by omega]
      have vb : 0 ≤ nth X (S.length - 1 - k) / 2 ^ s + r * 2 ^ (64 - s) ∧ nth X (S.length - 1 - k) / 2 ^ s + r * 2 ^ (64 - s) < 18446744073709551616 := ⟨by have := Int.mul_nonneg h0 (Int.le_of_lt p'); omega, by have := PE.out; omega⟩
      have VB : Hid _ := vb
      clear vb m me
      go_wp2
      go_roundw
      case rel =>
        refine ⟨k + 1, nth X (S.length - 1 - k) % 2 ^ s, X.set (S.length - 1 - k) (nth X (S.length - 1 - k) / 2 ^ s + r * 2 ^ (64 - s)), by omega, by go_num, rfl, Int.emod_nonneg _ (by omega), Int.emod_lt_of_pos _ p, by rw [List.length_set]; exact HX.out, hwX.set _ VB.out.1 VB.out.2, ?_, ?_, hcX.set _ (by have := HX.out; omega) _, hwr.setCell _ (by omega) _⟩
        · rw [take_set_le _ _ _ _ (by omega)]
          have := congrArg (List.take (S.length - (k + 1))) HT.out
          rwa [List.take_take, List.take_take, Nat.min_eq_left (by omega)] at this
        · have e1 : S.length - (k + 1) = S.length - 1 - k := by omega
          have e2 : S.length - k = S.length - 1 - k + 1 := by omega
          rw [e1, drop_set_here _ _ _ (by have := HX.out; omega), drop_getD S _ (by omega), ← e2]
          have e3 : nth X (S.length - 1 - k) = nth S (S.length - 1 - k) := by
            have := congrArg (fun l => nth l (S.length - 1 - k)) HT.out
            rwa [nth_take _ _ _ (by omega), nth_take _ _ _ (by omega)] at this
          have e5 := HV.out
          have e6 := PE.out
          have e7 := divmod_eq (nth S (S.length - 1 - k)) (2 ^ s)
          rw [e3]
          unfold nth at e7 ⊢
          simp only [val]
          grind
      case measure => simp [intOf]; omega
    · have R : Hid (val X = val S / 2 ^ s) := by
        have ek : S.length - k = 0 := by omega
        have hv := HV.out
        rw [ek, List.drop_zero, List.drop_zero] at hv
        show _ = _
        rw [← hv, Int.add_comm, Int.add_mul_ediv_right _ _ (by omega), Int.ediv_eq_zero_of_lt h0 h1]; omega
      go_wp2
      go_end0
      exact ⟨X, rfl, HX.out, hwX, R.out, hcX, hwr⟩
end Go.Proofs.YtfalncbcomlelaaGreatDoor

namespace Go.Proofs.YtfalncbcomlelaaGreatDoor
open Go.RowKit Tn

/-- A long division under way: the words of the quotient from place j on are found; what is left is X. -/
structure Long (X Q D : List Int) (N : Int) (j : Nat) : Prop where
  lenX : X.length = Q.length + D.length
  wX : Wd X
  wQ : Wd Q
  zero : Q.take j = List.replicate j 0
  sum : val X + val Q * val D = N
  less : val (X.drop j) < val D
  le : j ≤ Q.length
theorem Long.high {X Q D : List Int} {N : Int} {j : Nat} (h : Long X Q D N j) (hD : Wd D) : val (X.drop (j + D.length)) = 0 := by
  have l := h.lenX; have l2 := h.le
  have e := val_split (X.drop j) D.length (by simp; omega)
  rw [List.drop_drop] at e
  have a := val_nonneg ((h.wX.drop j).take D.length)
  have b := val_nonneg (h.wX.drop (j + D.length))
  have c := val_lt hD
  have p := pw_pos D.length
  by_cases z : val (X.drop (j + D.length)) = 0
  · exact z
  · have := Int.mul_le_mul_of_nonneg_left (show 1 ≤ val (X.drop (j + D.length)) by omega) (Int.le_of_lt p)
    have := h.less; omega
theorem Long.seg {X Q D : List Int} {N : Int} {j : Nat} (h : Long X Q D N (j + 1)) (hD : Wd D) : val ((X.drop j).take (D.length + 1)) = val (X.drop j) ∧ val (X.drop j) < val D * 18446744073709551616 := by
  have l := h.lenX; have l2 := h.le
  have e := val_split (X.drop j) (D.length + 1) (by simp; omega)
  rw [List.drop_drop, show j + (D.length + 1) = j + 1 + D.length from by omega, h.high hD] at e
  have f : val (X.drop j) = nth X j + 18446744073709551616 * val (X.drop (j + 1)) := by
    rw [drop_getD X j (by omega)]; rfl
  have b := nth_bd h.wX j
  have := h.less
  refine ⟨by rw [Int.mul_zero] at e; omega, by omega⟩
theorem Long.next {X Q D S' : List Int} {N q : Int} {j : Nat} (h : Long X Q D N (j + 1)) (hD : Wd D) (hl : S'.length = D.length + 1) (hw : Wd S') (q0 : 0 ≤ q) (q1 : q < 18446744073709551616) (hs : q * val D + val S' = val ((X.drop j).take (D.length + 1))) (hr : val S' < val D) :
    Long (spl X j (D.length + 1) S') (Q.set j q) D N j := by
  have l := h.lenX; have l2 := h.le
  have hz : nth Q j = 0 := by
    have e := congrArg (fun l => nth l j) h.zero
    rw [nth_take _ _ _ (by omega), nth_replicate] at e; exact e
  refine ⟨by rw [spl_len (by omega) hl, List.length_set]; exact l, wd_spl h.wX hw _ _, h.wQ.set _ q0 q1, ?_, ?_, ?_, by rw [List.length_set]; omega⟩
  · rw [take_set_le _ _ _ _ (by omega)]
    have e := congrArg (List.take j) h.zero
    rw [List.take_take, Nat.min_eq_left (by omega), List.take_replicate, Nat.min_eq_left (by omega)] at e; exact e
  · rw [val_spl (by omega) hl, val_set _ _ _ (by omega), hz]
    have := h.sum
    grind
  · have e1 : (spl X j (D.length + 1) S').drop j = S' ++ X.drop (j + (D.length + 1)) := by
      unfold spl
      rw [List.drop_append, List.length_take, Nat.min_eq_left (by omega), Nat.sub_self, List.drop_zero, List.drop_of_length_le (by simp; omega)]; rfl
    have hh := h.high hD
    rw [show j + 1 + D.length = j + (D.length + 1) from by omega] at hh
    rw [e1, val_append, hh]; simp; exact hr
theorem Long.done {X Q D xs ys : List Int} {s : Nat} (h : Long X Q D (val xs * 2 ^ s) 0) (hD : Wd D) (hd : val D = val ys * 2 ^ s) : val (X.take D.length) / 2 ^ s = val xs - val Q * val ys ∧ 0 ≤ val xs - val Q * val ys ∧ val xs - val Q * val ys < val ys := by
  have p := two_pos s
  have l := h.lenX
  have hh := h.high hD
  rw [Nat.zero_add] at hh
  have e := val_split X D.length (by omega)
  rw [hh, Int.mul_zero] at e
  have hl := h.less
  rw [List.drop_zero] at hl
  have x0 := val_nonneg h.wX
  have f : val (X.take D.length) = (val xs - val Q * val ys) * 2 ^ s := by have := h.sum; rw [hd] at this; grind
  refine ⟨by rw [f]; exact Int.mul_ediv_cancel _ (by omega), ?_, ?_⟩
  · by_cases c : 0 ≤ val xs - val Q * val ys
    · exact c
    · have := Int.mul_le_mul_of_nonneg_right (show val xs - val Q * val ys ≤ -1 by omega) (Int.le_of_lt p); omega
  · have g : (val xs - val Q * val ys) * 2 ^ s < val ys * 2 ^ s := by rw [← hd, ← f]; omega
    exact Int.lt_of_mul_lt_mul_right g (Int.le_of_lt p)
/-- The divisor, shifted: its words. -/
theorem norm_words {ys V : List Int} {s : Nat} {m : Nat} (hy : Wd ys) (hV : Wd V) (hm : ys.length = m + 1) (hl : V.length = ys.length + 1) (hv : val V = val ys * 2 ^ s) (h1 : 9223372036854775808 ≤ nth ys m * 2 ^ s) (h2 : nth ys m * 2 ^ s < 18446744073709551616) (hs : s ≤ 63) :
    val (V.take (m + 1)) = val ys * 2 ^ s ∧ 0 < nth (V.take (m + 1)) m ∧ 9223372036854775808 * pw m ≤ val ys * 2 ^ s := by
  have p := two_pos s
  have q := pw_pos m
  have e1 := val_last (X := ys) (n := m) hm
  have t0 := val_nonneg (hy.take m)
  have t1 := val_lt (hy.take m)
  rw [List.length_take, Nat.min_eq_left (by omega)] at t1
  have e2 := val_last (X := V) (n := m + 1) (by omega)
  have u0 := val_nonneg (hV.take (m + 1))
  have u1 := val_lt (hV.take (m + 1))
  rw [List.length_take, Nat.min_eq_left (by omega)] at u1
  have pe : pw (m + 1) = 18446744073709551616 * pw m := rfl
  have lo : 9223372036854775808 * pw m ≤ val ys * 2 ^ s := by
    have a := Int.mul_le_mul_of_nonneg_right h1 (Int.le_of_lt q)
    have b := Int.mul_nonneg t0 (Int.le_of_lt p)
    rw [e1]; grind
  have hi : val ys * 2 ^ s < pw (m + 1) := by
    have k : nth ys m * 2 ^ s + 2 ^ s ≤ 18446744073709551616 := by
      have e := pow_split (show s ≤ 64 by omega)
      have g : nth ys m < 2 ^ (64 - s) := by
        rw [← e, Int.mul_comm] at h2
        exact Int.lt_of_mul_lt_mul_left h2 (Int.le_of_lt p)
      have := Int.mul_le_mul_of_nonneg_right (show nth ys m + 1 ≤ 2 ^ (64 - s) by omega) (Int.le_of_lt p)
      rw [Int.mul_comm (2 ^ (64 - s)), e] at this
      have e3 : (nth ys m + 1) * 2 ^ s = nth ys m * 2 ^ s + 2 ^ s := by grind
      omega
    have a := Int.mul_le_mul_of_nonneg_right k (Int.le_of_lt q)
    have b := Int.mul_lt_mul_of_pos_right t1 p
    rw [e1, pe]; grind
  have tb := nth_bd hV (m + 1)
  have z : nth V (m + 1) = 0 := by
    by_cases c : nth V (m + 1) = 0
    · exact c
    · have := Int.mul_le_mul_of_nonneg_left (show 1 ≤ nth V (m + 1) by omega) (Int.le_of_lt (pw_pos (m + 1))); omega
  rw [z, Int.mul_zero] at e2
  have e3 : val (V.take (m + 1)) = val ys * 2 ^ s := by omega
  refine ⟨e3, ?_, lo⟩
  have e4 := val_last (X := V.take (m + 1)) (n := m) (by rw [List.length_take]; omega)
  have v1 := val_lt ((hV.take (m + 1)).take m)
  rw [List.length_take, List.length_take, Nat.min_eq_left (by omega)] at v1
  have tb2 := nth_bd (hV.take (m + 1)) m
  by_cases c : 0 < nth (V.take (m + 1)) m
  · exact c
  · have : nth (V.take (m + 1)) m = 0 := by omega
    rw [this, Int.mul_zero] at e4; omega
theorem Long.first {xs X D : List Int} {s L n : Nat} (hx : Wd xs) (hX : Wd X) (hl : X.length = xs.length + 1) (hL : xs.length + 1 = L + n) (hn : D.length = n) (n1 : 1 ≤ n) (hv : val X = val xs * 2 ^ s) (hs : s ≤ 63) (hd : 9223372036854775808 * pw (n - 1) ≤ val D) : Long X (List.replicate L 0) D (val xs * 2 ^ s) L := by
  refine ⟨by simp; omega, hX, Wd.zeros _, by simp, by rw [val_zeros]; omega, ?_, by simp⟩
  have e := val_split X L (by omega)
  have a := val_nonneg (hX.take L)
  have b := val_lt hx
  have p := two_pos s
  have c := Int.mul_lt_mul_of_pos_right b p
  have e2 : pw xs.length = pw L * pw (n - 1) := by rw [← pw_add]; congr 1; omega
  have sm : (2 : Int) ^ s ≤ 9223372036854775808 := by
    have e3 : (2 : Int) ^ 63 = 2 ^ s * 2 ^ (63 - s) := by rw [← Int.pow_add]; congr 1; omega
    have := Int.mul_le_mul_of_nonneg_left (show (1 : Int) ≤ 2 ^ (63 - s) from two_pos _) (Int.le_of_lt p)
    have e4 : (2 : Int) ^ 63 = 9223372036854775808 := rfl
    omega
  have q := pw_pos (n - 1)
  have d := Int.mul_le_mul_of_nonneg_left sm (Int.le_of_lt q)
  have g : pw L * val (X.drop L) < pw L * (pw (n - 1) * 2 ^ s) := by rw [e2] at c; grind
  have := Int.lt_of_mul_lt_mul_left g (Int.le_of_lt (pw_pos L))
  have : pw (n - 1) * 9223372036854775808 = 9223372036854775808 * pw (n - 1) := Int.mul_comm _ _
  omega
end Go.Proofs.YtfalncbcomlelaaGreatDoor
