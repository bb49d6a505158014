import Derived.Test.YtfalncbcomlelaaGreatDoorDivMod
import Derived.Test.YtfalncbcomlelaaGreatDoorM3
namespace Go.Proofs.YtfalncbcomlelaaGreatDoor
open Go.RowKit Tn

theorem gcd_rec (a b : Int) : Int.gcd b (a % b) = Int.gcd a b := by
  have := divmod_eq a b
  have e : a % b = a - a / b * b := by omega
  rw [e, Int.mul_comm, Int.gcd_sub_mul_left_right, Int.gcd_comm]

set_option maxHeartbeats 400000 in
/-- whole.commonWord. -/
theorem commonWord_any (x y : Int) (w : World) (x0 : 0 ≤ x) (x1 : x < 18446744073709551616) (y0 : 0 ≤ y) (y1 : y < 18446744073709551616) :
    Calls Tryz.prog 101 #[.int .u64 x, .int .u64 y] w fun e w' => e = .returned (.int .u64 (Int.gcd x y)) ∧ ∃ n, w' = w.drewN n := by
  go_enter Tryz.func101, Tryz.ntmps101
  go_wp2_with fail
  go_loopw [0, 1] (fun a b wr => ∃ x' y' : Int, a = .int .u64 x' ∧ b = .int .u64 y' ∧ 0 ≤ x' ∧ x' < 18446744073709551616 ∧ 0 ≤ y' ∧ y' < 18446744073709551616 ∧ Int.gcd x' y' = Int.gcd x y ∧ ∃ n, wr = w.drewN n) (fun _ b _ => (intOf b).toNat)
  case atStart => exact ⟨x, y, rfl, rfl, x0, x1, y0, y1, rfl, 0, rfl⟩
  case round =>
    obtain ⟨x', y', rfl, rfl, p0, p1, q0, q1, hg, n, rfl⟩ := hrel
    have HG : Hid (Int.gcd x' y' = Int.gcd x y) := hg
    clear hg
    by_cases hz : y' = 0
    · subst hz
      have R : Hid ((Int.gcd x y : Int) = x') := by show _ = _; rw [← HG.out, Int.gcd_zero]; omega
      go_wp2
      go_ret
      exact ⟨by rw [R.out]; rfl, n, rfl⟩
    · have hz' : (y' != 0) = true := by rw [bne_iff_ne]; exact hz
      have m0 := Int.emod_nonneg x' hz
      have m1 := Int.emod_lt_of_pos x' (show 0 < y' by omega)
      go_wp2_with fail
      go_quiet (fail)
      go_wp2
      go_roundw
      case rel => exact ⟨y', x' % y', rfl, rfl, q0, q1, m0, by omega, (gcd_rec x' y').trans HG.out, n + nq, by rw [World.drewN_drewN]⟩
      case measure => simp [intOf]; omega

/-- Nothing that lay in w has turned, but blocks a and b, which stay rows of their sizes. -/
structure Wr2 (a b : Nat) (w w' : World) : Prop where
  os : w'.os = w.os
  tape : w'.tape = w.tape
  output : w'.output = w.output
  size : w.heap.size ≤ w'.heap.size
  block : ∀ k, k < w.heap.size → k ≠ a → k ≠ b → w'.heap[k]? = w.heap[k]?
  own : ∀ k n, OwnN w k n → OwnN w' k n
theorem Wr2.refl (a b : Nat) (w : World) : Wr2 a b w w := ⟨rfl, rfl, rfl, Nat.le_refl _, fun _ _ _ _ => rfl, fun _ _ h => h⟩
theorem Wr2.left {a b o n : Nat} {w w1 w2 : World} (h : Wr2 a b w w1) (k : Wr a o n w1 w2) : Wr2 a b w w2 :=
  ⟨k.os.trans h.os, k.tape.trans h.tape, k.output.trans h.output, Nat.le_trans h.size k.size, fun i hi ha hb => (k.block i (Nat.lt_of_lt_of_le hi h.size) ha).trans (h.block i hi ha hb), fun _ _ x => (h.own _ _ x).wr k⟩
theorem Wr2.right {a b o n : Nat} {w w1 w2 : World} (h : Wr2 a b w w1) (k : Wr b o n w1 w2) : Wr2 a b w w2 :=
  ⟨k.os.trans h.os, k.tape.trans h.tape, k.output.trans h.output, Nat.le_trans h.size k.size, fun i hi ha hb => (k.block i (Nat.lt_of_lt_of_le hi h.size) hb).trans (h.block i hi ha hb), fun _ _ x => (h.own _ _ x).wr k⟩
theorem Wr2.below {a b B : Nat} {w w' : World} (h : Wr2 a b w w') (ha : B ≤ a) (hb : B ≤ b) (hB : B ≤ w.heap.size) : Below B w w' := ⟨h.os, h.tape, h.output, h.size, fun k hk => h.block k (by omega) (by omega) (by omega)⟩
theorem Bx.wr2 {W w1 : World} {n a b : Nat} {v : Value} (h : Bx W n v) (k : Wr2 a b W w1) (ha : n ≠ a) (hb : n ≠ b) : Bx w1 n v :=
  ⟨(World.cell?_of_block (a := ⟨n, 0, none⟩) (k.block n h.lt ha hb)).trans h.1, (World.frozen?_of_block (a := ⟨n, 0, none⟩) (k.block n h.lt ha hb)).trans h.2, by obtain ⟨t, e⟩ := h.3; exact ⟨t, (k.block n h.lt ha hb).trans e⟩⟩
theorem mix_step {x y p q cP cQ bX X0 Y0 V P px qy cP' cQ' : Int} {bX' : Int} (hv : V = p * X0 - q * Y0 + P * (cQ - cP + bX)) (h1 : px + 18446744073709551616 * cP' = x * p + cP) (h2 : qy + 18446744073709551616 * cQ' = y * q + cQ) :
    V + P * (px - qy - bX + 18446744073709551616 * bX') = p * (X0 + P * x) - q * (Y0 + P * y) + 18446744073709551616 * P * (cQ' - cP' + bX') := by grind

set_option maxHeartbeats 1600000 in
set_option maxRecDepth 100000 in
/-- whole.mix. -/
theorem mix_any (bx by_ : Nat) (n m cx cy : Nat) (X0 Y0 : List Int) (p q r s : Int) (w : World) (en : n = X0.length) (em : m = X0.length) (hl : Y0.length = X0.length) (hx : Wd X0) (hy : Wd Y0) (p0 : 0 ≤ p ∧ p < 18446744073709551616) (q0 : 0 ≤ q ∧ q < 18446744073709551616) (r0 : 0 ≤ r ∧ r < 18446744073709551616) (s0 : 0 ≤ s ∧ s < 18446744073709551616) (hL : X0.length ≤ 1099511627776)
    (hcx : Cells w bx 0 X0) (hcy : Cells w by_ 0 Y0) (hox : Own w bx) (hoy : Own w by_) (hne : bx ≠ by_) :
    Calls Tryz.prog 128 #[.slice (some ⟨bx, 0, none⟩) n cx, .slice (some ⟨by_, 0, none⟩) m cy, .int .u64 p, .int .u64 q, .int .u64 r, .int .u64 s] w fun e w' => ∃ X Y, e = .returned (.tuple #[]) ∧ X.length = X0.length ∧ Y.length = X0.length ∧ Wd X ∧ Wd Y ∧ (∃ k : Int, val X = p * val X0 - q * val Y0 + pw X0.length * k) ∧ (∃ k : Int, val Y = s * val Y0 - r * val X0 + pw X0.length * k) ∧ Cells w' bx 0 X ∧ Cells w' by_ 0 Y ∧ Wr2 bx by_ w w' := by
  subst en em
  have HL : Hid (Y0.length = X0.length) := hl
  clear hl
  go_enter Tryz.func128, Tryz.ntmps128
  go_wp2_with fail
  go_loopw [12, 13, 14, 15, 16, 17, 25] (fun t1 t2 t3 t4 t5 t6 i wr => ∃ (k : Nat) (cP cQ cR cS bX bY : Int) (X Y : List Int), k ≤ X0.length ∧ i = .int .i64 k ∧ t1 = .int .u64 cP ∧ t2 = .int .u64 cQ ∧ t3 = .int .u64 cR ∧ t4 = .int .u64 cS ∧ t5 = .int .u64 bX ∧ t6 = .int .u64 bY ∧ (0 ≤ cP ∧ cP < 18446744073709551616) ∧ (0 ≤ cQ ∧ cQ < 18446744073709551616) ∧ (0 ≤ cR ∧ cR < 18446744073709551616) ∧ (0 ≤ cS ∧ cS < 18446744073709551616) ∧ (0 ≤ bX ∧ bX ≤ 1) ∧ (0 ≤ bY ∧ bY ≤ 1) ∧ Part X X0 k ∧ Part Y Y0 k ∧ val (X.take k) = p * val (X0.take k) - q * val (Y0.take k) + pw k * (cQ - cP + bX) ∧ val (Y.take k) = s * val (Y0.take k) - r * val (X0.take k) + pw k * (cR - cS + bY) ∧ Cells wr bx 0 X ∧ Cells wr by_ 0 Y ∧ Own wr bx ∧ Own wr by_ ∧ Wr2 bx by_ w wr) (fun _ _ _ _ _ _ i _ => X0.length - (intOf i).toNat)
  case atStart => exact ⟨0, 0, 0, 0, 0, 0, 0, X0, Y0, Nat.zero_le _, rfl, rfl, rfl, rfl, rfl, rfl, rfl, by omega, by omega, by omega, by omega, by omega, by omega, Part.refl hx 0, Part.refl hy 0, by simp [val], by simp [val], hcx, hcy, hox, hoy, Wr2.refl _ _ _⟩
  case round =>
    clear hcx hcy hox hoy
    obtain ⟨k, cP, cQ, cR, cS, bX, bY, X, Y, hk, rfl, rfl, rfl, rfl, rfl, rfl, rfl, hcP, hcQ, hcR, hcS, hbX, hbY, hPX, hPY, hvX, hvY, hcx, hcy, hox, hoy, hw⟩ := hrel
    have HX : Hid (val (X.take k) = p * val (X0.take k) - q * val (Y0.take k) + pw k * (cQ - cP + bX)) := hvX
    have HY : Hid (val (Y.take k) = s * val (Y0.take k) - r * val (X0.take k) + pw k * (cR - cS + bY)) := hvY
    clear hvX hvY
    by_cases hlt : k < X0.length
    · have lX : Hid (X.length = X0.length) := hPX.len
      have lY : Hid (Y.length = X0.length) := hPY.len.trans HL.out
      have k1 : wr.cell? ⟨bx, k, none⟩ = some (.int .u64 (nth X k)) := by have := hcx k (by rw [lX.out]; exact hlt); rwa [Nat.zero_add] at this
      have k2 : wr.cell? ⟨by_, k, none⟩ = some (.int .u64 (nth Y k)) := by have := hcy k (by rw [lY.out]; exact hlt); rwa [Nat.zero_add] at this
      have k3 : wr.frozen? ⟨bx, k, none⟩ = false := by have := hox.free 0 (k + 1) k (by omega); rwa [Nat.zero_add] at this
      have k4 : wr.frozen? ⟨by_, k, none⟩ = false := by have := hoy.free 0 (k + 1) k (by omega); rwa [Nat.zero_add] at this
      have d1 := nth_bd hPX.wd k
      have d2 := nth_bd hPY.wd k
      go_wp2_with fail
      refine (mulAdd_any (nth X k) p cP _ d1.1 d1.2 p0.1 p0.2 hcP.1 hcP.2).mono ?_
      rintro e w' ⟨px, cP', rfl, u1, u2, u3, u4, e1, hw'⟩
      have hw2' := hw'.symm; subst hw2'
      have E1 : Hid _ := e1; clear e1 hw'
      go_wp2_with fail
      refine (mulAdd_any (nth Y k) q cQ _ d2.1 d2.2 q0.1 q0.2 hcQ.1 hcQ.2).mono ?_
      rintro e w' ⟨qy, cQ', rfl, v1, v2, v3, v4, e2, hw'⟩
      have hw2' := hw'.symm; subst hw2'
      have E2 : Hid _ := e2; clear e2 hw'
      go_wp2_with fail
      refine (mulAdd_any (nth X k) r cR _ d1.1 d1.2 r0.1 r0.2 hcR.1 hcR.2).mono ?_
      rintro e w' ⟨rx, cR', rfl, x1, x2, x3, x4, e3, hw'⟩
      have hw2' := hw'.symm; subst hw2'
      have E3 : Hid _ := e3; clear e3 hw'
      go_wp2_with fail
      refine (mulAdd_any (nth Y k) s cS _ d2.1 d2.2 s0.1 s0.2 hcS.1 hcS.2).mono ?_
      rintro e w' ⟨sy, cS', rfl, y1, y2, y3, y4, e4, hw'⟩
      have hw2' := hw'.symm; subst hw2'
      have E4 : Hid _ := e4; clear e4 hw'
      have z1 := bor_word (x := px) (y := qy) (b := bX) ⟨u1, u2⟩ ⟨v1, v2⟩ hbX
      have z2 := bor_word (x := sy) (y := rx) (b := bY) ⟨y1, y2⟩ ⟨x1, x2⟩ hbY
      go_wp2_with (first | simp only [sub64 px qy bX u1 u2 v1 v2 hbX.1 hbX.2] | simp only [sub64 sy rx bY y1 y2 x1 x2 hbY.1 hbY.2])
      go_roundw
      case rel =>
        have WX : Wr bx 0 X0.length wr (wr.setCell ⟨bx, k, none⟩ (.int .u64 (px - qy - bX + 18446744073709551616 * bor px (qy + bX)))) := (Wr.refl _ _ _ _).setCell k (by omega) _
        have WY := (Wr.refl by_ 0 X0.length (wr.setCell ⟨bx, k, none⟩ (.int .u64 (px - qy - bX + 18446744073709551616 * bor px (qy + bX))))).setCell k (by omega) (.int .u64 (sy - rx - bY + 18446744073709551616 * bor sy (rx + bY)))
        refine ⟨k + 1, cP', cQ', cR', cS', bor px (qy + bX), bor sy (rx + bY), X.set k (px - qy - bX + 18446744073709551616 * bor px (qy + bX)), Y.set k (sy - rx - bY + 18446744073709551616 * bor sy (rx + bY)), by omega, by go_num, rfl, rfl, rfl, rfl, rfl, rfl, ⟨u3, u4⟩, ⟨v3, v4⟩, ⟨x3, x4⟩, ⟨y3, y4⟩, bor_bd _ _, bor_bd _ _, hPX.step z1.1 z1.2, hPY.step z2.1 z2.2, ?_, ?_, ?_, ?_, (hox.wr WX).wr WY, (hoy.wr WX).wr WY, ?_⟩
        · rw [hPX.val hlt, val_at X0 k hlt, val_at Y0 k (by rw [HL.out]; exact hlt), ← hPX.nth, ← hPY.nth]
          exact mix_step HX.out E1.out E2.out
        · rw [hPY.val (by rw [HL.out]; exact hlt), val_at X0 k hlt, val_at Y0 k (by rw [HL.out]; exact hlt), ← hPX.nth, ← hPY.nth]
          exact mix_step HY.out E4.out E3.out
        · have := hcx.set k (by rw [lX.out]; exact hlt) (px - qy - bX + 18446744073709551616 * bor px (qy + bX))
          rw [Nat.zero_add] at this
          exact this.other WY hne
        · have := (hcy.other WX (Ne.symm hne)).set k (by rw [lY.out]; exact hlt) (sy - rx - bY + 18446744073709551616 * bor sy (rx + bY))
          rwa [Nat.zero_add] at this
        · exact (hw.left WX).right WY
      case measure => simp [intOf]; omega
    · have ek : k = X0.length := by omega
      subst ek
      have FX : Hid (val X = p * val X0 - q * val Y0 + pw X0.length * (cQ - cP + bX)) := by
        have h1 := HX.out
        have h2 := hPX.len
        rw [List.take_length, ← h2, List.take_length, h2] at h1
        rw [← HL.out, List.take_length, HL.out] at h1
        exact h1
      have FY : Hid (val Y = s * val Y0 - r * val X0 + pw X0.length * (cR - cS + bY)) := by
        have h1 := HY.out
        have h2 := hPY.len.trans HL.out
        rw [List.take_length, ← h2, List.take_length, h2] at h1
        rw [← HL.out, List.take_length, HL.out] at h1
        exact h1
      go_wp2
      go_end0
      exact ⟨X, Y, rfl, hPX.len, hPY.len.trans HL.out, hPX.wd, hPY.wd, ⟨_, FX.out⟩, ⟨_, FY.out⟩, hcx, hcy, hw⟩
end Go.Proofs.YtfalncbcomlelaaGreatDoor
