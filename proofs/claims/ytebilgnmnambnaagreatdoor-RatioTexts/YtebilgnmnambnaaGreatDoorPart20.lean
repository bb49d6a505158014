import Derived.Test.YtebilgnmnambnaaGreatDoorPart19
import Derived.Test.YtebilgnmnambnaaGreatDoorPart05

namespace Go.Proofs.YtebilgnmnambnaaGreatDoor
open Go.RowKit Tn
theorem gcd_rec (a b : Int) : Int.gcd b (a % b) = Int.gcd a b := by
  have := divmod_eq a b
  have e : a % b = a - a / b * b := by omega
  rw [e, Int.mul_comm, Int.gcd_sub_mul_left_right, Int.gcd_comm]
set_option maxHeartbeats 400000 in
theorem commonWord_any (x y : Int) (w : World) (x0 : 0 ≤ x) (x1 : x < 18446744073709551616) (y0 : 0 ≤ y) (y1 : y < 18446744073709551616) :
    Calls Tryz.prog 157 #[.int .u64 x, .int .u64 y] w fun e w' => e = .returned (.int .u64 (Int.gcd x y)) ∧ ∃ n, w' = w.drewN n := by
  go_enter Tryz.func157, Tryz.ntmps157
  go_wp2_with fail
  go_loopw [0, 1] (fun a b wr => ∃ x' y' : Int, a = .int .u64 x' ∧ b = .int .u64 y' ∧ 0 ≤ x' ∧ x' < 18446744073709551616 ∧ 0 ≤ y' ∧ y' < 18446744073709551616 ∧ Int.gcd x' y' = Int.gcd x y ∧ ∃ n, wr = w.drewN n) (fun _ b _ => (intOf b).toNat)
  case atStart => exact ⟨x, y, rfl, rfl, x0, x1, y0, y1, rfl, 0, rfl⟩
  case round =>
    obtain ⟨x', y', rfl, rfl, p0, p1, q0, q1, hg, n, rfl⟩ := hrel
    have HG : Hid (Int.gcd x' y' = Int.gcd x y) := hg
    clear hg
    by_cases hz : y' = 0
    · subst hz
      have R : Hid ((Int.gcd x y : Int) = x') := by show _ = _; rw [← HG.out, Int.gcd_zero]; omega
      go_wp2
      go_ret
      exact ⟨by rw [R.out]; rfl, n, rfl⟩
    · have hz' : (y' != 0) = true := by rw [bne_iff_ne]; exact hz
      have m0 := Int.emod_nonneg x' hz
      have m1 := Int.emod_lt_of_pos x' (show 0 < y' by omega)
      go_wp2_with fail
      go_quiet (fail)
      go_wp2
      go_roundw
      case rel => exact ⟨y', x' % y', rfl, rfl, q0, q1, m0, by omega, (gcd_rec x' y').trans HG.out, n + nq, by rw [World.drewN_drewN]⟩
      case measure => simp [intOf]; omega
structure Wr2 (a b : Nat) (w w' : World) : Prop where
  os : w'.os = w.os
  tape : w'.tape = w.tape
  output : w'.output = w.output
  size : w.heap.size ≤ w'.heap.size
  block : ∀ k, k < w.heap.size → k ≠ a → k ≠ b → w'.heap[k]? = w.heap[k]?
  own : ∀ k n, OwnN w k n → OwnN w' k n
theorem Wr2.refl (a b : Nat) (w : World) : Wr2 a b w w := ⟨rfl, rfl, rfl, Nat.le_refl _, fun _ _ _ _ => rfl, fun _ _ h => h⟩
theorem Wr2.left {a b o n : Nat} {w w1 w2 : World} (h : Wr2 a b w w1) (k : Wr a o n w1 w2) : Wr2 a b w w2 :=
  ⟨k.os.trans h.os, k.tape.trans h.tape, k.output.trans h.output, Nat.le_trans h.size k.size, fun i hi ha hb => (k.block i (Nat.lt_of_lt_of_le hi h.size) ha).trans (h.block i hi ha hb), fun _ _ x => (h.own _ _ x).wr k⟩
theorem Wr2.right {a b o n : Nat} {w w1 w2 : World} (h : Wr2 a b w w1) (k : Wr b o n w1 w2) : Wr2 a b w w2 :=
  ⟨k.os.trans h.os, k.tape.trans h.tape, k.output.trans h.output, Nat.le_trans h.size k.size, fun i hi ha hb => (k.block i (Nat.lt_of_lt_of_le hi h.size) hb).trans (h.block i hi ha hb), fun _ _ x => (h.own _ _ x).wr k⟩
theorem Wr2.below {a b B : Nat} {w w' : World} (h : Wr2 a b w w') (ha : B ≤ a) (hb : B ≤ b) (hB : B ≤ w.heap.size) : Below B w w' := ⟨h.os, h.tape, h.output, h.size, fun k hk => h.block k (by omega) (by omega) (by omega)⟩
theorem Bx.wr2 {W w1 : World} {n a b : Nat} {v : Value} (h : Bx W n v) (k : Wr2 a b W w1) (ha : n ≠ a) (hb : n ≠ b) : Bx w1 n v :=
  ⟨(World.cell?_of_block (a := ⟨n, 0, none⟩) (k.block n h.lt ha hb)).trans h.1, (World.frozen?_of_block (a := ⟨n, 0, none⟩) (k.block n h.lt ha hb)).trans h.2, by obtain ⟨t, e⟩ := h.3; exact ⟨t, (k.block n h.lt ha hb).trans e⟩⟩
theorem mix_step {x y p q cP cQ bX X0 Y0 V P px qy cP' cQ' : Int} {bX' : Int} (hv : V = p * X0 - q * Y0 + P * (cQ - cP + bX)) (h1 : px + 18446744073709551616 * cP' = x * p + cP) (h2 : qy + 18446744073709551616 * cQ' = y * q + cQ) :
    V + P * (px - qy - bX + 18446744073709551616 * bX') = p * (X0 + P * x) - q * (Y0 + P * y) + 18446744073709551616 * P * (cQ' - cP' + bX') := by grind
set_option maxHeartbeats 1600000 in
set_option maxRecDepth 100000 in
theorem mix_any (bx by_ : Nat) (n m cx cy : Nat) (X0 Y0 : List Int) (p q r s : Int) (w : World) (en : n = X0.length) (em : m = X0.length) (hl : Y0.length = X0.length) (hx : Wd X0) (hy : Wd Y0) (p0 : 0 ≤ p ∧ p < 18446744073709551616) (q0 : 0 ≤ q ∧ q < 18446744073709551616) (r0 : 0 ≤ r ∧ r < 18446744073709551616) (s0 : 0 ≤ s ∧ s < 18446744073709551616) (hL : X0.length ≤ 1099511627776)
    (hcx : Cells w bx 0 X0) (hcy : Cells w by_ 0 Y0) (hox : Own w bx) (hoy : Own w by_) (hne : bx ≠ by_) :
    Calls Tryz.prog 193 #[.slice (some ⟨bx, 0, none⟩) n cx, .slice (some ⟨by_, 0, none⟩) m cy, .int .u64 p, .int .u64 q, .int .u64 r, .int .u64 s] w fun e w' => ∃ X Y, e = .returned (.tuple #[]) ∧ X.length = X0.length ∧ Y.length = X0.length ∧ Wd X ∧ Wd Y ∧ (∃ k : Int, val X = p * val X0 - q * val Y0 + pw X0.length * k) ∧ (∃ k : Int, val Y = s * val Y0 - r * val X0 + pw X0.length * k) ∧ Cells w' bx 0 X ∧ Cells w' by_ 0 Y ∧ Wr2 bx by_ w w' := by
  subst en em
  have HL : Hid (Y0.length = X0.length) := hl
  clear hl
  go_enter Tryz.func193, Tryz.ntmps193
  go_wp2_with fail
  go_loopw [12, 13, 14, 15, 16, 17, 25] (fun t1 t2 t3 t4 t5 t6 i wr => ∃ (k : Nat) (cP cQ cR cS bX bY : Int) (X Y : List Int), k ≤ X0.length ∧ i = .int .i64 k ∧ t1 = .int .u64 cP ∧ t2 = .int .u64 cQ ∧ t3 = .int .u64 cR ∧ t4 = .int .u64 cS ∧ t5 = .int .u64 bX ∧ t6 = .int .u64 bY ∧ (0 ≤ cP ∧ cP < 18446744073709551616) ∧ (0 ≤ cQ ∧ cQ < 18446744073709551616) ∧ (0 ≤ cR ∧ cR < 18446744073709551616) ∧ (0 ≤ cS ∧ cS < 18446744073709551616) ∧ (0 ≤ bX ∧ bX ≤ 1) ∧ (0 ≤ bY ∧ bY ≤ 1) ∧ Part X X0 k ∧ Part Y Y0 k ∧ val (X.take k) = p * val (X0.take k) - q * val (Y0.take k) + pw k * (cQ - cP + bX) ∧ val (Y.take k) = s * val (Y0.take k) - r * val (X0.take k) + pw k * (cR - cS + bY) ∧ Cells wr bx 0 X ∧ Cells wr by_ 0 Y ∧ Own wr bx ∧ Own wr by_ ∧ Wr2 bx by_ w wr) (fun _ _ _ _ _ _ i _ => X0.length - (intOf i).toNat)
  case atStart => exact ⟨0, 0, 0, 0, 0, 0, 0, X0, Y0, Nat.zero_le _, rfl, rfl, rfl, rfl, rfl, rfl, rfl, by omega, by omega, by omega, by omega, by omega, by omega, Part.refl hx 0, Part.refl hy 0, by simp [val], by simp [val], hcx, hcy, hox, hoy, Wr2.refl _ _ _⟩
  case round =>
    clear hcx hcy hox hoy
    obtain ⟨k, cP, cQ, cR, cS, bX, bY, X, Y, hk, rfl, rfl, rfl, rfl, rfl, rfl, rfl, hcP, hcQ, hcR, hcS, hbX, hbY, hPX, hPY, hvX, hvY, hcx, hcy, hox, hoy, hw⟩ := hrel
    have HX : Hid (val (X.take k) = p * val (X0.take k) - q * val (Y0.take k) + pw k * (cQ - cP + bX)) := hvX
    have HY : Hid (val (Y.take k) = s * val (Y0.take k) - r * val (X0.take k) + pw k * (cR - cS + bY)) := hvY
    clear hvX hvY
    by_cases hlt : k < X0.length
    · have lX : Hid (X.length = X0.length) := hPX.len
      have lY : Hid (Y.length = X0.length) := hPY.len.trans HL.out
      have k1 : wr.cell? ⟨bx, k, none⟩ = some (.int .u64 (nth X k)) := by have := hcx k (by rw [lX.out]; exact hlt); rwa [Nat.zero_add] at this
      have k2 : wr.cell? ⟨by_, k, none⟩ = some (.int .u64 (nth Y k)) := by have := hcy k (by rw [lY.out]; exact hlt); rwa [Nat.zero_add] at this
      have k3 : wr.frozen? ⟨bx, k, none⟩ = false := by have := hox.free 0 (k + 1) k (by omega); rwa [Nat.zero_add] at this
      have k4 : wr.frozen? ⟨by_, k, none⟩ = false := by have := hoy.free 0 (k + 1) k (by omega); rwa [Nat.zero_add] at this
      have d1 := nth_bd hPX.wd k
      have d2 := nth_bd hPY.wd k
      go_wp2_with fail
      refine (mulAdd_any (nth X k) p cP _ d1.1 d1.2 p0.1 p0.2 hcP.1 hcP.2).mono ?_
      rintro e w' ⟨px, cP', rfl, u1, u2, u3, u4, e1, hw'⟩
      have hw2' := hw'.symm; subst hw2'
      have E1 : Hid _ := e1; clear e1 hw'
      go_wp2_with fail
      refine (mulAdd_any (nth Y k) q cQ _ d2.1 d2.2 q0.1 q0.2 hcQ.1 hcQ.2).mono ?_
      rintro e w' ⟨qy, cQ', rfl, v1, v2, v3, v4, e2, hw'⟩
      have hw2' := hw'.symm; subst hw2'
      have E2 : Hid _ := e2; clear e2 hw'
      go_wp2_with fail
      refine (mulAdd_any (nth X k) r cR _ d1.1 d1.2 r0.1 r0.2 hcR.1 hcR.2).mono ?_
      rintro e w' ⟨rx, cR', rfl, x1, x2, x3, x4, e3, hw'⟩
      have hw2' := hw'.symm; subst hw2'
      have E3 : Hid _ := e3; clear e3 hw'
      go_wp2_with fail
      refine (mulAdd_any (nth Y k) s cS _ d2.1 d2.2 s0.1 s0.2 hcS.1 hcS.2).mono ?_
      rintro e w' ⟨sy, cS', rfl, y1, y2, y3, y4, e4, hw'⟩
      have hw2' := hw'.symm; subst hw2'
      have E4 : Hid _ := e4; clear e4 hw'
      have z1 := bor_word (x := px) (y := qy) (b := bX) ⟨u1, u2⟩ ⟨v1, v2⟩ hbX
      have z2 := bor_word (x := sy) (y := rx) (b := bY) ⟨y1, y2⟩ ⟨x1, x2⟩ hbY
      go_wp2_with (first | simp only [sub64 px qy bX u1 u2 v1 v2 hbX.1 hbX.2] | simp only [sub64 sy rx bY y1 y2 x1 x2 hbY.1 hbY.2])
      go_roundw
      case rel =>
        have WX : Wr bx 0 X0.length wr (wr.setCell ⟨bx, k, none⟩ (.int .u64 (px - qy - bX + 18446744073709551616 * bor px (qy + bX)))) := (Wr.refl _ _ _ _).setCell k (by omega) _
        have WY := (Wr.refl by_ 0 X0.length (wr.setCell ⟨bx, k, none⟩ (.int .u64 (px - qy - bX + 18446744073709551616 * bor px (qy + bX))))).setCell k (by omega) (.int .u64 (sy - rx - bY + 18446744073709551616 * bor sy (rx + bY)))
        refine ⟨k + 1, cP', cQ', cR', cS', bor px (qy + bX), bor sy (rx + bY), X.set k (px - qy - bX + 18446744073709551616 * bor px (qy + bX)), Y.set k (sy - rx - bY + 18446744073709551616 * bor sy (rx + bY)), by omega, by go_num, rfl, rfl, rfl, rfl, rfl, rfl, ⟨u3, u4⟩, ⟨v3, v4⟩, ⟨x3, x4⟩, ⟨y3, y4⟩, bor_bd _ _, bor_bd _ _, hPX.step z1.1 z1.2, hPY.step z2.1 z2.2, ?_, ?_, ?_, ?_, (hox.wr WX).wr WY, (hoy.wr WX).wr WY, ?_⟩
        · rw [hPX.val hlt, val_at X0 k hlt, val_at Y0 k (by rw [HL.out]; exact hlt), ← hPX.nth, ← hPY.nth]
          exact mix_step HX.out E1.out E2.out
        · rw [hPY.val (by rw [HL.out]; exact hlt), val_at X0 k hlt, val_at Y0 k (by rw [HL.out]; exact hlt), ← hPX.nth, ← hPY.nth]
          exact mix_step HY.out E4.out E3.out
        · have := hcx.set k (by rw [lX.out]; exact hlt) (px - qy - bX + 18446744073709551616 * bor px (qy + bX))
          rw [Nat.zero_add] at this
          exact this.other WY hne
        · have := (hcy.other WX (Ne.symm hne)).set k (by rw [lY.out]; exact hlt) (sy - rx - bY + 18446744073709551616 * bor sy (rx + bY))
          rwa [Nat.zero_add] at this
        · exact (hw.left WX).right WY
      case measure => simp [intOf]; omega
    · have ek : k = X0.length := by omega
      subst ek
      have FX : Hid (val X = p * val X0 - q * val Y0 + pw X0.length * (cQ - cP + bX)) := by
        have h1 := HX.out
        have h2 := hPX.len
        rw [List.take_length, ← h2, List.take_length, h2] at h1
        rw [← HL.out, List.take_length, HL.out] at h1
        exact h1
      have FY : Hid (val Y = s * val Y0 - r * val X0 + pw X0.length * (cR - cS + bY)) := by
        have h1 := HY.out
        have h2 := hPY.len.trans HL.out
        rw [List.take_length, ← h2, List.take_length, h2] at h1
        rw [← HL.out, List.take_length, HL.out] at h1
        exact h1
      go_wp2
      go_end0
      exact ⟨X, Y, rfl, hPX.len, hPY.len.trans HL.out, hPX.wd, hPY.wd, ⟨_, FX.out⟩, ⟨_, FY.out⟩, hcx, hcy, hw⟩
end Go.Proofs.YtebilgnmnambnaaGreatDoor

namespace Go.Proofs.YtebilgnmnambnaaGreatDoor
open Go.RowKit Tn
theorem first_words {X : List Int} {m s : Nat} (hX : Wd X) (hl : X.length = m + 2) (hs : s ≤ 63) :
    ∃ l : Int, val X = (nth X (m + 1) * 2 ^ s + nth X m / 2 ^ (64 - s)) * (pw m * 2 ^ (64 - s)) + l ∧ 0 ≤ l ∧ l < pw m * 2 ^ (64 - s) := by
  have e1 := val_last (X := X) (n := m + 1) hl
  have e2 := val_at X m (by omega)
  have p := pw_pos m
  have q := two_pos (64 - s)
  have t0 := val_nonneg (hX.take m)
  have t1 := val_lt (hX.take m)
  rw [List.length_take, Nat.min_eq_left (by omega)] at t1
  have pe : pw (m + 1) = 18446744073709551616 * pw m := rfl
  have e3 := pow_split (show s ≤ 64 by omega)
  have e4 := divmod_eq (nth X m) (2 ^ (64 - s))
  have m0 := Int.emod_nonneg (nth X m) (show (2 : Int) ^ (64 - s) ≠ 0 by omega)
  have m1 := Int.emod_lt_of_pos (nth X m) q
  refine ⟨val (X.take m) + pw m * (nth X m % 2 ^ (64 - s)), ?_, ?_, ?_⟩
  · rw [e1, e2, pe]; grind
  · have := Int.mul_nonneg (Int.le_of_lt p) m0; omega
  · have := Int.mul_le_mul_of_nonneg_left (show nth X m % 2 ^ (64 - s) + 1 ≤ 2 ^ (64 - s) by omega) (Int.le_of_lt p)
    grind
theorem first_le {a b ah bh H al bl : Int} (ha : a = ah * H + al) (hb : b = bh * H + bl) (hH : 0 < H) (al1 : al < H) (bl0 : 0 ≤ bl) (h : b ≤ a) : bh ≤ ah := by
  by_cases c : bh ≤ ah
  · exact c
  · have := Int.mul_le_mul_of_nonneg_right (show ah + 1 ≤ bh by omega) (Int.le_of_lt hH)
    grind
theorem Leh.sizes {a b ah bh H al bl x0 y0 x1 y1 p q e : Int} (h : Leh a b ah bh H al bl x0 y0 x1 y1 p q e) (hah : ah < 18446744073709551616) (hbh : bh ≤ ah) (hq : 0 < q) :
    0 ≤ p / q * x1 ∧ 0 ≤ p / q * y1 ∧ x0 + p / q * x1 < 18446744073709551616 ∧ y0 + p / q * y1 < 18446744073709551616 ∧ 0 ≤ p % q ∧ p % q < q ∧ (y0 + p / q * y1 ≤ p % q → y1 + (y0 + p / q * y1) < 18446744073709551616) := by
  have m0 := Int.emod_nonneg p (show q ≠ 0 by omega)
  have m1 := Int.emod_lt_of_pos p hq
  have t0 : 1 ≤ p / q := (Int.le_ediv_iff_mul_le hq).2 (by have := h.qp; omega)
  have d := divmod_eq p q
  have a1 := Int.mul_nonneg (show 0 ≤ p / q by omega) h.px1
  have a2 := Int.mul_nonneg (show 0 ≤ p / q by omega) (show 0 ≤ y1 by have := h.py1; omega)
  have sy : (y0 + p / q * y1) * q + y1 * (p % q) = ah := by have := h.sumY; grind
  have sx : (x0 + p / q * x1) * q + x1 * (p % q) = bh := by have := h.sumX; grind
  have b1 := Int.mul_nonneg (show 0 ≤ y1 by have := h.py1; omega) m0
  have b2 := Int.mul_nonneg h.px1 m0
  have c1 := Int.mul_le_mul_of_nonneg_left (show 1 ≤ q by omega) (show 0 ≤ y0 + p / q * y1 by have := h.py0; omega)
  have c2 := Int.mul_le_mul_of_nonneg_left (show 1 ≤ q by omega) (show 0 ≤ x0 + p / q * x1 by have := h.px0; omega)
  refine ⟨a1, a2, by omega, by omega, m0, m1, fun hy => ?_⟩
  have y1' := h.py1
  have := Int.mul_le_mul_of_nonneg_left (show y1 ≤ p / q * y1 by have := Int.mul_le_mul_of_nonneg_right t0 (show 0 ≤ y1 by omega); omega) (show 0 ≤ (1 : Int) by omega)
  have b3 := Int.mul_le_mul_of_nonneg_left (show 1 ≤ p % q by have := h.py0; omega) (show 0 ≤ y1 by omega)
  omega
def sg (t : Bool) : Int := if t then -1 else 1
theorem sg_not (t : Bool) : sg (!t) = -sg t := by cases t <;> rfl
def Seen (a b x0 y0 x1 y1 : Int) (t : Bool) : Prop :=
  x1 = 0 ∨ ((0 ≤ x0 ∧ x0 < 18446744073709551616) ∧ (0 ≤ y0 ∧ y0 < 18446744073709551616) ∧ (0 ≤ x1 ∧ x1 < 18446744073709551616) ∧ (0 ≤ y1 ∧ y1 < 18446744073709551616) ∧ 0 ≤ sg t * (y1 * b - x1 * a) ∧ sg t * (y1 * b - x1 * a) ≤ sg t * (x0 * a - y0 * b) ∧ sg t * (x0 * a - y0 * b) ≤ a ∧ sg t * (y1 * b - x1 * a) < b ∧ Int.gcd (sg t * (x0 * a - y0 * b)) (sg t * (y1 * b - x1 * a)) = Int.gcd a b)
theorem Leh.seen {a b ah bh H al bl x0 y0 x1 y1 p q : Int} {t : Bool} (h : Leh a b ah bh H al bl x0 y0 x1 y1 p q (sg t)) (hx : x0 < 18446744073709551616) (hy : y0 < 18446744073709551616) (hx1 : x1 < 18446744073709551616) (hy1 : y1 < 18446744073709551616) : Seen a b x0 y0 x1 y1 t := by
  rcases h.first with f | f
  · exact Or.inl f.1
  · exact Or.inr ⟨⟨h.px0, hx⟩, ⟨h.py0, hy⟩, ⟨h.px1, hx1⟩, ⟨by have := h.py1; omega, hy1⟩, h.low, h.ord, h.topA, f.2.2, h.same⟩
set_option maxRecDepth 100000 in
theorem foresee_none (a1 a2 : Option Addr) (n m c1 c2 : Nat) (w : World) (h : m + 1 < n) (hL : n ≤ 1099511627776) :
    Calls Tryz.prog 155 #[.slice a1 n c1, .slice a2 m c2] w fun e w' => e = .returned (.agg #[.int .u64 0, .int .u64 0, .int .u64 0, .int .u64 0, .bool false]) ∧ Below w.heap.size w w' := by
  go_enter Tryz.func155, Tryz.ntmps155
  go_wp2
  exact bodyPost_ret (v := .agg #[.int .u64 0, .int .u64 0, .int .u64 0, .int .u64 0, .bool false]) (by simp [results, Tryz.results155, go_sem]) rfl ⟨rfl, (Below.refl _ _).alloc (Nat.le_refl _) _⟩
end Go.Proofs.YtebilgnmnambnaaGreatDoor

namespace Go.Proofs.YtebilgnmnambnaaGreatDoor
open Go.RowKit Tn
def put5 (W : World) (n : Nat) (v0 v1 v2 v3 v4 : Value) : World := ((((W.setCell ⟨n, 0, none⟩ v0).setCell ⟨n, 1, none⟩ v1).setCell ⟨n, 2, none⟩ v2).setCell ⟨n, 3, none⟩ v3).setCell ⟨n, 4, none⟩ v4
theorem put5_cells {W : World} {n : Nat} (v0 v1 v2 v3 v4 : Value) (h : ∀ i, i < 5 → ∃ v, W.cell? ⟨n, i, none⟩ = some v) :
    (put5 W n v0 v1 v2 v3 v4).cell? ⟨n, 0, none⟩ = some v0 ∧ (put5 W n v0 v1 v2 v3 v4).cell? ⟨n, 1, none⟩ = some v1 ∧ (put5 W n v0 v1 v2 v3 v4).cell? ⟨n, 2, none⟩ = some v2 ∧ (put5 W n v0 v1 v2 v3 v4).cell? ⟨n, 3, none⟩ = some v3 ∧ (put5 W n v0 v1 v2 v3 v4).cell? ⟨n, 4, none⟩ = some v4 := by
  obtain ⟨a0, h0⟩ := h 0 (by omega)
  obtain ⟨a1, h1⟩ := h 1 (by omega)
  obtain ⟨a2, h2⟩ := h 2 (by omega)
  obtain ⟨a3, h3⟩ := h 3 (by omega)
  obtain ⟨a4, h4⟩ := h 4 (by omega)
  unfold put5
  refine ⟨?_, ?_, ?_, ?_, ?_⟩
  · rw [World.cell?_setCell_other _ _ _ _ (by simp), World.cell?_setCell_other _ _ _ _ (by simp), World.cell?_setCell_other _ _ _ _ (by simp), World.cell?_setCell_other _ _ _ _ (by simp), World.cell?_setCell_same _ _ _ h0]
  · rw [World.cell?_setCell_other _ _ _ _ (by simp), World.cell?_setCell_other _ _ _ _ (by simp), World.cell?_setCell_other _ _ _ _ (by simp)]
    exact World.cell?_setCell_same _ _ _ (by rw [World.cell?_setCell_other _ _ _ _ (by simp)]; exact h1)
  · rw [World.cell?_setCell_other _ _ _ _ (by simp), World.cell?_setCell_other _ _ _ _ (by simp)]
    exact World.cell?_setCell_same _ _ _ (by rw [World.cell?_setCell_other _ _ _ _ (by simp), World.cell?_setCell_other _ _ _ _ (by simp)]; exact h2)
  · rw [World.cell?_setCell_other _ _ _ _ (by simp)]
    exact World.cell?_setCell_same _ _ _ (by rw [World.cell?_setCell_other _ _ _ _ (by simp), World.cell?_setCell_other _ _ _ _ (by simp), World.cell?_setCell_other _ _ _ _ (by simp)]; exact h3)
  · exact World.cell?_setCell_same _ _ _ (by rw [World.cell?_setCell_other _ _ _ _ (by simp), World.cell?_setCell_other _ _ _ _ (by simp), World.cell?_setCell_other _ _ _ _ (by simp), World.cell?_setCell_other _ _ _ _ (by simp)]; exact h4)
theorem put5_below {B : Nat} {w W : World} {n : Nat} (v0 v1 v2 v3 v4 : Value) (h : Below B w W) (hn : B ≤ n) : Below B w (put5 W n v0 v1 v2 v3 v4) :=
  ((((h.setCell (p := ⟨n, 0, none⟩) hn v0).setCell (p := ⟨n, 1, none⟩) hn v1).setCell (p := ⟨n, 2, none⟩) hn v2).setCell (p := ⟨n, 3, none⟩) hn v3).setCell (p := ⟨n, 4, none⟩) hn v4
theorem setCell_drewN (W : World) (k : Nat) (a : Addr) (v : Value) : (W.drewN k).setCell a v = (W.setCell a v).drewN k := rfl
theorem put5_alloc (A : World) (a0 a1 a2 a3 a4 v0 v1 v2 v3 v4 : Value) (t : TypeId) (k : Nat) : put5 ((A.alloc (.cells #[a0, a1, a2, a3, a4] t)).drewN k) A.heap.size v0 v1 v2 v3 v4 = (A.alloc (.cells #[v0, v1, v2, v3, v4] t)).drewN k := by
  unfold put5
  rw [setCell_drewN, setCell_drewN, setCell_drewN, setCell_drewN, setCell_drewN, World.setCell_alloc_at _ _ _ _ _ rfl, World.setCell_alloc_at _ _ _ _ _ rfl, World.setCell_alloc_at _ _ _ _ _ rfl, World.setCell_alloc_at _ _ _ _ _ rfl, World.setCell_alloc_at _ _ _ _ _ rfl]
  simp
theorem below_two (w : World) (o1 o2 : Obj) (k : Nat) : Below w.heap.size w (((w.alloc o1).alloc o2).drewN k) := below_drewN (((Below.refl _ _).alloc (Nat.le_refl _) _).alloc (by simp) _) _
def Fore (a b : Int) (w : World) (e : Ending) (w' : World) : Prop := ∃ x0 y0 x1 y1 t, e = .returned (.agg #[.int .u64 x0, .int .u64 y0, .int .u64 x1, .int .u64 y1, .bool t]) ∧ Seen a b x0 y0 x1 y1 t ∧ Below w.heap.size w w'
theorem Fore.mk {a b : Int} {w : World} {e : Ending} {w' : World} {x0 y0 x1 y1 : Int} {t : Bool} (h : e = .returned (.agg #[.int .u64 x0, .int .u64 y0, .int .u64 x1, .int .u64 y1, .bool t])) (h1 : Seen a b x0 y0 x1 y1 t) (h2 : Below w.heap.size w w') : Fore a b w e w' := ⟨x0, y0, x1, y1, t, h, h1, h2⟩
theorem five_there (w : World) (a0 a1 a2 a3 a4 : Value) (o : Obj) (t : TypeId) (k : Nat) : ∀ i, i < 5 → ∃ v, (((w.alloc (.cells #[a0, a1, a2, a3, a4] t)).alloc o).drewN k).cell? ⟨w.heap.size, i, none⟩ = some v := by
  intro i hi
  have e : (((w.alloc (.cells #[a0, a1, a2, a3, a4] t)).alloc o).drewN k).cell? ⟨w.heap.size, i, none⟩ = (#[a0, a1, a2, a3, a4] : Array Value)[i]? := by
    show ((w.alloc (.cells #[a0, a1, a2, a3, a4] t)).alloc o).cell? ⟨w.heap.size, i, none⟩ = _
    rw [World.cell?_alloc_past _ _ _ (by simp), World.cell?_alloc_at _ _ _ _ rfl]
  rw [e]
  have : i < (#[a0, a1, a2, a3, a4] : Array Value).size := by simpa using hi
  exact ⟨_, Array.getElem?_eq_getElem this⟩
set_option maxRecDepth 100000 in
set_option maxHeartbeats 1600000 in
theorem foresee_core (xb xo yb yo c1 c2 m ly s : Nat) (X Y : List Int) (ah bh a b H al bl : Int) (w : World) (hly : ly = m + 2 ∨ ly = m + 1) (hL : m ≤ 549755813888) (hs : (s : Int) = 64 - (Lib.bitLen (nth X (m + 1)).toNat : Int)) (s1 : s ≤ 63)
    (cx1 : w.cell? ⟨xb, xo + (m + 1), none⟩ = some (.int .u64 (nth X (m + 1)))) (cx0 : w.cell? ⟨xb, xo + m, none⟩ = some (.int .u64 (nth X m))) (cy0 : w.cell? ⟨yb, yo + m, none⟩ = some (.int .u64 (nth Y m))) (cy1 : ly = m + 2 → w.cell? ⟨yb, yo + (m + 1), none⟩ = some (.int .u64 (nth Y (m + 1))))
    (bx1 : 0 ≤ nth X (m + 1) ∧ nth X (m + 1) < 18446744073709551616) (r1 : IntKind.u64.wrap (nth X (m + 1) * 2 ^ s) = nth X (m + 1) * 2 ^ s) (r2 : bits .or .u64 (nth X (m + 1) * 2 ^ s) (nth X m / 2 ^ (64 - s)) = ah)
    (r3 : ly = m + 1 → nth Y m / 2 ^ (64 - s) = bh) (r4 : ly = m + 2 → IntKind.u64.wrap (nth Y (m + 1) * 2 ^ s) = nth Y (m + 1) * 2 ^ s ∧ bits .or .u64 (nth Y m / 2 ^ (64 - s)) (nth Y (m + 1) * 2 ^ s) = bh)
    (ha : a = ah * H + al) (hb : b = bh * H + bl) (hH : 0 < H) (al0 : 0 ≤ al) (al1 : al < H) (bl0 : 0 ≤ bl) (bl1 : bl < H) (hba : b ≤ a) (hb0 : 0 ≤ b) (hbh : 0 ≤ bh) (hle : bh ≤ ah) (hah : ah < 18446744073709551616) :
    Calls Tryz.prog 155 #[.slice (some ⟨xb, xo, none⟩) (m + 2) c1, .slice (some ⟨yb, yo, none⟩) ly c2] w fun e w' => Fore a b w e w' := by
  have lx := lt_of_cell cx0
  have ll := lt_of_cell cy0
  have HS : Hid ((64 - (Lib.bitLen (nth X (m + 1)).toNat : Int)) = (s : Int)) := hs.symm
  have HB : Hid _ := And.intro ha hb
  have w1 : IntKind.i64.wrap ((m : Int) + 2 - 1) = (m : Int) + 1 := by rw [IntWalk.i64_in _ (by omega)]; omega
  have w2 : IntKind.i64.wrap ((m : Int) + 2 - 2) = (m : Int) := by rw [IntWalk.i64_in _ (by omega)]; omega
  have w3 : IntKind.i64.wrap (64 - (s : Int)) = 64 - (s : Int) := IntWalk.i64_in _ (by omega)
  have l1 : ¬ ly < m + 1 := by omega
  have R34 : Hid ((ly = m + 1 → nth Y m / 2 ^ (64 - s) = bh) ∧ (ly = m + 2 → IntKind.u64.wrap (nth Y (m + 1) * 2 ^ s) = nth Y (m + 1) * 2 ^ s ∧ bits .or .u64 (nth Y m / 2 ^ (64 - s)) (nth Y (m + 1) * 2 ^ s) = bh)) := ⟨r3, r4⟩
  have CY : Hid (ly = m + 2 → w.cell? ⟨yb, yo + (m + 1), none⟩ = some (.int .u64 (nth Y (m + 1)))) := cy1
  have HLY : Hid (ly = m + 2 ∨ ly = m + 1) := hly
  have l2 : m + 1 ≤ ly := by omega
  have l3 : ly ≤ m + 2 := by omega
  clear hs ha hb r3 r4 cy1 hly
  go_enter Tryz.func155, Tryz.ntmps155
  go_wp2_with (go_at_call 161; refine (Tryz.bits_LeadingZeros64 _ _ bx1.1 (by omega)).mono ?_; rintro e w' ⟨rfl, hw'⟩; have hw2 := hw'.symm; subst hw2; rw [HS.out])
  go_quiet (fail)
  go_upto_if 54 with fail
  go_cut [8] (fun z wc => z = .int .u64 bh ∧ wc = (w.alloc (.cells #[.int .u64 0, .int .u64 0, .int .u64 0, .int .u64 0, .bool false] 169)).drewN nq)
  case first =>
    rcases HLY.out with h | h
    · subst h
      have c5 := CY.out rfl
      obtain ⟨r4, r5⟩ := R34.out.2 rfl
      go_wp2
      go_meet
      case rel => exact ⟨rfl, rfl⟩
    · subst h
      have r4 := R34.out.1 rfl
      have c6 : ((((m + 1 : Nat) : Int)) == (m : Int) + 2) = false := by rw [beq_eq_false_iff_ne]; omega
      go_wp2
      go_meet
      case rel => exact ⟨rfl, rfl⟩
  case rest =>
    obtain ⟨rfl, rfl⟩ := hcut
    clear cx1 cx0 cy0 r1 r2 R34 CY HLY w1 w2 w3 l1
    go_wp2_with fail
    go_loopw [7, 8, 10, 11, 12] (fun ta tb _ _ _ wr => ∃ (p q x0 y0 x1 y1 : Int) (t : Bool) (k : Nat), ta = .int .u64 p ∧ tb = .int .u64 q ∧ Leh a b ah bh H al bl x0 y0 x1 y1 p q (sg t) ∧ (x0 < 18446744073709551616 ∧ y0 < 18446744073709551616 ∧ x1 < 18446744073709551616 ∧ y1 < 18446744073709551616) ∧ p < 18446744073709551616 ∧ wr = ((w.alloc (.cells #[.int .u64 0, .int .u64 0, .int .u64 0, .int .u64 0, .bool false] 169)).alloc (.cells #[.int .u64 x0, .int .u64 y0, .int .u64 x1, .int .u64 y1, .bool t] 169)).drewN k) (fun _ tb _ _ _ _ => (intOf tb).toNat)
    case atStart => exact ⟨ah, bh, 1, 0, 0, 1, false, nq, rfl, rfl, Leh.start hb0 hba hbh hle, by omega, hah, rfl⟩
    case round =>
      obtain ⟨p, q, x0, y0, x1, y1, t, k, rfl, rfl, hLh, hb3, hp, rfl⟩ := hrel
      have q0 := hLh.q0
      have qp := hLh.qp
      have f1 := hLh.px0; have f2 := hLh.py0; have f3 := hLh.px1; have f4 := hLh.py1
      by_cases hz : q = 0
      · subst hz
        go_wp2
        have F := put5_cells (W := ((w.alloc (.cells #[.int .u64 0, .int .u64 0, .int .u64 0, .int .u64 0, .bool false] 169)).alloc (.cells #[.int .u64 x0, .int .u64 y0, .int .u64 x1, .int .u64 y1, .bool t] 169)).drewN k) (n := w.heap.size) (.int .u64 x0) (.int .u64 y0) (.int .u64 x1) (.int .u64 y1) (.bool t) (five_there w _ _ _ _ _ _ _ _)
        have FB := put5_below (n := w.heap.size) (.int .u64 x0) (.int .u64 y0) (.int .u64 x1) (.int .u64 y1) (.bool t) (below_two w (.cells #[.int .u64 0, .int .u64 0, .int .u64 0, .int .u64 0, .bool false] 169) (.cells #[.int .u64 x0, .int .u64 y0, .int .u64 x1, .int .u64 y1, .bool t] 169) (k)) (Nat.le_refl _)
        obtain ⟨F0, F1, F2, F3, F4⟩ := F
        unfold put5 at F0 F1 F2 F3 F4 FB
        refine bodyPost_ret (v := .agg #[.int .u64 x0, .int .u64 y0, .int .u64 x1, .int .u64 y1, .bool t]) (by simp [results, Tryz.results155, go_sem, F0, F1, F2, F3, F4]) rfl (Fore.mk rfl (Leh.seen hLh hb3.1 hb3.2.1 hb3.2.2.1 hb3.2.2.2) FB)
      · have hz' : (q == 0) = false := by rw [beq_eq_false_iff_ne]; exact hz
        obtain ⟨z1, z2, z3, z4, z5, z6, z7⟩ := Leh.sizes hLh hah hle (by omega)
        have Z7 : Hid _ := z7
        clear z7
        have e1 : IntKind.u64.wrap (p / q * x1) = p / q * x1 := le_wrap z1 (by omega)
        have e2 : IntKind.u64.wrap (p / q * y1) = p / q * y1 := le_wrap z2 (by omega)
        have e3 : IntKind.u64.wrap (x0 + p / q * x1) = x0 + p / q * x1 := le_wrap (by omega) z3
        have e4 : IntKind.u64.wrap (y0 + p / q * y1) = y0 + p / q * y1 := le_wrap (by omega) z4
        go_wp2_with fail
        go_quiet (fail)
        generalize nq = nq1
        go_wp2_with fail
        go_quiet (fail)
        rw [World.drewN_drewN, World.drewN_drewN]
        by_cases c1 : p % q < y0 + p / q * y1
        · go_wp2
          have F := put5_cells (W := ((w.alloc (.cells #[.int .u64 0, .int .u64 0, .int .u64 0, .int .u64 0, .bool false] 169)).alloc (.cells #[.int .u64 x0, .int .u64 y0, .int .u64 x1, .int .u64 y1, .bool t] 169)).drewN (k + (nq1 + nq))) (n := w.heap.size) (.int .u64 x0) (.int .u64 y0) (.int .u64 x1) (.int .u64 y1) (.bool t) (five_there w _ _ _ _ _ _ _ _)
          have FB := put5_below (n := w.heap.size) (.int .u64 x0) (.int .u64 y0) (.int .u64 x1) (.int .u64 y1) (.bool t) (below_two w (.cells #[.int .u64 0, .int .u64 0, .int .u64 0, .int .u64 0, .bool false] 169) (.cells #[.int .u64 x0, .int .u64 y0, .int .u64 x1, .int .u64 y1, .bool t] 169) (k + (nq1 + nq))) (Nat.le_refl _)
          obtain ⟨F0, F1, F2, F3, F4⟩ := F
          unfold put5 at F0 F1 F2 F3 F4 FB
          refine bodyPost_ret (v := .agg #[.int .u64 x0, .int .u64 y0, .int .u64 x1, .int .u64 y1, .bool t]) (by simp [results, Tryz.results155, go_sem, F0, F1, F2, F3, F4]) rfl (Fore.mk rfl (Leh.seen hLh hb3.1 hb3.2.1 hb3.2.2.1 hb3.2.2.2) FB)
        · have z7 := Z7.out (by omega)
          by_cases c2 : q - p % q < y1 + (y0 + p / q * y1)
          · go_wp2
            have F := put5_cells (W := ((w.alloc (.cells #[.int .u64 0, .int .u64 0, .int .u64 0, .int .u64 0, .bool false] 169)).alloc (.cells #[.int .u64 x0, .int .u64 y0, .int .u64 x1, .int .u64 y1, .bool t] 169)).drewN (k + (nq1 + nq))) (n := w.heap.size) (.int .u64 x0) (.int .u64 y0) (.int .u64 x1) (.int .u64 y1) (.bool t) (five_there w _ _ _ _ _ _ _ _)
            have FB := put5_below (n := w.heap.size) (.int .u64 x0) (.int .u64 y0) (.int .u64 x1) (.int .u64 y1) (.bool t) (below_two w (.cells #[.int .u64 0, .int .u64 0, .int .u64 0, .int .u64 0, .bool false] 169) (.cells #[.int .u64 x0, .int .u64 y0, .int .u64 x1, .int .u64 y1, .bool t] 169) (k + (nq1 + nq))) (Nat.le_refl _)
            obtain ⟨F0, F1, F2, F3, F4⟩ := F
            unfold put5 at F0 F1 F2 F3 F4 FB
            refine bodyPost_ret (v := .agg #[.int .u64 x0, .int .u64 y0, .int .u64 x1, .int .u64 y1, .bool t]) (by simp [results, Tryz.results155, go_sem, F0, F1, F2, F3, F4]) rfl (Fore.mk rfl (Leh.seen hLh hb3.1 hb3.2.1 hb3.2.2.1 hb3.2.2.2) FB)
          · have NX : Hid (Leh a b ah bh H al bl x1 y1 (x0 + p / q * x1) (y0 + p / q * y1) q (p % q) (sg (!t))) := by
              rw [sg_not]
              exact hLh.next HB.out.1 HB.out.2 hH al0 al1 bl0 bl1 (by omega) rfl rfl rfl (by omega) (by omega)
            have PA := put5_alloc (w.alloc (.cells #[.int .u64 0, .int .u64 0, .int .u64 0, .int .u64 0, .bool false] 169)) (.int .u64 x0) (.int .u64 y0) (.int .u64 x1) (.int .u64 y1) (.bool t) (.int .u64 x1) (.int .u64 y1) (.int .u64 (x0 + p / q * x1)) (.int .u64 (y0 + p / q * y1)) (.bool (!t)) 169 (k + (nq1 + nq))
            unfold put5 at PA
            simp only [World.size_alloc] at PA
            have PA' : Hid _ := PA
            clear PA
            go_wp2
            go_roundw
            case rel => exact ⟨q, p % q, x1, y1, x0 + p / q * x1, y0 + p / q * y1, !t, k + (nq1 + nq), rfl, rfl, NX.out, by omega, by omega, PA'.out⟩
            case measure => simp [intOf]; omega
end Go.Proofs.YtebilgnmnambnaaGreatDoor

namespace Go.Proofs.YtebilgnmnambnaaGreatDoor
open Go.RowKit Tn
theorem val_pad (X : List Int) : val (X ++ [0]) = val X := by rw [val_append]; simp [val]
theorem nth_pad {X : List Int} {i : Nat} (h : i < X.length) : nth (X ++ [0]) i = nth X i := by simp [nth, List.getD_eq_getElem?_getD, List.getElem?_append_left h]
theorem nth_pad_last {X : List Int} : nth (X ++ [0]) X.length = 0 := by simp [nth, List.getD_eq_getElem?_getD]
theorem top_le {X Y : List Int} {n : Nat} (hX : Wd X) (hY : Wd Y) (lX : X.length = n + 1) (lY : Y.length = n + 1) (h : val Y ≤ val X) : nth Y n ≤ nth X n := by
  by_cases c : nth Y n ≤ nth X n
  · exact c
  · have := top_lt hX hY (lX.trans lY.symm) n (by omega) (by rw [← lX, List.drop_length, lX, ← lY, List.drop_length]) (by omega); omega
theorem foresee_any (xb xo yb yo c1 c2 n ny : Nat) (X Y : List Int) (w : World) (en : n = X.length) (eny : ny = Y.length) (hX : Wd X) (hY : Wd Y) (nX : Nm X) (l2 : 2 ≤ Y.length) (hle : Y.length ≤ X.length) (hba : val Y ≤ val X) (hL : X.length ≤ 274877906944) (cX : Cells w xb xo X) (cY : Cells w yb yo Y) :
    Calls Tryz.prog 155 #[.slice (some ⟨xb, xo, none⟩) n c1, .slice (some ⟨yb, yo, none⟩) ny c2] w fun e w' => Fore (val X) (val Y) w e w' ∧ (Y.length + 1 < X.length → ∃ x0 y0 y1 t, e = .returned (.agg #[.int .u64 x0, .int .u64 y0, .int .u64 0, .int .u64 y1, .bool t])) := by
  subst en eny
  by_cases hs : Y.length + 1 < X.length
  · refine (foresee_none _ _ X.length Y.length c1 c2 w hs (by omega)).mono ?_
    rintro e w' ⟨rfl, hb⟩
    exact ⟨Fore.mk rfl (Or.inl rfl) hb, fun _ => ⟨_, _, _, _, rfl⟩⟩
  · obtain ⟨m, hm⟩ : ∃ m, X.length = m + 2 := ⟨X.length - 2, by omega⟩
    have tx := nm_top hX nX (by omega)
    rw [hm] at tx
    have tx' : 0 < nth X (m + 1) := tx
    have bx := nth_bd hX (m + 1)
    obtain ⟨s, hS⟩ : ∃ s : Nat, (s : Int) = 64 - (Lib.bitLen (nth X (m + 1)).toNat : Int) := ⟨64 - Lib.bitLen (nth X (m + 1)).toNat, by have := bitLen_bd _ tx' bx.2; omega⟩
    obtain ⟨s1, n1, n2⟩ := norm_bd _ s tx' bx.2 hS
    have p := two_pos s
    have q := two_pos (64 - s)
    have H0 : 0 < pw m * 2 ^ (64 - s) := Int.mul_pos (pw_pos m) q
    obtain ⟨al, fa, al0, al1⟩ := first_words hX hm s1
    have sx := shift_out_lt (nth X m) s (by omega) (nth_bd hX m).1 (nth_bd hX m).2
    have sy := shift_out_lt (nth Y m) s (by omega) (nth_bd hY m).1 (nth_bd hY m).2
    have orx := or_shift s (nth X (m + 1)) (nth X m / 2 ^ (64 - s)) bx.1 n2 sx.1 sx.2 (by have := Int.mul_le_mul_of_nonneg_right (show 1 ≤ nth X (m + 1) by omega) (Int.le_of_lt p); omega)
    have ahb : nth X (m + 1) * 2 ^ s + nth X m / 2 ^ (64 - s) < 18446744073709551616 := by
      have e := pow_split (show s ≤ 64 by omega)
      have g : nth X (m + 1) < 2 ^ (64 - s) := by
        rw [← e, Int.mul_comm] at n2; exact Int.lt_of_mul_lt_mul_left n2 (Int.le_of_lt p)
      have := Int.mul_le_mul_of_nonneg_right (show nth X (m + 1) + 1 ≤ 2 ^ (64 - s) by omega) (Int.le_of_lt p)
      rw [Int.mul_comm (2 ^ (64 - s)), e] at this
      have e3 : (nth X (m + 1) + 1) * 2 ^ s = nth X (m + 1) * 2 ^ s + 2 ^ s := by grind
      omega
    have fin : ∀ (bh bl : Int), val Y = bh * (pw m * 2 ^ (64 - s)) + bl → 0 ≤ bl → bl < pw m * 2 ^ (64 - s) → 0 ≤ bh → (Y.length = m + 1 → nth Y m / 2 ^ (64 - s) = bh) → (Y.length = m + 2 → IntKind.u64.wrap (nth Y (m + 1) * 2 ^ s) = nth Y (m + 1) * 2 ^ s ∧ bits .or .u64 (nth Y m / 2 ^ (64 - s)) (nth Y (m + 1) * 2 ^ s) = bh) →
        Calls Tryz.prog 155 #[.slice (some ⟨xb, xo, none⟩) X.length c1, .slice (some ⟨yb, yo, none⟩) Y.length c2] w fun e w' => Fore (val X) (val Y) w e w' ∧ (Y.length + 1 < X.length → ∃ x0 y0 y1 t, e = .returned (.agg #[.int .u64 x0, .int .u64 y0, .int .u64 0, .int .u64 y1, .bool t])) := by
      intro bh bl fb bl0 bl1 bh0 r3 r4
      rw [hm]
      refine (foresee_core xb xo yb yo c1 c2 m Y.length s X Y (nth X (m + 1) * 2 ^ s + nth X m / 2 ^ (64 - s)) bh (val X) (val Y) (pw m * 2 ^ (64 - s)) al bl w (by omega) (by omega) hS s1 (cX.at (by omega)) (cX.at (by omega)) (cY.at (by omega)) (fun h => cY.at (by omega)) bx (le_wrap (by omega) n2) orx r3 r4 fa fb H0 al0 al1 bl0 bl1 hba (val_nonneg hY) bh0 (first_le fa fb H0 al1 bl0 hba) ahb).mono ?_
      exact fun e w' h => ⟨h, fun c => absurd c (by omega)⟩
    by_cases hl : Y.length = m + 2
    · obtain ⟨bl, fb, bl0, bl1⟩ := first_words hY hl s1
      have ty := top_le (n := m + 1) hX hY hm hl hba
      have by1 := nth_bd hY (m + 1)
      have y2 : nth Y (m + 1) * 2 ^ s < 18446744073709551616 := by have := Int.mul_le_mul_of_nonneg_right ty (Int.le_of_lt p); omega
      have y3 := Int.mul_nonneg by1.1 (Int.le_of_lt p)
      have sb : nth Y m / 2 ^ (64 - s) < 18446744073709551616 := by have := Int.ediv_le_self (2 ^ (64 - s)) (nth_bd hY m).1; have := (nth_bd hY m).2; omega
      refine fin _ bl fb bl0 bl1 (by omega) (fun h => absurd h (by omega)) (fun _ => ⟨le_wrap y3 y2, ?_⟩)
      rw [or_shift' s _ _ by1.1 y2 sy.1 sy.2 sb]; omega
    · have hl' : Y.length = m + 1 := by omega
      have wp : Wd (Y ++ [0]) := hY.append (Wd.cons (by omega) (by omega) Wd.nil)
      obtain ⟨bl, fb, bl0, bl1⟩ := first_words wp (by simp; omega) s1
      have e1 : nth (Y ++ [0]) (m + 1) = 0 := by rw [← hl']; exact nth_pad_last
      rw [val_pad, e1, nth_pad (by omega)] at fb
      refine fin (nth Y m / 2 ^ (64 - s)) bl (by rw [fb]; grind) bl0 bl1 sy.1 (fun _ => rfl) (fun h => absurd h hl)
end Go.Proofs.YtebilgnmnambnaaGreatDoor

namespace Go.Proofs.YtebilgnmnambnaaGreatDoor
open Go.RowKit Tn
set_option maxRecDepth 100000 in
theorem copied_all (a : Option Addr) (c : Nat) (xs : List Int) (w : World) (hL : xs.length ≤ 549755813888) (h : 0 < xs.length → ∃ b o, a = some ⟨b, o, none⟩ ∧ Cells w b o xs) :
    Calls Tryz.prog 154 #[.agg #[.slice a xs.length c]] w fun e w' => ∃ g, e = .returned (.agg #[.slice (some ⟨g, 0, none⟩) xs.length xs.length]) ∧ w.heap.size < g ∧ g < w'.heap.size ∧ OwnN w' g xs.length ∧ Cells w' g 0 xs ∧ Below w.heap.size w w' := by
  have hs : Hid (∀ w', Below w.heap.size w w' → 0 < xs.length → ∃ b o, a = some ⟨b, o, none⟩ ∧ Cells w' b o xs) := fun w' k l => by obtain ⟨b, o, e, q⟩ := h l; exact ⟨b, o, e, q.grow k⟩
  clear h
  go_enter Tryz.func154, Tryz.ntmps154
  go_wp2_with (first
    | (at_make; refine wpList_make_wordsN rfl _ _ rfl xs.length _ _ rfl rfl rfl rfl (by omega) ?_; intro w1 k1 k2 k3 k4; have X0 := ((Bx.new w _ _).alloc _).below k3; have X1 := (Bx.new _ _ _).below k3; simp only [World.size_alloc] at X1 k1 k2 k3 k4; have q0 := below_alloc2 k3; clear k3; have x0 := X0.1)
    | ((with_reducible refine at_copy ?_); refine wpList_copy_words rfl _ _ rfl (List.replicate xs.length 0) xs _ 0 _ a _ _ _ rfl rfl (by simp) rfl (by simp) k1 k2.own (fun l => hs.out w1 q0 l) ?_; intro w2 k5 k6; rw [List.drop_of_length_le (by simp), List.append_nil] at k5; have Y1 := X1.wr k6 (by omega); have p0 := q0.trans (k6.below (B := w.heap.size) (by omega) (by omega)); have y1 := Y1.1; have y2 := Y1.2)
    | fail)
  have W1 : Wr (w.heap.size + 1) 0 1 w2 (w2.setCell ⟨w.heap.size + 1, 0, none⟩ (.slice (some ⟨w.heap.size + 1 + 1, 0, none⟩) xs.length xs.length)) := (Wr.refl _ _ _ _).setCell 0 (by omega) _
  have z := W1.size
  have z2 := k6.size
  refine bodyPost_ret (v := .agg #[.slice (some ⟨w.heap.size + 1 + 1, 0, none⟩) xs.length xs.length]) (by simp [results, Tryz.results154, go_sem, y1]) rfl ⟨w.heap.size + 1 + 1, rfl, by omega, by omega, (k2.wr k6).wr W1, k5.other W1 (by omega), below_put p0 (by omega) _⟩
set_option maxRecDepth 100000 in
theorem lowest_any (v : Value) (xs : List Int) (w : World) (h : Rd w v xs) (n : Nm xs) :
    Calls Tryz.prog 126 #[.agg #[v]] w fun e w' => e = .returned (.int .u64 (nth xs 0)) ∧ Below w.heap.size w w' := by
  have H : Hid (Rd w v xs) := h
  obtain ⟨wx, a, c, rfl, _, _, g⟩ := h
  have pr : Below w.heap.size w (w.alloc (.cells #[.slice a xs.length c] 65)) := (Below.refl _ _).alloc (Nat.le_refl _) _
  by_cases h0 : xs = []
  · subst h0
    go_enter Tryz.func126, Tryz.ntmps126
    go_wp2_with (go_at_call 48; refine (iszero_len a _ _ _).mono ?_; rintro e w1 ⟨rfl, hb⟩)
    go_ret
    exact ⟨by simp [nth], pr.trans (hb.mono pr.size)⟩
  · have hl : 0 < xs.length := List.length_pos_iff.2 h0
    obtain ⟨b, o, rfl, hc⟩ := g hl
    have hb0 := hc.lt hl
    have hz : (xs.length == 0) = false := by rw [beq_eq_false_iff_ne]; omega
    have c0 := hc.at (i := 0) hl
    rw [Nat.add_zero] at c0
    clear h0
    go_enter Tryz.func126, Tryz.ntmps126
    go_wp2_with (go_at_call 48; refine (iszero_len (some ⟨b, o, none⟩) _ _ _).mono ?_; rintro e w1 ⟨rfl, hb⟩; rw [hz]; have X0 := (Bx.new w _ _).below hb; have x0 := X0.1; have pb := pr.trans (hb.mono pr.size); have c1 := (pb.cell (p := ⟨b, o, none⟩) hb0).trans c0)
    go_ret
    exact ⟨rfl, pb⟩
end Go.Proofs.YtebilgnmnambnaaGreatDoor

namespace Go.Proofs.YtebilgnmnambnaaGreatDoor
open Go.RowKit Tn
theorem Bx.ne {w : World} {n g : Nat} {a : Option Addr} {l c : Nat} {ys : List Int} (h : Bx w n (.slice a l c)) (o : Cells w g 0 ys) (hl : 0 < ys.length) : n ≠ g := by
  rintro rfl
  have := o 0 hl
  rw [h.1] at this; simp at this
theorem Cells.take_list {w : World} {g n : Nat} {xs : List Int} {c : Array Value} {t : TypeId} {f : Nat × Nat} (h : Cells w g 0 xs) (e : w.heap[g]? = some (.cells c t f)) (hn : xs.length = n) (hs : n ≤ c.size) : c.toList.take n = xs.map (Value.int .u64) := by
  apply List.ext_getElem?
  intro i
  by_cases hi : i < n
  · rw [List.getElem?_take_of_lt hi, List.getElem?_map, List.getElem?_eq_getElem (show i < xs.length by omega)]
    have := h i (by omega)
    rw [Nat.zero_add] at this
    simp only [World.cell?, e, Option.isSome_none, Bool.false_eq_true, if_false] at this
    rw [Array.getElem?_toList, this]
    simp [nth, List.getD_eq_getElem?_getD, List.getElem?_eq_getElem (show i < xs.length by omega)]
  · rw [List.getElem?_eq_none (by simp; omega), List.getElem?_eq_none (by simp; omega)]
theorem cells_of_list {w : World} {g n : Nat} {xs : List Int} {c : Array Value} {t : TypeId} {f : Nat × Nat} (e : w.heap[g]? = some (.cells c t f)) (h : c.toList.take n = xs.map (Value.int .u64)) (hn : xs.length = n) : Cells w g 0 xs := by
  intro i hi
  have := congrArg (fun l : List Value => l[i]?) h
  simp only [List.getElem?_take_of_lt (show i < n by omega), List.getElem?_map, List.getElem?_eq_getElem hi, Option.map_some, Array.getElem?_toList] at this
  simp only [World.cell?, e, Nat.zero_add, Option.isSome_none, Bool.false_eq_true, if_false, this, nth, List.getD_eq_getElem?_getD, List.getElem?_eq_getElem hi, Option.getD_some]
theorem wpList_push0 {w : World} {ops : Array Oper} {rest : List Oper} {o : Oper} {a : Act} {Q : Exit → Act → World → Prop} (hgd : o.guard = none) (s x : Operand)
    (ho : o.op = .call { callee := .builtin .append, args := #[s, x], argTypes := #[63, 63] })
    (g cap l : Nat) (Y : List Int) (hs : a.eval s = .slice (some ⟨g, 0, none⟩) l cap) (el : l = Y.length) (hO : OwnN w g cap) (hcap : cap ≤ 9223372036854775807) (hle : Y.length ≤ cap) (hL : Y.length ≤ 1099511627776) (hc : Cells w g 0 Y)
    (ad : Nat) (c : Nat) (hx : a.eval x = .slice (some ⟨ad, 0, none⟩) 1 c) (hn : w.cell? ⟨ad, 0, none⟩ = some (.int .u64 0)) (base : Nat) (hb : base ≤ g) (hbase : base ≤ w.heap.size)
    (h : ∀ g' cap' w', Cells w' g' 0 (Y ++ [0]) → OwnN w' g' cap' → cap' ≤ 9223372036854775807 → Y.length + 1 ≤ cap' → base ≤ g' → w.grownBy w' (some g) → wpList Tryz.prog ops Q rest (a.put o.dst (.slice (some ⟨g', 0, none⟩) (Y.length + 1) cap')) w') : wpList Tryz.prog ops Q (o :: rest) a w := by
  subst el
  obtain ⟨i, hi, hz0, hz1, hz2⟩ := info_parts Tryz.infoU
  obtain ⟨cur, ec, es⟩ := hO
  have hown : w.ownsRow base 87 1 (.slice (some ⟨g, 0, none⟩) Y.length cap) Y.length (Y.map (Value.int .u64)) := ⟨by simp, Or.inr ⟨g, cap, cur, rfl, hb, ec, hle, hcap, by omega, by rw [Nat.mul_one]; exact hc.take_list ec rfl (by omega)⟩⟩
  refine wpList_append_own w hgd s x 63 ho base 87 i (.int .u64 0) 1 8 Tryz.underlying63 hi hz0 hz1 hz2 rfl (by decide) _ Y.length _ hs hown ⟨ad, 0, none⟩ 1 c [.int .u64 0] hx rfl ?_ (by intro u hu; simp at hu; subst hu; rfl) (by unfold maxLen; omega) (by omega) hbase ?_
  · intro j u hj
    match j, hj with
    | 0, hj => simp at hj; subst hj; simpa [Addr.add] using hn
  · intro v' w' hown' hgr hnil
    obtain ⟨_, hr⟩ := hown'
    rcases hr with ⟨rfl, h0⟩ | ⟨g', cap', cur', rfl, hb', eh, k1, k2, k3, k4⟩
    · omega
    · simp only [Nat.mul_one] at k3 k4
      have cl : Cells w' g' 0 (Y ++ [0]) := cells_of_list eh (k4.trans (by simp)) (by simp)
      exact h g' cap' w' cl ⟨cur', eh, k3⟩ k2 k1 hb' hgr
end Go.Proofs.YtebilgnmnambnaaGreatDoor

namespace Go.Proofs.YtebilgnmnambnaaGreatDoor
open Go.RowKit Tn
theorem Bx.blocks {w w' : World} {n : Nat} {v : Value} (h : Bx w n v) (k : w'.heap[n]? = w.heap[n]?) : Bx w' n v :=
  ⟨(World.cell?_of_block (a := ⟨n, 0, none⟩) k).trans h.1, (World.frozen?_of_block (a := ⟨n, 0, none⟩) k).trans h.2, by obtain ⟨t, e⟩ := h.3; exact ⟨t, k.trans e⟩⟩
theorem mod_uniq {v u P k : Int} (h : v = u + P * k) (v0 : 0 ≤ v) (v1 : v < P) (u0 : 0 ≤ u) (u1 : u < P) : v = u := by
  have hk : k = 0 := by
    by_cases c : k = 0
    · exact c
    · rcases Int.lt_or_gt_of_ne c with c | c
      · have := Int.mul_le_mul_of_nonneg_left (show k ≤ -1 by omega) (show 0 ≤ P by omega); omega
      · have := Int.mul_le_mul_of_nonneg_left (show 1 ≤ k by omega) (show 0 ≤ P by omega); omega
  rw [hk] at h; omega
set_option maxRecDepth 100000 in
set_option maxHeartbeats 3200000 in
theorem apply_all (base gx gy cx cy : Nat) (X Y : List Int) (x0 y0 x1 y1 : Int) (t : Bool) (w : World) (hX : Wd X) (hY : Wd Y) (nX : Nm X) (l1 : 0 < X.length) (l2 : Y.length ≤ X.length) (l3 : X.length ≤ Y.length + 1) (hL : X.length ≤ 274877906944) (hne : gx ≠ gy) (bx : base ≤ gx) (by_ : base ≤ gy)
    (Ox : OwnN w gx cx) (Oy : OwnN w gy cy) (kx : X.length ≤ cx) (ky : Y.length ≤ cy) (kx' : cx ≤ 9223372036854775807) (ky' : cy ≤ 9223372036854775807) (cX : Cells w gx 0 X) (cY : Cells w gy 0 Y)
    (p0 : 0 ≤ x0 ∧ x0 < 18446744073709551616) (q0 : 0 ≤ y0 ∧ y0 < 18446744073709551616) (p1 : 0 ≤ x1 ∧ x1 < 18446744073709551616) (q1 : 0 ≤ y1 ∧ y1 < 18446744073709551616) (A B : Int) (hA : sg t * (x0 * val X - y0 * val Y) = A) (hB : sg t * (y1 * val Y - x1 * val X) = B) (B0 : 0 ≤ B) (BA : B ≤ A) (AX : A ≤ val X) :
    Calls Tryz.prog 156 #[.agg #[.int .u64 x0, .int .u64 y0, .int .u64 x1, .int .u64 y1, .bool t], .slice (some ⟨gx, 0, none⟩) X.length cx, .slice (some ⟨gy, 0, none⟩) Y.length cy] w fun e w' => ∃ g1 g2 n1 n2 k1 k2 zs rs, e = .returned (.tuple #[.agg #[.slice (some ⟨g1, 0, none⟩) n1 k1], .agg #[.slice (some ⟨g2, 0, none⟩) n2 k2]]) ∧ g1 ≠ g2 ∧ base ≤ g1 ∧ base ≤ g2 ∧ OwnN w' g1 k1 ∧ OwnN w' g2 k2 ∧ Rd w' (.slice (some ⟨g1, 0, none⟩) n1 k1) zs ∧ Nm zs ∧ Rd w' (.slice (some ⟨g2, 0, none⟩) n2 k2) rs ∧ Nm rs ∧ val zs = A ∧ val rs = B ∧ Below base w w' := by
  have lx := Ox.own.lt
  have ly := Oy.own.lt
  have HAB : Hid _ := And.intro hA hB
  clear hA hB
  go_enter Tryz.func156, Tryz.ntmps156
  go_upto_if 12 with fail
  have S0 : Blk (((w.alloc (.cells #[.int .u64 x0, .int .u64 y0, .int .u64 x1, .int .u64 y1, .bool t] 169)).alloc (.cells #[.slice none 0 0] 65)).alloc (.cells #[.slice none 0 0] 65)) w.heap.size #[.int .u64 x0, .int .u64 y0, .int .u64 x1, .int .u64 y1, .bool t] 169 := ((Blk.new _ _ _).alloc _).alloc _
  have S1 := (Bx.new (w.alloc (.cells #[.int .u64 x0, .int .u64 y0, .int .u64 x1, .int .u64 y1, .bool t] 169)) (.slice none 0 0) 65).alloc (.cells #[.slice none 0 0] 65)
  have S2 := Bx.new ((w.alloc (.cells #[.int .u64 x0, .int .u64 y0, .int .u64 x1, .int .u64 y1, .bool t] 169)).alloc (.cells #[.slice none 0 0] 65)) (.slice none 0 0) 65
  have pr : Below w.heap.size w (((w.alloc (.cells #[.int .u64 x0, .int .u64 y0, .int .u64 x1, .int .u64 y1, .bool t] 169)).alloc (.cells #[.slice none 0 0] 65)).alloc (.cells #[.slice none 0 0] 65)) := (((Below.refl _ _).alloc (Nat.le_refl _) _).alloc (by simp) _).alloc (by simp; omega) _
  simp only [World.size_alloc] at S1 S2
  have Ox0 := Ox.grow pr; have Oy0 := Oy.grow pr; have cX0 := cX.grow pr; have cY0 := cY.grow pr
  have zsz : w.heap.size < (((w.alloc (.cells #[.int .u64 x0, .int .u64 y0, .int .u64 x1, .int .u64 y1, .bool t] 169)).alloc (.cells #[.slice none 0 0] 65)).alloc (.cells #[.slice none 0 0] 65)).heap.size := by simp only [World.size_alloc]; omega
  have pb : Below base w (((w.alloc (.cells #[.int .u64 x0, .int .u64 y0, .int .u64 x1, .int .u64 y1, .bool t] 169)).alloc (.cells #[.slice none 0 0] 65)).alloc (.cells #[.slice none 0 0] 65)) := pr.mono (by omega)
  generalize ((w.alloc (.cells #[.int .u64 x0, .int .u64 y0, .int .u64 x1, .int .u64 y1, .bool t] 169)).alloc (.cells #[.slice none 0 0] 65)).alloc (.cells #[.slice none 0 0] 65) = w0 at *
  go_cut [2] (fun z wc => ∃ g c V, z = .slice (some ⟨g, 0, none⟩) X.length c ∧ V.length = X.length ∧ Wd V ∧ val V = val Y ∧ Cells wc g 0 V ∧ OwnN wc g c ∧ X.length ≤ c ∧ c ≤ 9223372036854775807 ∧ gx ≠ g ∧ base ≤ g ∧ Cells wc gx 0 X ∧ OwnN wc gx cx ∧ Blk wc w.heap.size #[.int .u64 x0, .int .u64 y0, .int .u64 x1, .int .u64 y1, .bool t] 169 ∧ Bx wc (w.heap.size + 1) (.slice none 0 0) ∧ Bx wc (w.heap.size + 1 + 1) (.slice none 0 0) ∧ Below base w wc)
  case first =>
    by_cases hl : Y.length < X.length
    · have el : X.length = Y.length + 1 := by omega
      have EL : Hid (X.length = Y.length + 1) := el
      clear el
      go_wp2_with (at_builtin; go_must (refine wpList_push0 rfl _ _ rfl gy cy Y.length Y rfl rfl (Oy0.grow ((Below.refl _ _).alloc (Nat.le_refl _) _)) ky' ky (by omega) (cY0.grow ((Below.refl _ _).alloc (Nat.le_refl _) _)) w0.heap.size 1 rfl (by simp) base by_ (by simp; have := pb.size; omega) ?_; intro g' cap' w1 d1 d2 d3 d4 d5 d6))
      have gb : ∀ k, k < w0.heap.size → k ≠ gy → w1.heap[k]? = w0.heap[k]? := fun k hk hn => (d6.block k (by simp; omega) (by simp; omega)).trans (heap_alloc_old _ _ hk)
      have lx0 := Ox0.own.lt
      have Ox1 : OwnN w1 gx cx := by obtain ⟨c, e, z⟩ := Ox0; exact ⟨c, (gb gx lx0 hne).trans e, z⟩
      have cX1 : Cells w1 gx 0 X := fun i hi => (World.cell?_of_block (a := ⟨gx, 0 + i, none⟩) (gb gx lx0 hne)).trans (cX0 i hi)
      have S01 : Blk w1 w.heap.size #[.int .u64 x0, .int .u64 y0, .int .u64 x1, .int .u64 y1, .bool t] 169 := (gb _ S0.lt (by omega)).trans S0
      have S11 : Bx w1 (w.heap.size + 1) (.slice none 0 0) := S1.blocks (gb _ S1.lt (by omega))
      have S21 : Bx w1 (w.heap.size + 1 + 1) (.slice none 0 0) := S2.blocks (gb _ S2.lt (by omega))
      have hgx : gx ≠ g' := by
        rintro rfl
        have a1 := cX1 Y.length (by have := EL.out; omega)
        have a2 := d1 Y.length (by simp)
        rw [a1] at a2
        simp only [nth_pad_last, Option.some.injEq, Value.int.injEq, true_and] at a2
        have a3 := nm_top hX nX l1
        rw [EL.out, Nat.add_sub_cancel] at a3
        omega
      have pb1 : Below base w w1 := (pb.alloc (by have := pb.size; omega) _).grown d6 (by simp; have := pb.size; omega) (fun k e => by simp at e; omega)
      go_meet
      case rel => exact ⟨g', cap', Y ++ [0], by rw [EL.out], by simp; exact EL.out.symm, hY.append (Wd.cons (by omega) (by omega) Wd.nil), val_pad Y, d1, d2, by have := EL.out; omega, d3, hgx, d5, cX1, Ox1, S01, S11, S21, pb1⟩
    · have el : Y.length = X.length := by omega
      go_wp2
      go_meet
      case rel => exact ⟨gy, cy, Y, by rw [el], el, hY, rfl, cY0, Oy0, by omega, ky', hne, by_, cX0, Ox0, S0, S1, S2, pb⟩
  case rest =>
    obtain ⟨g, c, V, rfl, vl, vw, vv, cV, Ov, c2, c3, hg, c4, cX2, Ox2, Q0, Q1, Q2, pc⟩ := hcut
    have hV : Hid (val V = val Y) := vv
    have lb : base ≤ w.heap.size := by omega
    have n1 := Q1.ne cV (by omega)
    have n2 := Q2.ne cV (by omega)
    have s0 : wc.cell? ⟨w.heap.size, 0, none⟩ = some (.int .u64 x0) := Q0.at 0
    have s1 : wc.cell? ⟨w.heap.size, 1, none⟩ = some (.int .u64 y0) := Q0.at 1
    have s2 : wc.cell? ⟨w.heap.size, 2, none⟩ = some (.int .u64 x1) := Q0.at 2
    have s3 : wc.cell? ⟨w.heap.size, 3, none⟩ = some (.int .u64 y1) := Q0.at 3
    have s4 : wc.cell? ⟨w.heap.size, 4, none⟩ = some (.bool t) := Q0.at 4
    clear vv
    cases t
    · have HA : Hid (x0 * val X - y0 * val V = A ∧ y1 * val V - x1 * val X = B) := by
        have h1 := HAB.out.1; have h2 := HAB.out.2
        simp only [sg] at h1 h2
        refine ⟨?_, ?_⟩ <;> (rw [hV.out]; simp at h1 h2; omega)
      go_wp2_with fail
      refine (mix_any gx g X.length X.length cx c X V x0 y0 x1 y1 wc rfl rfl vl hX vw p0 q0 p1 q1 (by omega) cX2 cV Ox2.own Ov.own hg).mono ?_
      rintro e w2 ⟨P, R, rfl, lP, lR, wP, wR, eP, eR, cP, cR, hw⟩
      have xl := val_lt hX
      have vP : Hid (val P = A) := by
        obtain ⟨k, ek⟩ := eP
        rw [HA.out.1] at ek
        have h1 := val_lt wP; rw [lP] at h1
        exact mod_uniq ek (val_nonneg wP) h1 (by omega) (by omega)
      have vR : Hid (val R = B) := by
        obtain ⟨k, ek⟩ := eR
        rw [HA.out.2] at ek
        have h1 := val_lt wR; rw [lR] at h1
        exact mod_uniq ek (val_nonneg wR) h1 (by omega) (by omega)
      have HlP : Hid (P.length = X.length) := lP
      have HlR : Hid (R.length = X.length) := lR
      have OA := hw.own _ _ Ox2
      have OB := hw.own _ _ Ov
      have D1 := Q1.wr2 hw (by omega) n1
      have D2 := Q2.wr2 hw (by omega) n2
      have q2 := pc.trans (hw.below bx c4 (by have := pc.size; omega))
      clear eP eR lP lR s0 s1 s2 s3 s4
      go_wp2_with (first
        | (go_at_call_of 123 gx; refine (trim_rd _ _ _ P w2 HlP.out.symm wP (by rw [HlP.out]; exact kx) kx' (fun _ => ⟨_, _, rfl, cP⟩)).mono ?_; rintro e w3 ⟨m1, zs, rfl, -, r1, nz, vz, b1⟩; have VZ : Hid _ := vz; clear vz; have E1 := D1.below b1; have E2 := D2.below b1)
        | (go_at_call_of 123 g; refine (trim_rd _ _ _ R w3 HlR.out.symm wR (by rw [HlR.out]; exact c2) c3 (fun _ => ⟨_, _, rfl, cR.grow b1⟩)).mono ?_; rintro e w4 ⟨m2, rs, rfl, -, r2, nr, vr, b2⟩; have VR : Hid _ := vr; clear vr; have F1 := E1.below b2; have F2 := E2.below b2; have f1 := F1.1; have f1' := F1.2; have f2 := F2.1; have f2' := F2.2)
        | fail)
      have T := two_boxes (.slice (some ⟨gx, 0, none⟩) m1 cx) (.slice (some ⟨g, 0, none⟩) m2 c) F1 F2
      have t1 := T.1
      have t2 := T.2.1
      have q3 := q2.trans (b1.mono (by have := q2.size; omega))
      have q4 := q3.trans (b2.mono (by have := q3.size; omega))
      refine bodyPost_ret (v := .tuple #[.agg #[.slice (some ⟨gx, 0, none⟩) m1 cx], .agg #[.slice (some ⟨g, 0, none⟩) m2 c]]) (by simp [results, Tryz.results156, go_sem, t1, t2]) rfl ⟨gx, g, m1, m2, cx, c, zs, rs, rfl, hg, bx, c4, ((OA.grow b1).grow b2).put.put, ((OB.grow b1).grow b2).put.put, T.2.2.1 _ _ (r1.grow b2), nz, T.2.2.1 _ _ r2, nr, VZ.out.trans vP.out, VR.out.trans vR.out, T.2.2.2 base w (by omega) q4⟩
    · have HA : Hid (y0 * val V - x0 * val X = A ∧ x1 * val X - y1 * val V = B) := by
        have h1 := HAB.out.1; have h2 := HAB.out.2
        simp only [sg] at h1 h2
        refine ⟨?_, ?_⟩ <;> (rw [hV.out]; simp at h1 h2; omega)
      go_wp2_with fail
      refine (mix_any g gx X.length X.length c cx V X y0 x0 y1 x1 wc vl.symm vl.symm vl.symm vw hX q0 p0 q1 p1 (by omega) cV cX2 Ov.own Ox2.own (Ne.symm hg)).mono ?_
      rintro e w2 ⟨P, R, rfl, lP, lR, wP, wR, eP, eR, cP, cR, hw⟩
      rw [vl] at lP lR eP eR
      have xl := val_lt hX
      have vP : Hid (val P = A) := by
        obtain ⟨k, ek⟩ := eP
        rw [HA.out.1] at ek
        have h1 := val_lt wP; rw [lP] at h1
        exact mod_uniq ek (val_nonneg wP) h1 (by omega) (by omega)
      have vR : Hid (val R = B) := by
        obtain ⟨k, ek⟩ := eR
        rw [HA.out.2] at ek
        have h1 := val_lt wR; rw [lR] at h1
        exact mod_uniq ek (val_nonneg wR) h1 (by omega) (by omega)
      have HlP : Hid (P.length = X.length) := lP
      have HlR : Hid (R.length = X.length) := lR
      have OA := hw.own _ _ Ov
      have OB := hw.own _ _ Ox2
      have D1 := Q1.wr2 hw n1 (by omega)
      have D2 := Q2.wr2 hw n2 (by omega)
      have q2 := pc.trans (hw.below c4 bx (by have := pc.size; omega))
      clear eP eR lP lR s0 s1 s2 s3 s4
      go_wp2_with (first
        | (go_at_call_of 123 g; refine (trim_rd _ _ _ P w2 HlP.out.symm wP (by rw [HlP.out]; exact c2) c3 (fun _ => ⟨_, _, rfl, cP⟩)).mono ?_; rintro e w3 ⟨m1, zs, rfl, -, r1, nz, vz, b1⟩; have VZ : Hid _ := vz; clear vz; have E1 := D1.below b1; have E2 := D2.below b1)
        | (go_at_call_of 123 gx; refine (trim_rd _ _ _ R w3 HlR.out.symm wR (by rw [HlR.out]; exact kx) kx' (fun _ => ⟨_, _, rfl, cR.grow b1⟩)).mono ?_; rintro e w4 ⟨m2, rs, rfl, -, r2, nr, vr, b2⟩; have VR : Hid _ := vr; clear vr; have F1 := E1.below b2; have F2 := E2.below b2; have f1 := F1.1; have f1' := F1.2; have f2 := F2.1; have f2' := F2.2)
        | fail)
      have T := two_boxes (.slice (some ⟨g, 0, none⟩) m1 c) (.slice (some ⟨gx, 0, none⟩) m2 cx) F1 F2
      have t1 := T.1
      have t2 := T.2.1
      have q3 := q2.trans (b1.mono (by have := q2.size; omega))
      have q4 := q3.trans (b2.mono (by have := q3.size; omega))
      refine bodyPost_ret (v := .tuple #[.agg #[.slice (some ⟨g, 0, none⟩) m1 c], .agg #[.slice (some ⟨gx, 0, none⟩) m2 cx]]) (by simp [results, Tryz.results156, go_sem, t1, t2]) rfl ⟨g, gx, m1, m2, c, cx, zs, rs, rfl, Ne.symm hg, c4, bx, ((OA.grow b1).grow b2).put.put, ((OB.grow b1).grow b2).put.put, T.2.2.1 _ _ (r1.grow b2), nz, T.2.2.1 _ _ r2, nr, VZ.out.trans vP.out, VR.out.trans vR.out, T.2.2.2 base w (by omega) q4⟩
end Go.Proofs.YtebilgnmnambnaaGreatDoor

namespace Go.Proofs.YtebilgnmnambnaaGreatDoor
open Go.RowKit Tn
theorem Bx.under {B : Nat} {w w' : World} {n : Nat} {v : Value} (h : Bx w n v) (k : Below B w w') (hn : n < B) : Bx w' n v := h.blocks (k.block n hn)
theorem Bx.set {w : World} {n : Nat} {v : Value} (h : Bx w n v) (u : Value) : Bx (w.setCell ⟨n, 0, none⟩ u) n u := by
  have hl := h.lt
  obtain ⟨t, e⟩ := h.3
  have e2 : (w.setCell ⟨n, 0, none⟩ u).heap[n]? = some (.cells #[u] t (0, 0)) := by
    have hl' : w.heap[n] = .cells #[v] t (0, 0) := by rw [Array.getElem?_eq_getElem hl] at e; exact Option.some.inj e
    simp [World.setCell, hl, Array.getElem_modify, hl']
  refine ⟨World.cell?_setCell_same _ _ _ h.1, ?_, t, e2⟩
  have := h.2
  simp only [World.frozen?, e, e2] at this ⊢
  exact this
theorem put2 {W : World} {n : Nat} {a1 a2 : Option Addr} {l1 k1 l2 k2 : Nat} (b0 : Bx W n (.slice a1 l1 k1)) (b1 : Bx W (n + 1) (.slice a2 l2 k2)) (b2 : Bx W (n + 1 + 1) (.slice none 0 0)) (u1 u2 : Value) :
    Bx ((W.setCell ⟨n, 0, none⟩ u1).setCell ⟨n + 1, 0, none⟩ u2) n u1 ∧ Bx ((W.setCell ⟨n, 0, none⟩ u1).setCell ⟨n + 1, 0, none⟩ u2) (n + 1) u2 ∧ Bx ((W.setCell ⟨n, 0, none⟩ u1).setCell ⟨n + 1, 0, none⟩ u2) (n + 1 + 1) (.slice none 0 0) ∧ (∀ v xs, Rd W v xs → Rd ((W.setCell ⟨n, 0, none⟩ u1).setCell ⟨n + 1, 0, none⟩ u2) v xs) ∧ (∀ B w, B ≤ n → Below B w W → Below B w ((W.setCell ⟨n, 0, none⟩ u1).setCell ⟨n + 1, 0, none⟩ u2)) ∧ (∀ g k, OwnN W g k → OwnN ((W.setCell ⟨n, 0, none⟩ u1).setCell ⟨n + 1, 0, none⟩ u2) g k) := by
  have T := two_boxes u1 u2 b0 b1
  have Wa : Wr n 0 1 W (W.setCell ⟨n, 0, none⟩ u1) := (Wr.refl _ _ _ _).setCell 0 (by omega) _
  have Wb : Wr (n + 1) 0 1 (W.setCell ⟨n, 0, none⟩ u1) ((W.setCell ⟨n, 0, none⟩ u1).setCell ⟨n + 1, 0, none⟩ u2) := (Wr.refl _ _ _ _).setCell 0 (by omega) _
  exact ⟨(b0.set u1).wr Wb (by omega), (b1.wr Wa (by omega)).set u2, (b2.wr Wa (by omega)).wr Wb (by omega), T.2.2.1, T.2.2.2, fun g k h => (h.wr Wa).wr Wb⟩
def Two (w : World) (n : Nat) (u v : Value) : Prop := ∃ g1 g2 l1 l2 c1 c2, u = .slice (some ⟨g1, 0, none⟩) l1 c1 ∧ v = .slice (some ⟨g2, 0, none⟩) l2 c2 ∧ g1 ≠ g2 ∧ n + 1 + 1 + 1 ≤ g1 ∧ n + 1 + 1 + 1 ≤ g2 ∧ OwnN w g1 c1 ∧ OwnN w g2 c2
def St (n : Nat) (G : Nat) (L : Nat) (own : Bool) (w wr : World) : Prop := ∃ a1 l1 c1 a2 l2 c2 A B, Bx wr n (.slice a1 l1 c1) ∧ Bx wr (n + 1) (.slice a2 l2 c2) ∧ Bx wr (n + 1 + 1) (.slice none 0 0) ∧ Rd wr (.slice a1 l1 c1) A ∧ Rd wr (.slice a2 l2 c2) B ∧ Nm A ∧ Nm B ∧ val B ≤ val A ∧ Int.gcd (val A) (val B) = G ∧ A.length ≤ L ∧ (own = true → 1 < l2 → Two wr n (.slice a1 l1 c1) (.slice a2 l2 c2)) ∧ Below n w wr
def cellNum (w : World) (p : Addr) : Int := match w.cell? p with | some (.int _ x) => x | _ => 0
def rowNum (w : World) : Value → Nat
  | .slice (some p) l _ => (val ((List.range l).map fun i => cellNum w ⟨p.block, p.off + i, none⟩)).toNat
  | _ => 0
def boxNum (n : Nat) (w : World) : Nat := match w.cell? ⟨n, 0, none⟩ with | some v => rowNum w v | none => 0
theorem rowNum_rd {w : World} {v : Value} {xs : List Int} (h : Rd w v xs) : rowNum w v = (val xs).toNat := by
  obtain ⟨_, a, c, rfl, _, _, g⟩ := h
  by_cases h0 : xs = []
  · subst h0; cases a <;> simp [rowNum, val]
  · obtain ⟨b, o, rfl, hc⟩ := g (List.length_pos_iff.2 h0)
    simp only [rowNum]
    congr 2
    apply List.ext_getElem?
    intro i
    by_cases hi : i < xs.length
    · have := hc i hi
      simp [List.getElem?_map, List.getElem?_range hi, cellNum, this, nth, List.getD_eq_getElem?_getD, List.getElem?_eq_getElem hi]
    · rw [List.getElem?_eq_none (by simp; omega), List.getElem?_eq_none (by omega)]
theorem boxNum_rd {n : Nat} {w : World} {v : Value} {xs : List Int} (b : Bx w n v) (h : Rd w v xs) : boxNum n w = (val xs).toNat := by
  unfold boxNum; rw [b.1]; exact rowNum_rd h
theorem len_mono {A B : List Int} (hA : Wd A) (hB : Wd B) (nB : Nm B) (h : val B ≤ val A) : B.length ≤ A.length := by
  by_cases c : B.length ≤ A.length
  · exact c
  · have := val_lt_of_length hA hB nB (by omega); omega
theorem St.drew {n G L : Nat} {o : Bool} {w wr : World} (h : St n G L o w wr) : St n G L o w wr.drew := by
  obtain ⟨a1, l1, c1, a2, l2, c2, A, B, b0, b1, b2, r1, r2, n1, n2, v, g, l, t, b⟩ := h
  exact ⟨a1, l1, c1, a2, l2, c2, A, B, b0.drew, b1.drew, b2.drew, r1.drew, r2.drew, n1, n2, v, g, l, t, b.drew⟩
theorem gcd_of_div {a b z r : Int} (h : a = z * b + r) : Int.gcd b r = Int.gcd a b := by
  have e : r = a - z * b := by omega
  rw [e]; exact gcd_step a b z
theorem low_word {rs : List Int} (h : Wd rs) (n : Nm rs) (hv : val rs < 18446744073709551616) : nth rs 0 = val rs := by
  match rs, h, n, hv with
  | [], _, _, _ => simp [nth, val]
  | [x], _, _, _ => simp [nth, val]
  | x :: y :: t, h, n, hv =>
    have := val_low h n (by simp)
    have h3 := pw_mono (show 1 ≤ (x :: y :: t).length - 1 by simp)
    have : pw 1 = 18446744073709551616 := rfl
    omega
theorem gcd_word {d y : Int} (d0 : 0 < d) (d1 : d < 18446744073709551616) : (Int.gcd d y : Int) < 18446744073709551616 := by
  have h := Int.gcd_dvd_left (a := d) (b := y)
  have := Int.le_of_dvd d0 h
  omega
theorem gcd_nought {a : Int} (h : 0 ≤ a) : a = (Int.gcd a 0 : Int) := by
  rw [Int.gcd_zero_right]; omega
end Go.Proofs.YtebilgnmnambnaaGreatDoor
