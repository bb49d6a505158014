import Derived.Test.YtidcjdncfmncfaaGreatDoorPart25
import Derived.Laws.AppendOwn

namespace Go.Proofs.YtidcjdncfmncfaaGreatDoor.L
open Go.RowKit Tl

theorem take_zero (n k : Nat) : val ((List.replicate n (0 : Int)).take k) = 0 := by
  rw [List.take_replicate]
  generalize min k n = m
  induction m with
  | zero => rfl
  | succ m ih => rw [List.replicate_succ]; simp [val, ih]
theorem wrap_self (x : Int) (h0 : -9223372036854775808 ≤ x) (h1 : x < 9223372036854775808) : IntKind.i64.wrap x = x := by
  simp [IntKind.wrap, IntKind.bits, IntKind.signed]; omega
theorem shl_step {X xs : List Int} {q k r : Nat} {cy P S : Int} (hX : Wd X) (hk : k + q < X.length) (hP : P = nth xs k * 2 ^ r) (hS : S = cy + P) (b0 : 0 ≤ nth xs k) (b1 : nth xs k < 1073741824) (c0 : 0 ≤ cy) (c1 : cy < 2 ^ r) (hp0 : (0 : Int) < 2 ^ r)
    (hv : val (X.take (q + k)) + pw (q + k) * cy = pw q * 2 ^ r * val (xs.take k)) :
    Wd (X.set (k + q) (S % 1073741824)) ∧ val ((X.set (k + q) (S % 1073741824)).take (q + (k + 1))) + pw (q + (k + 1)) * (S / 1073741824) = pw q * 2 ^ r * val (xs.take (k + 1)) ∧ 0 ≤ S / 1073741824 ∧ S / 1073741824 < 2 ^ r := by
  have P0 : 0 ≤ P := by rw [hP]; exact Int.mul_nonneg b0 (Int.le_of_lt hp0)
  have P1 : P ≤ 1073741823 * 2 ^ r := by rw [hP]; exact Int.mul_le_mul_of_nonneg_right (by omega) (Int.le_of_lt hp0)
  refine ⟨hX.set _ (by omega) (by omega), ?_, by omega, by omega⟩
  rw [show q + (k + 1) = k + q + 1 from by omega, (Part.refl hX (k + q)).val hk, val_more xs k]
  have e : S = S % 1073741824 + 1073741824 * (S / 1073741824) := by omega
  rw [show q + k = k + q from by omega] at hv
  have e2 : pw (k + q) = pw q * pw k := by rw [Nat.add_comm, pw_add]
  simp only [pw]
  generalize S % 1073741824 = a at *
  generalize S / 1073741824 = b at *
  generalize (2 : Int) ^ r = t at *
  rw [e2] at hv ⊢
  grind
theorem shl_end {X xs : List Int} {n q r : Nat} {cy : Int} (hX : Wd X) (hl : X.length = xs.length + q + 1) (c0 : 0 ≤ cy) (c1 : cy < 2 ^ r) (hp : (2 : Int) ^ r ≤ 536870912) (hq : (n : Int) / 30 = q) (hr : (n : Int) % 30 = r)
    (hv : val (X.take (q + xs.length)) + pw (q + xs.length) * cy = pw q * 2 ^ r * val (xs.take xs.length)) :
    Wd (X.set (xs.length + q) cy) ∧ val (X.set (xs.length + q) cy) = val xs * 2 ^ n := by
  refine ⟨hX.set _ c0 (by omega), ?_⟩
  have e := (Part.refl hX (xs.length + q)).val (by omega) cy
  rw [List.take_of_length_le (by simp; omega)] at e
  rw [e, show xs.length + q = q + xs.length from by omega, hv, List.take_length, pw_two, show n = 30 * q + r from by omega, Int.pow_add]
  grind
set_option maxHeartbeats 1600000 in
set_option maxRecDepth 100000 in
/-- (Nat).Shl of the reference. -/
theorem shl_some (a1 : Option Addr) (c1 : Nat) (xs : List Int) (n q r : Nat) (w : World) (hx : Wd xs) (h1 : 0 < xs.length → ∃ b o, a1 = some ⟨b, o, none⟩ ∧ Cells w b o xs) (l1 : xs.length ≤ 549755813888) (ne : 0 < xs.length) (hn : n ≤ 1099511627776) (hq : (n : Int) / 30 = q) (hr : (n : Int) % 30 = r) :
    Calls Tryz.prog 150 #[.slice a1 xs.length c1, .int .i64 n] w fun e w' => ∃ v zs, e = .returned v ∧ Rd w' v zs ∧ Nm zs ∧ val zs = val xs * 2 ^ n ∧ Below w.heap.size w w' := by
  have hs : Hid (∀ w', Below w.heap.size w w' → ∃ b o, a1 = some ⟨b, o, none⟩ ∧ Cells w' b o xs) := fun w' h => by obtain ⟨b, o, e, c⟩ := h1 ne; exact ⟨b, o, e, c.grow h⟩
  clear h1
  have q1 : q ≤ 36650387593 := by omega
  have r1 : r < 30 := by omega
  have hz : ((xs.length : Int) == 0) = false := by rw [beq_eq_false_iff_ne]; omega
  have hp : ((2 : Int) ^ r) ≤ 536870912 := by
    have h : 2 ^ r ≤ 2 ^ 29 := Nat.pow_le_pow_right (by decide) (by omega)
    have e : ((2 ^ r : Nat) : Int) = (2 : Int) ^ r := by simp
    rw [← e]; omega
  have hp0 : (0 : Int) < 2 ^ r := Int.pow_pos (by decide)
  obtain ⟨N, hN⟩ : ∃ N, N = xs.length + q + 1 := ⟨_, rfl⟩
  have HN : Hid (N = xs.length + q + 1) := hN
  have nb : N ≤ 600000000000 := by omega
  clear hN
  go_enter Tryz.func150, Tryz.ntmps150
  go_wp2_with (first
    | (at_make; refine wpList_make_words rfl _ _ rfl N _ _ rfl rfl (by have := HN.out; omega) (by have := HN.out; omega) (by omega) ?_; intro w1 k1 k2 k3 k4)
    | fail)
  go_loopw [6, 7] (fun c i wr => ∃ (k : Nat) (cy : Int) (X : List Int), k ≤ xs.length ∧ c = .int .i64 cy ∧ i = .int .i64 k ∧ 0 ≤ cy ∧ cy < 2 ^ r ∧ X.length = N ∧ Wd X ∧ val (X.take (q + k)) + pw (q + k) * cy = pw q * 2 ^ r * val (xs.take k) ∧ Cells wr w.heap.size 0 X ∧ Wr w.heap.size 0 N w1 wr) (fun _ i _ => xs.length - (intOf i).toNat)
  case atStart => exact ⟨0, 0, List.replicate N 0, Nat.zero_le _, rfl, rfl, by omega, hp0, by simp, wd_zero N, by rw [take_zero]; simp [val], k1, Wr.refl _ _ _ _⟩
  case round =>
    obtain ⟨k, cy, X, hk, rfl, rfl, c0, c1', hl, hX, hv, hc, hwr⟩ := hrel
    have HV : Hid (val (X.take (q + k)) + pw (q + k) * cy = pw q * 2 ^ r * val (xs.take k)) := hv
    clear hv
    have hb := k3.trans (hwr.below (B := w.heap.size) (Nat.le_refl _) (by omega))
    have hN2 : xs.length + q < N := by have := HN.out; omega
    by_cases hlt : k < xs.length
    · have kx := hc.at (i := k + q) (by omega)
      have kf := ((k2.wr hwr).free 0 N) (k + q) (by omega)
      rw [Nat.zero_add] at kx kf
      have bx := nth_bd hx k
      obtain ⟨b1, o1, rfl, q1⟩ := hs.out _ hb
      have d1 := q1.at (i := k) hlt
      obtain ⟨P, hP⟩ : ∃ P, nth xs k * 2 ^ r = P := ⟨_, rfl⟩
      obtain ⟨S, hS⟩ : ∃ S, cy + P = S := ⟨_, rfl⟩
      have pb : 0 ≤ P ∧ P ≤ 576460751766552576 := by
        rw [← hP]
        refine ⟨Int.mul_nonneg bx.1 (Int.le_of_lt hp0), ?_⟩
        have a := Int.mul_le_mul_of_nonneg_left hp bx.1
        omega
      have R : Hid _ := shl_step hX (by omega) hP.symm hS.symm bx.1 bx.2 c0 c1' hp0 HV.out
      have w1' : IntKind.i64.wrap (nth xs k * 2 ^ r) = P := by rw [hP]; exact wrap_self _ (by omega) (by omega)
      have w2' : IntKind.i64.wrap (cy + P) = S := by rw [hS]; exact wrap_self _ (by omega) (by omega)
      have s0 : 0 ≤ S := by omega
      have s1 : S ≤ 576460752303423488 := by omega
      clear hP hS
      go_wp2
      go_roundw
      case rel => exact ⟨k + 1, _, _, by omega, rfl, by go_num, R.out.2.2.1, R.out.2.2.2, by simp [hl], R.out.1, R.out.2.1, by simpa using hc.set (k + q) (by omega) _, by simpa using hwr.setCell (k + q) (by omega) _⟩
      case measure => simp [intOf]; omega
    · have ek : k = xs.length := by omega
      subst ek
      have kx := hc.at (i := xs.length + q) (by omega)
      have kf := ((k2.wr hwr).free 0 N) (xs.length + q) (by omega)
      rw [Nat.zero_add] at kx kf
      have R : Hid _ := shl_end hX (by rw [hl]; exact HN.out) c0 c1' hp hq hr HV.out
      have c2' : cy < 1073741824 := by omega
      clear HV
      go_wp2_with (first
        | (go_at_call 140; refine (norm_rd _ _ _ (X.set (xs.length + q) cy) _ (by simp [hl]) R.out.1 (by simp [hl]) (by omega) (fun _ => ⟨_, _, rfl, by simpa using hc.set (xs.length + q) (by omega) cy⟩)).mono ?_; rintro e w' ⟨n, zs, rfl, hrd, hnm, hvz, rfl⟩; have hvz' : Hid _ := hvz.trans R.out.2; clear hvz)
        | fail)
      go_ret
      exact ⟨_, zs, rfl, hrd, hnm, hvz'.out, k3.trans ((hwr.setCell (xs.length + q) (by omega) _).below (B := w.heap.size) (Nat.le_refl _) (by omega))⟩
set_option maxRecDepth 100000 in
theorem shl_none (a1 : Option Addr) (c1 : Nat) (n : Int) (w : World) :
    Calls Tryz.prog 150 #[.slice a1 0 c1, .int .i64 n] w fun e w' => e = .returned (.slice none 0 0) ∧ w' = w := by
  go_enter Tryz.func150, Tryz.ntmps150
  go_wp2
  go_ret
  exact ⟨rfl, rfl⟩
/-- Nought. -/
theorem rd_nil (w : World) : Rd w (.slice none 0 0) [] := ⟨Wd.nil, none, 0, rfl, by simp, by simp, fun h => by simp at h⟩
theorem Shl_any (v : Value) (xs : List Int) (n : Nat) (w : World) (h : Rd w v xs) (l1 : xs.length ≤ 549755813888) (hn : n ≤ 1099511627776) :
    Calls Tryz.prog 150 #[v, .int .i64 n] w fun e w' => ∃ r zs, e = .returned r ∧ Rd w' r zs ∧ Nm zs ∧ val zs = val xs * 2 ^ n ∧ Below w.heap.size w w' := by
  obtain ⟨hx, a1, c1, rfl, _, _, g1⟩ := h
  by_cases ne : 0 < xs.length
  · exact shl_some a1 c1 xs n (n / 30) (n % 30) w hx g1 l1 ne hn (by simp) (by simp)
  · have e0 : xs = [] := List.eq_nil_of_length_eq_zero (by omega)
    subst e0
    refine (shl_none a1 c1 n w).mono ?_
    rintro e w' ⟨rfl, rfl⟩
    exact ⟨_, [], rfl, rd_nil _, Or.inl rfl, by simp [val], Below.refl _ _⟩
end Go.Proofs.YtidcjdncfmncfaaGreatDoor.L

namespace Go.Proofs.YtidcjdncfmncfaaGreatDoor.L
open Go.RowKit Tl

/-- One limb of a difference. -/
theorem dif_step {X xs ys : List Int} {k : Nat} {c s v c' : Int} (hX : Wd X) (hk : k < X.length) (hs : s = nth xs k - c - nth ys k) (hv' : v = s + 1073741824 * c') (v0 : 0 ≤ v) (v1 : v < 1073741824)
    (hv : val (X.take k) - pw k * c = val (xs.take k) - val (ys.take k)) :
    Wd (X.set k v) ∧ val ((X.set k v).take (k + 1)) - pw (k + 1) * c' = val (xs.take (k + 1)) - val (ys.take (k + 1)) := by
  refine ⟨hX.set k v0 v1, ?_⟩
  rw [(Part.refl hX k).val hk, val_more xs k, val_more ys k]
  simp only [pw]
  grind
theorem dif_end {X xs ys : List Int} {c : Int} (hX : Wd X) (hl : X.length = xs.length) (n2 : ys.length ≤ xs.length) (le : val ys ≤ val xs) (c0 : 0 ≤ c)
    (e : val (X.take xs.length) - pw xs.length * c = val (xs.take xs.length) - val (ys.take xs.length)) : val X = val xs - val ys := by
  rw [List.take_of_length_le (by omega), List.take_of_length_le (by omega), List.take_of_length_le (by omega)] at e
  have b1 := val_lt hX
  rw [hl] at b1
  have hc : c = 0 := by
    by_cases h : c = 0
    · exact h
    · have := Int.mul_le_mul_of_nonneg_left (show 1 ≤ c by omega) (Int.le_of_lt (pw_pos xs.length))
      omega
  rw [hc] at e; omega
set_option maxHeartbeats 1600000 in
set_option maxRecDepth 100000 in
/-- (Nat).Sub of the reference, of what is not above. -/
theorem Sub_any (v1 v2 : Value) (xs ys : List Int) (w : World) (h1 : Rd w v1 xs) (h2 : Rd w v2 ys) (l1 : xs.length ≤ 549755813888) (n2 : ys.length ≤ xs.length) (le : val ys ≤ val xs) :
    Calls Tryz.prog 106 #[v1, v2] w fun e w' => ∃ r zs, e = .returned r ∧ Rd w' r zs ∧ Nm zs ∧ val zs = val xs - val ys ∧ Below w.heap.size w w' := by
  obtain ⟨hx, a1, c1, rfl, _, _, g1⟩ := h1
  obtain ⟨hy, a2, c2, rfl, _, _, g2⟩ := h2
  have hs : Hid (∀ w', Below w.heap.size w w' → 0 < xs.length → ∃ b o, a1 = some ⟨b, o, none⟩ ∧ Cells w' b o xs) := fun w' h l => by obtain ⟨b, o, e, c⟩ := g1 l; exact ⟨b, o, e, c.grow h⟩
  have hs2 : Hid (∀ w', Below w.heap.size w w' → 0 < ys.length → ∃ b o, a2 = some ⟨b, o, none⟩ ∧ Cells w' b o ys) := fun w' h l => by obtain ⟨b, o, e, c⟩ := g2 l; exact ⟨b, o, e, c.grow h⟩
  have LE : Hid (val ys ≤ val xs) := le
  clear g1 g2 le
  go_enter Tryz.func106, Tryz.ntmps106
  go_wp2_with (first
    | (at_make; refine wpList_make_words rfl _ _ rfl xs.length _ _ rfl rfl rfl rfl (by omega) ?_; intro w1 k1 k2 k3 k4)
    | fail)
  go_loopw [6, 7] (fun c i wr => ∃ (k : Nat) (cy : Int) (X : List Int), k ≤ xs.length ∧ c = .int .i64 cy ∧ i = .int .i64 k ∧ 0 ≤ cy ∧ cy ≤ 1 ∧ X.length = xs.length ∧ Wd X ∧ val (X.take k) - pw k * cy = val (xs.take k) - val (ys.take k) ∧ Cells wr w.heap.size 0 X ∧ Wr w.heap.size 0 xs.length w1 wr) (fun _ i _ => xs.length - (intOf i).toNat)
  case atStart => exact ⟨0, 0, List.replicate xs.length 0, Nat.zero_le _, rfl, rfl, by omega, by omega, by simp, wd_zero _, by simp [val, pw], k1, Wr.refl _ _ _ _⟩
  case round =>
    obtain ⟨k, cy, X, hk, rfl, rfl, c0, c1', hl, hX, hv, hc, hwr⟩ := hrel
    have HV : Hid (val (X.take k) - pw k * cy = val (xs.take k) - val (ys.take k)) := hv
    clear hv
    have hb := k3.trans (hwr.below (B := w.heap.size) (Nat.le_refl _) (by omega))
    by_cases hlt : k < xs.length
    · have kx := hc.at (i := k) (by omega)
      have kf := ((k2.wr hwr).free 0 xs.length) k hlt
      rw [Nat.zero_add] at kx kf
      have bx := nth_bd hx k
      have byy := nth_bd hy k
      obtain ⟨b1, o1, rfl, q1⟩ := hs.out _ hb (by omega)
      have d1 := q1.at (i := k) hlt
      by_cases e2 : k < ys.length
      · by_cases ng : nth xs k - cy - nth ys k < 0
        · skip
          obtain ⟨b2, o2, rfl, q2⟩ := hs2.out _ hb (by omega)
          have d2 := q2.at (i := k) e2
          have R : Hid _ := dif_step (s := nth xs k - cy - nth ys k) (v := nth xs k - cy - nth ys k + 1073741824) (c' := 1) hX (by omega) (by omega) (by omega) (by omega) (by omega) HV.out
          go_wp2
          go_roundw
          case rel => exact ⟨k + 1, 1, _, by omega, rfl, by go_num, by omega, by omega, by simp [hl], R.out.1, R.out.2, by simpa using hc.set k (by omega) _, by simpa using hwr.setCell k (by omega) _⟩
          case measure => simp [intOf]; omega
        · skip
          obtain ⟨b2, o2, rfl, q2⟩ := hs2.out _ hb (by omega)
          have d2 := q2.at (i := k) e2
          have R : Hid _ := dif_step (s := nth xs k - cy - nth ys k) (v := nth xs k - cy - nth ys k) (c' := 0) hX (by omega) (by omega) (by omega) (by omega) (by omega) HV.out
          go_wp2
          go_roundw
          case rel => exact ⟨k + 1, 0, _, by omega, rfl, by go_num, by omega, by omega, by simp [hl], R.out.1, R.out.2, by simpa using hc.set k (by omega) _, by simpa using hwr.setCell k (by omega) _⟩
          case measure => simp [intOf]; omega
      · by_cases ng : nth xs k - cy < 0
        · skip
          have z2 : nth ys k = 0 := nth_out ys k e2
          have R : Hid _ := dif_step (s := nth xs k - cy) (v := nth xs k - cy + 1073741824) (c' := 1) hX (by omega) (by omega) (by omega) (by omega) (by omega) HV.out
          clear z2
          go_wp2
          go_roundw
          case rel => exact ⟨k + 1, 1, _, by omega, rfl, by go_num, by omega, by omega, by simp [hl], R.out.1, R.out.2, by simpa using hc.set k (by omega) _, by simpa using hwr.setCell k (by omega) _⟩
          case measure => simp [intOf]; omega
        · skip
          have z2 : nth ys k = 0 := nth_out ys k e2
          have R : Hid _ := dif_step (s := nth xs k - cy) (v := nth xs k - cy) (c' := 0) hX (by omega) (by omega) (by omega) (by omega) (by omega) HV.out
          clear z2
          go_wp2
          go_roundw
          case rel => exact ⟨k + 1, 0, _, by omega, rfl, by go_num, by omega, by omega, by simp [hl], R.out.1, R.out.2, by simpa using hc.set k (by omega) _, by simpa using hwr.setCell k (by omega) _⟩
          case measure => simp [intOf]; omega
    · have ek : k = xs.length := by omega
      subst ek
      have Rv : Hid (val X = val xs - val ys) := dif_end hX hl n2 LE.out c0 HV.out
      clear HV
      go_wp2_with fail
      refine (norm_rd _ _ _ X wr hl.symm hX (by omega) (by omega) (fun _ => ⟨_, _, rfl, hc⟩)).mono ?_
      rintro e w' ⟨n, zs, rfl, hrd, hnm, hvz, rfl⟩
      have hvz' : Hid (val zs = val xs - val ys) := hvz.trans Rv.out
      clear hvz
      go_wp2
      go_ret
      exact ⟨_, zs, rfl, hrd, hnm, hvz'.out, hb⟩
end Go.Proofs.YtidcjdncfmncfaaGreatDoor.L

namespace Go.Proofs.YtidcjdncfmncfaaGreatDoor.L
open Go.RowKit Tl

/-- One limb of a division by one. -/
theorem quo_step {X xs : List Int} {j : Nat} {r d s : Int} (hX : Wd X) (hj : j < X.length) (hx : j < xs.length) (d1 : 0 < d) (r0 : 0 ≤ r) (r1 : r < d) (b0 : 0 ≤ nth xs j) (b1 : nth xs j < 1073741824) (hs : s = r * 1073741824 + nth xs j)
    (hv : val (X.drop (j + 1)) * d + r = val (xs.drop (j + 1))) :
    Wd (X.set j (s / d)) ∧ val ((X.set j (s / d)).drop j) * d + s % d = val (xs.drop j) ∧ 0 ≤ s % d ∧ s % d < d := by
  have s0 : 0 ≤ s := by omega
  have e := Int.mul_ediv_add_emod s d
  have m0 := Int.emod_nonneg s (show d ≠ 0 by omega)
  have m1 := Int.emod_lt_of_pos s d1
  have q0 : 0 ≤ s / d := Int.ediv_nonneg s0 (by omega)
  have q1 : s / d < 1073741824 := by
    apply Int.ediv_lt_of_lt_mul d1
    have := Int.mul_le_mul_of_nonneg_right (show r + 1 ≤ d by omega) (show (0 : Int) ≤ 1073741824 by decide)
    rw [Int.mul_comm 1073741824 d]; omega
  refine ⟨hX.set j q0 q1, ?_, m0, m1⟩
  have eX : (X.set j (s / d)).drop j = s / d :: X.drop (j + 1) := by
    rw [drop_getD _ j (by simpa using hj), List.drop_set_of_lt (by omega)]
    congr 1
    exact nth_set_same X j _ hj
  rw [eX, drop_getD xs j hx]
  simp only [val]
  have hb : nth xs j = xs.getD j 0 := rfl
  rw [← hb]
  generalize s / d = a at *
  generalize s % d = b at *
  generalize val (X.drop (j + 1)) = u at *
  generalize val (xs.drop (j + 1)) = z at *
  grind
set_option maxHeartbeats 1600000 in
set_option maxRecDepth 100000 in
/-- (Nat).small of the reference: by one limb; the answer lies in a row of its own. -/
theorem small_new (v1 : Value) (xs : List Int) (d : Int) (w : World) (h1 : Rd w v1 xs) (l1 : xs.length ≤ 549755813888) (d1 : 0 < d) (d2 : d < 1073741824) :
    Calls Tryz.prog 141 #[v1, .int .i64 d] w fun e w' => ∃ n zs m, e = .returned (.tuple #[.slice (some ⟨w.heap.size, 0, none⟩) n xs.length, .int .i64 m]) ∧ Rd w' (.slice (some ⟨w.heap.size, 0, none⟩) n xs.length) zs ∧ Nm zs ∧ val zs * d + m = val xs ∧ 0 ≤ m ∧ m < d ∧ Below w.heap.size w w' := by
  obtain ⟨hx, a1, c1, rfl, _, _, g1⟩ := h1
  have hs : Hid (∀ w', Below w.heap.size w w' → 0 < xs.length → ∃ b o, a1 = some ⟨b, o, none⟩ ∧ Cells w' b o xs) := fun w' h l => by obtain ⟨b, o, e, c⟩ := g1 l; exact ⟨b, o, e, c.grow h⟩
  clear g1
  go_enter Tryz.func141, Tryz.ntmps141
  go_wp2_with (first
    | (at_make; refine wpList_make_words rfl _ _ rfl xs.length _ _ rfl rfl rfl rfl (by omega) ?_; intro w1 k1 k2 k3 k4)
    | fail)
  go_loopw [7, 8] (fun c i wr => ∃ (j : Nat) (r : Int) (X : List Int), j ≤ xs.length ∧ c = .int .i64 r ∧ i = .int .i64 ((j : Int) - 1) ∧ 0 ≤ r ∧ r < d ∧ X.length = xs.length ∧ Wd X ∧ val (X.drop j) * d + r = val (xs.drop j) ∧ Cells wr w.heap.size 0 X ∧ Wr w.heap.size 0 xs.length w1 wr) (fun _ i _ => (intOf i + 1).toNat)
  case atStart => exact ⟨xs.length, 0, List.replicate xs.length 0, Nat.le_refl _, rfl, by go_num, by omega, d1, by simp, wd_zero _, by simp [val], k1, Wr.refl _ _ _ _⟩
  case round =>
    obtain ⟨j, r, X, hj, rfl, rfl, r0, r1, hl, hX, hv, hc, hwr⟩ := hrel
    have HV : Hid (val (X.drop j) * d + r = val (xs.drop j)) := hv
    clear hv
    have hb := k3.trans (hwr.below (B := w.heap.size) (Nat.le_refl _) (by omega))
    by_cases hlt : 0 < j
    · obtain ⟨i, rfl⟩ : ∃ i, j = i + 1 := ⟨j - 1, by omega⟩
      have kx := hc.at (i := i) (by omega)
      have kf := ((k2.wr hwr).free 0 xs.length) i (by omega)
      rw [Nat.zero_add] at kx kf
      have bx := nth_bd hx i
      obtain ⟨b1, o1, rfl, q1⟩ := hs.out _ hb (by omega)
      have e1 := q1.at (i := i) (by omega)
      obtain ⟨S, hS⟩ : ∃ S, r * 1073741824 + nth xs i = S := ⟨_, rfl⟩
      have R : Hid _ := quo_step hX (by omega) (by omega) d1 r0 r1 bx.1 bx.2 hS.symm HV.out
      have p1 : IntKind.i64.wrap (r * 1073741824) = r * 1073741824 := wrap_self _ (by omega) (by omega)
      have p2 : IntKind.i64.wrap (r * 1073741824 + nth xs i) = S := by rw [hS]; exact wrap_self _ (by omega) (by omega)
      have s0 : 0 ≤ S := by omega
      have s1 : S ≤ 1152921504606846976 := by omega
      have t1 : ((i : Int) + 1 - 1) = i := by omega
      have u1 : S.tdiv d = S / d := Int.tdiv_eq_ediv_of_nonneg s0
      have u2 : S.tmod d = S % d := Int.tmod_eq_emod_of_nonneg s0
      have u3 : IntKind.i64.wrap (S / d) = S / d := wrap_self _ (by have := Int.ediv_nonneg s0 (Int.le_of_lt d1); omega) (by have := Int.ediv_le_self d s0; omega)
      have nz : (d == 0) = false := by rw [beq_eq_false_iff_ne]; omega
      have nz2 : ¬ d = 0 := by omega
      clear hS
      go_wp2
      go_roundw
      case rel => exact ⟨i, _, _, by omega, rfl, by go_num, R.out.2.2.1, R.out.2.2.2, by simp [hl], R.out.1, R.out.2.1, by simpa using hc.set i (by omega) _, by simpa using hwr.setCell i (by omega) _⟩
      case measure => simp [intOf]
    · have ek : j = 0 := by omega
      subst ek
      have Rv : Hid (val X * d + r = val xs) := by have := HV.out; rw [List.drop_zero, List.drop_zero] at this; exact this
      clear HV
      go_wp2_with fail
      refine (norm_rd _ _ _ X wr hl.symm hX (by omega) (by omega) (fun _ => ⟨_, _, rfl, hc⟩)).mono ?_
      rintro e w' ⟨n, zs, rfl, hrd, hnm, hvz, rfl⟩
      have hvz' : Hid (val zs * d + r = val xs) := by have := Rv.out; rw [← hvz] at this; exact this
      clear hvz
      go_wp2
      exact bodyPost_ret (v := .tuple #[.slice (some ⟨w.heap.size, 0, none⟩) n xs.length, .int .i64 r]) (by simp [results, Tryz.results141, go_sem]) rfl ⟨_, zs, r, rfl, hrd, hnm, hvz'.out, r0, r1, hb⟩
theorem small_any (v1 : Value) (xs : List Int) (d : Int) (w : World) (h1 : Rd w v1 xs) (l1 : xs.length ≤ 549755813888) (d1 : 0 < d) (d2 : d < 1073741824) :
    Calls Tryz.prog 141 #[v1, .int .i64 d] w fun e w' => ∃ r zs m, e = .returned (.tuple #[r, .int .i64 m]) ∧ Rd w' r zs ∧ Nm zs ∧ val zs * d + m = val xs ∧ 0 ≤ m ∧ m < d ∧ Below w.heap.size w w' := by
  refine (small_new v1 xs d w h1 l1 d1 d2).mono ?_
  rintro e w' ⟨n, zs, m, he, hr⟩
  exact ⟨_, zs, m, he, hr⟩
end Go.Proofs.YtidcjdncfmncfaaGreatDoor.L

namespace Go.Proofs.YtidcjdncfmncfaaGreatDoor.L
open Go.RowKit Tl

theorem val_mod2 (xs : List Int) : val xs % 2 = nth xs 0 % 2 := by
  cases xs with
  | nil => rfl
  | cons x xs =>
    show (x + 1073741824 * val xs) % 2 = x % 2
    omega
set_option maxRecDepth 100000 in
/-- (Nat).Even of the reference. -/
theorem Even_any (v : Value) (xs : List Int) (w : World) (h : Rd w v xs) :
    Calls Tryz.prog 73 #[v] w fun e w' => e = .returned (.bool (decide (val xs % 2 = 0))) ∧ w' = w := by
  obtain ⟨hx, a, c, rfl, _, _, g⟩ := h
  have m := val_mod2 xs
  by_cases h0 : xs.length = 0
  · have hz : ((xs.length : Int) == 0) = true := by rw [beq_iff_eq]; omega
    have r : nth xs 0 = 0 := nth_out xs 0 (by omega)
    have R : Hid (decide (val xs % 2 = 0) = true) := by show _ = _; rw [decide_eq_true_eq, m, r]; rfl
    clear g m
    go_enter Tryz.func73, Tryz.ntmps73
    go_wp2
    go_ret
    exact ⟨by rw [R.out]; rfl, rfl⟩
  · have hz : ((xs.length : Int) == 0) = false := by rw [beq_eq_false_iff_ne]; omega
    obtain ⟨b, o, rfl, q⟩ := g (by omega)
    have d1 := q.at (i := 0) (by omega)
    have bx := nth_bd hx 0
    rw [Nat.add_zero] at d1
    have t1 : (nth xs 0).tmod 2 = nth xs 0 % 2 := Int.tmod_eq_emod_of_nonneg bx.1
    have R : Hid (decide (val xs % 2 = 0) = (nth xs 0 % 2 == 0)) := by show _ = _; rw [m, Bool.eq_iff_iff, decide_eq_true_iff, beq_iff_eq]
    have l1 : 0 < xs.length := by omega
    clear g m
    go_enter Tryz.func73, Tryz.ntmps73
    go_wp2
    go_ret
    exact ⟨by rw [R.out]; rfl, rfl⟩
end Go.Proofs.YtidcjdncfmncfaaGreatDoor.L

namespace Go.Proofs.YtidcjdncfmncfaaGreatDoor.L
open Go.RowKit Tl

/-- append(l, y), l nil or a row of the call's own. -/
theorem wpList_push {w : World} {ops : Array Oper} {rest : List Oper} {o : Oper} {a : Act} {Q : Exit → Act → World → Prop} (hgd : o.guard = none) (s x : Operand)
    (ho : o.op = .call { callee := .builtin .append, args := #[s, x], argTypes := #[55, 55] })
    (v : Value) (Y : List Int) (hs : a.eval s = v) (base : Nat) (hown : w.ownsRow base 3 1 v Y.length (Y.map (Value.int .i64))) (hL : Y.length ≤ 1099511627776)
    (ad c : Nat) (y : Int) (hx : a.eval x = .slice (some ⟨ad, 0, none⟩) 1 c) (hn : w.cell? ⟨ad, 0, none⟩ = some (.int .i64 y)) (hbase : base ≤ w.heap.size)
    (h : ∀ v' w', w'.ownsRow base 3 1 v' (Y ++ [y]).length ((Y ++ [y]).map (Value.int .i64)) → Below base w w' → wpList Tryz.prog ops Q rest (a.put o.dst v') w') : wpList Tryz.prog ops Q (o :: rest) a w := by
  obtain ⟨i, hi, hz0, hz1, hz2⟩ := info_parts Tryz.infoU
  refine wpList_append_own w hgd s x 55 ho base 3 i (.int .i64 0) 1 8 Tryz.underlying55 hi hz0 hz1 hz2 rfl (by decide) v Y.length _ hs hown ⟨ad, 0, none⟩ 1 c [.int .i64 y] hx rfl ?_ (by intro u hu; simp at hu; subst hu; rfl) (by unfold maxLen; omega) (by omega) hbase ?_
  · intro j u hj
    match j, hj with
    | 0, hj => simp at hj; subst hj; simpa [Addr.add] using hn
  · intro v' w' hown' hgr _
    refine h v' w' (by simpa using hown') ⟨hgr.os, hgr.tape, hgr.output, hgr.size, fun k hk => hgr.block k (by omega) ?_⟩
    obtain ⟨_, hr⟩ := hown
    rcases hr with ⟨rfl, _⟩ | ⟨g, cap, cur, rfl, hb, _⟩
    · simp [Value.ownBlock]
    · simp [Value.ownBlock]; omega
end Go.Proofs.YtidcjdncfmncfaaGreatDoor.L

namespace Go.Proofs.YtidcjdncfmncfaaGreatDoor.L
open Go.RowKit Tl

theorem own_grow {w w' : World} {base n : Nat} {e : TypeId} {v : Value} {xs : List Value} (h : w.ownsRow base e 1 v n xs) (k : Below w.heap.size w w') : w'.ownsRow base e 1 v n xs := by
  obtain ⟨h1, h2⟩ := h
  refine ⟨h1, ?_⟩
  rcases h2 with h2 | ⟨g, cap, cur, e1, e2, e3, e4⟩
  · exact Or.inl h2
  · exact Or.inr ⟨g, cap, cur, e1, e2, (k.block g (Own.lt ⟨cur, _, e3⟩)).trans e3, e4⟩
theorem own_rd {w : World} {base : Nat} {e : TypeId} {v : Value} {Y : List Int} (hY : Wd Y) (h : w.ownsRow base e 1 v Y.length (Y.map (Value.int .i64))) : Rd w v Y := by
  obtain ⟨_, h2⟩ := h
  rcases h2 with ⟨rfl, h2⟩ | ⟨g, cap, cur, rfl, _, e3, e4, e5, e6, e7⟩
  · have : Y = [] := List.eq_nil_of_length_eq_zero h2
    subst this
    exact rd_nil w
  · refine ⟨hY, _, _, rfl, e4, e5, fun _ => ⟨g, 0, rfl, ?_⟩⟩
    intro i hi
    rw [Nat.mul_one] at e7
    have h7 := congrArg (fun l : List Value => l[i]?) e7
    simp only [List.getElem?_take, hi, if_true, List.getElem?_map] at h7
    simp only [World.cell?, e3, Nat.zero_add, Option.isSome_none, Bool.false_eq_true, if_false]
    rw [Array.getElem?_toList] at h7
    rw [h7]
    simp [nth, List.getD_eq_getElem?_getD, List.getElem?_eq_getElem hi]
theorem of_step {Y : List Int} {m N : Int} (hY : Wd Y) (m0 : 0 < m) (hv : val Y + pw Y.length * m = N) :
    Wd (Y ++ [m % 1073741824]) ∧ val (Y ++ [m % 1073741824]) + pw (Y ++ [m % 1073741824]).length * (m / 1073741824) = N ∧ (m / 1073741824 ≠ 0 ∨ Nm (Y ++ [m % 1073741824])) := by
  refine ⟨hY.append (Wd.cons (by omega) (by omega) Wd.nil), ?_, ?_⟩
  · rw [val_append, List.length_append]
    simp only [List.length_singleton, pw, val]
    have e : m = m % 1073741824 + 1073741824 * (m / 1073741824) := by omega
    generalize m % 1073741824 = a at *
    generalize m / 1073741824 = b at *
    grind
  · by_cases h : m / 1073741824 = 0
    · right
      refine Or.inr ?_
      simp
      omega
    · exact Or.inl h
theorem of_len {Y : List Int} {m N : Int} (hY : Wd Y) (m0 : 0 < m) (hN : N < 18446744073709551616) (hv : val Y + pw Y.length * m = N) : Y.length ≤ 2 := by
  have v0 := val_nonneg hY
  by_cases h : Y.length ≤ 2
  · exact h
  · have p := pw_mono (show 3 ≤ Y.length by omega)
    have e : pw 3 = 1237940039285380274899124224 := by decide
    have q := Int.mul_le_mul_of_nonneg_left (show 1 ≤ m by omega) (Int.le_of_lt (pw_pos Y.length))
    omega
set_option maxHeartbeats 1600000 in
set_option maxRecDepth 100000 in
/-- NatOf of the reference. -/
theorem NatOf_any (N : Int) (w : World) (n0 : 0 ≤ N) (n1 : N < 9223372036854775808) :
    Calls Tryz.prog 94 #[.int .i64 N] w fun e w' => ∃ r zs, e = .returned r ∧ Rd w' r zs ∧ Nm zs ∧ val zs = N ∧ Below w.heap.size w w' := by
  go_enter Tryz.func94, Tryz.ntmps94
  go_wp2_with fail
  go_loopw [0, 3] (fun n l wr => ∃ (m : Int) (Y : List Int), n = .int .i64 m ∧ 0 ≤ m ∧ m ≤ N ∧ wr.ownsRow w.heap.size 3 1 l Y.length (Y.map (Value.int .i64)) ∧ Wd Y ∧ val Y + pw Y.length * m = N ∧ (m ≠ 0 ∨ Nm Y) ∧ Below w.heap.size w wr) (fun n _ _ => (intOf n).toNat)
  case atStart => exact ⟨N, [], rfl, n0, Int.le_refl _, ⟨by simp, Or.inl ⟨rfl, rfl⟩⟩, Wd.nil, by simp [val, pw], Or.inr (Or.inl rfl), Below.refl _ _⟩
  case round =>
    obtain ⟨m, Y, rfl, m0, m1, hown, hY, hv, hn, hb⟩ := hrel
    have HV : Hid (val Y + pw Y.length * m = N) := hv
    have HN : Hid (m ≠ 0 ∨ Nm Y) := hn
    clear hv hn
    by_cases hm : 0 < m
    · have R : Hid _ := of_step hY hm HV.out
      have L := of_len hY hm (by omega) HV.out
      have hsz := hb.size
      have u1 : m.tmod 1073741824 = m % 1073741824 := Int.tmod_eq_emod_of_nonneg m0
      have u2 : m.tdiv 1073741824 = m / 1073741824 := Int.tdiv_eq_ediv_of_nonneg m0
      go_wp2_with (first
        | (at_builtin; (refine wpList_push rfl _ _ rfl _ Y rfl w.heap.size (own_grow hown ((Below.refl _ _).alloc (Nat.le_refl _) _)) (by omega) _ _ (m % 1073741824) rfl (by simp) (by simp; omega) ?_; intro l' w2 hown2 hb2; have hb3 := (hb.alloc (Nat.le_trans (Nat.le_refl _) hsz) _).trans hb2))
        | fail)
      go_roundw
      case rel => exact ⟨m / 1073741824, _, rfl, by omega, by omega, hown2, R.out.1, R.out.2.1, R.out.2.2, hb3⟩
      case measure => simp [intOf]; omega
    · have e0 : m = 0 := by omega
      have Rv : Hid (val Y = N ∧ Nm Y) := by
        have h1 := HV.out
        rw [e0, Int.mul_zero, Int.add_zero] at h1
        exact ⟨h1, HN.out.resolve_left (by omega)⟩
      have hrd : Hid (Rd wr u3 Y) := own_rd hY hown
      clear e0 HV HN
      go_wp2
      go_ret
      exact ⟨_, rfl, Y, hrd.out, Rv.out.2, Rv.out.1, hb⟩
set_option maxHeartbeats 1600000 in
set_option maxRecDepth 100000 in
/-- NatOf64 of the reference. -/
theorem NatOf64_any (N : Int) (w : World) (n0 : 0 ≤ N) (n1 : N < 18446744073709551616) :
    Calls Tryz.prog 93 #[.int .u64 N] w fun e w' => ∃ r zs, e = .returned r ∧ Rd w' r zs ∧ Nm zs ∧ val zs = N ∧ Below w.heap.size w w' := by
  go_enter Tryz.func93, Tryz.ntmps93
  go_wp2_with fail
  go_loopw [0, 3] (fun n l wr => ∃ (m : Int) (Y : List Int), n = .int .u64 m ∧ 0 ≤ m ∧ m ≤ N ∧ wr.ownsRow w.heap.size 3 1 l Y.length (Y.map (Value.int .i64)) ∧ Wd Y ∧ val Y + pw Y.length * m = N ∧ (m ≠ 0 ∨ Nm Y) ∧ Below w.heap.size w wr) (fun n _ _ => (intOf n).toNat)
  case atStart => exact ⟨N, [], rfl, n0, Int.le_refl _, ⟨by simp, Or.inl ⟨rfl, rfl⟩⟩, Wd.nil, by simp [val, pw], Or.inr (Or.inl rfl), Below.refl _ _⟩
  case round =>
    obtain ⟨m, Y, rfl, m0, m1, hown, hY, hv, hn, hb⟩ := hrel
    have HV : Hid (val Y + pw Y.length * m = N) := hv
    have HN : Hid (m ≠ 0 ∨ Nm Y) := hn
    clear hv hn
    by_cases hm : 0 < m
    · have R : Hid _ := of_step hY hm HV.out
      have L := of_len hY hm (by omega) HV.out
      have hsz := hb.size
      have u1 : m.tmod 1073741824 = m % 1073741824 := Int.tmod_eq_emod_of_nonneg m0
      have u2 : m.tdiv 1073741824 = m / 1073741824 := Int.tdiv_eq_ediv_of_nonneg m0
      have u3 : IntKind.i64.wrap (m % 1073741824) = m % 1073741824 := wrap_self _ (by omega) (by omega)
      go_wp2_with (first
        | (at_builtin; (refine wpList_push rfl _ _ rfl _ Y rfl w.heap.size (own_grow hown ((Below.refl _ _).alloc (Nat.le_refl _) _)) (by omega) _ _ (m % 1073741824) rfl (by simp) (by simp; omega) ?_; intro l' w2 hown2 hb2; have hb3 := (hb.alloc (Nat.le_trans (Nat.le_refl _) hsz) _).trans hb2))
        | fail)
      go_roundw
      case rel => exact ⟨m / 1073741824, _, rfl, by omega, by omega, hown2, R.out.1, R.out.2.1, R.out.2.2, hb3⟩
      case measure => simp [intOf]; omega
    · have e0 : m = 0 := by omega
      have Rv : Hid (val Y = N ∧ Nm Y) := by
        have h1 := HV.out
        rw [e0, Int.mul_zero, Int.add_zero] at h1
        exact ⟨h1, HN.out.resolve_left (by omega)⟩
      have hrd : Hid (Rd wr u3 Y) := own_rd hY hown
      clear e0 HV HN
      go_wp2
      go_ret
      exact ⟨_, rfl, Y, hrd.out, Rv.out.2, Rv.out.1, hb⟩
end Go.Proofs.YtidcjdncfmncfaaGreatDoor.L
