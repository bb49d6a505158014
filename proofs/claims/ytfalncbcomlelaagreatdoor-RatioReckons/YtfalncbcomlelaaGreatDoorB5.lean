import Derived.Test.YtfalncbcomlelaaGreatDoorB4
namespace Go.Proofs.YtfalncbcomlelaaGreatDoor.L
open Go.RowKit Tl

theorem take_zero (n k : Nat) : val ((List.replicate n (0 : Int)).take k) = 0 := by
  rw [List.take_replicate]
  generalize min k n = m
  induction m with
  | zero => rfl
  | succ m ih => rw [List.replicate_succ]; simp [val, ih]
theorem shl_step {X xs : List Int} {q k r : Nat} {cy P S : Int} (hX : Wd X) (hk : k + q < X.length) (hP : P = nth xs k * 2 ^ r) (hS : S = cy + P) (b0 : 0 ≤ nth xs k) (b1 : nth xs k < 1073741824) (c0 : 0 ≤ cy) (c1 : cy < 2 ^ r) (hp0 : (0 : Int) < 2 ^ r)
    (hv : val (X.take (q + k)) + pw (q + k) * cy = pw q * 2 ^ r * val (xs.take k)) :
    Wd (X.set (k + q) (S % 1073741824)) ∧ val ((X.set (k + q) (S % 1073741824)).take (q + (k + 1))) + pw (q + (k + 1)) * (S / 1073741824) = pw q * 2 ^ r * val (xs.take (k + 1)) ∧ 0 ≤ S / 1073741824 ∧ S / 1073741824 < 2 ^ r := by
  have P0 : 0 ≤ P := by rw [hP]; exact Int.mul_nonneg b0 (Int.le_of_lt hp0)
  have P1 : P ≤ 1073741823 * 2 ^ r := by rw [hP]; exact Int.mul_le_mul_of_nonneg_right (by omega) (Int.le_of_lt hp0)
  refine ⟨hX.set _ (by omega) (by omega), ?_, by omega, by omega⟩
  rw [show q + (k + 1) = k + q + 1 from by omega, (Part.refl hX (k + q)).val hk, val_more xs k]
  have e : S = S % 1073741824 + 1073741824 * (S / 1073741824) := by omega
  rw [show q + k = k + q from by omega] at hv
  have e2 : pw (k + q) = pw q * pw k := by rw [Nat.add_comm, pw_add]
  simp only [pw]
  generalize S % 1073741824 = a at *
  generalize S / 1073741824 = b at *
  generalize (2 : Int) ^ r = t at *
  rw [e2] at hv ⊢
  grind
theorem shl_end {X xs : List Int} {n q r : Nat} {cy : Int} (hX : Wd X) (hl : X.length = xs.length + q + 1) (c0 : 0 ≤ cy) (c1 : cy < 2 ^ r) (hp : (2 : Int) ^ r ≤ 536870912) (hq : (n : Int) / 30 = q) (hr : (n : Int) % 30 = r)
    (hv : val (X.take (q + xs.length)) + pw (q + xs.length) * cy = pw q * 2 ^ r * val (xs.take xs.length)) :
    Wd (X.set (xs.length + q) cy) ∧ val (X.set (xs.length + q) cy) = val xs * 2 ^ n := by
  refine ⟨hX.set _ c0 (by omega), ?_⟩
  have e := (Part.refl hX (xs.length + q)).val (by omega) cy
  rw [List.take_of_length_le (by simp; omega)] at e
  rw [e, show xs.length + q = q + xs.length from by omega, hv, List.take_length, pw_two, show n = 30 * q + r from by omega, Int.pow_add]
  grind
set_option maxHeartbeats 1600000 in
set_option maxRecDepth 100000 in
/-- (Nat).Shl of the reference. -/
theorem shl_some (a1 : Option Addr) (c1 : Nat) (xs : List Int) (n q r : Nat) (w : World) (hx : Wd xs) (h1 : 0 < xs.length → ∃ b o, a1 = some ⟨b, o, none⟩ ∧ Cells w b o xs) (l1 : xs.length ≤ 549755813888) (ne : 0 < xs.length) (hn : n ≤ 1099511627776) (hq : (n : Int) / 30 = q) (hr : (n : Int) % 30 = r) :
    Calls Tryz.prog 108 #[.slice a1 xs.length c1, .int .i64 n] w fun e w' => ∃ v zs, e = .returned v ∧ Rd w' v zs ∧ Nm zs ∧ val zs = val xs * 2 ^ n ∧ Below w.heap.size w w' := by
  have hs : Hid (∀ w', Below w.heap.size w w' → ∃ b o, a1 = some ⟨b, o, none⟩ ∧ Cells w' b o xs) := fun w' h => by obtain ⟨b, o, e, c⟩ := h1 ne; exact ⟨b, o, e, c.grow h⟩
  clear h1
  have q1 : q ≤ 36650387593 := by omega
  have r1 : r < 30 := by omega
  have hz : ((xs.length : Int) == 0) = false := by rw [beq_eq_false_iff_ne]; omega
  have hp : ((2 : Int) ^ r) ≤ 536870912 := by
    have h : 2 ^ r ≤ 2 ^ 29 := Nat.pow_le_pow_right (by decide) (by omega)
    have e : ((2 ^ r : Nat) : Int) = (2 : Int) ^ r := by simp
    rw [← e]; omega
  have hp0 : (0 : Int) < 2 ^ r := Int.pow_pos (by decide)
  obtain ⟨N, hN⟩ : ∃ N, N = xs.length + q + 1 := ⟨_, rfl⟩
  have HN : Hid (N = xs.length + q + 1) := hN
  have nb : N ≤ 600000000000 := by omega
  clear hN
  go_enter Tryz.func108, Tryz.ntmps108
  go_wp2_with (first
    | (at_make; refine wpList_make_words rfl _ _ rfl N _ _ rfl rfl (by have := HN.out; omega) (by have := HN.out; omega) (by omega) ?_; intro w1 k1 k2 k3 k4)
    | fail)
  go_loopw [6, 7] (fun c i wr => ∃ (k : Nat) (cy : Int) (X : List Int), k ≤ xs.length ∧ c = .int .i64 cy ∧ i = .int .i64 k ∧ 0 ≤ cy ∧ cy < 2 ^ r ∧ X.length = N ∧ Wd X ∧ val (X.take (q + k)) + pw (q + k) * cy = pw q * 2 ^ r * val (xs.take k) ∧ Cells wr w.heap.size 0 X ∧ Wr w.heap.size 0 N w1 wr) (fun _ i _ => xs.length - (intOf i).toNat)
  case atStart => exact ⟨0, 0, List.replicate N 0, Nat.zero_le _, rfl, rfl, by omega, hp0, by simp, wd_zero N, by rw [take_zero]; simp [val], k1, Wr.refl _ _ _ _⟩
  case round =>
    obtain ⟨k, cy, X, hk, rfl, rfl, c0, c1', hl, hX, hv, hc, hwr⟩ := hrel
    have HV : Hid (val (X.take (q + k)) + pw (q + k) * cy = pw q * 2 ^ r * val (xs.take k)) := hv
    clear hv
    have hb := k3.trans (hwr.below (B := w.heap.size) (Nat.le_refl _) (by omega))
    have hN2 : xs.length + q < N := by have := HN.out; omega
    by_cases hlt : k < xs.length
    · have kx := hc.at (i := k + q) (by omega)
      have kf := ((k2.wr hwr).free 0 N) (k + q) (by omega)
      rw [Nat.zero_add] at kx kf
      have bx := nth_bd hx k
      obtain ⟨b1, o1, rfl, q1⟩ := hs.out _ hb
      have d1 := q1.at (i := k) hlt
      obtain ⟨P, hP⟩ : ∃ P, nth xs k * 2 ^ r = P := ⟨_, rfl⟩
      obtain ⟨S, hS⟩ : ∃ S, cy + P = S := ⟨_, rfl⟩
      have pb : 0 ≤ P ∧ P ≤ 576460751766552576 := by
        rw [← hP]
        refine ⟨Int.mul_nonneg bx.1 (Int.le_of_lt hp0), ?_⟩
        have a := Int.mul_le_mul_of_nonneg_left hp bx.1
        omega
      have R : Hid _ := shl_step hX (by omega) hP.symm hS.symm bx.1 bx.2 c0 c1' hp0 HV.out
      have w1' : IntKind.i64.wrap (nth xs k * 2 ^ r) = P := by rw [hP]; exact wrap_self _ (by omega) (by omega)
      have w2' : IntKind.i64.wrap (cy + P) = S := by rw [hS]; exact wrap_self _ (by omega) (by omega)
      have s0 : 0 ≤ S := by omega
      have s1 : S ≤ 576460752303423488 := by omega
      clear hP hS
      go_wp2
      go_roundw
      case rel => exact ⟨k + 1, _, _, by omega, rfl, by go_num, R.out.2.2.1, R.out.2.2.2, by simp [hl], R.out.1, R.out.2.1, by simpa using hc.set (k + q) (by omega) _, by simpa using hwr.setCell (k + q) (by omega) _⟩
      case measure => simp [intOf]; omega
    · have ek : k = xs.length := by omega
      subst ek
      have kx := hc.at (i := xs.length + q) (by omega)
      have kf := ((k2.wr hwr).free 0 N) (xs.length + q) (by omega)
      rw [Nat.zero_add] at kx kf
      have R : Hid _ := shl_end hX (by rw [hl]; exact HN.out) c0 c1' hp hq hr HV.out
      have c2' : cy < 1073741824 := by omega
      clear HV
      go_wp2_with (first
        | (go_at_call 107; refine (norm_rd _ _ _ (X.set (xs.length + q) cy) _ (by simp [hl]) R.out.1 (by simp [hl]) (by omega) (fun _ => ⟨_, _, rfl, by simpa using hc.set (xs.length + q) (by omega) cy⟩)).mono ?_; rintro e w' ⟨n, zs, rfl, hrd, hnm, hvz, rfl⟩; have hvz' : Hid _ := hvz.trans R.out.2; clear hvz)
        | fail)
      go_ret
      exact ⟨_, zs, rfl, hrd, hnm, hvz'.out, k3.trans ((hwr.setCell (xs.length + q) (by omega) _).below (B := w.heap.size) (Nat.le_refl _) (by omega))⟩
set_option maxRecDepth 100000 in
theorem shl_none (a1 : Option Addr) (c1 : Nat) (n : Int) (w : World) :
    Calls Tryz.prog 108 #[.slice a1 0 c1, .int .i64 n] w fun e w' => e = .returned (.slice none 0 0) ∧ w' = w := by
  go_enter Tryz.func108, Tryz.ntmps108
  go_wp2
  go_ret
  exact ⟨rfl, rfl⟩
/-- Nought. -/
theorem Shl_any (v : Value) (xs : List Int) (n : Nat) (w : World) (h : Rd w v xs) (l1 : xs.length ≤ 549755813888) (hn : n ≤ 1099511627776) :
    Calls Tryz.prog 108 #[v, .int .i64 n] w fun e w' => ∃ r zs, e = .returned r ∧ Rd w' r zs ∧ Nm zs ∧ val zs = val xs * 2 ^ n ∧ Below w.heap.size w w' := by
  obtain ⟨hx, a1, c1, rfl, _, _, g1⟩ := h
  by_cases ne : 0 < xs.length
  · exact shl_some a1 c1 xs n (n / 30) (n % 30) w hx g1 l1 ne hn (by simp) (by simp)
  · have e0 : xs = [] := List.eq_nil_of_length_eq_zero (by omega)
    subst e0
    refine (shl_none a1 c1 n w).mono ?_
    rintro e w' ⟨rfl, rfl⟩
    exact ⟨_, [], rfl, rd_nil _, Or.inl rfl, by simp [val], Below.refl _ _⟩
end Go.Proofs.YtfalncbcomlelaaGreatDoor.L
