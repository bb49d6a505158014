import Derived.Test.YtcjlpfglnbddjaaDoorTx4
namespace Go.Proofs.YtcjlpfglnbddjaaDoor.L
open Go.RowKit Tl Go.Lib

theorem drop_more1 (xs : List Int) (k : Nat) (h : k < xs.length) : val (xs.drop k) = nth xs k + 1073741824 * val (xs.drop (k + 1)) := by
  rw [drop_getD xs k h]
  rfl
theorem drop_le (xs : List Int) (hx : Wd xs) (k : Nat) : val (xs.drop k) ≤ val xs := by
  by_cases h : k ≤ xs.length
  · have e := val_split xs k h
    have a := val_nonneg (hx.take k)
    have b := val_nonneg (hx.drop k)
    have p := pw_pos k
    have q := Int.mul_le_mul_of_nonneg_right (show 1 ≤ pw k by omega) b
    omega
  · rw [List.drop_eq_nil_of_le (by omega)]
    exact val_nonneg hx

theorem pow2_le {a b : Nat} (h : a ≤ b) : (2 : Int) ^ a ≤ 2 ^ b := by
  have := Nat.pow_le_pow_right (show 0 < 2 by decide) h
  have e : ∀ n : Nat, ((2 ^ n : Nat) : Int) = (2 : Int) ^ n := fun n => by simp
  rw [← e, ← e]
  omega
theorem bl_62 {x : Int} (h0 : 0 ≤ x) : bl x ≤ 62 ↔ x < 4611686018427387904 := by
  have e : (2 : Int) ^ 62 = 4611686018427387904 := by decide
  rw [← e]
  by_cases hx : 0 < x
  · obtain ⟨a, b, c⟩ := bl_pos hx
    constructor
    · intro h
      have : (2 : Int) ^ bl x ≤ 2 ^ 62 := pow2_le h
      omega
    · intro h
      by_cases hb : bl x ≤ 62
      · exact hb
      · have : (2 : Int) ^ 62 ≤ 2 ^ (bl x - 1) := pow2_le (by omega)
        omega
  · have : bl x = 0 := by unfold bl; rw [if_pos (by omega)]
    rw [this]
    constructor
    · intro _; rw [e]; omega
    · intro _; omega

set_option maxHeartbeats 1600000 in
set_option maxRecDepth 100000 in
/-- (Nat).Int of the reference. -/
theorem NInt_any (v : Value) (xs : List Int) (w : World) (h : Rd w v xs) (hn : Nm xs) (hl : xs.length ≤ 1000000000) :
    Calls Tryd.prog 19 #[v] w fun e w' => e = .returned (.tuple #[.int .i64 (if val xs < 4611686018427387904 then val xs else 0), .bool (decide (val xs < 4611686018427387904))]) ∧ w' = w := by
  have hB := Bits_fn v xs w h hn (by omega)
  obtain ⟨hx, a, cap, rfl, _, _, g⟩ := h
  have v0 := val_nonneg hx
  have hb62 := bl_62 v0
  have HB : Hid _ := hB
  clear hB
  by_cases hlt : val xs < 4611686018427387904
  · rw [if_pos hlt, decide_eq_true hlt]
    have hL : ¬ (62 : Int) < ((bl (val xs) : Nat) : Int) := by have := hb62.2 hlt; omega
    have HX : Hid (val xs < 4611686018427387904) := hlt
    clear hlt hb62
    generalize hVV : val xs = VV at *
    have HE : Hid (val xs = VV) := hVV
    clear hVV
    generalize bl VV = L at *
    go_enter Tryd.func19, Tryd.ntmps19
    go_wp2_with (go_at_call 36; refine Calls.mono HB.out ?_; rintro e w' ⟨rfl, rfl⟩)
    go_loop [4, 5] (fun n i => ∃ (k : Nat) (x : Int), k ≤ xs.length ∧ i = .int .i64 ((k : Int) - 1) ∧ n = .int .i64 x ∧ x = val (xs.drop k)) (fun _ i => (intOf i + 1).toNat)
    case atStart => exact ⟨xs.length, 0, Nat.le_refl _, by go_num, rfl, by rw [List.drop_length]; rfl⟩
    case round =>
      obtain ⟨k, x, hk, rfl, rfl, ex⟩ := hrel
      by_cases k0 : 0 < k
      · obtain ⟨i, rfl⟩ : ∃ i, k = i + 1 := ⟨k - 1, by omega⟩
        obtain ⟨b, o, rfl, hc⟩ := g (by omega)
        have c1 := hc.at (i := i) (by omega)
        have bd := nth_bd hx i
        have e1 := drop_more1 xs i (by omega)
        rw [← ex] at e1
        have l1 := drop_le xs hx i
        have x0 : 0 ≤ x := by rw [ex]; exact val_nonneg (hx.drop _)
        have hX := HX.out
        rw [HE.out] at l1
        have E1 : Hid (x * 1073741824 + nth xs i = val (xs.drop i)) := by show _ = _; omega
        have s1 : x * 1073741824 + nth xs i < 4611686018427387904 := by omega
        have s2 : ((i + 1 : Nat) : Int) - 1 = i := by omega
        rw [s2]
        have w1 : IntKind.i64.wrap (x * 1073741824) = x * 1073741824 := wrap_self _ (by omega) (by omega)
        have w2 : IntKind.i64.wrap (x * 1073741824 + nth xs i) = x * 1073741824 + nth xs i := wrap_self _ (by omega) (by omega)
        clear e1 l1 ex s2 g
        go_wp2
        go_round
        case rel => exact ⟨i, _, by omega, by go_num, rfl, E1.out⟩
        case measure => simp [intOf]
      · obtain rfl : k = 0 := by omega
        rw [List.drop_zero, HE.out] at ex
        subst ex
        go_wp2
        go_ret2
        exact ⟨rfl, rfl⟩
  · rw [if_neg hlt, decide_eq_false hlt]
    have hL : (62 : Int) < ((bl (val xs) : Nat) : Int) := by
      by_cases c : bl (val xs) ≤ 62
      · exact absurd (hb62.1 c) hlt
      · omega
    clear hlt hb62 g
    generalize bl (val xs) = L at *
    go_enter Tryd.func19, Tryd.ntmps19
    go_wp2_with (go_at_call 36; refine Calls.mono HB.out ?_; rintro e w' ⟨rfl, rfl⟩)
    go_ret2
    exact ⟨rfl, rfl⟩

set_option maxHeartbeats 800000 in
set_option maxRecDepth 100000 in
/-- Whole of the reference, not below nought. -/
theorem Whole_nat (n : Nat) (w : World) (hn : (n : Int) ≤ 9223372036854775807) :
    Calls Tryd.prog 12 #[.int .i64 (n : Int)] w fun e w' => e = .returned (.string ⟨(decDigits n).toArray⟩) ∧ Below w.heap.size w w' := by
  have L3 : Hid (∀ zs : List Int, Wd zs → Nm zs → val zs = (n : Int) → zs.length ≤ 3) := fun zs h1 h2 h3 => by
    refine len_of_lt h1 h2 ?_
    have p1 : pw 3 = 1237940039285380274899124224 := by decide
    omega
  go_enter Tryd.func12, Tryd.ntmps12
  go_wp2_with (first
    | (go_at_call 23; (refine (NatOf_any (n : Int) _ (by omega) (by omega)).mono ?_); rintro e w2 ⟨r2, zs2, rfl, hz2, nz2, vz2, b2⟩; have l2 : zs2.length ≤ 3 := L3.out zs2 hz2.1 nz2 vz2; have V2 : Hid (val zs2 = (n : Int)) := vz2; clear vz2)
    | (go_at_call 22; (refine (Text_any _ zs2 n _ hz2 nz2 (by omega) V2.out).mono ?_); rintro e w3 ⟨rfl, b3⟩))
  go_ret
  exact ⟨rfl, b2.trans (b3.mono b2.size)⟩
end Go.Proofs.YtcjlpfglnbddjaaDoor.L
