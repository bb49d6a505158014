import Derived.Test.YtebilgnmnambnaaGreatDoorShelf
import Derived.Test.YtebilgnmnambnaaGreatDoorCarry
import Derived.Test.YtebilgnmnambnaaGreatDoorPart01
import Derived.Shelf.Spec.BitsCarry

namespace Go.Proofs.YtebilgnmnambnaaGreatDoor
open Go.RowKit Go.Shelf Tn
def bor (x y : Int) : Int := if x < y then 1 else 0
theorem bor_bd (x y : Int) : 0 ≤ bor x y ∧ bor x y ≤ 1 := by unfold bor; split <;> omega
theorem add64 (x y c : Int) (hx : 0 ≤ x) (hy : 0 ≤ y) (hc0 : 0 ≤ c) (hc : c ≤ 1) (w : World) : (callFunc 196 #[.int .u64 x, .int .u64 y, .int .u64 c]).run Tryz.prog w =
    .ok (.value (.tuple #[.int .u64 ((x + y + c) % 18446744073709551616), .int .u64 ((x + y + c) / 18446744073709551616)])) w := by
  obtain ⟨x, rfl⟩ := Int.eq_ofNat_of_zero_le hx
  obtain ⟨y, rfl⟩ := Int.eq_ofNat_of_zero_le hy
  obtain ⟨c, rfl⟩ := Int.eq_ofNat_of_zero_le hc0
  refine (Any7.bits_Add64 Tryz.lays7a x y c (by omega) w).trans ?_
  congr 5 <;> omega
theorem sub64 (x y b : Int) (hx : 0 ≤ x) (hx' : x < 18446744073709551616) (hy : 0 ≤ y) (hy' : y < 18446744073709551616) (hb0 : 0 ≤ b) (hb : b ≤ 1) (w : World) : (callFunc 189 #[.int .u64 x, .int .u64 y, .int .u64 b]).run Tryz.prog w =
    .ok (.value (.tuple #[.int .u64 (x - y - b + 18446744073709551616 * bor x (y + b)), .int .u64 (bor x (y + b))])) w := by
  obtain ⟨x, rfl⟩ := Int.eq_ofNat_of_zero_le hx
  obtain ⟨y, rfl⟩ := Int.eq_ofNat_of_zero_le hy
  obtain ⟨b, rfl⟩ := Int.eq_ofNat_of_zero_le hb0
  have e2 : ((if x < y + b then 1 else 0 : Nat) : Int) = bor (x : Int) (y + b) := by unfold bor; split <;> split <;> omega
  have e1 : (((x + 18446744073709551616 - y - b) % 18446744073709551616 : Nat) : Int) = (x : Int) - y - b + 18446744073709551616 * bor (x : Int) (y + b) := by unfold bor; split <;> omega
  rw [← e1, ← e2]
  exact Any7.bits_Sub64 Tryz.lays7s x y b (by omega) w
theorem add64_0 (x y : Int) (hx : 0 ≤ x) (hy : 0 ≤ y) (w : World) : (callFunc 196 #[.int .u64 x, .int .u64 y, .int .u64 0]).run Tryz.prog w =
    .ok (.value (.tuple #[.int .u64 ((x + y) % 18446744073709551616), .int .u64 ((x + y) / 18446744073709551616)])) w := by
  simpa using add64 x y 0 hx hy (Int.le_refl 0) (by decide) w
theorem add64_z (x c : Int) (hx : 0 ≤ x) (hc0 : 0 ≤ c) (hc : c ≤ 1) (w : World) : (callFunc 196 #[.int .u64 x, .int .u64 0, .int .u64 c]).run Tryz.prog w =
    .ok (.value (.tuple #[.int .u64 ((x + c) % 18446744073709551616), .int .u64 ((x + c) / 18446744073709551616)])) w := by
  simpa using add64 x 0 c hx (Int.le_refl 0) hc0 hc w
theorem sub64_0 (x y : Int) (hx : 0 ≤ x) (hx' : x < 18446744073709551616) (hy : 0 ≤ y) (hy' : y < 18446744073709551616) (w : World) : (callFunc 189 #[.int .u64 x, .int .u64 y, .int .u64 0]).run Tryz.prog w =
    .ok (.value (.tuple #[.int .u64 (x - y + 18446744073709551616 * bor x y), .int .u64 (bor x y)])) w := by
  simpa using sub64 x y 0 hx hx' hy hy' (Int.le_refl 0) (by decide) w
theorem sub64_z (x b : Int) (hx : 0 ≤ x) (hx' : x < 18446744073709551616) (hb0 : 0 ≤ b) (hb : b ≤ 1) (w : World) : (callFunc 189 #[.int .u64 x, .int .u64 0, .int .u64 b]).run Tryz.prog w =
    .ok (.value (.tuple #[.int .u64 (x - b + 18446744073709551616 * bor x b), .int .u64 (bor x b)])) w := by
  simpa using sub64 x 0 b hx hx' (Int.le_refl 0) (by decide) hb0 hb w
def hiw (x y : Int) : Int := x * y / 18446744073709551616
def low (x y : Int) : Int := x * y % 18446744073709551616
theorem low_bd (x y : Int) : 0 ≤ low x y ∧ low x y < 18446744073709551616 := by unfold low; omega
theorem hilo (x y : Int) : low x y + 18446744073709551616 * hiw x y = x * y := by unfold low hiw; omega
theorem mul_hi {x y M : Int} (hx : 0 ≤ x) (hx' : x ≤ M) (hy : 0 ≤ y) (hy' : y ≤ M) : 0 ≤ x * y ∧ x * y ≤ M * M :=
  ⟨Int.mul_nonneg hx hy, Int.le_trans (Int.mul_le_mul_of_nonneg_left hy' hx) (Int.mul_le_mul_of_nonneg_right hx' (by omega))⟩
theorem hiw_bd {x y : Int} (hx : 0 ≤ x) (hx' : x < 18446744073709551616) (hy : 0 ≤ y) (hy' : y < 18446744073709551616) : 0 ≤ hiw x y ∧ hiw x y ≤ 18446744073709551614 := by
  have h := mul_hi (M := 18446744073709551615) hx (by omega) hy (by omega)
  unfold hiw; omega
theorem mul64 (x y : Int) (w : World) (hx : 0 ≤ x) (hx' : x < 18446744073709551616) (hy : 0 ≤ y) (hy' : y < 18446744073709551616) :
    Calls Tryz.prog 177 #[.int .u64 x, .int .u64 y] w fun e w' => e = .returned (.tuple #[.int .u64 (hiw x y), .int .u64 (low x y)]) ∧ w' = w := by
  obtain ⟨x, rfl⟩ := Int.eq_ofNat_of_zero_le hx
  obtain ⟨y, rfl⟩ := Int.eq_ofNat_of_zero_le hy
  refine (Tryz.bits_Mul64 x y (by omega) (by omega) w).mono ?_
  rintro e w' ⟨rfl, rfl⟩
  exact ⟨by unfold hiw low; simp, rfl⟩
theorem val_snoc (P : List Int) (v : Int) : val (P ++ [v]) = val P + pw P.length * v := by rw [val_append]; simp [val]
theorem add_step {X S W : List Int} {k : Nat} {c : Int} (h : Part X S k) (hW : Wd W) (hk : k < W.length) (hk' : k < S.length) (h0 : 0 ≤ c) (h1 : c ≤ 1) (hv : val (X.take k) + pw k * c = val (S.take k) + val (W.take k)) :
    Part (X.set k ((nth X k + nth W k + c) % 18446744073709551616)) S (k + 1) ∧ 0 ≤ (nth X k + nth W k + c) / 18446744073709551616 ∧ (nth X k + nth W k + c) / 18446744073709551616 ≤ 1 ∧
    val ((X.set k ((nth X k + nth W k + c) % 18446744073709551616)).take (k + 1)) + pw (k + 1) * ((nth X k + nth W k + c) / 18446744073709551616) = val (S.take (k + 1)) + val (W.take (k + 1)) := by
  have b1 := nth_bd hW k
  have b2 := nth_bd h.wd k
  refine ⟨h.step (by omega) (by omega), by omega, by omega, ?_⟩
  rw [h.val hk', val_at S k hk', val_at W k hk, h.nth]
  have e : (nth S k + nth W k + c) % 18446744073709551616 + 18446744073709551616 * ((nth S k + nth W k + c) / 18446744073709551616) = nth S k + nth W k + c := Int.emod_add_mul_ediv _ _
  simp only [pw]
  grind
theorem carry_step {X S : List Int} {k : Nat} {c N : Int} (h : Part X S k) (hk' : k < S.length) (h0 : 0 ≤ c) (h1 : c ≤ 1) (hv : val (X.take k) + pw k * c = val (S.take k) + N) :
    Part (X.set k ((nth X k + c) % 18446744073709551616)) S (k + 1) ∧ 0 ≤ (nth X k + c) / 18446744073709551616 ∧ (nth X k + c) / 18446744073709551616 ≤ 1 ∧
    val ((X.set k ((nth X k + c) % 18446744073709551616)).take (k + 1)) + pw (k + 1) * ((nth X k + c) / 18446744073709551616) = val (S.take (k + 1)) + N := by
  have b2 := nth_bd h.wd k
  refine ⟨h.step (by omega) (by omega), by omega, by omega, ?_⟩
  rw [h.val hk', val_at S k hk', h.nth]
  have e : (nth S k + c) % 18446744073709551616 + 18446744073709551616 * ((nth S k + c) / 18446744073709551616) = nth S k + c := Int.emod_add_mul_ediv _ _
  simp only [pw]
  grind
theorem add_end {X S : List Int} {k : Nat} {c N : Int} (h : Part X S k) (hk : k ≤ S.length) (hc : c = 0 ∨ k = S.length) (hv : val (X.take k) + pw k * c = val (S.take k) + N) : val X + pw S.length * c = val S + N := by
  have e := h.whole hk
  rcases hc with rfl | rfl
  · simp only [Int.mul_zero] at hv ⊢; omega
  · omega
set_option maxHeartbeats 800000 in
theorem addInto_any (b o cap : Nat) (S : List Int) (a : Option Addr) (cap2 : Nat) (W : List Int) (w : World) (hS : Wd S) (hW : Wd W) (hl : W.length ≤ S.length) (hL : S.length ≤ 1099511627776) (hcS : Cells w b o S) (hF : Free w b o S.length)
    (ha : 0 < W.length → ∃ b2 o2, a = some ⟨b2, o2, none⟩ ∧ b2 ≠ b ∧ Cells w b2 o2 W) :
    Calls Tryz.prog 165 #[.slice (some ⟨b, o, none⟩) S.length cap, .slice a W.length cap2] w fun e w' => ∃ S' c, e = .returned (.int .u64 c) ∧ 0 ≤ c ∧ c ≤ 1 ∧ S'.length = S.length ∧ Wd S' ∧ val S' + pw S.length * c = val S + val W ∧ Cells w' b o S' ∧ Wr b o S.length w w' := by
  go_enter Tryz.func165, Tryz.ntmps165
  go_wp2
  go_loopw [5, 11] (fun t i wr => ∃ (k : Nat) (c : Int) (X : List Int), k ≤ W.length ∧ i = .int .i64 k ∧ t = .int .u64 c ∧ 0 ≤ c ∧ c ≤ 1 ∧ Part X S k ∧ val (X.take k) + pw k * c = val (S.take k) + val (W.take k) ∧ Cells wr b o X ∧ Wr b o S.length w wr) (fun _ i _ => W.length - (intOf i).toNat)
  case atStart => exact ⟨0, 0, S, Nat.zero_le _, rfl, rfl, by omega, by omega, Part.refl hS 0, by simp [val, pw], hcS, Wr.refl _ _ _ _⟩
  case round =>
    obtain ⟨k, c, X, hk, rfl, rfl, h0, h1, hP, hv, hcX, hwr⟩ := hrel
    have HV : Hid (val (X.take k) + pw k * c = val (S.take k) + val (W.take k)) := hv
    clear hv
    by_cases hlt : k < W.length
    · obtain ⟨b2, o2, rfl, hne, hcW⟩ := ha (by omega)
      have k1 := (hcW.other hwr hne).at (i := k) hlt
      have k2 := hcX.at (i := k) (by rw [hP.len]; omega)
      have k3 := (hF.wr hwr (hcS.lt (by omega))) k (by omega)
      have b1 := nth_bd hW k
      have b2 := nth_bd hP.wd k
      have R := Hid.out (add_step hP hW hlt (by omega) h0 h1 HV.out)
      have R' : Hid _ := R
      clear R
      go_wp2_with (first | simp only [add64 _ _ _ b2.1 b1.1 h0 h1] | fail)
      go_roundw
      case rel => exact ⟨k + 1, _, _, by omega, by go_num, rfl, R'.out.2.1, R'.out.2.2.1, R'.out.1, R'.out.2.2.2, hcX.set k (by rw [hP.len]; omega) _, hwr.setCell _ (by omega) _⟩
      case measure => simp [intOf]; omega
    · have ek : k = W.length := by omega
      subst ek
      rw [List.take_length] at HV
      go_wp2_with fail
      go_loopw [5, 8] (fun t i wr => ∃ (k : Nat) (c : Int) (X : List Int), k ≤ S.length ∧ i = .int .i64 k ∧ t = .int .u64 c ∧ 0 ≤ c ∧ c ≤ 1 ∧ Part X S k ∧ val (X.take k) + pw k * c = val (S.take k) + val W ∧ Cells wr b o X ∧ Wr b o S.length w wr) (fun _ i _ => S.length - (intOf i).toNat)
      case atStart => exact ⟨_, _, _, hl, rfl, rfl, h0, h1, hP, HV.out, hcX, hwr⟩
      case round =>
        clear HV hP hcX hwr h0 h1
        obtain ⟨k, c, X, hk, rfl, rfl, h0, h1, hP, hv, hcX, hwr⟩ := hrel
        have HV : Hid (val (X.take k) + pw k * c = val (S.take k) + val W) := hv
        clear hv
        by_cases hlt : k < S.length
        · by_cases hc : 0 < c
          · have k2 := hcX.at (i := k) (by rw [hP.len]; omega)
            have k3 := (hF.wr hwr (hcS.lt (by omega))) k (by omega)
            have b2 := nth_bd hP.wd k
            have R : Hid _ := carry_step hP hlt h0 h1 HV.out
            go_wp2_with (first | simp only [add64_z _ _ b2.1 h0 h1] | fail)
            go_roundw
            case rel => exact ⟨k + 1, _, _, by omega, by go_num, rfl, R.out.2.1, R.out.2.2.1, R.out.1, R.out.2.2.2, hcX.set k (by rw [hP.len]; omega) _, hwr.setCell _ (by omega) _⟩
            case measure => simp [intOf]; omega
          · go_wp2
            go_ret
            exact ⟨X, c, rfl, h0, h1, hP.len, hP.wd, add_end hP hk (Or.inl (by omega)) HV.out, hcX, hwr⟩
        · go_wp2
          go_ret
          exact ⟨X, c, rfl, h0, h1, hP.len, hP.wd, add_end hP hk (Or.inr (by omega)) HV.out, hcX, hwr⟩
theorem addInto_at (b o cap n : Nat) (S : List Int) (a : Option Addr) (cap2 m : Nat) (W : List Int) (w : World) (en : n = S.length) (em : m = W.length) (hS : Wd S) (hW : Wd W) (hl : W.length ≤ S.length) (hL : S.length ≤ 1099511627776) (hcS : Cells w b o S) (hF : Free w b o S.length)
    (ha : 0 < W.length → ∃ b2 o2, a = some ⟨b2, o2, none⟩ ∧ b2 ≠ b ∧ Cells w b2 o2 W) :
    Calls Tryz.prog 165 #[.slice (some ⟨b, o, none⟩) n cap, .slice a m cap2] w fun e w' => ∃ S' c, e = .returned (.int .u64 c) ∧ 0 ≤ c ∧ c ≤ 1 ∧ S'.length = S.length ∧ Wd S' ∧ val S' + pw S.length * c = val S + val W ∧ Cells w' b o S' ∧ Wr b o S.length w w' := by
  subst en em; exact addInto_any b o cap S a cap2 W w hS hW hl hL hcS hF ha
end Go.Proofs.YtebilgnmnambnaaGreatDoor
