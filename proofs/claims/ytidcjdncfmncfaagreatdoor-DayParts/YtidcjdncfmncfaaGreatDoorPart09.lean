import Derived.Test.YtidcjdncfmncfaaGreatDoorProg
import Derived.Test.YtidcjdncfmncfaaGreatDoorPart01
import Derived.Test.YtidcjdncfmncfaaGreatDoorShelf
import Derived.Test.YtidcjdncfmncfaaGreatDoorCarry
import Derived.Shelf.Spec.BitsCarry
import Derived.Laws.CopyOwn

namespace Go.Proofs.YtidcjdncfmncfaaGreatDoor
open Go.RowKit Tn

theorem order_any (t : Bool) (w : World) : Calls Tryz.prog 132 #[.bool t] w fun e w' => e = .returned (.int .i64 (if t then -1 else 1)) ∧ w' = w := by
  cases t
  · go_enter Tryz.func132, Tryz.ntmps132
    go_wp2
    go_ret
    exact ⟨rfl, rfl⟩
  · go_enter Tryz.func132, Tryz.ntmps132
    go_wp2
    go_ret
    exact ⟨rfl, rfl⟩

theorem take_less (xs : List Int) (k : Nat) (h0 : 0 < k) (hk : k ≤ xs.length) (h : nth xs (k - 1) = 0) : val (xs.take k) = val (xs.take (k - 1)) := by
  have := val_take_succ xs (k - 1) (by omega)
  rw [Nat.sub_add_cancel h0] at this
  unfold nth at h
  rw [this, h]; simp
theorem nm_take (xs : List Int) (k : Nat) (h0 : 0 < k) (hk : k ≤ xs.length) (h : ¬ nth xs (k - 1) = 0) : Nm (xs.take k) := by
  refine Or.inr ?_
  rw [List.length_take, Nat.min_eq_left hk]
  have := nth_take xs k (k - 1) (by omega)
  unfold nth at h this
  rw [this]; exact h

set_option maxHeartbeats 400000 in
/-- whole.trim: without the noughts at the high end. -/
theorem trim_any (a : Option Addr) (xs : List Int) (cap : Nat) (w : World) (hl : xs.length ≤ cap) (hcap : cap ≤ 9223372036854775807) (ha : 0 < xs.length → ∃ b o, a = some ⟨b, o, none⟩ ∧ Cells w b o xs) :
    Calls Tryz.prog 127 #[.slice a xs.length cap] w fun e w' => ∃ n, n ≤ xs.length ∧ e = .returned (.agg #[.slice a n cap]) ∧ Nm (xs.take n) ∧ val (xs.take n) = val xs ∧ Below w.heap.size w w' := by
  go_enter Tryz.func127, Tryz.ntmps127
  go_wp2
  go_loop [3] (fun t => ∃ k : Nat, k ≤ xs.length ∧ t = .int .i64 k ∧ val (xs.take k) = val xs) (fun t => (intOf t).toNat)
  case atStart => exact ⟨xs.length, Nat.le_refl _, rfl, by rw [List.take_length]⟩
  case round =>
    obtain ⟨k, hk, rfl, hv⟩ := hrel
    have HV : Hid (val (xs.take k) = val xs) := hv
    clear hv
    by_cases h0 : k = 0
    · subst h0
      go_wp2
      refine bodyPost_ret (v := .agg #[.slice a 0 cap]) (by simp [results, Tryz.results127, go_sem]) rfl ⟨0, by omega, rfl, by simp [Nm], HV.out, ?_⟩
      exact (Below.refl _ _).alloc (Nat.le_refl _) _
    · obtain ⟨b, o, rfl, hc⟩ := ha (by omega)
      have hb := hc.lt (by omega)
      have hc1 := hc.at (i := k - 1) (by omega)
      by_cases hz : nth xs (k - 1) = 0
      · rw [hz] at hc1
        have HZ : Hid (nth xs (k - 1) = 0) := hz
        clear hz
        go_wp2
        go_round
        case rel => exact ⟨k - 1, by omega, by go_num, by rw [← HV.out]; exact (take_less xs k (by omega) (by omega) HZ.out).symm⟩
        case measure => simp [intOf]; omega
      · go_wp2
        refine bodyPost_ret (v := .agg #[.slice (some ⟨b, o, none⟩) k cap]) (by simp [results, Tryz.results127, go_sem]) rfl ⟨k, by omega, rfl, nm_take xs k (by omega) (by omega) hz, HV.out, ?_⟩
        exact (Below.refl _ _).alloc (Nat.le_refl _) _
/-- The same, told as what it is for: a row of words becomes a number's. -/
theorem trim_rd (a : Option Addr) (m cap : Nat) (xs : List Int) (w : World) (em : m = xs.length) (hw : Wd xs) (hl : xs.length ≤ cap) (hcap : cap ≤ 9223372036854775807) (ha : 0 < xs.length → ∃ b o, a = some ⟨b, o, none⟩ ∧ Cells w b o xs) :
    Calls Tryz.prog 127 #[.slice a m cap] w fun e w' => ∃ n zs, e = .returned (.agg #[.slice a n cap]) ∧ zs = xs.take n ∧ Rd w' (.slice a n cap) zs ∧ Nm zs ∧ val zs = val xs ∧ Below w.heap.size w w' := by
  subst em
  refine (trim_any a xs cap w hl hcap ha).mono ?_
  rintro e w' ⟨n, hn, rfl, hnm, hv, hb⟩
  refine ⟨n, xs.take n, rfl, rfl, ⟨hw.take n, a, cap, ?_, ?_, hcap, ?_⟩, hnm, hv, hb⟩
  · rw [List.length_take, Nat.min_eq_left hn]
  · rw [List.length_take]; omega
  · intro l
    rw [List.length_take] at l
    obtain ⟨b, o, e, c⟩ := ha (by omega)
    exact ⟨b, o, e, (c.take n).grow hb⟩
end Go.Proofs.YtidcjdncfmncfaaGreatDoor

namespace Go.Proofs.YtidcjdncfmncfaaGreatDoor
open Go.RowKit Go.Shelf Tn

/-- The borrow, under a name. -/
def bor (x y : Int) : Int := if x < y then 1 else 0
theorem bor_bd (x y : Int) : 0 ≤ bor x y ∧ bor x y ≤ 1 := by unfold bor; split <;> omega

theorem add64 (x y c : Int) (hx : 0 ≤ x) (hy : 0 ≤ y) (hc0 : 0 ≤ c) (hc : c ≤ 1) (w : World) : (callFunc 156 #[.int .u64 x, .int .u64 y, .int .u64 c]).run Tryz.prog w =
    .ok (.value (.tuple #[.int .u64 ((x + y + c) % 18446744073709551616), .int .u64 ((x + y + c) / 18446744073709551616)])) w := by
  obtain ⟨x, rfl⟩ := Int.eq_ofNat_of_zero_le hx
  obtain ⟨y, rfl⟩ := Int.eq_ofNat_of_zero_le hy
  obtain ⟨c, rfl⟩ := Int.eq_ofNat_of_zero_le hc0
  refine (Any7.bits_Add64 Tryz.lays7a x y c (by omega) w).trans ?_
  congr 5 <;> omega
theorem sub64 (x y b : Int) (hx : 0 ≤ x) (hx' : x < 18446744073709551616) (hy : 0 ≤ y) (hy' : y < 18446744073709551616) (hb0 : 0 ≤ b) (hb : b ≤ 1) (w : World) : (callFunc 164 #[.int .u64 x, .int .u64 y, .int .u64 b]).run Tryz.prog w =
    .ok (.value (.tuple #[.int .u64 (x - y - b + 18446744073709551616 * bor x (y + b)), .int .u64 (bor x (y + b))])) w := by
  obtain ⟨x, rfl⟩ := Int.eq_ofNat_of_zero_le hx
  obtain ⟨y, rfl⟩ := Int.eq_ofNat_of_zero_le hy
  obtain ⟨b, rfl⟩ := Int.eq_ofNat_of_zero_le hb0
  have e2 : ((if x < y + b then 1 else 0 : Nat) : Int) = bor (x : Int) (y + b) := by unfold bor; split <;> split <;> omega
  have e1 : (((x + 18446744073709551616 - y - b) % 18446744073709551616 : Nat) : Int) = (x : Int) - y - b + 18446744073709551616 * bor (x : Int) (y + b) := by unfold bor; split <;> omega
  rw [← e1, ← e2]
  exact Any7.bits_Sub64 Tryz.lays7s x y b (by omega) w
theorem add64_0 (x y : Int) (hx : 0 ≤ x) (hy : 0 ≤ y) (w : World) : (callFunc 156 #[.int .u64 x, .int .u64 y, .int .u64 0]).run Tryz.prog w =
    .ok (.value (.tuple #[.int .u64 ((x + y) % 18446744073709551616), .int .u64 ((x + y) / 18446744073709551616)])) w := by
  simpa using add64 x y 0 hx hy (Int.le_refl 0) (by decide) w
theorem add64_z (x c : Int) (hx : 0 ≤ x) (hc0 : 0 ≤ c) (hc : c ≤ 1) (w : World) : (callFunc 156 #[.int .u64 x, .int .u64 0, .int .u64 c]).run Tryz.prog w =
    .ok (.value (.tuple #[.int .u64 ((x + c) % 18446744073709551616), .int .u64 ((x + c) / 18446744073709551616)])) w := by
  simpa using add64 x 0 c hx (Int.le_refl 0) hc0 hc w
theorem sub64_0 (x y : Int) (hx : 0 ≤ x) (hx' : x < 18446744073709551616) (hy : 0 ≤ y) (hy' : y < 18446744073709551616) (w : World) : (callFunc 164 #[.int .u64 x, .int .u64 y, .int .u64 0]).run Tryz.prog w =
    .ok (.value (.tuple #[.int .u64 (x - y + 18446744073709551616 * bor x y), .int .u64 (bor x y)])) w := by
  simpa using sub64 x y 0 hx hx' hy hy' (Int.le_refl 0) (by decide) w
theorem sub64_z (x b : Int) (hx : 0 ≤ x) (hx' : x < 18446744073709551616) (hb0 : 0 ≤ b) (hb : b ≤ 1) (w : World) : (callFunc 164 #[.int .u64 x, .int .u64 0, .int .u64 b]).run Tryz.prog w =
    .ok (.value (.tuple #[.int .u64 (x - b + 18446744073709551616 * bor x b), .int .u64 (bor x b)])) w := by
  simpa using sub64 x 0 b hx hx' (Int.le_refl 0) (by decide) hb0 hb w
/-- The high and the low word of a product, under names. -/
def hiw (x y : Int) : Int := x * y / 18446744073709551616
def low (x y : Int) : Int := x * y % 18446744073709551616
theorem low_bd (x y : Int) : 0 ≤ low x y ∧ low x y < 18446744073709551616 := by unfold low; omega
theorem hilo (x y : Int) : low x y + 18446744073709551616 * hiw x y = x * y := by unfold low hiw; omega
theorem mul_hi {x y M : Int} (hx : 0 ≤ x) (hx' : x ≤ M) (hy : 0 ≤ y) (hy' : y ≤ M) : 0 ≤ x * y ∧ x * y ≤ M * M :=
  ⟨Int.mul_nonneg hx hy, Int.le_trans (Int.mul_le_mul_of_nonneg_left hy' hx) (Int.mul_le_mul_of_nonneg_right hx' (by omega))⟩
theorem hiw_bd {x y : Int} (hx : 0 ≤ x) (hx' : x < 18446744073709551616) (hy : 0 ≤ y) (hy' : y < 18446744073709551616) : 0 ≤ hiw x y ∧ hiw x y ≤ 18446744073709551614 := by
  have h := mul_hi (M := 18446744073709551615) hx (by omega) hy (by omega)
  unfold hiw; omega
theorem mul64 (x y : Int) (w : World) (hx : 0 ≤ x) (hx' : x < 18446744073709551616) (hy : 0 ≤ y) (hy' : y < 18446744073709551616) :
    Calls Tryz.prog 155 #[.int .u64 x, .int .u64 y] w fun e w' => e = .returned (.tuple #[.int .u64 (hiw x y), .int .u64 (low x y)]) ∧ w' = w := by
  obtain ⟨x, rfl⟩ := Int.eq_ofNat_of_zero_le hx
  obtain ⟨y, rfl⟩ := Int.eq_ofNat_of_zero_le hy
  refine (Tryz.bits_Mul64 x y (by omega) (by omega) w).mono ?_
  rintro e w' ⟨rfl, rfl⟩
  exact ⟨by unfold hiw low; simp, rfl⟩
/-- One word behind the others. -/
theorem val_snoc (P : List Int) (v : Int) : val (P ++ [v]) = val P + pw P.length * v := by rw [val_append]; simp [val]

theorem add_step {X S W : List Int} {k : Nat} {c : Int} (h : Part X S k) (hW : Wd W) (hk : k < W.length) (hk' : k < S.length) (h0 : 0 ≤ c) (h1 : c ≤ 1) (hv : val (X.take k) + pw k * c = val (S.take k) + val (W.take k)) :
    Part (X.set k ((nth X k + nth W k + c) % 18446744073709551616)) S (k + 1) ∧ 0 ≤ (nth X k + nth W k + c) / 18446744073709551616 ∧ (nth X k + nth W k + c) / 18446744073709551616 ≤ 1 ∧
    val ((X.set k ((nth X k + nth W k + c) % 18446744073709551616)).take (k + 1)) + pw (k + 1) * ((nth X k + nth W k + c) / 18446744073709551616) = val (S.take (k + 1)) + val (W.take (k + 1)) := by
  have b1 := nth_bd hW k
  have b2 := nth_bd h.wd k
  refine ⟨h.step (by omega) (by omega), by omega, by omega, ?_⟩
  rw [h.val hk', val_at S k hk', val_at W k hk, h.nth]
  have e : (nth S k + nth W k + c) % 18446744073709551616 + 18446744073709551616 * ((nth S k + nth W k + c) / 18446744073709551616) = nth S k + nth W k + c := Int.emod_add_mul_ediv _ _
  simp only [pw]
  grind
theorem carry_step {X S : List Int} {k : Nat} {c N : Int} (h : Part X S k) (hk' : k < S.length) (h0 : 0 ≤ c) (h1 : c ≤ 1) (hv : val (X.take k) + pw k * c = val (S.take k) + N) :
    Part (X.set k ((nth X k + c) % 18446744073709551616)) S (k + 1) ∧ 0 ≤ (nth X k + c) / 18446744073709551616 ∧ (nth X k + c) / 18446744073709551616 ≤ 1 ∧
    val ((X.set k ((nth X k + c) % 18446744073709551616)).take (k + 1)) + pw (k + 1) * ((nth X k + c) / 18446744073709551616) = val (S.take (k + 1)) + N := by
  have b2 := nth_bd h.wd k
  refine ⟨h.step (by omega) (by omega), by omega, by omega, ?_⟩
  rw [h.val hk', val_at S k hk', h.nth]
  have e : (nth S k + c) % 18446744073709551616 + 18446744073709551616 * ((nth S k + c) / 18446744073709551616) = nth S k + c := Int.emod_add_mul_ediv _ _
  simp only [pw]
  grind
theorem add_end {X S : List Int} {k : Nat} {c N : Int} (h : Part X S k) (hk : k ≤ S.length) (hc : c = 0 ∨ k = S.length) (hv : val (X.take k) + pw k * c = val (S.take k) + N) : val X + pw S.length * c = val S + N := by
  have e := h.whole hk
  rcases hc with rfl | rfl
  · simp only [Int.mul_zero] at hv ⊢; omega
  · omega

set_option maxHeartbeats 800000 in
/-- whole.addInto: what is added to the row, and the carry. -/
theorem addInto_any (b o cap : Nat) (S : List Int) (a : Option Addr) (cap2 : Nat) (W : List Int) (w : World) (hS : Wd S) (hW : Wd W) (hl : W.length ≤ S.length) (hL : S.length ≤ 1099511627776) (hcS : Cells w b o S) (hF : Free w b o S.length)
    (ha : 0 < W.length → ∃ b2 o2, a = some ⟨b2, o2, none⟩ ∧ b2 ≠ b ∧ Cells w b2 o2 W) :
    Calls Tryz.prog 139 #[.slice (some ⟨b, o, none⟩) S.length cap, .slice a W.length cap2] w fun e w' => ∃ S' c, e = .returned (.int .u64 c) ∧ 0 ≤ c ∧ c ≤ 1 ∧ S'.length = S.length ∧ Wd S' ∧ val S' + pw S.length * c = val S + val W ∧ Cells w' b o S' ∧ Wr b o S.length w w' := by
  go_enter Tryz.func139, Tryz.ntmps139
  go_wp2
  go_loopw [5, 11] (fun t i wr => ∃ (k : Nat) (c : Int) (X : List Int), k ≤ W.length ∧ i = .int .i64 k ∧ t = .int .u64 c ∧ 0 ≤ c ∧ c ≤ 1 ∧ Part X S k ∧ val (X.take k) + pw k * c = val (S.take k) + val (W.take k) ∧ Cells wr b o X ∧ Wr b o S.length w wr) (fun _ i _ => W.length - (intOf i).toNat)
  case atStart => exact ⟨0, 0, S, Nat.zero_le _, rfl, rfl, by omega, by omega, Part.refl hS 0, by simp [val, pw], hcS, Wr.refl _ _ _ _⟩
  case round =>
    obtain ⟨k, c, X, hk, rfl, rfl, h0, h1, hP, hv, hcX, hwr⟩ := hrel
    have HV : Hid (val (X.take k) + pw k * c = val (S.take k) + val (W.take k)) := hv
    clear hv
    by_cases hlt : k < W.length
    · obtain ⟨b2, o2, rfl, hne, hcW⟩ := ha (by omega)
      have k1 := (hcW.other hwr hne).at (i := k) hlt
      have k2 := hcX.at (i := k) (by rw [hP.len]; omega)
      have k3 := (hF.wr hwr (hcS.lt (by omega))) k (by omega)
      have b1 := nth_bd hW k
      have b2 := nth_bd hP.wd k
      have R := Hid.out (add_step hP hW hlt (by omega) h0 h1 HV.out)
      have R' : Hid _ := R
      clear R
      go_wp2_with (first | simp only [add64 _ _ _ b2.1 b1.1 h0 h1] | fail)
      go_roundw
      case rel => exact ⟨k + 1, _, _, by omega, by go_num, rfl, R'.out.2.1, R'.out.2.2.1, R'.out.1, R'.out.2.2.2, hcX.set k (by rw [hP.len]; omega) _, hwr.setCell _ (by omega) _⟩
      case measure => simp [intOf]; omega
    · have ek : k = W.length := by omega
      subst ek
      rw [List.take_length] at HV
      go_wp2_with fail
      go_loopw [5, 8] (fun t i wr => ∃ (k : Nat) (c : Int) (X : List Int), k ≤ S.length ∧ i = .int .i64 k ∧ t = .int .u64 c ∧ 0 ≤ c ∧ c ≤ 1 ∧ Part X S k ∧ val (X.take k) + pw k * c = val (S.take k) + val W ∧ Cells wr b o X ∧ Wr b o S.length w wr) (fun _ i _ => S.length - (intOf i).toNat)
      case atStart => exact ⟨_, _, _, hl, rfl, rfl, h0, h1, hP, HV.out, hcX, hwr⟩
      case round =>
        clear HV hP hcX hwr h0 h1
        obtain ⟨k, c, X, hk, rfl, rfl, h0, h1, hP, hv, hcX, hwr⟩ := hrel
        have HV : Hid (val (X.take k) + pw k * c = val (S.take k) + val W) := hv
        clear hv
        by_cases hlt : k < S.length
        · by_cases hc : 0 < c
          · have k2 := hcX.at (i := k) (by rw [hP.len]; omega)
            have k3 := (hF.wr hwr (hcS.lt (by omega))) k (by omega)
            have b2 := nth_bd hP.wd k
            have R : Hid _ := carry_step hP hlt h0 h1 HV.out
            go_wp2_with (first | simp only [add64_z _ _ b2.1 h0 h1] | fail)
            go_roundw
            case rel => exact ⟨k + 1, _, _, by omega, by go_num, rfl, R.out.2.1, R.out.2.2.1, R.out.1, R.out.2.2.2, hcX.set k (by rw [hP.len]; omega) _, hwr.setCell _ (by omega) _⟩
            case measure => simp [intOf]; omega
          · go_wp2
            go_ret
            exact ⟨X, c, rfl, h0, h1, hP.len, hP.wd, add_end hP hk (Or.inl (by omega)) HV.out, hcX, hwr⟩
        · go_wp2
          go_ret
          exact ⟨X, c, rfl, h0, h1, hP.len, hP.wd, add_end hP hk (Or.inr (by omega)) HV.out, hcX, hwr⟩
theorem addInto_at (b o cap n : Nat) (S : List Int) (a : Option Addr) (cap2 m : Nat) (W : List Int) (w : World) (en : n = S.length) (em : m = W.length) (hS : Wd S) (hW : Wd W) (hl : W.length ≤ S.length) (hL : S.length ≤ 1099511627776) (hcS : Cells w b o S) (hF : Free w b o S.length)
    (ha : 0 < W.length → ∃ b2 o2, a = some ⟨b2, o2, none⟩ ∧ b2 ≠ b ∧ Cells w b2 o2 W) :
    Calls Tryz.prog 139 #[.slice (some ⟨b, o, none⟩) n cap, .slice a m cap2] w fun e w' => ∃ S' c, e = .returned (.int .u64 c) ∧ 0 ≤ c ∧ c ≤ 1 ∧ S'.length = S.length ∧ Wd S' ∧ val S' + pw S.length * c = val S + val W ∧ Cells w' b o S' ∧ Wr b o S.length w w' := by
  subst en em; exact addInto_any b o cap S a cap2 W w hS hW hl hL hcS hF ha
end Go.Proofs.YtidcjdncfmncfaaGreatDoor

namespace Go.Proofs.YtidcjdncfmncfaaGreatDoor
open Go.RowKit Tn
theorem Tryz.infoU : (Tryz.prog.info? 107).map (fun i => (i.zero, i.size, i.bytes)) = some (some (.int .u64 0), 1, 8) := by kernel_rfl
theorem Tryz.sizeU : (Tryz.prog.info? 107).map (·.size) = some 1 := by kernel_rfl

theorem nth_replicate (n i : Nat) : nth (List.replicate n 0) i = 0 := by
  unfold nth
  by_cases h : i < n
  · simp [List.getD_eq_getElem?_getD, h]
  · simp [List.getD_eq_getElem?_getD, Nat.le_of_not_lt h]

/-- make([]uint64, n). -/
theorem wpList_make_words {w : World} {ops : Array Oper} {rest : List Oper} {o : Oper} {a : Act} {Q : Exit → Act → World → Prop}
    (hg : o.guard = none) (l c : Operand) (hop : o.op = Op.makeSlice 61 l c) (n : Nat) (L C : Int) (hl : a.eval l = .int .i64 L) (hc : a.eval c = .int .i64 C) (hL : L = (n : Int)) (hC : C = (n : Int)) (hn : n ≤ 35184372088832)
    (hK : ∀ w', Cells w' w.heap.size 0 (List.replicate n 0) → Own w' w.heap.size → Below w.heap.size w w' → w.heap.size < w'.heap.size → wpList Tryz.prog ops Q rest (a.put o.dst (.slice (some ⟨w.heap.size, 0, none⟩) n n)) w') :
    wpList Tryz.prog ops Q (o :: rest) a w := by
  obtain ⟨i, hi, hz0, hz1, hz2⟩ := info_parts Tryz.infoU
  refine wpList_make_full w hg l c 61 hop w.heap.size 107 i (.int .u64 0) 1 Tryz.underlying61 hi hz0 hz1 .i64 .i64 L C n hl hc hL hC (by rw [hz2]; omega) (by unfold maxLen; omega) (Nat.le_refl _) ?_
  intro w' ho hgr
  obtain ⟨_, h2⟩ := ho
  rcases h2 with ⟨e, _⟩ | ⟨g, cap, cur, e, hb, hh, h3, h4, h5, h6⟩
  · simp at e
  · simp only [Value.slice.injEq, Option.some.injEq, Addr.mk.injEq] at e
    obtain ⟨⟨e1, _, _⟩, _, e2⟩ := e
    subst e1
    have hbl : Below w.heap.size w w' := ⟨hgr.os, hgr.tape, hgr.output, hgr.size, fun k hk => hgr.block k hk (by simp)⟩
    refine hK w' ?_ ⟨cur, _, hh⟩ hbl (Own.lt ⟨cur, _, hh⟩)
    intro j hj
    rw [List.length_replicate] at hj
    simp only [Nat.mul_one] at h6 h5
    have hc6 : (Value.int .u64 0).cells = #[Value.int .u64 0] := rfl
    rw [hc6, toList_madeCells_one] at h6
    have h7 : cur.toList[j]? = some (.int .u64 0) := by
      have := congrArg (fun l : List Value => l[j]?) h6
      simp only [List.getElem?_take, hj, if_true, List.getElem?_replicate] at this
      exact this
    rw [nth_replicate]
    simp only [World.cell?, hh, Nat.zero_add]
    simpa using h7

theorem Tryz.elemU : Tryz.prog.elem 61 = 107 := by kernel_rfl
/-- s[lo:lo+n], lo below the capacity. -/
theorem slice_lh (g o len cap : Nat) (l h : Int) (lo n : Nat) (el : l = lo) (eh : h = (lo : Int) + n) (h2 : lo + n ≤ cap) (hne : lo < cap) (w : World) :
    (Instr.slice 61 (.slice (some ⟨g, o, none⟩) len cap) (some (.int .i64 l)) (some (.int .i64 h)) none).run Tryz.prog w = .ok (.slice (some ⟨g, o + lo, none⟩) n (cap - lo)) w := by
  subst el eh
  rw [run_slice_lh w 61 _ len cap (by rw [Tryz.elemU]; exact Tryz.underlying61) .i64 .i64 _ _ (by omega) (by omega) (by omega), Tryz.elemU]
  have e1 : ((lo : Int) + n).toNat = lo + n := by omega
  have e2 : ¬ cap = lo := by omega
  simp [Tryz.sizeOf107, Result.andThen, sliced, e1, e2, Addr.add]

theorem cell_setRow (w : World) (g : Nat) (c cs : Array Value) (t : TypeId) (f : Nat × Nat) (h : w.heap[g]? = some (.cells c t f)) (i : Nat) : (w.setRow g cs).cell? ⟨g, i, none⟩ = cs[i]? := by
  simp [World.cell?, World.setRow, Array.getElem?_modify, h]
theorem setRow_at (w : World) (g : Nat) (c cs : Array Value) (t : TypeId) (f : Nat × Nat) (h : w.heap[g]? = some (.cells c t f)) : (w.setRow g cs).heap[g]? = some (.cells cs t f) := by
  simp [World.setRow, Array.getElem?_modify, h]

/-- A guard: the operation that stands next is a copy. -/
theorem at_copy {P : Program} {w : World} {ops : Array Oper} {rest : List Oper} {a : Act} {Q : Exit → Act → World → Prop} {ds : Option Tmp} {ar : Array Operand} {ts : Array TypeId} {ty : TypeId} {p : String} {af : Array Edge} {g : Option (Nat × Bool)}
    (h : wpList P ops Q (⟨ds, .call { callee := .builtin .copy, args := ar, argTypes := ts }, ty, p, af, g⟩ :: rest) a w) : wpList P ops Q (⟨ds, .call { callee := .builtin .copy, args := ar, argTypes := ts }, ty, p, af, g⟩ :: rest) a w := h

/-- copy of words. -/
theorem wpList_copy_words {w : World} {ops : Array Oper} {rest : List Oper} {o : Oper} {a : Act} {Q : Exit → Act → World → Prop}
    (hgd : o.guard = none) (d s : Operand) (ho : o.op = .call { callee := .builtin .copy, args := #[d, s], argTypes := #[61, 61] })
    (X Y : List Int) (g off dCap : Nat) (sp : Option Addr) (sLen sCap dLen : Nat) (hd : a.eval d = .slice (some ⟨g, off, none⟩) dLen dCap) (hs : a.eval s = .slice sp sLen sCap) (eX : dLen = X.length) (eY : sLen = Y.length)
    (hle : Y.length ≤ X.length) (hX : Cells w g off X) (hO : Own w g) (hY : 0 < Y.length → ∃ b o, sp = some ⟨b, o, none⟩ ∧ Cells w b o Y)
    (hK : ∀ w', Cells w' g off (Y ++ X.drop Y.length) → Wr g off X.length w w' → wpList Tryz.prog ops Q rest (a.put o.dst (goInt Y.length)) w') :
    wpList Tryz.prog ops Q (o :: rest) a w := by
  subst eX eY
  by_cases h0 : Y.length = 0
  · obtain rfl : Y = [] := List.eq_nil_of_length_eq_zero h0
    refine wpList_copy_nothing hgd d s _ _ ho 107 Tryz.underlying61 Tryz.sizeU _ _ _ _ _ _ hd hs (by simp) ?_
    exact hK w (by simpa using hX) (Wr.refl _ _ _ _)
  · obtain ⟨b2, o2, rfl, hcY⟩ := hY (by omega)
    obtain ⟨cur, t, hh⟩ := hO
    have hsz : off + X.length ≤ cur.size := by
      have h1 := hX (X.length - 1) (by omega)
      simp only [World.cell?, hh, Option.isSome_none, Bool.false_eq_true, if_false] at h1
      have := (Array.getElem?_eq_some_iff.1 h1).1
      omega
    refine wpList_copy_own hgd d s _ _ ho 107 Tryz.underlying61 Tryz.sizeU g off X.length dCap ⟨b2, o2, none⟩ Y.length sCap hd hs cur t hh (Y.map (Value.int .u64)) (by rw [List.length_map]; exact (Nat.min_eq_left hle).symm) ?_ (by rw [List.length_map]; omega) (by intro v hv; obtain ⟨x, _, rfl⟩ := List.mem_map.1 hv; rfl) ?_
    · intro j v hj
      rw [List.getElem?_map] at hj
      by_cases hlt : j < Y.length
      · rw [List.getElem?_eq_getElem hlt] at hj
        have := hcY j hlt
        simp only [nth, List.getD_eq_getElem?_getD, List.getElem?_eq_getElem hlt, Option.getD_some] at this
        simp only [Option.map_some, Option.some.injEq] at hj
        subst hj
        rw [show (⟨b2, o2, none⟩ : Addr).add j = ⟨b2, o2 + j, none⟩ from by simp [Addr.add]]
        exact this
      · rw [List.getElem?_eq_none (Nat.le_of_not_lt hlt)] at hj; simp at hj
    · have hY' : (Y.map (Value.int .u64)).length = Y.length := List.length_map ..
      rw [hY']
      refine hK _ ?_ ?_
      · intro i hi
        rw [List.length_append, List.length_drop] at hi
        rw [cell_setRow w g cur _ t _ hh]
        have hoff : (cur.toList.take off).length = off := by rw [List.length_take]; simp; omega
        rw [List.getElem?_toArray, List.getElem?_append_right (by omega), hoff, Nat.add_sub_cancel_left]
        by_cases hlt : i < Y.length
        · rw [List.getElem?_append_left (by rw [hY']; exact hlt), List.getElem?_map, List.getElem?_eq_getElem hlt]
          simp [nth, List.getD_eq_getElem?_getD, List.getElem?_append_left hlt, List.getElem?_eq_getElem hlt]
        · rw [List.getElem?_append_right (by omega), hY', List.getElem?_drop]
          have h1 := hX i (by omega)
          simp only [World.cell?, hh, Option.isSome_none, Bool.false_eq_true, if_false] at h1
          have e : off + Y.length + (i - Y.length) = off + i := by omega
          rw [e, Array.getElem?_toList, h1]
          have e2 : nth (Y ++ X.drop Y.length) i = nth X i := by
            unfold nth
            rw [List.getD_eq_getElem?_getD, List.getElem?_append_right (by omega), List.getElem?_drop, List.getD_eq_getElem?_getD]
            congr 2; omega
          rw [e2]
      · refine ⟨rfl, rfl, rfl, by simp [World.setRow], fun k _ hk => setRow_other w g k _ hk, ?_, ?_, ?_⟩
        · intro i hi
          rw [cell_setRow w g cur _ t _ hh]
          have hoff : (cur.toList.take off).length = off := by rw [List.length_take]; simp; omega
          simp only [World.cell?, hh, Option.isSome_none, Bool.false_eq_true, if_false]
          rw [List.getElem?_toArray]
          rcases hi with hi | hi
          · rw [List.getElem?_append_left (by omega), List.getElem?_take_of_lt (by omega), Array.getElem?_toList]
          · rw [List.getElem?_append_right (by omega), hoff, List.getElem?_append_right (by omega), hY', List.getElem?_drop, Array.getElem?_toList]
            congr 1; omega
        · intro i
          simp [World.frozen?, setRow_at w g cur _ t _ hh, hh]
        · intro c t' f e
          rw [hh] at e
          simp only [Option.some.injEq, Obj.cells.injEq] at e
          obtain ⟨rfl, rfl, rfl⟩ := e
          refine ⟨_, setRow_at w g cur _ t _ hh, ?_⟩
          simp; omega
end Go.Proofs.YtidcjdncfmncfaaGreatDoor

namespace Go.Proofs.YtidcjdncfmncfaaGreatDoor
open Go.RowKit Tn

theorem drop_rep (n : Nat) : List.drop n (List.replicate (n + 1) (0 : Int)) = [0] := by simp
theorem add_sum {xs ys S' : List Int} {c : Int} (hx : Wd xs) (hy : Wd ys) (hle : ys.length ≤ xs.length) (h0 : 0 ≤ c) (hS : Wd S') (e : val S' + pw (xs ++ [0]).length * c = val (xs ++ [0]) + val ys) : val S' = val xs + val ys := by
  have e1 : val (xs ++ [0]) = val xs := by rw [val_append]; simp [val]
  have e2 : (xs ++ [0]).length = xs.length + 1 := by simp
  rw [e1, e2] at e
  have b1 := val_lt hx; have b2 := val_lt hy; have b3 := pw_mono hle; have b4 := val_nonneg hS; have b5 := pw_pos xs.length
  have hc : c = 0 := by
    by_cases h : c = 0
    · exact h
    · have := Int.mul_le_mul_of_nonneg_left (show 1 ≤ c by omega) (Int.le_of_lt (pw_pos (xs.length + 1)))
      simp only [pw] at this e; omega
  rw [hc] at e; omega

set_option maxHeartbeats 800000 in
set_option maxRecDepth 100000 in
theorem add_long (a1 a2 : Option Addr) (c1 c2 : Nat) (xs ys : List Int) (w : World) (hx : Wd xs) (hy : Wd ys) (hle : ys.length ≤ xs.length) (hL : xs.length ≤ 549755813888) (h1 : 0 < xs.length → ∃ b o, a1 = some ⟨b, o, none⟩ ∧ Cells w b o xs) (h2 : 0 < ys.length → ∃ b o, a2 = some ⟨b, o, none⟩ ∧ Cells w b o ys) :
    Calls Tryz.prog 92 #[.agg #[.slice a1 xs.length c1], .agg #[.slice a2 ys.length c2]] w fun e w' => ∃ r zs, e = .returned (.agg #[r]) ∧ Rd w' r zs ∧ Nm zs ∧ val zs = val xs + val ys ∧ Below w.heap.size w w' := by
  have hs : Hid (∀ w', Below w.heap.size w w' → 0 < xs.length → ∃ b o, a1 = some ⟨b, o, none⟩ ∧ Cells w' b o xs) := fun w' h l => by obtain ⟨b, o, e, c⟩ := h1 l; exact ⟨b, o, e, c.grow h⟩
  have hs2 : Hid (∀ w', Below w.heap.size w w' → 0 < ys.length → ∃ b o, a2 = some ⟨b, o, none⟩ ∧ b ≠ w.heap.size + 1 + 1 + 1 ∧ Cells w' b o ys) := fun w' h l => by obtain ⟨b, o, e, c⟩ := h2 l; exact ⟨b, o, e, by have := c.lt l; omega, c.grow h⟩
  clear h1 h2
  go_enter Tryz.func92, Tryz.ntmps92
  go_wp2_with (first
    | (at_make; refine wpList_make_words rfl _ _ rfl (xs.length + 1) _ _ rfl rfl (by simp) (by simp) (by omega) ?_; intro w1 k1 k2 k3 k4; have X0 := (((Bx.new w _ _).alloc _).alloc _).below k3; have X1 := ((Bx.new _ _ _).alloc _).below k3; have X2 := (Bx.new _ _ _).below k3; simp only [World.size_alloc] at X1 X2 k1 k2 k3 k4; have q0 := below_alloc3 k3; clear k3; have x0 := X0.1)
    | ((with_reducible refine at_copy ?_); go_must (refine wpList_copy_words rfl _ _ rfl (List.replicate (xs.length + 1) 0) xs _ 0 _ a1 _ _ _ rfl rfl (by simp) rfl (by simp) k1 k2 (fun l => hs.out w1 q0 l) ?_; intro w2 k5 k6; rw [drop_rep] at k5; have Y1 := X1.wr k6 (by omega); have Y2 := X2.wr k6 (by omega); have p0 := q0.trans (k6.below (B := w.heap.size) (by omega) (by omega)); have y1 := Y1.1))
    | fail)
  refine (addInto_at _ 0 _ _ (xs ++ [0]) a2 _ _ ys w2 (by simp) rfl (hx.append (Wd.cons (by omega) (by omega) Wd.nil)) hy (by simp; omega) (by simp; omega) k5 ((k2.wr k6).free _ _) (hs2.out w2 p0)).mono ?_
  rintro e w3 ⟨S', c, rfl, c0, c1, hl, hw, hv, hc, hwr⟩
  have hsum : Hid (val S' = val xs + val ys) := add_sum hx hy hle c0 hw hv
  have hl' : Hid (S'.length = xs.length + 1) := hl.trans (by simp)
  have Z2 := Y2.wr hwr (by omega)
  have p1 := p0.trans (hwr.below (B := w.heap.size) (by omega) (by have := p0.size; omega))
  clear hv hl y1 x0
  go_wp2_with fail
  refine (trim_rd _ _ _ S' w3 hl'.out.symm hw (by rw [hl'.out]; omega) (by omega) (fun _ => ⟨_, _, rfl, hc⟩)).mono ?_
  rintro e w4 ⟨n, zs, rfl, -, hrd, hnm, hvz, hbl⟩
  have V2 := Z2.below hbl
  have v1 := V2.1
  have v2 := V2.2
  have hvz' : Hid (val zs = val xs + val ys) := hvz.trans hsum.out
  clear hvz
  go_wp2
  refine bodyPost_ret (v := .agg #[.slice (some ⟨w.heap.size + 1 + 1 + 1, 0, none⟩) n (xs.length + 1)]) (by simp [results, Tryz.results92, go_sem, v1]) rfl ⟨_, zs, rfl, hrd.put (by intro b o l c e; simp at e; omega), hnm, hvz'.out, below_put (p1.trans (hbl.mono p1.size)) (by omega) _⟩

set_option maxHeartbeats 800000 in
set_option maxRecDepth 100000 in
theorem add_short (a1 a2 : Option Addr) (c1 c2 : Nat) (xs ys : List Int) (w : World) (hx : Wd xs) (hy : Wd ys) (hle : xs.length < ys.length) (hL : ys.length ≤ 549755813888) (h1 : 0 < xs.length → ∃ b o, a1 = some ⟨b, o, none⟩ ∧ Cells w b o xs) (h2 : 0 < ys.length → ∃ b o, a2 = some ⟨b, o, none⟩ ∧ Cells w b o ys) :
    Calls Tryz.prog 92 #[.agg #[.slice a1 xs.length c1], .agg #[.slice a2 ys.length c2]] w fun e w' => ∃ r zs, e = .returned (.agg #[r]) ∧ Rd w' r zs ∧ Nm zs ∧ val zs = val xs + val ys ∧ Below w.heap.size w w' := by
  have hs : Hid (∀ w', Below w.heap.size w w' → 0 < ys.length → ∃ b o, a2 = some ⟨b, o, none⟩ ∧ Cells w' b o ys) := fun w' h l => by obtain ⟨b, o, e, c⟩ := h2 l; exact ⟨b, o, e, c.grow h⟩
  have hs2 : Hid (∀ w', Below w.heap.size w w' → 0 < xs.length → ∃ b o, a1 = some ⟨b, o, none⟩ ∧ b ≠ w.heap.size + 1 + 1 + 1 ∧ Cells w' b o xs) := fun w' h l => by obtain ⟨b, o, e, c⟩ := h1 l; exact ⟨b, o, e, by have := c.lt l; omega, c.grow h⟩
  clear h1 h2
  go_enter Tryz.func92, Tryz.ntmps92
  go_wp2_with (first
    | (at_make; refine wpList_make_words rfl _ _ rfl (ys.length + 1) _ _ rfl rfl (by simp) (by simp) (by omega) ?_; intro w1 k1 k2 k3 k4; have X0 := (((Bx.new w _ _).alloc _).alloc _).below k3; have X1 := ((Bx.new _ _ _).alloc _).below k3; have X2 := (Bx.new _ _ _).below k3; simp only [World.size_alloc] at X1 X2 k1 k2 k3 k4; have q0 := below_alloc3 k3; clear k3; have x0 := X0.1)
    | ((with_reducible refine at_copy ?_); refine wpList_copy_words rfl _ _ rfl (List.replicate (ys.length + 1) 0) ys _ 0 _ a2 _ _ _ rfl rfl (by simp) rfl (by simp) k1 k2 (fun l => hs.out w1 q0 l) ?_; intro w2 k5 k6; rw [drop_rep] at k5; have Y1 := X1.wr k6 (by omega); have Y2 := X2.wr k6 (by omega); have p0 := q0.trans (k6.below (B := w.heap.size) (by omega) (by omega)); have y1 := Y1.1)
    | fail)
  refine (addInto_at _ 0 _ _ (ys ++ [0]) a1 _ _ xs w2 (by simp) rfl (hy.append (Wd.cons (by omega) (by omega) Wd.nil)) hx (by simp; omega) (by simp; omega) k5 ((k2.wr k6).free _ _) (hs2.out w2 p0)).mono ?_
  rintro e w3 ⟨S', c, rfl, c0, c1, hl, hw, hv, hc, hwr⟩
  have hsum : Hid (val S' = val xs + val ys) := (add_sum hy hx (Nat.le_of_lt hle) c0 hw hv).trans (Int.add_comm _ _)
  have hl' : Hid (S'.length = ys.length + 1) := hl.trans (by simp)
  have Z2 := Y2.wr hwr (by omega)
  have p1 := p0.trans (hwr.below (B := w.heap.size) (by omega) (by have := p0.size; omega))
  clear hv hl y1 x0
  go_wp2_with fail
  refine (trim_rd _ _ _ S' w3 hl'.out.symm hw (by rw [hl'.out]; omega) (by omega) (fun _ => ⟨_, _, rfl, hc⟩)).mono ?_
  rintro e w4 ⟨n, zs, rfl, -, hrd, hnm, hvz, hbl⟩
  have V2 := Z2.below hbl
  have v1 := V2.1
  have v2 := V2.2
  have hvz' : Hid (val zs = val xs + val ys) := hvz.trans hsum.out
  clear hvz
  go_wp2
  refine bodyPost_ret (v := .agg #[.slice (some ⟨w.heap.size + 1 + 1 + 1, 0, none⟩) n (ys.length + 1)]) (by simp [results, Tryz.results92, go_sem, v1]) rfl ⟨_, zs, rfl, hrd.put (by intro b o l c e; simp at e; omega), hnm, hvz'.out, below_put (p1.trans (hbl.mono p1.size)) (by omega) _⟩

/-- (Nat).Add. -/
theorem Add_any (v1 v2 : Value) (xs ys : List Int) (w : World) (h1 : Rd w v1 xs) (h2 : Rd w v2 ys) (l1 : xs.length ≤ 549755813888) (l2 : ys.length ≤ 549755813888) :
    Calls Tryz.prog 92 #[.agg #[v1], .agg #[v2]] w fun e w' => ∃ r zs, e = .returned (.agg #[r]) ∧ Rd w' r zs ∧ Nm zs ∧ val zs = val xs + val ys ∧ Below w.heap.size w w' := by
  obtain ⟨w1, a1, c1, rfl, _, _, g1⟩ := h1
  obtain ⟨w2, a2, c2, rfl, _, _, g2⟩ := h2
  by_cases h : ys.length ≤ xs.length
  · exact add_long a1 a2 c1 c2 xs ys w w1 w2 h l1 g1 g2
  · exact add_short a1 a2 c1 c2 xs ys w w1 w2 (by omega) l2 g1 g2
end Go.Proofs.YtidcjdncfmncfaaGreatDoor

namespace Go.Proofs.YtidcjdncfmncfaaGreatDoor
open Go.RowKit Tn

theorem bor_word {x y b : Int} (hx : 0 ≤ x ∧ x < 18446744073709551616) (hy : 0 ≤ y ∧ y < 18446744073709551616) (hb : 0 ≤ b ∧ b ≤ 1) : 0 ≤ x - y - b + 18446744073709551616 * bor x (y + b) ∧ x - y - b + 18446744073709551616 * bor x (y + b) < 18446744073709551616 := by
  unfold bor; split <;> omega
theorem sub_step {X S W : List Int} {k : Nat} {c : Int} (h : Part X S k) (hW : Wd W) (hk : k < W.length) (hk' : k < S.length) (h0 : 0 ≤ c) (h1 : c ≤ 1) (hv : val (X.take k) = val (S.take k) - val (W.take k) + pw k * c) :
    Part (X.set k (nth X k - nth W k - c + 18446744073709551616 * bor (nth X k) (nth W k + c))) S (k + 1) ∧ 0 ≤ bor (nth X k) (nth W k + c) ∧ bor (nth X k) (nth W k + c) ≤ 1 ∧
    val ((X.set k (nth X k - nth W k - c + 18446744073709551616 * bor (nth X k) (nth W k + c))).take (k + 1)) = val (S.take (k + 1)) - val (W.take (k + 1)) + pw (k + 1) * bor (nth X k) (nth W k + c) := by
  have b1 := nth_bd hW k
  have b2 := nth_bd h.wd k
  have b3 := bor_word b2 b1 ⟨h0, h1⟩
  refine ⟨h.step b3.1 b3.2, (bor_bd _ _).1, (bor_bd _ _).2, ?_⟩
  rw [h.val hk', val_at S k hk', val_at W k hk, h.nth]
  simp only [pw]
  grind
theorem borrow_step {X S : List Int} {k : Nat} {c N : Int} (h : Part X S k) (hk' : k < S.length) (h0 : 0 ≤ c) (h1 : c ≤ 1) (hv : val (X.take k) = val (S.take k) - N + pw k * c) :
    Part (X.set k (nth X k - c + 18446744073709551616 * bor (nth X k) c)) S (k + 1) ∧ 0 ≤ bor (nth X k) c ∧ bor (nth X k) c ≤ 1 ∧
    val ((X.set k (nth X k - c + 18446744073709551616 * bor (nth X k) c)).take (k + 1)) = val (S.take (k + 1)) - N + pw (k + 1) * bor (nth X k) c := by
  have b2 := nth_bd h.wd k
  have b3 := bor_word (x := nth X k) (y := 0) (b := c) b2 ⟨by omega, by omega⟩ ⟨h0, h1⟩
  simp only [Int.sub_zero, Int.zero_add] at b3
  refine ⟨h.step b3.1 b3.2, (bor_bd _ _).1, (bor_bd _ _).2, ?_⟩
  rw [h.val hk', val_at S k hk', h.nth]
  simp only [pw]
  grind
theorem sub_end {X S : List Int} {k : Nat} {c N : Int} (h : Part X S k) (hk : k ≤ S.length) (hc : c = 0 ∨ k = S.length) (h0 : 0 ≤ c) (hN : N ≤ val S) (hv : val (X.take k) = val (S.take k) - N + pw k * c) : val X = val S - N := by
  have e := h.whole hk
  rcases hc with rfl | rfl
  · simp only [Int.mul_zero] at hv; omega
  · rw [← h.len, List.take_length] at hv
    rw [h.len, List.take_length] at hv
    have b1 := val_lt h.wd
    rw [h.len] at b1
    have : c = 0 := by
      by_cases hc : c = 0
      · exact hc
      · have := Int.mul_le_mul_of_nonneg_left (show 1 ≤ c by omega) (Int.le_of_lt (pw_pos S.length)); omega
    rw [this] at hv; omega

set_option maxHeartbeats 1600000 in
set_option maxRecDepth 100000 in
theorem sub_all (a1 a2 : Option Addr) (c1 c2 : Nat) (xs ys : List Int) (w : World) (hx : Wd xs) (hy : Wd ys) (hle : ys.length ≤ xs.length) (hN : val ys ≤ val xs) (hL : xs.length ≤ 549755813888) (h1 : 0 < xs.length → ∃ b o, a1 = some ⟨b, o, none⟩ ∧ Cells w b o xs) (h2 : 0 < ys.length → ∃ b o, a2 = some ⟨b, o, none⟩ ∧ Cells w b o ys) :
    Calls Tryz.prog 143 #[.agg #[.slice a1 xs.length c1], .agg #[.slice a2 ys.length c2]] w fun e w' => ∃ r zs, e = .returned (.agg #[r]) ∧ Rd w' r zs ∧ Nm zs ∧ val zs = val xs - val ys ∧ Below w.heap.size w w' := by
  have hs : Hid (∀ w', Below w.heap.size w w' → 0 < xs.length → ∃ b o, a1 = some ⟨b, o, none⟩ ∧ Cells w' b o xs) := fun w' h l => by obtain ⟨b, o, e, c⟩ := h1 l; exact ⟨b, o, e, c.grow h⟩
  have hs2 : Hid (∀ w', Below w.heap.size w w' → 0 < ys.length → ∃ b o, a2 = some ⟨b, o, none⟩ ∧ b ≠ w.heap.size + 1 + 1 + 1 ∧ Cells w' b o ys) := fun w' h l => by obtain ⟨b, o, e, c⟩ := h2 l; exact ⟨b, o, e, by have := c.lt l; omega, c.grow h⟩
  clear h1 h2
  go_enter Tryz.func143, Tryz.ntmps143
  go_wp2_with (first
    | (at_make; refine wpList_make_words rfl _ _ rfl xs.length _ _ rfl rfl rfl rfl (by omega) ?_; intro w1 k1 k2 k3 k4; have X0 := (((Bx.new w _ _).alloc _).alloc _).below k3; have X1 := ((Bx.new _ _ _).alloc _).below k3; have X2 := (Bx.new _ _ _).below k3; simp only [World.size_alloc] at X1 X2 k1 k2 k3 k4; have q0 := below_alloc3 k3; clear k3; have x0 := X0.1)
    | ((with_reducible refine at_copy ?_); refine wpList_copy_words rfl _ _ rfl (List.replicate xs.length 0) xs _ 0 _ a1 _ _ _ rfl rfl (by simp) rfl (by simp) k1 k2 (fun l => hs.out w1 q0 l) ?_; intro w2 k5 k6; rw [List.drop_of_length_le (by simp), List.append_nil] at k5; have Y1 := X1.wr k6 (by omega); have Y2 := X2.wr k6 (by omega); have p0 := q0.trans (k6.below (B := w.heap.size) (by omega) (by omega)); have y1 := Y1.1)
    | fail)
  have k7 : w.heap.size + 1 + 1 + 1 < w2.heap.size := by have := k6.size; omega
  have O2 := k2.wr k6
  clear x0 k1 k2 k4 k6 X0 X1 X2 q0
  go_loopw [6, 21] (fun t i wr => ∃ (k : Nat) (c : Int) (X : List Int), k ≤ ys.length ∧ i = .int .i64 k ∧ t = .int .u64 c ∧ 0 ≤ c ∧ c ≤ 1 ∧ Part X xs k ∧ val (X.take k) = val (xs.take k) - val (ys.take k) + pw k * c ∧ Cells wr (w.heap.size + 1 + 1 + 1) 0 X ∧ Wr (w.heap.size + 1 + 1 + 1) 0 xs.length w2 wr) (fun _ i _ => ys.length - (intOf i).toNat)
  case atStart => exact ⟨0, 0, xs, Nat.zero_le _, rfl, rfl, by omega, by omega, Part.refl hx 0, by simp [val], k5, Wr.refl _ _ _ _⟩
  case round =>
    obtain ⟨k, c, X, hk, rfl, rfl, h0, h1, hP, hv, hcX, hwr⟩ := hrel
    have HV : Hid (val (X.take k) = val (xs.take k) - val (ys.take k) + pw k * c) := hv
    clear hv
    have pr := p0.trans (hwr.below (B := w.heap.size) (by omega) (by have := p0.size; omega))
    by_cases hlt : k < ys.length
    · obtain ⟨b2, o2, rfl, hne, hcW⟩ := hs2.out wr pr (by omega)
      have k1 := hcW.at (i := k) hlt
      have k2 := hcX.at (i := k) (by rw [hP.len]; omega)
      rw [Nat.zero_add] at k2
      have k3 := (O2.wr hwr).free 0 xs.length k (by omega)
      rw [Nat.zero_add] at k3
      have b1 := nth_bd hy k
      have b2 := nth_bd hP.wd k
      have R : Hid _ := sub_step hP hy hlt (by omega) h0 h1 HV.out
      go_wp2_with (first | simp only [sub64 _ _ _ b2.1 b2.2 b1.1 b1.2 h0 h1] | fail)
      go_roundw
      case rel => exact ⟨k + 1, _, _, by omega, by go_num, rfl, R.out.2.1, R.out.2.2.1, R.out.1, R.out.2.2.2, by have := hcX.set k (by rw [hP.len]; omega) (nth X k - nth ys k - c + 18446744073709551616 * bor (nth X k) (nth ys k + c)); rwa [Nat.zero_add] at this, hwr.setCell _ (by omega) _⟩
      case measure => simp [intOf]; omega
    · have ek : k = ys.length := by omega
      subst ek
      rw [List.take_length] at HV
      have Z1 := (Y1.wr hwr (by omega)).1
      go_wp2_with fail
      clear Z1 y1
      go_loopw [6, 9] (fun t i wr => ∃ (k : Nat) (c : Int) (X : List Int), k ≤ xs.length ∧ i = .int .i64 k ∧ t = .int .u64 c ∧ 0 ≤ c ∧ c ≤ 1 ∧ Part X xs k ∧ val (X.take k) = val (xs.take k) - val ys + pw k * c ∧ Cells wr (w.heap.size + 1 + 1 + 1) 0 X ∧ Wr (w.heap.size + 1 + 1 + 1) 0 xs.length w2 wr) (fun _ i _ => xs.length - (intOf i).toNat)
      case atStart => exact ⟨_, _, _, hle, rfl, rfl, h0, h1, hP, HV.out, hcX, hwr⟩
      case round =>
        clear HV hP hcX hwr h0 h1 pr
        obtain ⟨k, c, X, hk, rfl, rfl, h0, h1, hP, hv, hcX, hwr⟩ := hrel
        have HV : Hid (val (X.take k) = val (xs.take k) - val ys + pw k * c) := hv
        clear hv
        have pr := p0.trans (hwr.below (B := w.heap.size) (by omega) (by have := p0.size; omega))
        have Z2 := Y2.wr hwr (by omega)
        by_cases hlt : k < xs.length
        · by_cases hc : 0 < c
          · have k2 := hcX.at (i := k) (by rw [hP.len]; omega)
            rw [Nat.zero_add] at k2
            have k3 := (O2.wr hwr).free 0 xs.length k (by omega)
            rw [Nat.zero_add] at k3
            have b2 := nth_bd hP.wd k
            have R : Hid _ := borrow_step hP hlt h0 h1 HV.out
            go_wp2_with (first | simp only [sub64_z _ _ b2.1 b2.2 h0 h1] | fail)
            go_roundw
            case rel => exact ⟨k + 1, _, _, by omega, by go_num, rfl, R.out.2.1, R.out.2.2.1, R.out.1, R.out.2.2.2, by have := hcX.set k (by rw [hP.len]; omega) (nth X k - c + 18446744073709551616 * bor (nth X k) c); rwa [Nat.zero_add] at this, hwr.setCell _ (by omega) _⟩
            case measure => simp [intOf]; omega
          · have hsum : Hid (val X = val xs - val ys) := sub_end hP hk (Or.inl (by omega)) h0 hN HV.out
            have hl' : Hid (X.length = xs.length) := hP.len
            have hw := hP.wd
            clear HV hP
            go_wp2_with fail
            refine (trim_rd _ _ _ X wr hl'.out.symm hw (by rw [hl'.out]; omega) (by omega) (fun _ => ⟨_, _, rfl, hcX⟩)).mono ?_
            rintro e w4 ⟨n, zs, rfl, -, hrd, hnm, hvz, hbl⟩
            have V2 := Z2.below hbl
            have v1 := V2.1
            have v2 := V2.2
            have hvz' : Hid (val zs = val xs - val ys) := hvz.trans hsum.out
            clear hvz
            go_wp2
            refine bodyPost_ret (v := .agg #[.slice (some ⟨w.heap.size + 1 + 1 + 1, 0, none⟩) n xs.length]) (by simp [results, Tryz.results143, go_sem, v1]) rfl ⟨_, zs, rfl, hrd.put (by intro b o l c e; simp at e; omega), hnm, hvz'.out, below_put (pr.trans (hbl.mono pr.size)) (by omega) _⟩
        · have hsum : Hid (val X = val xs - val ys) := sub_end hP hk (Or.inr (by omega)) h0 hN HV.out
          have hl' : Hid (X.length = xs.length) := hP.len
          have hw := hP.wd
          clear HV hP
          go_wp2_with fail
          refine (trim_rd _ _ _ X wr hl'.out.symm hw (by rw [hl'.out]; omega) (by omega) (fun _ => ⟨_, _, rfl, hcX⟩)).mono ?_
          rintro e w4 ⟨n, zs, rfl, -, hrd, hnm, hvz, hbl⟩
          have V2 := Z2.below hbl
          have v1 := V2.1
          have v2 := V2.2
          have hvz' : Hid (val zs = val xs - val ys) := hvz.trans hsum.out
          clear hvz
          go_wp2
          refine bodyPost_ret (v := .agg #[.slice (some ⟨w.heap.size + 1 + 1 + 1, 0, none⟩) n xs.length]) (by simp [results, Tryz.results143, go_sem, v1]) rfl ⟨_, zs, rfl, hrd.put (by intro b o l c e; simp at e; omega), hnm, hvz'.out, below_put (pr.trans (hbl.mono pr.size)) (by omega) _⟩

/-- (Nat).Sub, of numbers (so that what is taken away has no more words). -/
theorem Sub_any (v1 v2 : Value) (xs ys : List Int) (w : World) (h1 : Rd w v1 xs) (h2 : Rd w v2 ys) (n2 : Nm ys) (hN : val ys ≤ val xs) (l1 : xs.length ≤ 549755813888) :
    Calls Tryz.prog 143 #[.agg #[v1], .agg #[v2]] w fun e w' => ∃ r zs, e = .returned (.agg #[r]) ∧ Rd w' r zs ∧ Nm zs ∧ val zs = val xs - val ys ∧ Below w.heap.size w w' := by
  obtain ⟨w1, a1, c1, rfl, _, _, g1⟩ := h1
  obtain ⟨w2, a2, c2, rfl, _, _, g2⟩ := h2
  have hle : ys.length ≤ xs.length := by
    by_cases h : ys.length ≤ xs.length
    · exact h
    · have := val_lt_of_length w1 w2 n2 (by omega); omega
  exact sub_all a1 a2 c1 c2 xs ys w w1 w2 hle hN l1 g1 g2
end Go.Proofs.YtidcjdncfmncfaaGreatDoor
