import Derived.Test.YtfalncbcomlelaaGreatDoorDiv1
import Derived.Test.YtfalncbcomlelaaGreatDoorMul1
namespace Go.Proofs.YtfalncbcomlelaaGreatDoor
open Go.RowKit Tn

theorem drop_set_here (X : List Int) (k : Nat) (v : Int) (h : k < X.length) : (X.set k v).drop k = v :: X.drop (k + 1) := by
  rw [drop_getD _ k (by simpa using h), drop_set_succ]
  congr 1
  exact nth_set_same X k v h
theorem take_set_le (X : List Int) (k j : Nat) (v : Int) (h : j ≤ k) : (X.set k v).take j = X.take j := by
  rw [List.take_set]; exact List.set_eq_of_length_le (by simp; omega)

set_option maxHeartbeats 800000 in
/-- whole.divideByWord. -/
theorem divWord_any (b o cap n : Nat) (S : List Int) (d : Int) (w : World) (en : n = S.length) (hS : Wd S) (d0 : 0 < d) (d1 : d < 18446744073709551616) (hL : S.length ≤ 1099511627776) (hcS : Cells w b o S) (hF : Free w b o S.length) :
    Calls Tryz.prog 126 #[.slice (some ⟨b, o, none⟩) n cap, .int .u64 d] w fun e w' => ∃ S' r, e = .returned (.int .u64 r) ∧ 0 ≤ r ∧ r < d ∧ S'.length = S.length ∧ Wd S' ∧ val S' * d + r = val S ∧ Cells w' b o S' ∧ Wr b o S.length w w' := by
  subst en
  go_enter Tryz.func126, Tryz.ntmps126
  go_wp2
  go_loopw [5, 10] (fun t i wr => ∃ (k : Nat) (r : Int) (X : List Int), k ≤ S.length ∧ i = .int .i64 k ∧ t = .int .u64 r ∧ 0 ≤ r ∧ r < d ∧ X.length = S.length ∧ Wd X ∧ X.take (S.length - k) = S.take (S.length - k) ∧ val (X.drop (S.length - k)) * d + r = val (S.drop (S.length - k)) ∧ Cells wr b o X ∧ Wr b o S.length w wr) (fun _ i _ => S.length - (intOf i).toNat)
  case atStart => exact ⟨0, 0, S, Nat.zero_le _, rfl, rfl, by omega, d0, rfl, hS, rfl, by simp [val], hcS, Wr.refl _ _ _ _⟩
  case round =>
    obtain ⟨k, r, X, hk, rfl, rfl, h0, h1, hX, hwX, ht, hv, hcX, hwr⟩ := hrel
    have HV : Hid (val (X.drop (S.length - k)) * d + r = val (S.drop (S.length - k))) := hv
    have HT : Hid (X.take (S.length - k) = S.take (S.length - k)) := ht
    have HX : Hid (X.length = S.length) := hX
    clear hv ht hX
    by_cases hlt : k < S.length
    · have k2 := hcX.at (i := S.length - 1 - k) (by have := HX.out; omega)
      have k3 := (hF.wr hwr (hcS.lt (by omega))) (S.length - 1 - k) (by omega)
      have b2 := nth_bd hwX (S.length - 1 - k)
      go_wp2_with (go_at_call 140; refine (Div64_any _ _ _ _ h0 h1 b2.1 b2.2 d1).mono ?_; rintro e w' ⟨q, r', rfl, he, r0, r1, q0, q1, m, rfl⟩; have HE : Hid (q * d + r' = r * 18446744073709551616 + nth X (S.length - 1 - k)) := he; clear he)
      go_roundw
      case rel =>
        refine ⟨k + 1, r', X.set (S.length - 1 - k) q, by omega, by go_num, rfl, r0, r1, by rw [List.length_set]; exact HX.out, hwX.set _ q0 q1, ?_, ?_, hcX.set _ (by have := HX.out; omega) q, (hwr.drewN m).setCell _ (by omega) _⟩
        · rw [take_set_le _ _ _ _ (by omega)]
          have := congrArg (List.take (S.length - (k + 1))) HT.out
          rwa [List.take_take, List.take_take, Nat.min_eq_left (by omega)] at this
        · have e1 : S.length - (k + 1) = S.length - 1 - k := by omega
          have e2 : S.length - k = S.length - 1 - k + 1 := by omega
          rw [e1, drop_set_here _ _ _ (by have := HX.out; omega), drop_getD S _ (by omega), ← e2]
          have e3 : nth X (S.length - 1 - k) = nth S (S.length - 1 - k) := by
            have := congrArg (fun l => nth l (S.length - 1 - k)) HT.out
            rwa [nth_take _ _ _ (by omega), nth_take _ _ _ (by omega)] at this
          have e4 := HE.out
          have e5 := HV.out
          rw [e3] at e4
          unfold nth at e4
          simp only [val]
          grind
      case measure => simp [intOf]; omega
    · have R : Hid (val X * d + r = val S) := by
        have ek : S.length - k = 0 := by omega
        have := HV.out
        rwa [ek, List.drop_zero, List.drop_zero] at this
      go_wp2
      go_ret
      exact ⟨X, r, rfl, h0, h1, HX.out, hwX, R.out, hcX, hwr⟩

/-- What a product takes away: the words. -/
def spLow (x y c : Int) : Int := (low x y + c) % 18446744073709551616
def spHigh (x y c : Int) : Int := hiw x y + (low x y + c) / 18446744073709551616
theorem sp_eq (x y c : Int) : spLow x y c + 18446744073709551616 * spHigh x y c = x * y + c := by
  have := hilo x y; unfold spLow spHigh; omega
theorem sp_low (x y c : Int) : 0 ≤ spLow x y c ∧ spLow x y c < 18446744073709551616 := by unfold spLow; omega
theorem sp_bd {x y c : Int} (s : Int) (x0 : 0 ≤ x) (x1 : x < 18446744073709551616) (y0 : 0 ≤ y) (y1 : y < 18446744073709551616) (c0 : 0 ≤ c) (c1 : c < 18446744073709551616) (s0 : 0 ≤ s) : 0 ≤ spHigh x y c ∧ spHigh x y c + bor s (spLow x y c) < 18446744073709551616 := by
  have e := sp_eq x y c
  have h := mul_hi (M := 18446744073709551615) x0 (by omega) y0 (by omega)
  have l := sp_low x y c
  unfold bor; split <;> omega
theorem subp_step {X S W : List Int} {k : Nat} {c f : Int} (h : Part X S k) (hW : Wd W) (hk : k < W.length) (hk' : k < S.length) (h0 : 0 ≤ c) (h1 : c < 18446744073709551616) (f0 : 0 ≤ f) (f1 : f < 18446744073709551616) (hv : val (X.take k) - pw k * c = val (S.take k) - val (W.take k) * f) :
    Part (X.set k (nth X k - spLow (nth W k) f c + 18446744073709551616 * bor (nth X k) (spLow (nth W k) f c))) S (k + 1) ∧ 0 ≤ spHigh (nth W k) f c + bor (nth X k) (spLow (nth W k) f c) ∧
    val ((X.set k (nth X k - spLow (nth W k) f c + 18446744073709551616 * bor (nth X k) (spLow (nth W k) f c))).take (k + 1)) - pw (k + 1) * (spHigh (nth W k) f c + bor (nth X k) (spLow (nth W k) f c)) = val (S.take (k + 1)) - val (W.take (k + 1)) * f := by
  have b1 := nth_bd hW k
  have b2 := nth_bd h.wd k
  have b3 := sp_bd (nth X k) b1.1 b1.2 f0 f1 h0 h1 b2.1
  have b4 := bor_word (x := nth X k) (y := spLow (nth W k) f c) (b := 0) b2 (sp_low _ _ _) ⟨by omega, by omega⟩
  simp only [Int.sub_zero, Int.add_zero] at b4
  refine ⟨h.step b4.1 b4.2, by have := (bor_bd (nth X k) (spLow (nth W k) f c)).1; omega, ?_⟩
  rw [h.val hk', val_at S k hk', val_at W k hk, h.nth]
  have e := sp_eq (nth W k) f c
  simp only [pw]
  grind

set_option maxHeartbeats 800000 in
/-- whole.subProduct. -/
theorem subProduct_any (b o cap n : Nat) (S : List Int) (b2 o2 cap2 m : Nat) (W : List Int) (f : Int) (w : World) (en : n = S.length) (em : m = W.length) (hS : Wd S) (hW : Wd W) (hl : W.length = S.length) (f0 : 0 ≤ f) (f1 : f < 18446744073709551616) (hL : S.length ≤ 1099511627776) (hcS : Cells w b o S) (hF : Free w b o S.length) (hne : b2 ≠ b) (hcW : Cells w b2 o2 W) :
    Calls Tryz.prog 153 #[.slice (some ⟨b, o, none⟩) n cap, .slice (some ⟨b2, o2, none⟩) m cap2, .int .u64 f] w fun e w' => ∃ S' c, e = .returned (.int .u64 c) ∧ 0 ≤ c ∧ c < 18446744073709551616 ∧ S'.length = S.length ∧ Wd S' ∧ val S' - pw S.length * c = val S - val W * f ∧ Cells w' b o S' ∧ Wr b o S.length w w' := by
  subst en em
  have HL : Hid (W.length = S.length) := hl
  have hl2 : W.length ≤ S.length := by omega
  clear hl
  go_enter Tryz.func153, Tryz.ntmps153
  go_wp2
  go_loopw [7, 16] (fun t i wr => ∃ (k : Nat) (c : Int) (X : List Int), k ≤ W.length ∧ i = .int .i64 k ∧ t = .int .u64 c ∧ 0 ≤ c ∧ c < 18446744073709551616 ∧ Part X S k ∧ val (X.take k) - pw k * c = val (S.take k) - val (W.take k) * f ∧ Cells wr b o X ∧ Wr b o S.length w wr) (fun _ i _ => W.length - (intOf i).toNat)
  case atStart => exact ⟨0, 0, S, Nat.zero_le _, rfl, rfl, by omega, by omega, Part.refl hS 0, by simp [val], hcS, Wr.refl _ _ _ _⟩
  case round =>
    obtain ⟨k, c, X, hk, rfl, rfl, h0, h1, hP, hv, hcX, hwr⟩ := hrel
    have HV : Hid (val (X.take k) - pw k * c = val (S.take k) - val (W.take k) * f) := hv
    clear hv
    by_cases hlt : k < W.length
    · have k1 := (hcW.other hwr hne).at (i := k) hlt
      have k2 := hcX.at (i := k) (by rw [hP.len]; omega)
      have k3 := (hF.wr hwr (hcS.lt (by omega))) k (by omega)
      have b1 := nth_bd hW k
      have b2 := nth_bd hP.wd k
      have R : Hid _ := subp_step hP hW hlt (by omega) h0 h1 f0 f1 HV.out
      have e1 := hiw_bd b1.1 b1.2 f0 f1
      have e2 := low_bd (nth W k) f
      have e3 : 0 ≤ (low (nth W k) f + c) % 18446744073709551616 := by omega
      have e3' : (low (nth W k) f + c) % 18446744073709551616 < 18446744073709551616 := by omega
      have e4 : hiw (nth W k) f + (low (nth W k) f + c) / 18446744073709551616 + bor (nth X k) ((low (nth W k) f + c) % 18446744073709551616) < 18446744073709551616 := (sp_bd (nth X k) b1.1 b1.2 f0 f1 h0 h1 b2.1).2
      have e5 := bor_bd (nth X k) ((low (nth W k) f + c) % 18446744073709551616)
      go_wp2_with (first | (go_at_call 124; refine (mul64 _ _ _ b1.1 b1.2 f0 f1).mono ?_; rintro e w' ⟨rfl, rfl⟩) | simp only [add64_0 _ _ e2.1 h0] | simp only [sub64_0 _ _ b2.1 b2.2 e3 e3'])
      go_roundw
      case rel => exact ⟨k + 1, spHigh (nth W k) f c + bor (nth X k) (spLow (nth W k) f c), _, by omega, by go_num, rfl, R.out.2.1, e4, R.out.1, R.out.2.2, hcX.set k (by rw [hP.len]; omega) _, hwr.setCell _ (by omega) _⟩
      case measure => simp [intOf]; omega
    · have ek : k = W.length := by omega
      subst ek
      have R : Hid (val X - pw S.length * c = val S - val W * f) := by
        have := HV.out
        have h5 := hP.len
        rw [List.take_length, HL.out, List.take_length] at this
        rw [← h5, List.take_length] at this
        rw [← h5]; exact this
      go_wp2
      go_ret
      exact ⟨X, c, rfl, h0, h1, hP.len, hP.wd, R.out, hcX, hwr⟩

theorem guess_pos {g d0 l r0 : Int} (h : l * 18446744073709551616 + r0 < g * d0) (g0 : 0 ≤ g) (l0 : 0 ≤ l) (r : 0 ≤ r0) : 1 ≤ g := by
  by_cases hz : g = 0
  · subst hz; simp at h; omega
  · omega
/-- The guess, step by step. -/
def gF (d1 d0 r0 : Int) : Nat → Int → Int → Int
  | 0, g, _ => g
  | n + 1, g, l => if g * d0 ≤ l * 18446744073709551616 + r0 then g else if 18446744073709551616 ≤ l + d1 then g - 1 else gF d1 d0 r0 n (g - 1) (l + d1)
theorem gF_stop {d1 d0 r0 g l : Int} (h : g * d0 ≤ l * 18446744073709551616 + r0) : gF d1 d0 r0 g.toNat g l = g := by
  cases e : g.toNat with
  | zero => rfl
  | succ n => simp [gF, h]
theorem gF_brk {d1 d0 r0 g l : Int} (g1 : 1 ≤ g) (h : l * 18446744073709551616 + r0 < g * d0) (h2 : 18446744073709551616 ≤ l + d1) : gF d1 d0 r0 g.toNat g l = g - 1 := by
  obtain ⟨n, hn⟩ : ∃ n, g.toNat = n + 1 := ⟨g.toNat - 1, by omega⟩
  rw [hn, gF, if_neg (by omega), if_pos h2]
theorem gF_step {d1 d0 r0 g l : Int} (g1 : 1 ≤ g) (h : l * 18446744073709551616 + r0 < g * d0) (h2 : l + d1 < 18446744073709551616) : gF d1 d0 r0 g.toNat g l = gF d1 d0 r0 (g - 1).toNat (g - 1) (l + d1) := by
  obtain ⟨n, hn⟩ : ∃ n, g.toNat = n + 1 := ⟨g.toNat - 1, by omega⟩
  have e : (g - 1).toNat = n := by omega
  rw [hn, e, gF, if_neg (by omega), if_neg (by omega)]
theorem gF_spec {d1 d0 r2 r1 r0 : Int} (b1 : 0 < d1) (b0 : 0 ≤ d0) (a0 : 0 ≤ r0) : ∀ (n : Nat) (g l : Int), g.toNat = n → 0 ≤ g → g < 18446744073709551616 → 0 ≤ l → g * d1 + l = r2 * 18446744073709551616 + r1 → (∀ q, q * (d1 * 18446744073709551616 + d0) ≤ (r2 * 18446744073709551616 + r1) * 18446744073709551616 + r0 → q ≤ g) →
    0 ≤ gF d1 d0 r0 n g l ∧ gF d1 d0 r0 n g l < 18446744073709551616 ∧ (∀ q, q * (d1 * 18446744073709551616 + d0) ≤ (r2 * 18446744073709551616 + r1) * 18446744073709551616 + r0 → q ≤ gF d1 d0 r0 n g l) := by
  intro n
  induction n with
  | zero => intro g l _ g0 g1 _ _ hq; exact ⟨g0, g1, hq⟩
  | succ n ih =>
    intro g l hn g0 g1 l0 he hq
    rw [gF]
    by_cases c : g * d0 ≤ l * 18446744073709551616 + r0
    · rw [if_pos c]; exact ⟨g0, g1, hq⟩
    · rw [if_neg c]
      have hc : l * 18446744073709551616 + r0 < g * d0 := by omega
      have gp := guess_pos hc g0 l0 a0
      have hq' : ∀ q, q * (d1 * 18446744073709551616 + d0) ≤ (r2 * 18446744073709551616 + r1) * 18446744073709551616 + r0 → q ≤ g - 1 := fun q h2 => by
        have e : 18446744073709551616 * l = l * 18446744073709551616 := Int.mul_comm _ _
        exact est_down (b := 18446744073709551616) (by omega) he h2 (by omega)
      by_cases c2 : 18446744073709551616 ≤ l + d1
      · rw [if_pos c2]; exact ⟨by omega, by omega, hq'⟩
      · rw [if_neg c2]
        exact ih (g - 1) (l + d1) (by omega) (by omega) (by omega) (by omega) (by grind) hq'
/-- whole.guessWord's answer. -/
def guessF (r2 r1 r0 d1 d0 : Int) : Int :=
  if d1 ≤ r2 then 18446744073709551615 else gF d1 d0 r0 ((r2 * 18446744073709551616 + r1) / d1).toNat ((r2 * 18446744073709551616 + r1) / d1) ((r2 * 18446744073709551616 + r1) % d1)
theorem guessF_spec {r2 r1 r0 d1 d0 : Int} (a2 : 0 ≤ r2) (a1 : 0 ≤ r1 ∧ r1 < 18446744073709551616) (a0 : 0 ≤ r0 ∧ r0 < 18446744073709551616) (b1 : 0 < d1) (b0 : 0 ≤ d0) :
    0 ≤ guessF r2 r1 r0 d1 d0 ∧ guessF r2 r1 r0 d1 d0 < 18446744073709551616 ∧ (∀ q, 0 ≤ q → q < 18446744073709551616 → q * (d1 * 18446744073709551616 + d0) ≤ (r2 * 18446744073709551616 + r1) * 18446744073709551616 + r0 → q ≤ guessF r2 r1 r0 d1 d0) := by
  unfold guessF
  split
  · exact ⟨by omega, by omega, fun q _ h _ => by omega⟩
  · have hN : 0 ≤ r2 * 18446744073709551616 + r1 := by omega
    have hq : ∀ q, q * (d1 * 18446744073709551616 + d0) ≤ (r2 * 18446744073709551616 + r1) * 18446744073709551616 + r0 → q ≤ (r2 * 18446744073709551616 + r1) / d1 := by
      intro q hq
      by_cases c : 0 ≤ q
      · exact est_start (b := 18446744073709551616) (by omega) b1 b0 a0.2 c hq
      · have := Int.ediv_nonneg hN (show 0 ≤ d1 by omega); omega
    have := gF_spec (r2 := r2) (r1 := r1) b1 b0 a0.1 _ _ _ rfl (Int.ediv_nonneg hN (by omega)) (by refine Int.ediv_lt_of_lt_mul b1 ?_; omega) (Int.emod_nonneg _ (by omega)) (divmod_eq _ _).symm hq
    exact ⟨this.1, this.2.1, fun q _ _ h => this.2.2 q h⟩

set_option maxHeartbeats 800000 in
/-- whole.guessWord. -/
theorem guess_any (r2 r1 r0 d1 d0 : Int) (w : World) (a2 : 0 ≤ r2 ∧ r2 < 18446744073709551616) (a1 : 0 ≤ r1 ∧ r1 < 18446744073709551616) (a0 : 0 ≤ r0 ∧ r0 < 18446744073709551616) (b1 : 0 < d1 ∧ d1 < 18446744073709551616) (b0 : 0 ≤ d0 ∧ d0 < 18446744073709551616) :
    Calls Tryz.prog 152 #[.int .u64 r2, .int .u64 r1, .int .u64 r0, .int .u64 d1, .int .u64 d0] w fun e w' => e = .returned (.int .u64 (guessF r2 r1 r0 d1 d0)) ∧ ∃ n, w' = w.drewN n := by
  by_cases hge : d1 ≤ r2
  · have R : Hid (guessF r2 r1 r0 d1 d0 = 18446744073709551615) := if_pos hge
    go_enter Tryz.func152, Tryz.ntmps152
    go_wp2
    go_ret
    exact ⟨by rw [R.out]; rfl, 0, rfl⟩
  · have hlt : ¬ d1 ≤ r2 := hge
    have hlt2 : r2 < d1 := by omega
    have R : Hid (guessF r2 r1 r0 d1 d0 = gF d1 d0 r0 ((r2 * 18446744073709551616 + r1) / d1).toNat ((r2 * 18446744073709551616 + r1) / d1) ((r2 * 18446744073709551616 + r1) % d1)) := if_neg hge
    obtain ⟨G, hG⟩ : ∃ G, G = guessF r2 r1 r0 d1 d0 := ⟨_, rfl⟩
    rw [← hG] at R ⊢
    clear hG
    go_enter Tryz.func152, Tryz.ntmps152
    go_wp2_with (go_at_call 140; refine (Div64_any _ _ _ _ a2.1 hlt2 a1.1 a1.2 b1.2).mono ?_; rintro e w' ⟨g0, l0, rfl, he, p0, p1, p2, p3, m, rfl⟩; have HE : Hid (g0 * d1 + l0 = r2 * 18446744073709551616 + r1) := he; clear he)
    have start : Hid (gF d1 d0 r0 g0.toNat g0 l0 = G) := by
      have h2 : (r2 * 18446744073709551616 + r1) / d1 = g0 := by
        rw [← HE.out, Int.add_comm, Int.add_mul_ediv_right _ _ (by omega), Int.ediv_eq_zero_of_lt p0 p1]; omega
      have h3 : (r2 * 18446744073709551616 + r1) % d1 = l0 := by
        have := divmod_eq (r2 * 18446744073709551616 + r1) d1
        rw [h2] at this; have := HE.out; omega
      have := R.out
      rw [h2, h3] at this
      exact this.symm
    go_loop [11, 12] (fun a b => ∃ g l : Int, a = .int .u64 g ∧ b = .int .u64 l ∧ 0 ≤ g ∧ g < 18446744073709551616 ∧ 0 ≤ l ∧ l < 18446744073709551616 ∧ gF d1 d0 r0 g.toNat g l = G) (fun a _ => (intOf a).toNat)
    case atStart => exact ⟨_, _, rfl, rfl, p2, p3, p0, by omega, start.out⟩
    case round =>
      clear p0 p1 p2 p3 start HE R
      obtain ⟨g, l, rfl, rfl, p0, p1, p2, p3, hg⟩ := hrel
      have HG : Hid (gF d1 d0 r0 g.toNat g l = G) := hg
      clear hg
      have e1 := hiw_bd p0 p1 b0.1 b0.2
      have e2 := low_bd g d0
      have e3 := hilo g d0
      have E3 : Hid (low g d0 + 18446744073709551616 * hiw g d0 = g * d0) := e3
      clear e3
      by_cases c1 : hiw g d0 < l
      · have hs : Hid (g * d0 ≤ l * 18446744073709551616 + r0) := by have := E3.out; show _ ≤ _; omega
        go_wp2_with (go_at_call 124; refine (mul64 _ _ _ p0 p1 b0.1 b0.2).mono ?_; rintro e w' ⟨rfl, rfl⟩)
        go_ret
        exact ⟨by rw [← HG.out, gF_stop hs.out]; rfl, m, rfl⟩
      · by_cases c2 : hiw g d0 = l
        · by_cases c3 : low g d0 ≤ r0
          · have hs : Hid (g * d0 ≤ l * 18446744073709551616 + r0) := by have := E3.out; show _ ≤ _; omega
            go_wp2_with (go_at_call 124; refine (mul64 _ _ _ p0 p1 b0.1 b0.2).mono ?_; rintro e w' ⟨rfl, rfl⟩)
            go_ret
            exact ⟨by rw [← HG.out, gF_stop hs.out]; rfl, m, rfl⟩
          · have hd : Hid (l * 18446744073709551616 + r0 < g * d0) := by have := E3.out; show _ < _; omega
            have g1 : 1 ≤ g := guess_pos hd.out p0 p2 a0.1
            by_cases ov : l + d1 < 18446744073709551616
            · go_wp2_with (go_at_call 124; refine (mul64 _ _ _ p0 p1 b0.1 b0.2).mono ?_; rintro e w' ⟨rfl, rfl⟩)
              go_round
              case rel => exact ⟨g - 1, l + d1, rfl, rfl, by omega, by omega, by omega, ov, (gF_step g1 hd.out ov).symm.trans HG.out⟩
              case measure => simp [intOf]; omega
            · have hwp : IntKind.u64.wrap (l + d1) = l + d1 - 18446744073709551616 := by rw [wrap_u64]; omega
              go_wp2_with (go_at_call 124; refine (mul64 _ _ _ p0 p1 b0.1 b0.2).mono ?_; rintro e w' ⟨rfl, rfl⟩)
              go_ret
              exact ⟨by rw [← HG.out, gF_brk g1 hd.out (by omega)]; rfl, m, rfl⟩
        · have c2' : (hiw g d0 == l) = false := by rw [beq_eq_false_iff_ne]; exact c2
          have hd : Hid (l * 18446744073709551616 + r0 < g * d0) := by have := E3.out; show _ < _; omega
          have g1 : 1 ≤ g := guess_pos hd.out p0 p2 a0.1
          by_cases ov : l + d1 < 18446744073709551616
          · go_wp2_with (go_at_call 124; refine (mul64 _ _ _ p0 p1 b0.1 b0.2).mono ?_; rintro e w' ⟨rfl, rfl⟩)
            go_round
            case rel => exact ⟨g - 1, l + d1, rfl, rfl, by omega, by omega, by omega, ov, (gF_step g1 hd.out ov).symm.trans HG.out⟩
            case measure => simp [intOf]; omega
          · have hwp : IntKind.u64.wrap (l + d1) = l + d1 - 18446744073709551616 := by rw [wrap_u64]; omega
            go_wp2_with (go_at_call 124; refine (mul64 _ _ _ p0 p1 b0.1 b0.2).mono ?_; rintro e w' ⟨rfl, rfl⟩)
            go_ret
            exact ⟨by rw [← HG.out, gF_brk g1 hd.out (by omega)]; rfl, m, rfl⟩
end Go.Proofs.YtfalncbcomlelaaGreatDoor
