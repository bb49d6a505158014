import Derived.Test.YtejfnplhimfchaaGreatDoorPart07
import Derived.Test.YtejfnplhimfchaaGreatDoorPart09
import Derived.Deep.RegionWith
import Derived.Deep.RegionHeld3
import Derived.BigRegion

namespace Go.Proofs.YtejfnplhimfchaaGreatDoor
open Go.RowKit Tn

/-- What a product, a word and a carry come to: the words. -/
def apLow (x y s c : Int) : Int := (low x y + s + c) % 18446744073709551616
def apHigh (x y s c : Int) : Int := hiw x y + (low x y + s) / 18446744073709551616 + ((low x y + s) % 18446744073709551616 + c) / 18446744073709551616
theorem ap_eq (x y s c : Int) : apLow x y s c + 18446744073709551616 * apHigh x y s c = x * y + s + c := by
  have := hilo x y; unfold apLow apHigh; omega
theorem ap_bd {x y s c : Int} (x0 : 0 ≤ x) (x1 : x < 18446744073709551616) (y0 : 0 ≤ y) (y1 : y < 18446744073709551616) (s0 : 0 ≤ s) (s1 : s < 18446744073709551616) (c0 : 0 ≤ c) (c1 : c < 18446744073709551616) : 0 ≤ apHigh x y s c ∧ apHigh x y s c < 18446744073709551616 := by
  have e := ap_eq x y s c
  have h := mul_hi (M := 18446744073709551615) x0 (by omega) y0 (by omega)
  have : 0 ≤ apLow x y s c ∧ apLow x y s c < 18446744073709551616 := by unfold apLow; omega
  omega
theorem prod_step {X S W : List Int} {k : Nat} {c f : Int} (h : Part X S k) (hW : Wd W) (hk : k < W.length) (hk' : k < S.length) (h0 : 0 ≤ c) (h1 : c < 18446744073709551616) (f0 : 0 ≤ f) (f1 : f < 18446744073709551616) (hv : val (X.take k) + pw k * c = val (S.take k) + val (W.take k) * f) :
    Part (X.set k (apLow (nth W k) f (nth X k) c)) S (k + 1) ∧ 0 ≤ apHigh (nth W k) f (nth X k) c ∧ apHigh (nth W k) f (nth X k) c < 18446744073709551616 ∧
    val ((X.set k (apLow (nth W k) f (nth X k) c)).take (k + 1)) + pw (k + 1) * apHigh (nth W k) f (nth X k) c = val (S.take (k + 1)) + val (W.take (k + 1)) * f := by
  have b1 := nth_bd hW k
  have b2 := nth_bd h.wd k
  have b3 := ap_bd b1.1 b1.2 f0 f1 b2.1 b2.2 h0 h1
  refine ⟨h.step (by unfold apLow; omega) (by unfold apLow; omega), b3.1, b3.2, ?_⟩
  rw [h.val hk', val_at S k hk', val_at W k hk, h.nth]
  have e := ap_eq (nth W k) f (nth S k) c
  simp only [pw]
  grind

set_option maxHeartbeats 800000 in
/-- whole.addProduct. -/
theorem addProduct_any (b o cap n : Nat) (S : List Int) (a : Option Addr) (cap2 : Nat) (W : List Int) (f : Int) (w : World) (en : n = S.length) (hS : Wd S) (hW : Wd W) (hl : W.length = S.length) (f0 : 0 ≤ f) (f1 : f < 18446744073709551616) (hL : S.length ≤ 1099511627776) (hcS : Cells w b o S) (hF : Free w b o S.length)
    (ha : 0 < W.length → ∃ b2 o2, a = some ⟨b2, o2, none⟩ ∧ b2 ≠ b ∧ Cells w b2 o2 W) :
    Calls Tryz.prog 92 #[.slice (some ⟨b, o, none⟩) n cap, .slice a W.length cap2, .int .u64 f] w fun e w' => ∃ S' c, e = .returned (.int .u64 c) ∧ 0 ≤ c ∧ c < 18446744073709551616 ∧ S'.length = S.length ∧ Wd S' ∧ val S' + pw S.length * c = val S + val W * f ∧ Cells w' b o S' ∧ Wr b o S.length w w' := by
  subst en
  have HL : Hid (W.length = S.length) := hl
  have hl2 : W.length ≤ S.length := by omega
  clear hl
  go_enter Tryz.func92, Tryz.ntmps92
  go_wp2
  go_loopw [7, 15] (fun t i wr => ∃ (k : Nat) (c : Int) (X : List Int), k ≤ W.length ∧ i = .int .i64 k ∧ t = .int .u64 c ∧ 0 ≤ c ∧ c < 18446744073709551616 ∧ Part X S k ∧ val (X.take k) + pw k * c = val (S.take k) + val (W.take k) * f ∧ Cells wr b o X ∧ Wr b o S.length w wr) (fun _ i _ => W.length - (intOf i).toNat)
  case atStart => exact ⟨0, 0, S, Nat.zero_le _, rfl, rfl, by omega, by omega, Part.refl hS 0, by simp [val, pw], hcS, Wr.refl _ _ _ _⟩
  case round =>
    obtain ⟨k, c, X, hk, rfl, rfl, h0, h1, hP, hv, hcX, hwr⟩ := hrel
    have HV : Hid (val (X.take k) + pw k * c = val (S.take k) + val (W.take k) * f) := hv
    clear hv
    by_cases hlt : k < W.length
    · obtain ⟨b2, o2, rfl, hne, hcW⟩ := ha (by omega)
      have k1 := (hcW.other hwr hne).at (i := k) hlt
      have k2 := hcX.at (i := k) (by rw [hP.len]; omega)
      have k3 := (hF.wr hwr (hcS.lt (by omega))) k (by omega)
      have b1 := nth_bd hW k
      have b2 := nth_bd hP.wd k
      have R : Hid _ := prod_step hP hW hlt (by omega) h0 h1 f0 f1 HV.out
      have e1 := hiw_bd b1.1 b1.2 f0 f1
      have e2 := low_bd (nth W k) f
      have e3 : 0 ≤ (low (nth W k) f + nth X k) % 18446744073709551616 := by omega
      have e4 : hiw (nth W k) f + (low (nth W k) f + nth X k) / 18446744073709551616 + ((low (nth W k) f + nth X k) % 18446744073709551616 + c) / 18446744073709551616 < 18446744073709551616 := (ap_bd b1.1 b1.2 f0 f1 b2.1 b2.2 h0 h1).2
      go_wp2_with (first | (go_at_call 88; refine (mul64 _ _ _ b1.1 b1.2 f0 f1).mono ?_; rintro e w' ⟨rfl, rfl⟩) | simp only [add64_0 _ _ e2.1 b2.1] | simp only [add64_0 _ _ e3 h0])
      go_roundw
      case rel => exact ⟨k + 1, apHigh (nth W k) f (nth X k) c, _, by omega, by go_num, rfl, R.out.2.1, R.out.2.2.1, R.out.1, R.out.2.2.2, hcX.set k (by rw [hP.len]; omega) _, hwr.setCell _ (by omega) _⟩
      case measure => simp [intOf]; omega
    · have ek : k = W.length := by omega
      subst ek
      have R : Hid (val X + pw S.length * c = val S + val W * f) := by
        have := HV.out
        have h5 := hP.len
        rw [List.take_length, HL.out, List.take_length] at this
        rw [← h5, List.take_length] at this
        rw [← h5]; exact this
      go_wp2
      go_ret
      exact ⟨X, c, rfl, h0, h1, hP.len, hP.wd, R.out, hcX, hwr⟩
end Go.Proofs.YtejfnplhimfchaaGreatDoor

namespace Go.Proofs.YtejfnplhimfchaaGreatDoor
open Go.RowKit Tn

theorem drop_set_here (X : List Int) (k : Nat) (v : Int) (h : k < X.length) : (X.set k v).drop k = v :: X.drop (k + 1) := by
  rw [drop_getD _ k (by simpa using h), drop_set_succ]
  congr 1
  exact nth_set_same X k v h
theorem take_set_le (X : List Int) (k j : Nat) (v : Int) (h : j ≤ k) : (X.set k v).take j = X.take j := by
  rw [List.take_set]; exact List.set_eq_of_length_le (by simp; omega)

set_option maxHeartbeats 800000 in
/-- whole.divideByWord. -/
theorem divWord_any (b o cap n : Nat) (S : List Int) (d : Int) (w : World) (en : n = S.length) (hS : Wd S) (d0 : 0 < d) (d1 : d < 18446744073709551616) (hL : S.length ≤ 1099511627776) (hcS : Cells w b o S) (hF : Free w b o S.length) :
    Calls Tryz.prog 77 #[.slice (some ⟨b, o, none⟩) n cap, .int .u64 d] w fun e w' => ∃ S' r, e = .returned (.int .u64 r) ∧ 0 ≤ r ∧ r < d ∧ S'.length = S.length ∧ Wd S' ∧ val S' * d + r = val S ∧ Cells w' b o S' ∧ Wr b o S.length w w' := by
  subst en
  go_enter Tryz.func77, Tryz.ntmps77
  go_wp2
  go_loopw [5, 10] (fun t i wr => ∃ (k : Nat) (r : Int) (X : List Int), k ≤ S.length ∧ i = .int .i64 k ∧ t = .int .u64 r ∧ 0 ≤ r ∧ r < d ∧ X.length = S.length ∧ Wd X ∧ X.take (S.length - k) = S.take (S.length - k) ∧ val (X.drop (S.length - k)) * d + r = val (S.drop (S.length - k)) ∧ Cells wr b o X ∧ Wr b o S.length w wr) (fun _ i _ => S.length - (intOf i).toNat)
  case atStart => exact ⟨0, 0, S, Nat.zero_le _, rfl, rfl, by omega, d0, rfl, hS, rfl, by simp [val], hcS, Wr.refl _ _ _ _⟩
  case round =>
    obtain ⟨k, r, X, hk, rfl, rfl, h0, h1, hX, hwX, ht, hv, hcX, hwr⟩ := hrel
    have HV : Hid (val (X.drop (S.length - k)) * d + r = val (S.drop (S.length - k))) := hv
    have HT : Hid (X.take (S.length - k) = S.take (S.length - k)) := ht
    have HX : Hid (X.length = S.length) := hX
    clear hv ht hX
    by_cases hlt : k < S.length
    · have k2 := hcX.at (i := S.length - 1 - k) (by have := HX.out; omega)
      have k3 := (hF.wr hwr (hcS.lt (by omega))) (S.length - 1 - k) (by omega)
      have b2 := nth_bd hwX (S.length - 1 - k)
      go_wp2_with (go_at_call 95; refine (Div64_any _ _ _ _ h0 h1 b2.1 b2.2 d1).mono ?_; rintro e w' ⟨q, r', rfl, he, r0, r1, q0, q1, m, rfl⟩; have HE : Hid (q * d + r' = r * 18446744073709551616 + nth X (S.length - 1 - k)) := he; clear he)
      go_roundw
      case rel =>
        refine ⟨k + 1, r', X.set (S.length - 1 - k) q, by omega, by go_num, rfl, r0, r1, by rw [List.length_set]; exact HX.out, hwX.set _ q0 q1, ?_, ?_, hcX.set _ (by have := HX.out; omega) q, (hwr.drewN m).setCell _ (by omega) _⟩
        · rw [take_set_le _ _ _ _ (by omega)]
          have := congrArg (List.take (S.length - (k + 1))) HT.out
          rwa [List.take_take, List.take_take, Nat.min_eq_left (by omega)] at this
        · have e1 : S.length - (k + 1) = S.length - 1 - k := by omega
          have e2 : S.length - k = S.length - 1 - k + 1 := by omega
          rw [e1, drop_set_here _ _ _ (by have := HX.out; omega), drop_getD S _ (by omega), ← e2]
          have e3 : nth X (S.length - 1 - k) = nth S (S.length - 1 - k) := by
            have := congrArg (fun l => nth l (S.length - 1 - k)) HT.out
            rwa [nth_take _ _ _ (by omega), nth_take _ _ _ (by omega)] at this
          have e4 := HE.out
          have e5 := HV.out
          rw [e3] at e4
          unfold nth at e4
          simp only [val]
          grind
      case measure => simp [intOf]; omega
    · have R : Hid (val X * d + r = val S) := by
        have ek : S.length - k = 0 := by omega
        have := HV.out
        rwa [ek, List.drop_zero, List.drop_zero] at this
      go_wp2
      go_ret
      exact ⟨X, r, rfl, h0, h1, HX.out, hwX, R.out, hcX, hwr⟩

/-- What a product takes away: the words. -/
def spLow (x y c : Int) : Int := (low x y + c) % 18446744073709551616
def spHigh (x y c : Int) : Int := hiw x y + (low x y + c) / 18446744073709551616
theorem sp_eq (x y c : Int) : spLow x y c + 18446744073709551616 * spHigh x y c = x * y + c := by
  have := hilo x y; unfold spLow spHigh; omega
theorem sp_low (x y c : Int) : 0 ≤ spLow x y c ∧ spLow x y c < 18446744073709551616 := by unfold spLow; omega
theorem sp_bd {x y c : Int} (s : Int) (x0 : 0 ≤ x) (x1 : x < 18446744073709551616) (y0 : 0 ≤ y) (y1 : y < 18446744073709551616) (c0 : 0 ≤ c) (c1 : c < 18446744073709551616) (s0 : 0 ≤ s) : 0 ≤ spHigh x y c ∧ spHigh x y c + bor s (spLow x y c) < 18446744073709551616 := by
  have e := sp_eq x y c
  have h := mul_hi (M := 18446744073709551615) x0 (by omega) y0 (by omega)
  have l := sp_low x y c
  unfold bor; split <;> omega
theorem subp_step {X S W : List Int} {k : Nat} {c f : Int} (h : Part X S k) (hW : Wd W) (hk : k < W.length) (hk' : k < S.length) (h0 : 0 ≤ c) (h1 : c < 18446744073709551616) (f0 : 0 ≤ f) (f1 : f < 18446744073709551616) (hv : val (X.take k) - pw k * c = val (S.take k) - val (W.take k) * f) :
    Part (X.set k (nth X k - spLow (nth W k) f c + 18446744073709551616 * bor (nth X k) (spLow (nth W k) f c))) S (k + 1) ∧ 0 ≤ spHigh (nth W k) f c + bor (nth X k) (spLow (nth W k) f c) ∧
    val ((X.set k (nth X k - spLow (nth W k) f c + 18446744073709551616 * bor (nth X k) (spLow (nth W k) f c))).take (k + 1)) - pw (k + 1) * (spHigh (nth W k) f c + bor (nth X k) (spLow (nth W k) f c)) = val (S.take (k + 1)) - val (W.take (k + 1)) * f := by
  have b1 := nth_bd hW k
  have b2 := nth_bd h.wd k
  have b3 := sp_bd (nth X k) b1.1 b1.2 f0 f1 h0 h1 b2.1
  have b4 := bor_word (x := nth X k) (y := spLow (nth W k) f c) (b := 0) b2 (sp_low _ _ _) ⟨by omega, by omega⟩
  simp only [Int.sub_zero, Int.add_zero] at b4
  refine ⟨h.step b4.1 b4.2, by have := (bor_bd (nth X k) (spLow (nth W k) f c)).1; omega, ?_⟩
  rw [h.val hk', val_at S k hk', val_at W k hk, h.nth]
  have e := sp_eq (nth W k) f c
  simp only [pw]
  grind

set_option maxHeartbeats 800000 in
/-- whole.subProduct. -/
theorem subProduct_any (b o cap n : Nat) (S : List Int) (b2 o2 cap2 m : Nat) (W : List Int) (f : Int) (w : World) (en : n = S.length) (em : m = W.length) (hS : Wd S) (hW : Wd W) (hl : W.length = S.length) (f0 : 0 ≤ f) (f1 : f < 18446744073709551616) (hL : S.length ≤ 1099511627776) (hcS : Cells w b o S) (hF : Free w b o S.length) (hne : b2 ≠ b) (hcW : Cells w b2 o2 W) :
    Calls Tryz.prog 107 #[.slice (some ⟨b, o, none⟩) n cap, .slice (some ⟨b2, o2, none⟩) m cap2, .int .u64 f] w fun e w' => ∃ S' c, e = .returned (.int .u64 c) ∧ 0 ≤ c ∧ c < 18446744073709551616 ∧ S'.length = S.length ∧ Wd S' ∧ val S' - pw S.length * c = val S - val W * f ∧ Cells w' b o S' ∧ Wr b o S.length w w' := by
  subst en em
  have HL : Hid (W.length = S.length) := hl
  have hl2 : W.length ≤ S.length := by omega
  clear hl
  go_enter Tryz.func107, Tryz.ntmps107
  go_wp2
  go_loopw [7, 16] (fun t i wr => ∃ (k : Nat) (c : Int) (X : List Int), k ≤ W.length ∧ i = .int .i64 k ∧ t = .int .u64 c ∧ 0 ≤ c ∧ c < 18446744073709551616 ∧ Part X S k ∧ val (X.take k) - pw k * c = val (S.take k) - val (W.take k) * f ∧ Cells wr b o X ∧ Wr b o S.length w wr) (fun _ i _ => W.length - (intOf i).toNat)
  case atStart => exact ⟨0, 0, S, Nat.zero_le _, rfl, rfl, by omega, by omega, Part.refl hS 0, by simp [val], hcS, Wr.refl _ _ _ _⟩
  case round =>
    obtain ⟨k, c, X, hk, rfl, rfl, h0, h1, hP, hv, hcX, hwr⟩ := hrel
    have HV : Hid (val (X.take k) - pw k * c = val (S.take k) - val (W.take k) * f) := hv
    clear hv
    by_cases hlt : k < W.length
    · have k1 := (hcW.other hwr hne).at (i := k) hlt
      have k2 := hcX.at (i := k) (by rw [hP.len]; omega)
      have k3 := (hF.wr hwr (hcS.lt (by omega))) k (by omega)
      have b1 := nth_bd hW k
      have b2 := nth_bd hP.wd k
      have R : Hid _ := subp_step hP hW hlt (by omega) h0 h1 f0 f1 HV.out
      have e1 := hiw_bd b1.1 b1.2 f0 f1
      have e2 := low_bd (nth W k) f
      have e3 : 0 ≤ (low (nth W k) f + c) % 18446744073709551616 := by omega
      have e3' : (low (nth W k) f + c) % 18446744073709551616 < 18446744073709551616 := by omega
      have e4 : hiw (nth W k) f + (low (nth W k) f + c) / 18446744073709551616 + bor (nth X k) ((low (nth W k) f + c) % 18446744073709551616) < 18446744073709551616 := (sp_bd (nth X k) b1.1 b1.2 f0 f1 h0 h1 b2.1).2
      have e5 := bor_bd (nth X k) ((low (nth W k) f + c) % 18446744073709551616)
      go_wp2_with (first | (go_at_call 88; refine (mul64 _ _ _ b1.1 b1.2 f0 f1).mono ?_; rintro e w' ⟨rfl, rfl⟩) | simp only [add64_0 _ _ e2.1 h0] | simp only [sub64_0 _ _ b2.1 b2.2 e3 e3'])
      go_roundw
      case rel => exact ⟨k + 1, spHigh (nth W k) f c + bor (nth X k) (spLow (nth W k) f c), _, by omega, by go_num, rfl, R.out.2.1, e4, R.out.1, R.out.2.2, hcX.set k (by rw [hP.len]; omega) _, hwr.setCell _ (by omega) _⟩
      case measure => simp [intOf]; omega
    · have ek : k = W.length := by omega
      subst ek
      have R : Hid (val X - pw S.length * c = val S - val W * f) := by
        have := HV.out
        have h5 := hP.len
        rw [List.take_length, HL.out, List.take_length] at this
        rw [← h5, List.take_length] at this
        rw [← h5]; exact this
      go_wp2
      go_ret
      exact ⟨X, c, rfl, h0, h1, hP.len, hP.wd, R.out, hcX, hwr⟩

theorem guess_pos {g d0 l r0 : Int} (h : l * 18446744073709551616 + r0 < g * d0) (g0 : 0 ≤ g) (l0 : 0 ≤ l) (r : 0 ≤ r0) : 1 ≤ g := by
  by_cases hz : g = 0
  · subst hz; simp at h; omega
  · omega
/-- The guess, step by step. -/
def gF (d1 d0 r0 : Int) : Nat → Int → Int → Int
  | 0, g, _ => g
  | n + 1, g, l => if g * d0 ≤ l * 18446744073709551616 + r0 then g else if 18446744073709551616 ≤ l + d1 then g - 1 else gF d1 d0 r0 n (g - 1) (l + d1)
theorem gF_stop {d1 d0 r0 g l : Int} (h : g * d0 ≤ l * 18446744073709551616 + r0) : gF d1 d0 r0 g.toNat g l = g := by
  cases e : g.toNat with
  | zero => rfl
  | succ n => simp [gF, h]
theorem gF_brk {d1 d0 r0 g l : Int} (g1 : 1 ≤ g) (h : l * 18446744073709551616 + r0 < g * d0) (h2 : 18446744073709551616 ≤ l + d1) : gF d1 d0 r0 g.toNat g l = g - 1 := by
  obtain ⟨n, hn⟩ : ∃ n, g.toNat = n + 1 := ⟨g.toNat - 1, by omega⟩
  rw [hn, gF, if_neg (by omega), if_pos h2]
theorem gF_step {d1 d0 r0 g l : Int} (g1 : 1 ≤ g) (h : l * 18446744073709551616 + r0 < g * d0) (h2 : l + d1 < 18446744073709551616) : gF d1 d0 r0 g.toNat g l = gF d1 d0 r0 (g - 1).toNat (g - 1) (l + d1) := by
  obtain ⟨n, hn⟩ : ∃ n, g.toNat = n + 1 := ⟨g.toNat - 1, by omega⟩
  have e : (g - 1).toNat = n := by omega
  rw [hn, e, gF, if_neg (by omega), if_neg (by omega)]
theorem gF_spec {d1 d0 r2 r1 r0 : Int} (b1 : 0 < d1) (b0 : 0 ≤ d0) (a0 : 0 ≤ r0) : ∀ (n : Nat) (g l : Int), g.toNat = n → 0 ≤ g → g < 18446744073709551616 → 0 ≤ l → g * d1 + l = r2 * 18446744073709551616 + r1 → (∀ q, q * (d1 * 18446744073709551616 + d0) ≤ (r2 * 18446744073709551616 + r1) * 18446744073709551616 + r0 → q ≤ g) →
    0 ≤ gF d1 d0 r0 n g l ∧ gF d1 d0 r0 n g l < 18446744073709551616 ∧ (∀ q, q * (d1 * 18446744073709551616 + d0) ≤ (r2 * 18446744073709551616 + r1) * 18446744073709551616 + r0 → q ≤ gF d1 d0 r0 n g l) := by
  intro n
  induction n with
  | zero => intro g l _ g0 g1 _ _ hq; exact ⟨g0, g1, hq⟩
  | succ n ih =>
    intro g l hn g0 g1 l0 he hq
    rw [gF]
    by_cases c : g * d0 ≤ l * 18446744073709551616 + r0
    · rw [if_pos c]; exact ⟨g0, g1, hq⟩
    · rw [if_neg c]
      have hc : l * 18446744073709551616 + r0 < g * d0 := by omega
      have gp := guess_pos hc g0 l0 a0
      have hq' : ∀ q, q * (d1 * 18446744073709551616 + d0) ≤ (r2 * 18446744073709551616 + r1) * 18446744073709551616 + r0 → q ≤ g - 1 := fun q h2 => by
        have e : 18446744073709551616 * l = l * 18446744073709551616 := Int.mul_comm _ _
        exact est_down (b := 18446744073709551616) (by omega) he h2 (by omega)
      by_cases c2 : 18446744073709551616 ≤ l + d1
      · rw [if_pos c2]; exact ⟨by omega, by omega, hq'⟩
      · rw [if_neg c2]
        exact ih (g - 1) (l + d1) (by omega) (by omega) (by omega) (by omega) (by grind) hq'
/-- whole.guessWord's answer. -/
def guessF (r2 r1 r0 d1 d0 : Int) : Int :=
  if d1 ≤ r2 then 18446744073709551615 else gF d1 d0 r0 ((r2 * 18446744073709551616 + r1) / d1).toNat ((r2 * 18446744073709551616 + r1) / d1) ((r2 * 18446744073709551616 + r1) % d1)
theorem guessF_spec {r2 r1 r0 d1 d0 : Int} (a2 : 0 ≤ r2) (a1 : 0 ≤ r1 ∧ r1 < 18446744073709551616) (a0 : 0 ≤ r0 ∧ r0 < 18446744073709551616) (b1 : 0 < d1) (b0 : 0 ≤ d0) :
    0 ≤ guessF r2 r1 r0 d1 d0 ∧ guessF r2 r1 r0 d1 d0 < 18446744073709551616 ∧ (∀ q, 0 ≤ q → q < 18446744073709551616 → q * (d1 * 18446744073709551616 + d0) ≤ (r2 * 18446744073709551616 + r1) * 18446744073709551616 + r0 → q ≤ guessF r2 r1 r0 d1 d0) := by
  unfold guessF
  split
  · exact ⟨by omega, by omega, fun q _ h _ => by omega⟩
  · have hN : 0 ≤ r2 * 18446744073709551616 + r1 := by omega
    have hq : ∀ q, q * (d1 * 18446744073709551616 + d0) ≤ (r2 * 18446744073709551616 + r1) * 18446744073709551616 + r0 → q ≤ (r2 * 18446744073709551616 + r1) / d1 := by
      intro q hq
      by_cases c : 0 ≤ q
      · exact est_start (b := 18446744073709551616) (by omega) b1 b0 a0.2 c hq
      · have := Int.ediv_nonneg hN (show 0 ≤ d1 by omega); omega
    have := gF_spec (r2 := r2) (r1 := r1) b1 b0 a0.1 _ _ _ rfl (Int.ediv_nonneg hN (by omega)) (by refine Int.ediv_lt_of_lt_mul b1 ?_; omega) (Int.emod_nonneg _ (by omega)) (divmod_eq _ _).symm hq
    exact ⟨this.1, this.2.1, fun q _ _ h => this.2.2 q h⟩

set_option maxHeartbeats 800000 in
/-- whole.guessWord. -/
theorem guess_any (r2 r1 r0 d1 d0 : Int) (w : World) (a2 : 0 ≤ r2 ∧ r2 < 18446744073709551616) (a1 : 0 ≤ r1 ∧ r1 < 18446744073709551616) (a0 : 0 ≤ r0 ∧ r0 < 18446744073709551616) (b1 : 0 < d1 ∧ d1 < 18446744073709551616) (b0 : 0 ≤ d0 ∧ d0 < 18446744073709551616) :
    Calls Tryz.prog 106 #[.int .u64 r2, .int .u64 r1, .int .u64 r0, .int .u64 d1, .int .u64 d0] w fun e w' => e = .returned (.int .u64 (guessF r2 r1 r0 d1 d0)) ∧ ∃ n, w' = w.drewN n := by
  by_cases hge : d1 ≤ r2
  · have R : Hid (guessF r2 r1 r0 d1 d0 = 18446744073709551615) := if_pos hge
    go_enter Tryz.func106, Tryz.ntmps106
    go_wp2
    go_ret
    exact ⟨by rw [R.out]; rfl, 0, rfl⟩
  · have hlt : ¬ d1 ≤ r2 := hge
    have hlt2 : r2 < d1 := by omega
    have R : Hid (guessF r2 r1 r0 d1 d0 = gF d1 d0 r0 ((r2 * 18446744073709551616 + r1) / d1).toNat ((r2 * 18446744073709551616 + r1) / d1) ((r2 * 18446744073709551616 + r1) % d1)) := if_neg hge
    obtain ⟨G, hG⟩ : ∃ G, G = guessF r2 r1 r0 d1 d0 := ⟨_, rfl⟩
    rw [← hG] at R ⊢
    clear hG
    go_enter Tryz.func106, Tryz.ntmps106
    go_wp2_with (go_at_call 95; refine (Div64_any _ _ _ _ a2.1 hlt2 a1.1 a1.2 b1.2).mono ?_; rintro e w' ⟨g0, l0, rfl, he, p0, p1, p2, p3, m, rfl⟩; have HE : Hid (g0 * d1 + l0 = r2 * 18446744073709551616 + r1) := he; clear he)
    have start : Hid (gF d1 d0 r0 g0.toNat g0 l0 = G) := by
      have h2 : (r2 * 18446744073709551616 + r1) / d1 = g0 := by
        rw [← HE.out, Int.add_comm, Int.add_mul_ediv_right _ _ (by omega), Int.ediv_eq_zero_of_lt p0 p1]; omega
      have h3 : (r2 * 18446744073709551616 + r1) % d1 = l0 := by
        have := divmod_eq (r2 * 18446744073709551616 + r1) d1
        rw [h2] at this; have := HE.out; omega
      have := R.out
      rw [h2, h3] at this
      exact this.symm
    go_loop [11, 12] (fun a b => ∃ g l : Int, a = .int .u64 g ∧ b = .int .u64 l ∧ 0 ≤ g ∧ g < 18446744073709551616 ∧ 0 ≤ l ∧ l < 18446744073709551616 ∧ gF d1 d0 r0 g.toNat g l = G) (fun a _ => (intOf a).toNat)
    case atStart => exact ⟨_, _, rfl, rfl, p2, p3, p0, by omega, start.out⟩
    case round =>
      clear p0 p1 p2 p3 start HE R
      obtain ⟨g, l, rfl, rfl, p0, p1, p2, p3, hg⟩ := hrel
      have HG : Hid (gF d1 d0 r0 g.toNat g l = G) := hg
      clear hg
      have e1 := hiw_bd p0 p1 b0.1 b0.2
      have e2 := low_bd g d0
      have e3 := hilo g d0
      have E3 : Hid (low g d0 + 18446744073709551616 * hiw g d0 = g * d0) := e3
      clear e3
      by_cases c1 : hiw g d0 < l
      · have hs : Hid (g * d0 ≤ l * 18446744073709551616 + r0) := by have := E3.out; show _ ≤ _; omega
        go_wp2_with (go_at_call 88; refine (mul64 _ _ _ p0 p1 b0.1 b0.2).mono ?_; rintro e w' ⟨rfl, rfl⟩)
        go_ret
        exact ⟨by rw [← HG.out, gF_stop hs.out]; rfl, m, rfl⟩
      · by_cases c2 : hiw g d0 = l
        · by_cases c3 : low g d0 ≤ r0
          · have hs : Hid (g * d0 ≤ l * 18446744073709551616 + r0) := by have := E3.out; show _ ≤ _; omega
            go_wp2_with (go_at_call 88; refine (mul64 _ _ _ p0 p1 b0.1 b0.2).mono ?_; rintro e w' ⟨rfl, rfl⟩)
            go_ret
            exact ⟨by rw [← HG.out, gF_stop hs.out]; rfl, m, rfl⟩
          · have hd : Hid (l * 18446744073709551616 + r0 < g * d0) := by have := E3.out; show _ < _; omega
            have g1 : 1 ≤ g := guess_pos hd.out p0 p2 a0.1
            by_cases ov : l + d1 < 18446744073709551616
            · go_wp2_with (go_at_call 88; refine (mul64 _ _ _ p0 p1 b0.1 b0.2).mono ?_; rintro e w' ⟨rfl, rfl⟩)
              go_round
              case rel => exact ⟨g - 1, l + d1, rfl, rfl, by omega, by omega, by omega, ov, (gF_step g1 hd.out ov).symm.trans HG.out⟩
              case measure => simp [intOf]; omega
            · have hwp : IntKind.u64.wrap (l + d1) = l + d1 - 18446744073709551616 := by rw [wrap_u64]; omega
              go_wp2_with (go_at_call 88; refine (mul64 _ _ _ p0 p1 b0.1 b0.2).mono ?_; rintro e w' ⟨rfl, rfl⟩)
              go_ret
              exact ⟨by rw [← HG.out, gF_brk g1 hd.out (by omega)]; rfl, m, rfl⟩
        · have c2' : (hiw g d0 == l) = false := by rw [beq_eq_false_iff_ne]; exact c2
          have hd : Hid (l * 18446744073709551616 + r0 < g * d0) := by have := E3.out; show _ < _; omega
          have g1 : 1 ≤ g := guess_pos hd.out p0 p2 a0.1
          by_cases ov : l + d1 < 18446744073709551616
          · go_wp2_with (go_at_call 88; refine (mul64 _ _ _ p0 p1 b0.1 b0.2).mono ?_; rintro e w' ⟨rfl, rfl⟩)
            go_round
            case rel => exact ⟨g - 1, l + d1, rfl, rfl, by omega, by omega, by omega, ov, (gF_step g1 hd.out ov).symm.trans HG.out⟩
            case measure => simp [intOf]; omega
          · have hwp : IntKind.u64.wrap (l + d1) = l + d1 - 18446744073709551616 := by rw [wrap_u64]; omega
            go_wp2_with (go_at_call 88; refine (mul64 _ _ _ p0 p1 b0.1 b0.2).mono ?_; rintro e w' ⟨rfl, rfl⟩)
            go_ret
            exact ⟨by rw [← HG.out, gF_brk g1 hd.out (by omega)]; rfl, m, rfl⟩
end Go.Proofs.YtejfnplhimfchaaGreatDoor

namespace Go.Proofs.YtejfnplhimfchaaGreatDoor
open Go.RowKit Tn

/-- A part of a row rewritten. -/
def spl (X : List Int) (k n : Nat) (S : List Int) : List Int := X.take k ++ (S ++ X.drop (k + n))
theorem spl_len {X S : List Int} {k n : Nat} (h : k + n ≤ X.length) (hS : S.length = n) : (spl X k n S).length = X.length := by simp [spl]; omega
theorem wd_spl {X S : List Int} (h : Wd X) (hS : Wd S) (k n : Nat) : Wd (spl X k n S) := (h.take k).append (hS.append (h.drop _))
theorem Cells.spl {w w2 : World} {b : Nat} {X S : List Int} {k n : Nat} (h : Cells w b 0 X) (hl : k + n ≤ X.length) (hS : S.length = n) (hw : Wr b k n w w2) (hc : Cells w2 b k S) : Cells w2 b 0 (spl X k n S) := by
  refine Cells.append ((h.take k).apart hw (Or.inl (by simp; omega))) ?_
  rw [List.length_take, Nat.min_eq_left (by omega), Nat.zero_add]
  refine Cells.append hc ?_
  have := (h.drop (k + n)).apart hw (Or.inr (by omega))
  rw [Nat.zero_add] at this
  rw [hS]; exact this
theorem val_spl {X S : List Int} {k n : Nat} (hl : k + n ≤ X.length) (hS : S.length = n) : val (spl X k n S) = val X + pw k * (val S - val ((X.drop k).take n)) := by
  have e1 := val_split X k (by omega)
  have e2 := val_split (X.drop k) n (by simp; omega)
  rw [List.drop_drop] at e2
  have h1 : (X.take k).length = k := by simp; omega
  unfold spl
  rw [val_append, val_append, h1, hS, e1, e2]; grind
theorem val_set (X : List Int) (j : Nat) (v : Int) (h : j < X.length) : val (X.set j v) = val X + pw j * (v - nth X j) := by
  have e1 := val_split (X.set j v) (j + 1) (by simp; omega)
  have e2 := val_split X (j + 1) (by omega)
  rw [take_set_succ X j v h, drop_set_succ, val_append, List.length_take, Nat.min_eq_left (by omega)] at e1
  rw [val_at X j h] at e2
  simp only [val] at e1
  grind
theorem nth_spl {X S : List Int} {k n : Nat} (hl : k + n ≤ X.length) (hS : S.length = n) : nth (spl X k n S) (k + n) = nth X (k + n) := by
  have h1 : (X.take k).length = k := by simp; omega
  unfold spl nth
  rw [List.getD_eq_getElem?_getD, List.getElem?_append_right (by omega), List.getElem?_append_right (by omega), List.getElem?_drop, List.getD_eq_getElem?_getD]
  congr 2; omega
theorem nth_zero {X : List Int} {j m : Nat} (h : X.drop j = List.replicate m 0) : nth X j = 0 := by
  have := nth_drop X j 0
  rw [h, nth_replicate] at this
  simpa using this.symm
theorem drop_spl_set {X S : List Int} {k n j : Nat} {v : Int} (hl : k + n ≤ X.length) (hS : S.length = n) (hj : j = k + n) : ((spl X k n S).set j v).drop (j + 1) = X.drop (j + 1) := by
  subst hj
  rw [drop_set_succ]
  have h1 : (X.take k).length = k := by simp; omega
  unfold spl
  rw [List.drop_append, List.drop_append, List.drop_drop, h1, hS]
  rw [List.drop_of_length_le (by omega), List.drop_of_length_le (by omega)]
  simp; congr 1; omega
theorem mul_round {X xs ys S' : List Int} {k : Nat} {c : Int} (hy : k < ys.length) (hl : X.length = xs.length + ys.length) (hw : Wd X) (hd : X.drop (xs.length + k) = List.replicate (ys.length - k) 0) (hv : val X = val xs * val (ys.take k))
    (hS : S'.length = xs.length) (hwS : Wd S') (c0 : 0 ≤ c) (c1 : c < 18446744073709551616) (hs : val S' + pw xs.length * c = val ((X.drop k).take xs.length) + val xs * nth ys k) :
    ((spl X k xs.length S').set (k + xs.length) c).length = xs.length + ys.length ∧ Wd ((spl X k xs.length S').set (k + xs.length) c) ∧ ((spl X k xs.length S').set (k + xs.length) c).drop (xs.length + (k + 1)) = List.replicate (ys.length - (k + 1)) 0 ∧ val ((spl X k xs.length S').set (k + xs.length) c) = val xs * val (ys.take (k + 1)) := by
  have h1 : k + xs.length ≤ X.length := by omega
  have h2 := spl_len (S := S') h1 hS
  refine ⟨by simp; omega, (wd_spl hw hwS k _).set _ c0 c1, ?_, ?_⟩
  · rw [show xs.length + (k + 1) = (k + xs.length) + 1 from by omega, drop_spl_set h1 hS rfl]
    have := congrArg (List.drop 1) hd
    rw [List.drop_drop, List.drop_replicate] at this
    rw [show k + xs.length + 1 = xs.length + k + 1 from by omega, this]
    congr 1
  · rw [val_set _ _ _ (by omega), val_spl h1 hS, nth_spl h1 hS, show k + xs.length = xs.length + k from by omega, nth_zero hd, val_at ys k hy, hv, pw_add]
    grind

set_option maxHeartbeats 1600000 in
set_option maxRecDepth 100000 in
theorem mulPlainly_all (a1 a2 : Option Addr) (c1 c2 : Nat) (xs ys : List Int) (w : World) (hx : Wd xs) (hy : Wd ys) (hL : xs.length ≤ 274877906944) (hL2 : ys.length ≤ 274877906944) (h1 : 0 < xs.length → ∃ b o, a1 = some ⟨b, o, none⟩ ∧ Cells w b o xs) (h2 : 0 < ys.length → ∃ b o, a2 = some ⟨b, o, none⟩ ∧ Cells w b o ys) :
    Calls Tryz.prog 74 #[.agg #[.slice a1 xs.length c1], .agg #[.slice a2 ys.length c2]] w fun e w' => ∃ r zs, e = .returned (.agg #[r]) ∧ Rd w' r zs ∧ Nm zs ∧ val zs = val xs * val ys ∧ Below w.heap.size w w' := by
  have hs : Hid (∀ w', Below w.heap.size w w' → 0 < xs.length → ∃ b o, a1 = some ⟨b, o, none⟩ ∧ b ≠ w.heap.size + 1 + 1 + 1 ∧ Cells w' b o xs) := fun w' h l => by obtain ⟨b, o, e, c⟩ := h1 l; exact ⟨b, o, e, by have := c.lt l; omega, c.grow h⟩
  have hs2 : Hid (∀ w', Below w.heap.size w w' → 0 < ys.length → ∃ b o, a2 = some ⟨b, o, none⟩ ∧ b ≠ w.heap.size + 1 + 1 + 1 ∧ Cells w' b o ys) := fun w' h l => by obtain ⟨b, o, e, c⟩ := h2 l; exact ⟨b, o, e, by have := c.lt l; omega, c.grow h⟩
  clear h1 h2
  go_enter Tryz.func74, Tryz.ntmps74
  go_wp2_with (first
    | (at_make; refine wpList_make_words rfl _ _ rfl (xs.length + ys.length) _ _ rfl rfl (by simp) (by simp) (by omega) ?_; intro w1 k1 k2 k3 k4; have X0 := (((Bx.new w _ _).alloc _).alloc _).below k3; have X1 := ((Bx.new _ _ _).alloc _).below k3; have X2 := (Bx.new _ _ _).below k3; simp only [World.size_alloc] at X1 X2 k1 k2 k3 k4; have q0 := below_alloc3 k3; clear k3; have x1 := X1.1)
    | fail)
  clear x1
  go_loopw [21] (fun i wr => ∃ (k : Nat) (X : List Int), k ≤ ys.length ∧ i = .int .i64 k ∧ X.length = xs.length + ys.length ∧ Wd X ∧ X.drop (xs.length + k) = List.replicate (ys.length - k) 0 ∧ val X = val xs * val (ys.take k) ∧ Cells wr (w.heap.size + 1 + 1 + 1) 0 X ∧ Wr (w.heap.size + 1 + 1 + 1) 0 (xs.length + ys.length) w1 wr) (fun i _ => ys.length - (intOf i).toNat)
  case atStart => exact ⟨0, List.replicate (xs.length + ys.length) 0, Nat.zero_le _, rfl, by simp, Wd.zeros _, by simp, by simp [val_zeros, val], k1, Wr.refl _ _ _ _⟩
  case round =>
    obtain ⟨k, X, hk, rfl, hl, hw, hd, hv, hcX, hwr⟩ := hrel
    have HV : Hid (val X = val xs * val (ys.take k)) := hv
    have HD : Hid (X.drop (xs.length + k) = List.replicate (ys.length - k) 0) := hd
    have HL : Hid (X.length = xs.length + ys.length) := hl
    clear hv hd hl
    have pr := q0.trans (hwr.below (B := w.heap.size) (by omega) (by have := q0.size; omega))
    have Y0 := X0.wr hwr (by omega)
    have Y2 := X2.wr hwr (by omega)
    by_cases hlt : k < ys.length
    · obtain ⟨b2, o2, rfl, hne, hcW⟩ := hs2.out wr pr (by omega)
      have e1 := hcW.at (i := k) hlt
      have b1 := nth_bd hy k
      have y0 := Y0.1
      have hS : Hid (((X.drop k).take xs.length).length = xs.length) := by show _ = _; rw [List.length_take, List.length_drop, HL.out]; omega
      have hcS : Hid (Cells wr (w.heap.size + 1 + 1 + 1) k ((X.drop k).take xs.length)) := by have := (hcX.drop k).take xs.length; rwa [Nat.zero_add] at this
      have hsl := slice_lh (w.heap.size + 1 + 1 + 1) 0 (xs.length + ys.length) (xs.length + ys.length) (k : Int) ((k : Int) + (xs.length : Int)) k xs.length rfl rfl (by omega) (by omega)
      rw [Nat.zero_add] at hsl
      have g0 : Hid (wr.cell? ⟨w.heap.size + 1 + 1 + 1, k + xs.length, none⟩ = some (.int .u64 (nth X (k + xs.length)))) := by have := hcX (k + xs.length) (by have := HL.out; omega); rw [Nat.zero_add] at this; exact this
      have hwp : IntKind.i64.wrap ((k : Int) + (xs.length : Int)) = (k : Int) + (xs.length : Int) := IntWalk.i64_in _ (by omega)
      go_wp2_with fail
      go_region_with (go_at_call 92; go_must (refine (addProduct_any (w.heap.size + 1 + 1 + 1) k _ _ ((X.drop k).take xs.length) a1 _ xs (nth ys k) _ hS.out.symm ((hw.drop k).take _) hx hS.out.symm b1.1 b1.2 (by have := hS.out; omega) hcS.out.drew ((k2.wr hwr).free _ _).drew (hs.out _ pr.drew)).mono ?_; rintro e w2 ⟨S', c, rfl, c0, c1, hl', hw', hv', hc', hwr'⟩; rw [hS.out] at hl' hwr'; have g1 := (hwr'.undrew.cell (k + xs.length) (by omega)).trans g0.out; have g2 := ((k2.wr hwr).wr hwr'.undrew).free 0 (k + xs.length + 1) (k + xs.length) (by omega); rw [Nat.zero_add] at g2))
      have R : Hid _ := mul_round hlt HL.out hw HD.out HV.out hl' hw' c0 c1 (by rw [hS.out] at hv'; exact hv')
      have RC : Hid (Cells w2 (w.heap.size + 1 + 1 + 1) 0 (spl X k xs.length S')) := hcX.spl (k := k) (n := xs.length) (by have := HL.out; omega) hl' hwr'.undrew hc'
      have RW : Hid (Wr (w.heap.size + 1 + 1 + 1) 0 (xs.length + ys.length) w1 w2) := hwr.trans (hwr'.undrew.mono (o' := 0) (n' := xs.length + ys.length) (by omega) (by omega))
      clear hv' hc' hwr'
      go_wp2
      go_roundw
      case rel => exact ⟨k + 1, (spl X k xs.length S').set (k + xs.length) c, by omega, by go_num, R.out.1, R.out.2.1, R.out.2.2.1, R.out.2.2.2, by have := RC.out.set (k + xs.length) (by rw [spl_len (by have := HL.out; omega) hl']; have := HL.out; omega) c; rwa [Nat.zero_add] at this, RW.out.setCell _ (by omega) _⟩
      case measure => simp [intOf]; omega
    · have ek : k = ys.length := by omega
      subst ek
      have hsum : Hid (val X = val xs * val ys) := by have := HV.out; rwa [List.take_length] at this
      clear HV HD
      go_wp2_with fail
      refine (trim_rd _ _ _ X wr HL.out.symm hw (by have := HL.out; omega) (by omega) (fun _ => ⟨_, _, rfl, hcX⟩)).mono ?_
      rintro e w4 ⟨n, zs, rfl, -, hrd, hnm, hvz, hbl⟩
      have V2 := Y2.below hbl
      have v1 := V2.1
      have v2 := V2.2
      have hvz' : Hid (val zs = val xs * val ys) := hvz.trans hsum.out
      clear hvz
      go_wp2
      refine bodyPost_ret (v := .agg #[.slice (some ⟨w.heap.size + 1 + 1 + 1, 0, none⟩) n (xs.length + ys.length)]) (by simp [results, Tryz.results74, go_sem, v1]) rfl ⟨_, zs, rfl, hrd.put (by intro b o l c e; simp at e; omega), hnm, hvz'.out, below_put (pr.trans (hbl.mono pr.size)) (by omega) _⟩
end Go.Proofs.YtejfnplhimfchaaGreatDoor
