import Derived.Test.YtfalncbcomlelaaGreatDoorSmall
namespace Go.Proofs.YtfalncbcomlelaaGreatDoor
open Go.RowKit Tn

/-- What a product, a word and a carry come to: the words. -/
def apLow (x y s c : Int) : Int := (low x y + s + c) % 18446744073709551616
def apHigh (x y s c : Int) : Int := hiw x y + (low x y + s) / 18446744073709551616 + ((low x y + s) % 18446744073709551616 + c) / 18446744073709551616
theorem ap_eq (x y s c : Int) : apLow x y s c + 18446744073709551616 * apHigh x y s c = x * y + s + c := by
  have := hilo x y; unfold apLow apHigh; omega
theorem ap_bd {x y s c : Int} (x0 : 0 ≤ x) (x1 : x < 18446744073709551616) (y0 : 0 ≤ y) (y1 : y < 18446744073709551616) (s0 : 0 ≤ s) (s1 : s < 18446744073709551616) (c0 : 0 ≤ c) (c1 : c < 18446744073709551616) : 0 ≤ apHigh x y s c ∧ apHigh x y s c < 18446744073709551616 := by
  have e := ap_eq x y s c
  have h := mul_hi (M := 18446744073709551615) x0 (by omega) y0 (by omega)
  have : 0 ≤ apLow x y s c ∧ apLow x y s c < 18446744073709551616 := by unfold apLow; omega
  omega
theorem prod_step {X S W : List Int} {k : Nat} {c f : Int} (h : Part X S k) (hW : Wd W) (hk : k < W.length) (hk' : k < S.length) (h0 : 0 ≤ c) (h1 : c < 18446744073709551616) (f0 : 0 ≤ f) (f1 : f < 18446744073709551616) (hv : val (X.take k) + pw k * c = val (S.take k) + val (W.take k) * f) :
    Part (X.set k (apLow (nth W k) f (nth X k) c)) S (k + 1) ∧ 0 ≤ apHigh (nth W k) f (nth X k) c ∧ apHigh (nth W k) f (nth X k) c < 18446744073709551616 ∧
    val ((X.set k (apLow (nth W k) f (nth X k) c)).take (k + 1)) + pw (k + 1) * apHigh (nth W k) f (nth X k) c = val (S.take (k + 1)) + val (W.take (k + 1)) * f := by
  have b1 := nth_bd hW k
  have b2 := nth_bd h.wd k
  have b3 := ap_bd b1.1 b1.2 f0 f1 b2.1 b2.2 h0 h1
  refine ⟨h.step (by unfold apLow; omega) (by unfold apLow; omega), b3.1, b3.2, ?_⟩
  rw [h.val hk', val_at S k hk', val_at W k hk, h.nth]
  have e := ap_eq (nth W k) f (nth S k) c
  simp only [pw]
  grind

set_option maxHeartbeats 800000 in
/-- whole.addProduct. -/
theorem addProduct_any (b o cap n : Nat) (S : List Int) (a : Option Addr) (cap2 : Nat) (W : List Int) (f : Int) (w : World) (en : n = S.length) (hS : Wd S) (hW : Wd W) (hl : W.length = S.length) (f0 : 0 ≤ f) (f1 : f < 18446744073709551616) (hL : S.length ≤ 1099511627776) (hcS : Cells w b o S) (hF : Free w b o S.length)
    (ha : 0 < W.length → ∃ b2 o2, a = some ⟨b2, o2, none⟩ ∧ b2 ≠ b ∧ Cells w b2 o2 W) :
    Calls Tryz.prog 115 #[.slice (some ⟨b, o, none⟩) n cap, .slice a W.length cap2, .int .u64 f] w fun e w' => ∃ S' c, e = .returned (.int .u64 c) ∧ 0 ≤ c ∧ c < 18446744073709551616 ∧ S'.length = S.length ∧ Wd S' ∧ val S' + pw S.length * c = val S + val W * f ∧ Cells w' b o S' ∧ Wr b o S.length w w' := by
  subst en
  have HL : Hid (W.length = S.length) := hl
  have hl2 : W.length ≤ S.length := by omega
  clear hl
  go_enter Tryz.func115, Tryz.ntmps115
  go_wp2
  go_loopw [7, 15] (fun t i wr => ∃ (k : Nat) (c : Int) (X : List Int), k ≤ W.length ∧ i = .int .i64 k ∧ t = .int .u64 c ∧ 0 ≤ c ∧ c < 18446744073709551616 ∧ Part X S k ∧ val (X.take k) + pw k * c = val (S.take k) + val (W.take k) * f ∧ Cells wr b o X ∧ Wr b o S.length w wr) (fun _ i _ => W.length - (intOf i).toNat)
  case atStart => exact ⟨0, 0, S, Nat.zero_le _, rfl, rfl, by omega, by omega, Part.refl hS 0, by simp [val, pw], hcS, Wr.refl _ _ _ _⟩
  case round =>
    obtain ⟨k, c, X, hk, rfl, rfl, h0, h1, hP, hv, hcX, hwr⟩ := hrel
    have HV : Hid (val (X.take k) + pw k * c = val (S.take k) + val (W.take k) * f) := hv
    clear hv
    by_cases hlt : k < W.length
    · obtain ⟨b2, o2, rfl, hne, hcW⟩ := ha (by omega)
      have k1 := (hcW.other hwr hne).at (i := k) hlt
      have k2 := hcX.at (i := k) (by rw [hP.len]; omega)
      have k3 := (hF.wr hwr (hcS.lt (by omega))) k (by omega)
      have b1 := nth_bd hW k
      have b2 := nth_bd hP.wd k
      have R : Hid _ := prod_step hP hW hlt (by omega) h0 h1 f0 f1 HV.out
      have e1 := hiw_bd b1.1 b1.2 f0 f1
      have e2 := low_bd (nth W k) f
      have e3 : 0 ≤ (low (nth W k) f + nth X k) % 18446744073709551616 := by omega
      have e4 : hiw (nth W k) f + (low (nth W k) f + nth X k) / 18446744073709551616 + ((low (nth W k) f + nth X k) % 18446744073709551616 + c) / 18446744073709551616 < 18446744073709551616 := (ap_bd b1.1 b1.2 f0 f1 b2.1 b2.2 h0 h1).2
      go_wp2_with (first | (go_at_call 124; refine (mul64 _ _ _ b1.1 b1.2 f0 f1).mono ?_; rintro e w' ⟨rfl, rfl⟩) | simp only [add64_0 _ _ e2.1 b2.1] | simp only [add64_0 _ _ e3 h0])
      go_roundw
      case rel => exact ⟨k + 1, apHigh (nth W k) f (nth X k) c, _, by omega, by go_num, rfl, R.out.2.1, R.out.2.2.1, R.out.1, R.out.2.2.2, hcX.set k (by rw [hP.len]; omega) _, hwr.setCell _ (by omega) _⟩
      case measure => simp [intOf]; omega
    · have ek : k = W.length := by omega
      subst ek
      have R : Hid (val X + pw S.length * c = val S + val W * f) := by
        have := HV.out
        have h5 := hP.len
        rw [List.take_length, HL.out, List.take_length] at this
        rw [← h5, List.take_length] at this
        rw [← h5]; exact this
      go_wp2
      go_ret
      exact ⟨X, c, rfl, h0, h1, hP.len, hP.wd, R.out, hcX, hwr⟩
end Go.Proofs.YtfalncbcomlelaaGreatDoor
