import Derived.Test.YtfalncbcomlelaaGreatDoorDiv4
namespace Go.Proofs.YtfalncbcomlelaaGreatDoor
open Go.RowKit Tn

theorem or_shift' (s : Nat) (a b : Int) (a0 : 0 ≤ a) (a1 : a * 2 ^ s < 18446744073709551616) (b0 : 0 ≤ b) (b1 : b < 2 ^ s) (b2 : b < 18446744073709551616) : bits .or .u64 b (a * 2 ^ s) = b + a * 2 ^ s := by
  have p := Int.mul_nonneg a0 (Int.le_of_lt (two_pos s))
  have e := or_shift s a b a0 a1 b0 b1 b2
  rw [u64_or _ _ p a1 b0 b2] at e
  rw [u64_or _ _ b0 b2 p a1, Nat.or_comm, e]; omega
/-- A word shifted up: what stays, what goes out. -/
theorem shl_mod (x : Int) (s : Nat) (h : s ≤ 64) : x * 2 ^ s % 18446744073709551616 = x % 2 ^ (64 - s) * 2 ^ s := by
  rw [← pow_split h, Int.mul_comm x, Int.mul_emod_mul_of_pos _ _ (two_pos s), Int.mul_comm]
theorem shl_or {x l : Int} {s : Nat} (h : s ≤ 63) (l0 : 0 ≤ l) (l1 : l < 2 ^ s) : bits .or .u64 (x * 2 ^ s % 18446744073709551616) l = x * 2 ^ s % 18446744073709551616 + l ∧ x * 2 ^ s % 18446744073709551616 + l < 18446744073709551616 := by
  have p := two_pos s
  have q := two_pos (64 - s)
  have m0 := Int.emod_nonneg x (show (2 : Int) ^ (64 - s) ≠ 0 by omega)
  have m1 := Int.emod_lt_of_pos x q
  have e := pow_split (show s ≤ 64 by omega)
  have m2 := Int.mul_le_mul_of_nonneg_right (show x % 2 ^ (64 - s) + 1 ≤ 2 ^ (64 - s) by omega) (Int.le_of_lt p)
  have e2 : (2 : Int) ^ (64 - s) * 2 ^ s = 2 ^ s * 2 ^ (64 - s) := Int.mul_comm _ _
  have e3 : (x % 2 ^ (64 - s) + 1) * 2 ^ s = x % 2 ^ (64 - s) * 2 ^ s + 2 ^ s := by grind
  have sm : (2 : Int) ^ s ≤ 2 ^ 63 := by
    have : (2 : Int) ^ 63 = 2 ^ s * 2 ^ (63 - s) := by rw [← Int.pow_add]; congr 1; omega
    have := Int.mul_le_mul_of_nonneg_left (show (1 : Int) ≤ 2 ^ (63 - s) from two_pos _) (Int.le_of_lt p)
    omega
  have sm' : (2 : Int) ^ 63 = 9223372036854775808 := rfl
  rw [shl_mod x s (by omega)]
  exact ⟨or_shift s _ l m0 (by omega) l0 l1 (by omega), by omega⟩

theorem shift_step {X S W : List Int} {k s : Nat} {l : Int} (h : Part X S k) (hs : s ≤ 63) (hk : k < W.length) (hk' : k < S.length) (l0 : 0 ≤ l) (l1 : l < 2 ^ s) (hv : val (X.take k) + pw k * l = val (W.take k) * 2 ^ s) :
    Part (X.set k (nth W k * 2 ^ s % 18446744073709551616 + l)) S (k + 1) ∧ val ((X.set k (nth W k * 2 ^ s % 18446744073709551616 + l)).take (k + 1)) + pw (k + 1) * (nth W k / 2 ^ (64 - s)) = val (W.take (k + 1)) * 2 ^ s := by
  have o := shl_or (x := nth W k) hs l0 l1
  refine ⟨h.step (by omega) o.2, ?_⟩
  rw [h.val hk', val_at W k hk, ← shift_out _ s (by omega)]
  have e := Int.emod_add_mul_ediv (nth W k * 2 ^ s) 18446744073709551616
  simp only [pw]
  grind

set_option maxHeartbeats 800000 in
/-- whole.shiftInto. -/
theorem shiftInto_any (b o cap n : Nat) (S : List Int) (a : Option Addr) (cap2 m : Nat) (W : List Int) (s : Nat) (w : World) (en : n = S.length) (em : m = W.length) (hS : Wd S) (hW : Wd W) (hl : S.length = W.length + 1) (hs : s ≤ 63) (hL : S.length ≤ 1099511627776) (hcS : Cells w b o S) (hF : Own w b)
    (ha : 0 < W.length → ∃ b2 o2, a = some ⟨b2, o2, none⟩ ∧ b2 ≠ b ∧ Cells w b2 o2 W) :
    Calls Tryz.prog 92 #[.slice (some ⟨b, o, none⟩) n cap, .slice a m cap2, .int .i64 s] w fun e w' => ∃ X, e = .returned (.tuple #[]) ∧ X.length = W.length + 1 ∧ Wd X ∧ val X = val W * 2 ^ s ∧ Cells w' b o X ∧ Wr b o (W.length + 1) w w' := by
  subst em
  have HL : Hid (S.length = W.length + 1) := hl
  rw [hl] at en
  subst en
  have hL2 : W.length ≤ 1099511627776 := by omega
  clear hl
  go_enter Tryz.func92, Tryz.ntmps92
  go_wp2
  go_loopw [6, 11] (fun t i wr => ∃ (k : Nat) (l : Int) (X : List Int), k ≤ W.length ∧ i = .int .i64 k ∧ t = .int .u64 l ∧ 0 ≤ l ∧ l < 2 ^ s ∧ Part X S k ∧ val (X.take k) + pw k * l = val (W.take k) * 2 ^ s ∧ Cells wr b o X ∧ Wr b o (W.length + 1) w wr) (fun _ i _ => W.length - (intOf i).toNat)
  case atStart => exact ⟨0, 0, S, Nat.zero_le _, rfl, rfl, by omega, two_pos s, Part.refl hS 0, by simp [val], hcS, Wr.refl _ _ _ _⟩
  case round =>
    obtain ⟨k, l, X, hk, rfl, rfl, l0, l1, hP, hv, hcX, hwr⟩ := hrel
    have HV : Hid (val (X.take k) + pw k * l = val (W.take k) * 2 ^ s) := hv
    have XL : Hid (X.length = W.length + 1) := hP.len.trans HL.out
    clear hv
    have O := hF.wr hwr
    by_cases hlt : k < W.length
    · obtain ⟨b2, o2, rfl, hne, hcW⟩ := ha (by omega)
      have k1 := (hcW.other hwr hne).at (i := k) hlt
      have k2 := hcX.at (i := k) (by have := XL.out; omega)
      have k3 := O.free o (W.length + 1) k (by omega)
      have b1 := nth_bd hW k
      have oo := shl_or (x := nth W k) hs l0 l1
      have r1 : IntKind.u64.wrap (nth W k * 2 ^ s) = nth W k * 2 ^ s % 18446744073709551616 := wrap_u64 _
      have r2 := oo.1
      have so := shift_out_lt (nth W k) s (by omega) b1.1 b1.2
      have R : Hid _ := shift_step (W := W) hP hs hlt (by have := HL.out; omega) l0 l1 HV.out
      clear oo
      go_wp2
      go_roundw
      case rel => exact ⟨k + 1, _, _, by omega, by go_num, rfl, so.1, so.2, R.out.1, R.out.2, hcX.set k (by have := XL.out; omega) _, hwr.setCell _ (by omega) _⟩
      case measure => simp [intOf]; omega
    · have ek : k = W.length := by omega
      subst ek
      have k2 := hcX.at (i := W.length) (by have := XL.out; omega)
      have k3 := O.free o (W.length + 1) W.length (by omega)
      have sm : l < 18446744073709551616 := by
        have : (2 : Int) ^ s * 2 ^ (64 - s) = 18446744073709551616 := pow_split (by omega)
        have := Int.mul_le_mul_of_nonneg_left (show (1 : Int) ≤ 2 ^ (64 - s) from two_pos _) (Int.le_of_lt (two_pos s))
        omega
      have E : Hid (val (X.set W.length l) = val W * 2 ^ s) := by
        have hv := HV.out
        rw [List.take_length] at hv
        have e := hP.val (by have := HL.out; omega) l
        have t : (X.set W.length l).take (W.length + 1) = X.set W.length l := List.take_of_length_le (by rw [List.length_set, XL.out]; exact Nat.le_refl _)
        rw [t] at e
        show _ = _
        rw [e, hv]
      go_wp2
      go_end0
      exact ⟨X.set W.length l, rfl, by rw [List.length_set]; exact XL.out, hP.wd.set _ l0 sm, E.out, hcX.set _ (by have := XL.out; omega) l, hwr.setCell _ (by omega) _⟩

set_option maxHeartbeats 800000 in
/-- whole.shiftDown. -/
theorem shiftDown_any (b o cap n : Nat) (S : List Int) (s : Nat) (w : World) (en : n = S.length) (hS : Wd S) (hs : s ≤ 63) (hL : S.length ≤ 1099511627776) (hcS : Cells w b o S) (hF : Own w b) :
    Calls Tryz.prog 142 #[.slice (some ⟨b, o, none⟩) n cap, .int .i64 s] w fun e w' => ∃ X, e = .returned (.tuple #[]) ∧ X.length = S.length ∧ Wd X ∧ val X = val S / 2 ^ s ∧ Cells w' b o X ∧ Wr b o S.length w w' := by
  subst en
  have p := two_pos s
  have p' := two_pos (64 - s)
  have pe := pow_split (show s ≤ 64 by omega)
  have PE : Hid ((2 : Int) ^ s * 2 ^ (64 - s) = 18446744073709551616) := pe
  clear pe
  go_enter Tryz.func142, Tryz.ntmps142
  go_wp2
  go_loopw [4, 10] (fun t i wr => ∃ (k : Nat) (r : Int) (X : List Int), k ≤ S.length ∧ i = .int .i64 k ∧ t = .int .u64 (r * 2 ^ (64 - s)) ∧ 0 ≤ r ∧ r < 2 ^ s ∧ X.length = S.length ∧ Wd X ∧ X.take (S.length - k) = S.take (S.length - k) ∧ val (X.drop (S.length - k)) * 2 ^ s + r = val (S.drop (S.length - k)) ∧ Cells wr b o X ∧ Wr b o S.length w wr) (fun _ i _ => S.length - (intOf i).toNat)
  case atStart => exact ⟨0, 0, S, Nat.zero_le _, rfl, by simp, by omega, p, rfl, hS, rfl, by simp [val], hcS, Wr.refl _ _ _ _⟩
  case round =>
    obtain ⟨k, r, X, hk, rfl, rfl, h0, h1, hX, hwX, ht, hv, hcX, hwr⟩ := hrel
    have HV : Hid (val (X.drop (S.length - k)) * 2 ^ s + r = val (S.drop (S.length - k))) := hv
    have HT : Hid (X.take (S.length - k) = S.take (S.length - k)) := ht
    have HX : Hid (X.length = S.length) := hX
    clear hv ht hX
    by_cases hlt : k < S.length
    · have k2 := hcX.at (i := S.length - 1 - k) (by have := HX.out; omega)
      have k3 := (hF.wr hwr).free o S.length (S.length - 1 - k) (by omega)
      have b2 := nth_bd hwX (S.length - 1 - k)
      have q0 := Int.ediv_nonneg b2.1 (Int.le_of_lt p)
      have q1 : nth X (S.length - 1 - k) / 2 ^ s < 2 ^ (64 - s) := Int.ediv_lt_of_lt_mul p (by rw [Int.mul_comm, PE.out]; exact b2.2)
      have m := Int.mul_le_mul_of_nonneg_right (show r + 1 ≤ 2 ^ s by omega) (Int.le_of_lt p')
      have me : (r + 1) * 2 ^ (64 - s) = r * 2 ^ (64 - s) + 2 ^ (64 - s) := by grind
      have r1 : bits .or .u64 (nth X (S.length - 1 - k) / 2 ^ s) (r * 2 ^ (64 - s)) = nth X (S.length - 1 - k) / 2 ^ s + r * 2 ^ (64 - s) := or_shift' (64 - s) r _ h0 (by have := PE.out; omega) q0 q1 (by have := Int.ediv_le_self (2 ^ s) b2.1; omega)
      have r2 : IntKind.u64.wrap (nth X (S.length - 1 - k) * 2 ^ (64 - s)) = nth X (S.length - 1 - k) % 2 ^ s * 2 ^ (64 - s) := by
        rw [wrap_u64, shl_mod _ (64 - s) (by omega), show 64 - (64 - s) = s from by omega]
      have vb : 0 ≤ nth X (S.length - 1 - k) / 2 ^ s + r * 2 ^ (64 - s) ∧ nth X (S.length - 1 - k) / 2 ^ s + r * 2 ^ (64 - s) < 18446744073709551616 := ⟨by have := Int.mul_nonneg h0 (Int.le_of_lt p'); omega, by have := PE.out; omega⟩
      have VB : Hid _ := vb
      clear vb m me
      go_wp2
      go_roundw
      case rel =>
        refine ⟨k + 1, nth X (S.length - 1 - k) % 2 ^ s, X.set (S.length - 1 - k) (nth X (S.length - 1 - k) / 2 ^ s + r * 2 ^ (64 - s)), by omega, by go_num, rfl, Int.emod_nonneg _ (by omega), Int.emod_lt_of_pos _ p, by rw [List.length_set]; exact HX.out, hwX.set _ VB.out.1 VB.out.2, ?_, ?_, hcX.set _ (by have := HX.out; omega) _, hwr.setCell _ (by omega) _⟩
        · rw [take_set_le _ _ _ _ (by omega)]
          have := congrArg (List.take (S.length - (k + 1))) HT.out
          rwa [List.take_take, List.take_take, Nat.min_eq_left (by omega)] at this
        · have e1 : S.length - (k + 1) = S.length - 1 - k := by omega
          have e2 : S.length - k = S.length - 1 - k + 1 := by omega
          rw [e1, drop_set_here _ _ _ (by have := HX.out; omega), drop_getD S _ (by omega), ← e2]
          have e3 : nth X (S.length - 1 - k) = nth S (S.length - 1 - k) := by
            have := congrArg (fun l => nth l (S.length - 1 - k)) HT.out
            rwa [nth_take _ _ _ (by omega), nth_take _ _ _ (by omega)] at this
          have e5 := HV.out
          have e6 := PE.out
          have e7 := divmod_eq (nth S (S.length - 1 - k)) (2 ^ s)
          rw [e3]
          unfold nth at e7 ⊢
          simp only [val]
          grind
      case measure => simp [intOf]; omega
    · have R : Hid (val X = val S / 2 ^ s) := by
        have ek : S.length - k = 0 := by omega
        have hv := HV.out
        rw [ek, List.drop_zero, List.drop_zero] at hv
        show _ = _
        rw [← hv, Int.add_comm, Int.add_mul_ediv_right _ _ (by omega), Int.ediv_eq_zero_of_lt h0 h1]; omega
      go_wp2
      go_end0
      exact ⟨X, rfl, HX.out, hwX, R.out, hcX, hwr⟩
end Go.Proofs.YtfalncbcomlelaaGreatDoor
