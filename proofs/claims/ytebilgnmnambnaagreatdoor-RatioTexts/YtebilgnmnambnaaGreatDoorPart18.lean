import Derived.Test.YtebilgnmnambnaaGreatDoorPart17

namespace Go.Proofs.YtebilgnmnambnaaGreatDoor
open Go.RowKit Tn
theorem or_shift' (s : Nat) (a b : Int) (a0 : 0 ≤ a) (a1 : a * 2 ^ s < 18446744073709551616) (b0 : 0 ≤ b) (b1 : b < 2 ^ s) (b2 : b < 18446744073709551616) : bits .or .u64 b (a * 2 ^ s) = b + a * 2 ^ s := by
  have p := Int.mul_nonneg a0 (Int.le_of_lt (two_pos s))
  have e := or_shift s a b a0 a1 b0 b1 b2
  rw [u64_or _ _ p a1 b0 b2] at e
  rw [u64_or _ _ b0 b2 p a1, Nat.or_comm, e]; omega
theorem shl_mod (x : Int) (s : Nat) (h : s ≤ 64) : x * 2 ^ s % 18446744073709551616 = x % 2 ^ (64 - s) * 2 ^ s := by
  rw [← pow_split h, Int.mul_comm x, Int.mul_emod_mul_of_pos _ _ (two_pos s), Int.mul_comm]
theorem shl_or {x l : Int} {s : Nat} (h : s ≤ 63) (l0 : 0 ≤ l) (l1 : l < 2 ^ s) : bits .or .u64 (x * 2 ^ s % 18446744073709551616) l = x * 2 ^ s % 18446744073709551616 + l ∧ x * 2 ^ s % 18446744073709551616 + l < 18446744073709551616 := by
  have p := two_pos s
  have q := two_pos (64 - s)
  have m0 := Int.emod_nonneg x (show (2 : Int) ^ (64 - s) ≠ 0 by omega)
  have m1 := Int.emod_lt_of_pos x q
  have e := pow_split (show s ≤ 64 by omega)
  have m2 := Int.mul_le_mul_of_nonneg_right (show x % 2 ^ (64 - s) + 1 ≤ 2 ^ (64 - s) by omega) (Int.le_of_lt p)
  have e2 : (2 : Int) ^ (64 - s) * 2 ^ s = 2 ^ s * 2 ^ (64 - s) := Int.mul_comm _ _
  have e3 : (x % 2 ^ (64 - s) + 1) * 2 ^ s = x % 2 ^ (64 - s) * 2 ^ s + 2 ^ s := by grind
  have sm : (2 : Int) ^ s ≤ 2 ^ 63 := by
    have : (2 : Int) ^ 63 = 2 ^ s * 2 ^ (63 - s) := by rw [← Int.pow_add]; congr 1; omega
    have := Int.mul_le_mul_of_nonneg_left (show (1 : Int) ≤ 2 ^ (63 - s) from two_pos _) (Int.le_of_lt p)
    omega
  have sm' : (2 : Int) ^ 63 = 9223372036854775808 := rfl
  rw [shl_mod x s (by omega)]
  exact ⟨or_shift s _ l m0 (by omega) l0 l1 (by omega), by omega⟩
theorem shift_step {X S W : List Int} {k s : Nat} {l : Int} (h : Part X S k) (hs : s ≤ 63) (hk : k < W.length) (hk' : k < S.length) (l0 : 0 ≤ l) (l1 : l < 2 ^ s) (hv : val (X.take k) + pw k * l = val (W.take k) * 2 ^ s) :
    Part (X.set k (nth W k * 2 ^ s % 18446744073709551616 + l)) S (k + 1) ∧ val ((X.set k (nth W k * 2 ^ s % 18446744073709551616 + l)).take (k + 1)) + pw (k + 1) * (nth W k / 2 ^ (64 - s)) = val (W.take (k + 1)) * 2 ^ s := by
  have o := shl_or (x := nth W k) hs l0 l1
  refine ⟨h.step (by omega) o.2, ?_⟩
  rw [h.val hk', val_at W k hk, ← shift_out _ s (by omega)]
  have e := Int.emod_add_mul_ediv (nth W k * 2 ^ s) 18446744073709551616
  simp only [pw]
  grind
set_option maxHeartbeats 800000 in
theorem shiftInto_any (b o cap n : Nat) (S : List Int) (a : Option Addr) (cap2 m : Nat) (W : List Int) (s : Nat) (w : World) (en : n = S.length) (em : m = W.length) (hS : Wd S) (hW : Wd W) (hl : S.length = W.length + 1) (hs : s ≤ 63) (hL : S.length ≤ 1099511627776) (hcS : Cells w b o S) (hF : Own w b)
    (ha : 0 < W.length → ∃ b2 o2, a = some ⟨b2, o2, none⟩ ∧ b2 ≠ b ∧ Cells w b2 o2 W) :
    Calls Tryz.prog 164 #[.slice (some ⟨b, o, none⟩) n cap, .slice a m cap2, .int .i64 s] w fun e w' => ∃ X, e = .returned (.tuple #[]) ∧ X.length = W.length + 1 ∧ Wd X ∧ val X = val W * 2 ^ s ∧ Cells w' b o X ∧ Wr b o (W.length + 1) w w' := by
  subst em
  have HL : Hid (S.length = W.length + 1) := hl
  rw [hl] at en
  subst en
  have hL2 : W.length ≤ 1099511627776 := by omega
  clear hl
  go_enter Tryz.func164, Tryz.ntmps164
  go_wp2
  go_loopw [6, 11] (fun t i wr => ∃ (k : Nat) (l : Int) (X : List Int), k ≤ W.length ∧ i = .int .i64 k ∧ t = .int .u64 l ∧ 0 ≤ l ∧ l < 2 ^ s ∧ Part X S k ∧ val (X.take k) + pw k * l = val (W.take k) * 2 ^ s ∧ Cells wr b o X ∧ Wr b o (W.length + 1) w wr) (fun _ i _ => W.length - (intOf i).toNat)
  case atStart => exact ⟨0, 0, S, Nat.zero_le _, rfl, rfl, by omega, two_pos s, Part.refl hS 0, by simp [val], hcS, Wr.refl _ _ _ _⟩
  case round =>
    obtain ⟨k, l, X, hk, rfl, rfl, l0, l1, hP, hv, hcX, hwr⟩ := hrel
    have HV : Hid (val (X.take k) + pw k * l = val (W.take k) * 2 ^ s) := hv
    have XL : Hid (X.length = W.length + 1) := hP.len.trans HL.out
    clear hv
    have O := hF.wr hwr
    by_cases hlt : k < W.length
    · obtain ⟨b2, o2, rfl, hne, hcW⟩ := ha (by omega)
      have k1 := (hcW.other hwr hne).at (i := k) hlt
      have k2 := hcX.at (i := k) (by have := XL.out; omega)
      have k3 := O.free o (W.length + 1) k (by omega)
      have b1 := nth_bd hW k
      have oo := shl_or (x := nth W k) hs l0 l1
      have r1 : IntKind.u64.wrap (nth W k * 2 ^ s) = nth W k * 2 ^ s % 18446744073709551616 := wrap_u64 _
      have r2 := oo.1
      have so := shift_out_lt (nth W k) s (by omega) b1.1 b1.2
      have R : Hid _ := shift_step (W := W) hP hs hlt (by have := HL.out; omega) l0 l1 HV.out
      clear oo
      go_wp2
      go_roundw
      case rel => exact ⟨k + 1, _, _, by omega, by go_num, rfl, so.1, so.2, R.out.1, R.out.2, hcX.set k (by have := XL.out; omega) _, hwr.setCell _ (by omega) _⟩
      case measure => simp [intOf]; omega
    · have ek : k = W.length := by omega
      subst ek
      have k2 := hcX.at (i := W.length) (by have := XL.out; omega)
      have k3 := O.free o (W.length + 1) W.length (by omega)
      have sm : l < 18446744073709551616 := by
        have : (2 : Int) ^ s * 2 ^ (64 - s) = 18446744073709551616 := pow_split (by omega)
        have := Int.mul_le_mul_of_nonneg_left (show (1 : Int) ≤ 2 ^ (64 - s) from two_pos _) (Int.le_of_lt (two_pos s))
        omega
      have E : Hid (val (X.set W.length l) = val W * 2 ^ s) := by
        have hv := HV.out
        rw [List.take_length] at hv
        have e := hP.val (by have := HL.out; omega) l
        have t : (X.set W.length l).take (W.length + 1) = X.set W.length l := List.take_of_length_le (by rw [List.length_set, XL.out]; exact Nat.le_refl _)
        rw [t] at e
        show _ = _
        rw [e, hv]
      go_wp2
      go_end0
      exact ⟨X.set W.length l, rfl, by rw [List.length_set]; exact XL.out, hP.wd.set _ l0 sm, E.out, hcX.set _ (by have := XL.out; omega) l, hwr.setCell _ (by omega) _⟩
set_option maxHeartbeats 800000 in
theorem shiftDown_any (b o cap n : Nat) (S : List Int) (s : Nat) (w : World) (en : n = S.length) (hS : Wd S) (hs : s ≤ 63) (hL : S.length ≤ 1099511627776) (hcS : Cells w b o S) (hF : Own w b) :
    Calls Tryz.prog 199 #[.slice (some ⟨b, o, none⟩) n cap, .int .i64 s] w fun e w' => ∃ X, e = .returned (.tuple #[]) ∧ X.length = S.length ∧ Wd X ∧ val X = val S / 2 ^ s ∧ Cells w' b o X ∧ Wr b o S.length w w' := by
  subst en
  have p := two_pos s
  have p' := two_pos (64 - s)
  have pe := pow_split (show s ≤ 64 by omega)
  have PE : Hid ((2 : Int) ^ s * 2 ^ (64 - s) = 18446744073709551616) := pe
  clear pe
  go_enter Tryz.func199, Tryz.ntmps199
  go_wp2
  go_loopw [4, 10] (fun t i wr => ∃ (k : Nat) (r : Int) (X : List Int), k ≤ S.length ∧ i = .int .i64 k ∧ t = .int .u64 (r * 2 ^ (64 - s)) ∧ 0 ≤ r ∧ r < 2 ^ s ∧ X.length = S.length ∧ Wd X ∧ X.take (S.length - k) = S.take (S.length - k) ∧ val (X.drop (S.length - k)) * 2 ^ s + r = val (S.drop (S.length - k)) ∧ Cells wr b o X ∧ Wr b o S.length w wr) (fun _ i _ => S.length - (intOf i).toNat)
  case atStart => exact ⟨0, 0, S, Nat.zero_le _, rfl, by simp, by omega, p, rfl, hS, rfl, by simp [val], hcS, Wr.refl _ _ _ _⟩
  case round =>
    obtain ⟨k, r, X, hk, rfl, rfl, h0, h1, hX, hwX, ht, hv, hcX, hwr⟩ := hrel
    have HV : Hid (val (X.drop (S.length - k)) * 2 ^ s + r = val (S.drop (S.length - k))) := hv
    have HT : Hid (X.take (S.length - k) = S.take (S.length - k)) := ht
    have HX : Hid (X.length = S.length) := hX
    clear hv ht hX
    by_cases hlt : k < S.length
    · have k2 := hcX.at (i := S.length - 1 - k) (by have := HX.out; omega)
      have k3 := (hF.wr hwr).free o S.length (S.length - 1 - k) (by omega)
      have b2 := nth_bd hwX (S.length - 1 - k)
      have q0 := Int.ediv_nonneg b2.1 (Int.le_of_lt p)
      have q1 : nth X (S.length - 1 - k) / 2 ^ s < 2 ^ (64 - s) := Int.ediv_lt_of_lt_mul p (by rw [Int.mul_comm, PE.out]; exact b2.2)
      have m := Int.mul_le_mul_of_nonneg_right (show r + 1 ≤ 2 ^ s by omega) (Int.le_of_lt p')
      have me : (r + 1) * 2 ^ (64 - s) = r * 2 ^ (64 - s) + 2 ^ (64 - s) := by grind
      have r1 : bits .or .u64 (nth X (S.length - 1 - k) / 2 ^ s) (r * 2 ^ (64 - s)) = nth X (S.length - 1 - k) / 2 ^ s + r * 2 ^ (64 - s) := or_shift' (64 - s) r _ h0 (by have := PE.out; omega) q0 q1 (by have := Int.ediv_le_self (2 ^ s) b2.1; omega)
      have r2 : IntKind.u64.wrap (nth X (S.length - 1 - k) * 2 ^ (64 - s)) = nth X (S.length - 1 - k) % 2 ^ s * 2 ^ (64 - s) := by
        rw [wrap_u64, shl_mod _ (64 - s) (by omega), show 64 - (64 - s) = s from by omega]
      have vb : 0 ≤ nth X (S.length - 1 - k) / 2 ^ s + r * 2 ^ (64 - s) ∧ nth X (S.length - 1 - k) / 2 ^ s + r * 2 ^ (64 - s) < 18446744073709551616 := ⟨by have := Int.mul_nonneg h0 (Int.le_of_lt p'); omega, by have := PE.out; omega⟩
      have VB : Hid _ := vb
      clear vb m me
      go_wp2
      go_roundw
      case rel =>
        refine ⟨k + 1, nth X (S.length - 1 - k) % 2 ^ s, X.set (S.length - 1 - k) (nth X (S.length - 1 - k) / 2 ^ s + r * 2 ^ (64 - s)), by omega, by go_num, rfl, Int.emod_nonneg _ (by omega), Int.emod_lt_of_pos _ p, by rw [List.length_set]; exact HX.out, hwX.set _ VB.out.1 VB.out.2, ?_, ?_, hcX.set _ (by have := HX.out; omega) _, hwr.setCell _ (by omega) _⟩
        · rw [take_set_le _ _ _ _ (by omega)]
          have := congrArg (List.take (S.length - (k + 1))) HT.out
          rwa [List.take_take, List.take_take, Nat.min_eq_left (by omega)] at this
        · have e1 : S.length - (k + 1) = S.length - 1 - k := by omega
          have e2 : S.length - k = S.length - 1 - k + 1 := by omega
          rw [e1, drop_set_here _ _ _ (by have := HX.out; omega), drop_getD S _ (by omega), ← e2]
          have e3 : nth X (S.length - 1 - k) = nth S (S.length - 1 - k) := by
            have := congrArg (fun l => nth l (S.length - 1 - k)) HT.out
            rwa [nth_take _ _ _ (by omega), nth_take _ _ _ (by omega)] at this
          have e5 := HV.out
          have e6 := PE.out
          have e7 := divmod_eq (nth S (S.length - 1 - k)) (2 ^ s)
          rw [e3]
          unfold nth at e7 ⊢
          simp only [val]
          grind
      case measure => simp [intOf]; omega
    · have R : Hid (val X = val S / 2 ^ s) := by
        have ek : S.length - k = 0 := by omega
        have hv := HV.out
        rw [ek, List.drop_zero, List.drop_zero] at hv
        show _ = _
        rw [← hv, Int.add_comm, Int.add_mul_ediv_right _ _ (by omega), Int.ediv_eq_zero_of_lt h0 h1]; omega
      go_wp2
      go_end0
      exact ⟨X, rfl, HX.out, hwX, R.out, hcX, hwr⟩
end Go.Proofs.YtebilgnmnambnaaGreatDoor

namespace Go.Proofs.YtebilgnmnambnaaGreatDoor
open Go.RowKit Tn
structure Long (X Q D : List Int) (N : Int) (j : Nat) : Prop where
  lenX : X.length = Q.length + D.length
  wX : Wd X
  wQ : Wd Q
  zero : Q.take j = List.replicate j 0
  sum : val X + val Q * val D = N
  less : val (X.drop j) < val D
  le : j ≤ Q.length
theorem Long.high {X Q D : List Int} {N : Int} {j : Nat} (h : Long X Q D N j) (hD : Wd D) : val (X.drop (j + D.length)) = 0 := by
  have l := h.lenX; have l2 := h.le
  have e := val_split (X.drop j) D.length (by simp; omega)
  rw [List.drop_drop] at e
  have a := val_nonneg ((h.wX.drop j).take D.length)
  have b := val_nonneg (h.wX.drop (j + D.length))
  have c := val_lt hD
  have p := pw_pos D.length
  by_cases z : val (X.drop (j + D.length)) = 0
  · exact z
  · have := Int.mul_le_mul_of_nonneg_left (show 1 ≤ val (X.drop (j + D.length)) by omega) (Int.le_of_lt p)
    have := h.less; omega
theorem Long.seg {X Q D : List Int} {N : Int} {j : Nat} (h : Long X Q D N (j + 1)) (hD : Wd D) : val ((X.drop j).take (D.length + 1)) = val (X.drop j) ∧ val (X.drop j) < val D * 18446744073709551616 := by
  have l := h.lenX; have l2 := h.le
  have e := val_split (X.drop j) (D.length + 1) (by simp; omega)
  rw [List.drop_drop, show j + (D.length + 1) = j + 1 + D.length from by omega, h.high hD] at e
  have f : val (X.drop j) = nth X j + 18446744073709551616 * val (X.drop (j + 1)) := by
    rw [drop_getD X j (by omega)]; rfl
  have b := nth_bd h.wX j
  have := h.less
  refine ⟨by rw [Int.mul_zero] at e; omega, by omega⟩
theorem Long.next {X Q D S' : List Int} {N q : Int} {j : Nat} (h : Long X Q D N (j + 1)) (hD : Wd D) (hl : S'.length = D.length + 1) (hw : Wd S') (q0 : 0 ≤ q) (q1 : q < 18446744073709551616) (hs : q * val D + val S' = val ((X.drop j).take (D.length + 1))) (hr : val S' < val D) :
    Long (spl X j (D.length + 1) S') (Q.set j q) D N j := by
  have l := h.lenX; have l2 := h.le
  have hz : nth Q j = 0 := by
    have e := congrArg (fun l => nth l j) h.zero
    rw [nth_take _ _ _ (by omega), nth_replicate] at e; exact e
  refine ⟨by rw [spl_len (by omega) hl, List.length_set]; exact l, wd_spl h.wX hw _ _, h.wQ.set _ q0 q1, ?_, ?_, ?_, by rw [List.length_set]; omega⟩
  · rw [take_set_le _ _ _ _ (by omega)]
    have e := congrArg (List.take j) h.zero
    rw [List.take_take, Nat.min_eq_left (by omega), List.take_replicate, Nat.min_eq_left (by omega)] at e; exact e
  · rw [val_spl (by omega) hl, val_set _ _ _ (by omega), hz]
    have := h.sum
    grind
  · have e1 : (spl X j (D.length + 1) S').drop j = S' ++ X.drop (j + (D.length + 1)) := by
      unfold spl
      rw [List.drop_append, List.length_take, Nat.min_eq_left (by omega), Nat.sub_self, List.drop_zero, List.drop_of_length_le (by simp; omega)]; rfl
    have hh := h.high hD
    rw [show j + 1 + D.length = j + (D.length + 1) from by omega] at hh
    rw [e1, val_append, hh]; simp; exact hr
theorem Long.done {X Q D xs ys : List Int} {s : Nat} (h : Long X Q D (val xs * 2 ^ s) 0) (hD : Wd D) (hd : val D = val ys * 2 ^ s) : val (X.take D.length) / 2 ^ s = val xs - val Q * val ys ∧ 0 ≤ val xs - val Q * val ys ∧ val xs - val Q * val ys < val ys := by
  have p := two_pos s
  have l := h.lenX
  have hh := h.high hD
  rw [Nat.zero_add] at hh
  have e := val_split X D.length (by omega)
  rw [hh, Int.mul_zero] at e
  have hl := h.less
  rw [List.drop_zero] at hl
  have x0 := val_nonneg h.wX
  have f : val (X.take D.length) = (val xs - val Q * val ys) * 2 ^ s := by have := h.sum; rw [hd] at this; grind
  refine ⟨by rw [f]; exact Int.mul_ediv_cancel _ (by omega), ?_, ?_⟩
  · by_cases c : 0 ≤ val xs - val Q * val ys
    · exact c
    · have := Int.mul_le_mul_of_nonneg_right (show val xs - val Q * val ys ≤ -1 by omega) (Int.le_of_lt p); omega
  · have g : (val xs - val Q * val ys) * 2 ^ s < val ys * 2 ^ s := by rw [← hd, ← f]; omega
    exact Int.lt_of_mul_lt_mul_right g (Int.le_of_lt p)
theorem norm_words {ys V : List Int} {s : Nat} {m : Nat} (hy : Wd ys) (hV : Wd V) (hm : ys.length = m + 1) (hl : V.length = ys.length + 1) (hv : val V = val ys * 2 ^ s) (h1 : 9223372036854775808 ≤ nth ys m * 2 ^ s) (h2 : nth ys m * 2 ^ s < 18446744073709551616) (hs : s ≤ 63) :
    val (V.take (m + 1)) = val ys * 2 ^ s ∧ 0 < nth (V.take (m + 1)) m ∧ 9223372036854775808 * pw m ≤ val ys * 2 ^ s := by
  have p := two_pos s
  have q := pw_pos m
  have e1 := val_last (X := ys) (n := m) hm
  have t0 := val_nonneg (hy.take m)
  have t1 := val_lt (hy.take m)
  rw [List.length_take, Nat.min_eq_left (by omega)] at t1
  have e2 := val_last (X := V) (n := m + 1) (by omega)
  have u0 := val_nonneg (hV.take (m + 1))
  have u1 := val_lt (hV.take (m + 1))
  rw [List.length_take, Nat.min_eq_left (by omega)] at u1
  have pe : pw (m + 1) = 18446744073709551616 * pw m := rfl
  have lo : 9223372036854775808 * pw m ≤ val ys * 2 ^ s := by
    have a := Int.mul_le_mul_of_nonneg_right h1 (Int.le_of_lt q)
    have b := Int.mul_nonneg t0 (Int.le_of_lt p)
    rw [e1]; grind
  have hi : val ys * 2 ^ s < pw (m + 1) := by
    have k : nth ys m * 2 ^ s + 2 ^ s ≤ 18446744073709551616 := by
      have e := pow_split (show s ≤ 64 by omega)
      have g : nth ys m < 2 ^ (64 - s) := by
        rw [← e, Int.mul_comm] at h2
        exact Int.lt_of_mul_lt_mul_left h2 (Int.le_of_lt p)
      have := Int.mul_le_mul_of_nonneg_right (show nth ys m + 1 ≤ 2 ^ (64 - s) by omega) (Int.le_of_lt p)
      rw [Int.mul_comm (2 ^ (64 - s)), e] at this
      have e3 : (nth ys m + 1) * 2 ^ s = nth ys m * 2 ^ s + 2 ^ s := by grind
      omega
    have a := Int.mul_le_mul_of_nonneg_right k (Int.le_of_lt q)
    have b := Int.mul_lt_mul_of_pos_right t1 p
    rw [e1, pe]; grind
  have tb := nth_bd hV (m + 1)
  have z : nth V (m + 1) = 0 := by
    by_cases c : nth V (m + 1) = 0
    · exact c
    · have := Int.mul_le_mul_of_nonneg_left (show 1 ≤ nth V (m + 1) by omega) (Int.le_of_lt (pw_pos (m + 1))); omega
  rw [z, Int.mul_zero] at e2
  have e3 : val (V.take (m + 1)) = val ys * 2 ^ s := by omega
  refine ⟨e3, ?_, lo⟩
  have e4 := val_last (X := V.take (m + 1)) (n := m) (by rw [List.length_take]; omega)
  have v1 := val_lt ((hV.take (m + 1)).take m)
  rw [List.length_take, List.length_take, Nat.min_eq_left (by omega)] at v1
  have tb2 := nth_bd (hV.take (m + 1)) m
  by_cases c : 0 < nth (V.take (m + 1)) m
  · exact c
  · have : nth (V.take (m + 1)) m = 0 := by omega
    rw [this, Int.mul_zero] at e4; omega
theorem Long.first {xs X D : List Int} {s L n : Nat} (hx : Wd xs) (hX : Wd X) (hl : X.length = xs.length + 1) (hL : xs.length + 1 = L + n) (hn : D.length = n) (n1 : 1 ≤ n) (hv : val X = val xs * 2 ^ s) (hs : s ≤ 63) (hd : 9223372036854775808 * pw (n - 1) ≤ val D) : Long X (List.replicate L 0) D (val xs * 2 ^ s) L := by
  refine ⟨by simp; omega, hX, Wd.zeros _, by simp, by rw [val_zeros]; omega, ?_, by simp⟩
  have e := val_split X L (by omega)
  have a := val_nonneg (hX.take L)
  have b := val_lt hx
  have p := two_pos s
  have c := Int.mul_lt_mul_of_pos_right b p
  have e2 : pw xs.length = pw L * pw (n - 1) := by rw [← pw_add]; congr 1; omega
  have sm : (2 : Int) ^ s ≤ 9223372036854775808 := by
    have e3 : (2 : Int) ^ 63 = 2 ^ s * 2 ^ (63 - s) := by rw [← Int.pow_add]; congr 1; omega
    have := Int.mul_le_mul_of_nonneg_left (show (1 : Int) ≤ 2 ^ (63 - s) from two_pos _) (Int.le_of_lt p)
    have e4 : (2 : Int) ^ 63 = 9223372036854775808 := rfl
    omega
  have q := pw_pos (n - 1)
  have d := Int.mul_le_mul_of_nonneg_left sm (Int.le_of_lt q)
  have g : pw L * val (X.drop L) < pw L * (pw (n - 1) * 2 ^ s) := by rw [e2] at c; grind
  have := Int.lt_of_mul_lt_mul_left g (Int.le_of_lt (pw_pos L))
  have : pw (n - 1) * 9223372036854775808 = 9223372036854775808 * pw (n - 1) := Int.mul_comm _ _
  omega
end Go.Proofs.YtebilgnmnambnaaGreatDoor
