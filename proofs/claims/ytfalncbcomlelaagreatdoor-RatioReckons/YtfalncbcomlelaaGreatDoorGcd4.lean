import Derived.Test.YtfalncbcomlelaaGreatDoorGcd3
namespace Go.Proofs.YtfalncbcomlelaaGreatDoor
open Go.RowKit Tn

theorem val_pad (X : List Int) : val (X ++ [0]) = val X := by rw [val_append]; simp [val]
theorem nth_pad {X : List Int} {i : Nat} (h : i < X.length) : nth (X ++ [0]) i = nth X i := by simp [nth, List.getD_eq_getElem?_getD, List.getElem?_append_left h]
theorem nth_pad_last {X : List Int} : nth (X ++ [0]) X.length = 0 := by simp [nth, List.getD_eq_getElem?_getD]
/-- Of two numbers with as many words the lesser one has no greater first word. -/
theorem top_le {X Y : List Int} {n : Nat} (hX : Wd X) (hY : Wd Y) (lX : X.length = n + 1) (lY : Y.length = n + 1) (h : val Y ≤ val X) : nth Y n ≤ nth X n := by
  by_cases c : nth Y n ≤ nth X n
  · exact c
  · have := top_lt hX hY (lX.trans lY.symm) n (by omega) (by rw [← lX, List.drop_length, lX, ← lY, List.drop_length]) (by omega); omega

/-- whole.foresee. -/
theorem foresee_any (xb xo yb yo c1 c2 n ny : Nat) (X Y : List Int) (w : World) (en : n = X.length) (eny : ny = Y.length) (hX : Wd X) (hY : Wd Y) (nX : Nm X) (l2 : 2 ≤ Y.length) (hle : Y.length ≤ X.length) (hba : val Y ≤ val X) (hL : X.length ≤ 274877906944) (cX : Cells w xb xo X) (cY : Cells w yb yo Y) :
    Calls Tryz.prog 98 #[.slice (some ⟨xb, xo, none⟩) n c1, .slice (some ⟨yb, yo, none⟩) ny c2] w fun e w' => Fore (val X) (val Y) w e w' ∧ (Y.length + 1 < X.length → ∃ x0 y0 y1 t, e = .returned (.agg #[.int .u64 x0, .int .u64 y0, .int .u64 0, .int .u64 y1, .bool t])) := by
  subst en eny
  by_cases hs : Y.length + 1 < X.length
  · refine (foresee_none _ _ X.length Y.length c1 c2 w hs (by omega)).mono ?_
    rintro e w' ⟨rfl, hb⟩
    exact ⟨Fore.mk rfl (Or.inl rfl) hb, fun _ => ⟨_, _, _, _, rfl⟩⟩
  · obtain ⟨m, hm⟩ : ∃ m, X.length = m + 2 := ⟨X.length - 2, by omega⟩
    have tx := nm_top hX nX (by omega)
    rw [hm] at tx
    have tx' : 0 < nth X (m + 1) := tx
    have bx := nth_bd hX (m + 1)
    obtain ⟨s, hS⟩ : ∃ s : Nat, (s : Int) = 64 - (Lib.bitLen (nth X (m + 1)).toNat : Int) := ⟨64 - Lib.bitLen (nth X (m + 1)).toNat, by have := bitLen_bd _ tx' bx.2; omega⟩
    obtain ⟨s1, n1, n2⟩ := norm_bd _ s tx' bx.2 hS
    have p := two_pos s
    have q := two_pos (64 - s)
    have H0 : 0 < pw m * 2 ^ (64 - s) := Int.mul_pos (pw_pos m) q
    obtain ⟨al, fa, al0, al1⟩ := first_words hX hm s1
    have sx := shift_out_lt (nth X m) s (by omega) (nth_bd hX m).1 (nth_bd hX m).2
    have sy := shift_out_lt (nth Y m) s (by omega) (nth_bd hY m).1 (nth_bd hY m).2
    have orx := or_shift s (nth X (m + 1)) (nth X m / 2 ^ (64 - s)) bx.1 n2 sx.1 sx.2 (by have := Int.mul_le_mul_of_nonneg_right (show 1 ≤ nth X (m + 1) by omega) (Int.le_of_lt p); omega)
    have ahb : nth X (m + 1) * 2 ^ s + nth X m / 2 ^ (64 - s) < 18446744073709551616 := by
      have e := pow_split (show s ≤ 64 by omega)
      have g : nth X (m + 1) < 2 ^ (64 - s) := by
        rw [← e, Int.mul_comm] at n2; exact Int.lt_of_mul_lt_mul_left n2 (Int.le_of_lt p)
      have := Int.mul_le_mul_of_nonneg_right (show nth X (m + 1) + 1 ≤ 2 ^ (64 - s) by omega) (Int.le_of_lt p)
      rw [Int.mul_comm (2 ^ (64 - s)), e] at this
      have e3 : (nth X (m + 1) + 1) * 2 ^ s = nth X (m + 1) * 2 ^ s + 2 ^ s := by grind
      omega
    have fin : ∀ (bh bl : Int), val Y = bh * (pw m * 2 ^ (64 - s)) + bl → 0 ≤ bl → bl < pw m * 2 ^ (64 - s) → 0 ≤ bh → (Y.length = m + 1 → nth Y m / 2 ^ (64 - s) = bh) → (Y.length = m + 2 → IntKind.u64.wrap (nth Y (m + 1) * 2 ^ s) = nth Y (m + 1) * 2 ^ s ∧ bits .or .u64 (nth Y m / 2 ^ (64 - s)) (nth Y (m + 1) * 2 ^ s) = bh) →
        Calls Tryz.prog 98 #[.slice (some ⟨xb, xo, none⟩) X.length c1, .slice (some ⟨yb, yo, none⟩) Y.length c2] w fun e w' => Fore (val X) (val Y) w e w' ∧ (Y.length + 1 < X.length → ∃ x0 y0 y1 t, e = .returned (.agg #[.int .u64 x0, .int .u64 y0, .int .u64 0, .int .u64 y1, .bool t])) := by
      intro bh bl fb bl0 bl1 bh0 r3 r4
      rw [hm]
      refine (foresee_core xb xo yb yo c1 c2 m Y.length s X Y (nth X (m + 1) * 2 ^ s + nth X m / 2 ^ (64 - s)) bh (val X) (val Y) (pw m * 2 ^ (64 - s)) al bl w (by omega) (by omega) hS s1 (cX.at (by omega)) (cX.at (by omega)) (cY.at (by omega)) (fun h => cY.at (by omega)) bx (le_wrap (by omega) n2) orx r3 r4 fa fb H0 al0 al1 bl0 bl1 hba (val_nonneg hY) bh0 (first_le fa fb H0 al1 bl0 hba) ahb).mono ?_
      exact fun e w' h => ⟨h, fun c => absurd c (by omega)⟩
    by_cases hl : Y.length = m + 2
    · obtain ⟨bl, fb, bl0, bl1⟩ := first_words hY hl s1
      have ty := top_le (n := m + 1) hX hY hm hl hba
      have by1 := nth_bd hY (m + 1)
      have y2 : nth Y (m + 1) * 2 ^ s < 18446744073709551616 := by have := Int.mul_le_mul_of_nonneg_right ty (Int.le_of_lt p); omega
      have y3 := Int.mul_nonneg by1.1 (Int.le_of_lt p)
      have sb : nth Y m / 2 ^ (64 - s) < 18446744073709551616 := by have := Int.ediv_le_self (2 ^ (64 - s)) (nth_bd hY m).1; have := (nth_bd hY m).2; omega
      refine fin _ bl fb bl0 bl1 (by omega) (fun h => absurd h (by omega)) (fun _ => ⟨le_wrap y3 y2, ?_⟩)
      rw [or_shift' s _ _ by1.1 y2 sy.1 sy.2 sb]; omega
    · have hl' : Y.length = m + 1 := by omega
      have wp : Wd (Y ++ [0]) := hY.append (Wd.cons (by omega) (by omega) Wd.nil)
      obtain ⟨bl, fb, bl0, bl1⟩ := first_words wp (by simp; omega) s1
      have e1 : nth (Y ++ [0]) (m + 1) = 0 := by rw [← hl']; exact nth_pad_last
      rw [val_pad, e1, nth_pad (by omega)] at fb
      refine fin (nth Y m / 2 ^ (64 - s)) bl (by rw [fb]; grind) bl0 bl1 sy.1 (fun _ => rfl) (fun h => absurd h hl)
end Go.Proofs.YtfalncbcomlelaaGreatDoor
