import Derived.Test.YtfalncbcomlelaaGreatDoorB6
import Derived.Test.YtfalncbcomlelaaGreatDoorB12
namespace Go.Proofs.YtfalncbcomlelaaGreatDoor.L
open Go.RowKit Tl

theorem bits_mask (S : Int) (r : Nat) (hr : r < 30) (h0 : 0 ≤ S) (h1 : S ≤ 576460752303423488) : bits .and .i64 S (2 ^ r - 1) = S % 2 ^ r := by
  obtain ⟨a, rfl⟩ := Int.eq_ofNat_of_zero_le h0
  have hp : 2 ^ r ≤ 2 ^ 29 := Nat.pow_le_pow_right (by decide) (by omega)
  have hp0 : 0 < 2 ^ r := Nat.two_pow_pos r
  have e : (2 : Int) ^ r - 1 = ((2 ^ r - 1 : Nat) : Int) := by
    have e : ((2 ^ r : Nat) : Int) = (2 : Int) ^ r := by simp
    omega
  have a1 : (BitVec.ofInt 64 ((a : Nat) : Int)).toNat = a := by
    rw [BitVec.ofInt_natCast, BitVec.toNat_ofNat]; exact Nat.mod_eq_of_lt (by omega)
  have a2 : (BitVec.ofInt 64 ((2 ^ r - 1 : Nat) : Int)).toNat = 2 ^ r - 1 := by
    rw [BitVec.ofInt_natCast, BitVec.toNat_ofNat]; exact Nat.mod_eq_of_lt (by omega)
  rw [e]
  show IntKind.i64.wrap ((BitVec.ofInt 64 ((a : Nat) : Int) &&& BitVec.ofInt 64 ((2 ^ r - 1 : Nat) : Int)).toNat : Int) = _
  rw [BitVec.toNat_and, a1, a2, Nat.and_two_pow_sub_one_eq_mod]
  have hm := Nat.mod_lt a hp0
  rw [wrap_self _ (by omega) (by omega)]
  simp
/-- What is thrown away counts for nothing. -/
theorem shr_val {xs X : List Int} {n q r : Nat} {cy : Int} (hx : Wd xs) (hq : q < xs.length) (en : n = 30 * q + r) (c0 : 0 ≤ cy) (c1 : cy < 2 ^ r) (h : val X * 2 ^ r + cy = val (xs.drop q)) : val X = val xs / 2 ^ n := by
  have p0 : (0 : Int) < 2 ^ r := Int.pow_pos (by decide)
  have e1 := val_split xs q (by omega)
  have t0 := val_nonneg (hx.take q)
  have t1 := val_lt (hx.take q)
  rw [List.length_take, Nat.min_eq_left (by omega)] at t1
  have pq := pw_pos q
  have e2 : val xs / pw q = val (xs.drop q) := by
    rw [e1, Int.add_mul_ediv_left _ _ (by omega), Int.ediv_eq_zero_of_lt t0 t1]; omega
  have e3 : val (xs.drop q) / 2 ^ r = val X := by
    rw [← h, Int.add_comm, Int.add_mul_ediv_right _ _ (by omega), Int.ediv_eq_zero_of_lt c0 c1]; omega
  rw [en, Int.pow_add, ← pw_two, ← Int.ediv_ediv_of_nonneg (Int.le_of_lt pq), e2, e3]
set_option maxHeartbeats 1600000 in
set_option maxRecDepth 100000 in
/-- (Nat).Shr of the reference. -/
theorem shr_some (b1 o1 c1 : Nat) (xs : List Int) (n q r : Nat) (w : World) (hx : Wd xs) (hc1 : Cells w b1 o1 xs) (l1 : xs.length ≤ 549755813888) (l2 : xs.length ≤ c1) (l3 : c1 ≤ 9223372036854775807) (hn : n ≤ 1099511627776) (hq : (n : Int) / 30 = q) (hr : (n : Int) % 30 = r) (hlt : q < xs.length) :
    Calls Tryz.prog 109 #[.slice (some ⟨b1, o1, none⟩) xs.length c1, .int .i64 n] w fun e w' => ∃ v zs, e = .returned v ∧ Rd w' v zs ∧ Nm zs ∧ val zs = val xs / 2 ^ n ∧ Below w.heap.size w w' := by
  have r1 : r < 30 := by omega
  have hge : ¬ ((xs.length : Int) ≤ q) := by omega
  have hcap : q < c1 := by omega
  obtain ⟨Y, hY⟩ : ∃ Y, Y = xs.drop q := ⟨_, rfl⟩
  have lY : Y.length = xs.length - q := by rw [hY, List.length_drop]
  have wY : Wd Y := by rw [hY]; exact hx.drop q
  have cY : Hid (Cells w b1 (o1 + q) Y) := by rw [hY]; exact hc1.drop q
  have HY : Hid (Y = xs.drop q) := hY
  clear hY
  have hp : ((2 : Int) ^ r) ≤ 536870912 := by
    have h : 2 ^ r ≤ 2 ^ 29 := Nat.pow_le_pow_right (by decide) (by omega)
    have e : ((2 ^ r : Nat) : Int) = (2 : Int) ^ r := by simp
    rw [← e]; omega
  have hp0 : (0 : Int) < 2 ^ r := Int.pow_pos (by decide)
  go_enter Tryz.func109, Tryz.ntmps109
  go_wp2_with (first
    | (at_builtin; refine wpList_append_nat rfl _ _ rfl w.heap.size w.heap.size #[] rfl (heap_alloc_new _ _) rfl (Nat.le_refl _) b1 (o1 + q) (xs.length - q) (c1 - q) Y rfl lY.symm (cY.out.grow ((Below.refl _ _).alloc (Nat.le_refl _) _)) (by omega) (by simp) ?_; intro g cap w1 hown hg ho hcap2 hlc hcs hbl; clear hown)
    | fail)
  go_loopw [6, 7] (fun c i wr => ∃ (j : Nat) (cy : Int) (X : List Int), j ≤ Y.length ∧ c = .int .i64 cy ∧ i = .int .i64 ((j : Int) - 1) ∧ 0 ≤ cy ∧ cy < 2 ^ r ∧ X.length = Y.length ∧ Wd X ∧ X.take j = Y.take j ∧ val (X.drop j) * 2 ^ r + cy = val (Y.drop j) ∧ Cells wr g 0 X ∧ Wr g 0 Y.length w1 wr) (fun _ i _ => (intOf i + 1).toNat)
  case atStart => exact ⟨Y.length, 0, Y, Nat.le_refl _, rfl, by go_num, by omega, hp0, rfl, wY, rfl, by simp [val], hcs, Wr.refl _ _ _ _⟩
  case round =>
    obtain ⟨j, cy, X, hj, rfl, rfl, r0, r2, hl, hX, ht, hv, hc, hwr⟩ := hrel
    have HV : Hid (val (X.drop j) * 2 ^ r + cy = val (Y.drop j)) := hv
    have HT : Hid (X.take j = Y.take j) := ht
    clear hv ht
    have hb := ((Below.refl w.heap.size w).alloc (Nat.le_refl _) (Obj.cells #[] 3)).trans (hbl.trans (hwr.below (B := w.heap.size) hg (by have := hbl.size; simp at this; omega)))
    by_cases hlt2 : 0 < j
    · obtain ⟨i, rfl⟩ : ∃ i, j = i + 1 := ⟨j - 1, by omega⟩
      have kx := hc.at (i := i) (by omega)
      have kf := ((ho.wr hwr).free 0 Y.length) i (by omega)
      rw [Nat.zero_add] at kx kf
      have bx := nth_bd hX i
      obtain ⟨S, hS⟩ : ∃ S, nth X i + cy * 1073741824 = S := ⟨_, rfl⟩
      have p1 : IntKind.i64.wrap (cy * 1073741824) = cy * 1073741824 := wrap_self _ (by omega) (by omega)
      have p2 : IntKind.i64.wrap (nth X i + cy * 1073741824) = S := by rw [hS]; exact wrap_self _ (by omega) (by omega)
      have s0 : 0 ≤ S := by omega
      have s1 : S ≤ 576460752303423488 := by omega
      have t1 : ((i : Int) + 1 - 1) = i := by omega
      have eX : nth X i = nth Y i := by
        have := congrArg (fun l => nth l i) HT.out
        rwa [nth_take _ _ _ (by omega), nth_take _ _ _ (by omega)] at this
      have R : Hid _ := quo_step (s := S) hX (by omega) (by omega) hp0 r0 r2 (nth_bd wY i).1 (nth_bd wY i).2 (by omega) HV.out
      have bm := bits_mask S r r1 s0 s1
      clear hS eX
      go_wp2
      go_roundw
      case rel =>
        refine ⟨i, _, _, by omega, rfl, by go_num, R.out.2.2.1, R.out.2.2.2, by simp [hl], R.out.1, ?_, R.out.2.1, by simpa using hc.set i (by omega) _, by simpa using hwr.setCell i (by omega) _⟩
        rw [take_set_same]
        have := congrArg (List.take i) HT.out
        rwa [List.take_take, List.take_take, Nat.min_eq_left (by omega)] at this
      case measure => simp [intOf]
    · have ek : j = 0 := by omega
      subst ek
      have Rv : Hid (val X = val xs / 2 ^ n) := by
        have h := HV.out
        rw [List.drop_zero, List.drop_zero, HY.out] at h
        exact shr_val hx hlt (by omega) r0 r2 h
      clear HV HT
      go_wp2_with (first
        | (go_at_call 107; refine (norm_rd _ _ _ X _ (by omega) hX (by omega) hcap2 (fun _ => ⟨_, _, rfl, hc⟩)).mono ?_; rintro e w' ⟨n', zs, rfl, hrd, hnm, hvz, rfl⟩; have hvz' : Hid _ := hvz.trans Rv.out; clear hvz)
        | fail)
      go_ret
      exact ⟨_, zs, rfl, hrd, hnm, hvz'.out, hb⟩
set_option maxRecDepth 100000 in
theorem shr_none (a1 : Option Addr) (l c1 : Nat) (n q : Int) (w : World) (hn0 : 0 ≤ n) (hn1 : n ≤ 1099511627776) (hq : n / 30 = q) (hl : (l : Int) ≤ q) :
    Calls Tryz.prog 109 #[.slice a1 l c1, .int .i64 n] w fun e w' => e = .returned (.slice none 0 0) ∧ w' = w := by
  go_enter Tryz.func109, Tryz.ntmps109
  go_wp2
  go_ret
  exact ⟨rfl, rfl⟩
theorem Shr_any (v : Value) (xs : List Int) (n : Nat) (w : World) (h : Rd w v xs) (l1 : xs.length ≤ 549755813888) (hn : n ≤ 1099511627776) :
    Calls Tryz.prog 109 #[v, .int .i64 n] w fun e w' => ∃ r zs, e = .returned r ∧ Rd w' r zs ∧ Nm zs ∧ val zs = val xs / 2 ^ n ∧ Below w.heap.size w w' := by
  obtain ⟨hx, a1, c1, rfl, h2, h3, g1⟩ := h
  by_cases ne : n / 30 < xs.length
  · obtain ⟨b, o, rfl, hc⟩ := g1 (by omega)
    exact shr_some b o c1 xs n (n / 30) (n % 30) w hx hc l1 h2 h3 hn (by simp) (by simp) ne
  · refine (shr_none a1 xs.length c1 n ((n / 30 : Nat) : Int) w (by omega) (by omega) (by omega) (by omega)).mono ?_
    rintro e w' ⟨rfl, rfl⟩
    refine ⟨_, [], rfl, rd_nil _, Or.inl rfl, ?_, Below.refl _ _⟩
    have v0 := val_nonneg hx
    have v1 := val_lt hx
    have p := pw_mono (show xs.length ≤ n / 30 by omega)
    have e2 : pw (n / 30) ≤ 2 ^ n := by
      rw [pw_two]
      have h : 2 ^ (30 * (n / 30)) ≤ 2 ^ n := Nat.pow_le_pow_right (by decide) (by omega)
      exact_mod_cast h
    exact (Int.ediv_eq_zero_of_lt v0 (by omega)).symm
end Go.Proofs.YtfalncbcomlelaaGreatDoor.L
