import Derived.Test.YtfalncbcomlelaaGreatDoorCmp
import Derived.Lib.ItoaNum
namespace Go.Proofs.YtfalncbcomlelaaGreatDoor
open Go.RowKit Tn

theorem pw_two (n : Nat) : pw n = 2 ^ (64 * n) := by
  induction n with
  | zero => rfl
  | succ n ih => rw [show 64 * (n + 1) = 64 * n + 64 from by omega, Int.pow_add, ← ih]; simp only [pw]; rw [Int.mul_comm]; rfl
theorem bitLen_bd (x : Int) (h0 : 0 < x) (h1 : x < 18446744073709551616) : 1 ≤ Lib.bitLen x.toNat ∧ Lib.bitLen x.toNat ≤ 64 ∧ (2 : Int) ^ (Lib.bitLen x.toNat - 1) ≤ x ∧ x < 2 ^ Lib.bitLen x.toNat := by
  obtain ⟨n, rfl⟩ := Int.eq_ofNat_of_zero_le (Int.le_of_lt h0)
  rw [Int.toNat_natCast]
  have hb := Lib.bitLenAux_bounds 64 n (by omega) (by omega)
  have hc := Lib.bitLen_le n 64 (by omega) (by omega)
  refine ⟨hb.1, hc, ?_, ?_⟩
  · have := Int.ofNat_le.2 hb.2.1; rw [Int.natCast_pow] at this; exact this
  · have := Int.ofNat_lt.2 hb.2.2; rw [Int.natCast_pow] at this; exact this
theorem val_top {xs : List Int} (ne : 0 < xs.length) : val xs = val (xs.take (xs.length - 1)) + pw (xs.length - 1) * nth xs (xs.length - 1) := by
  have e := val_at xs (xs.length - 1) (by omega)
  rw [Nat.sub_add_cancel ne, List.take_length] at e; exact e
theorem nm_top {xs : List Int} (h : Wd xs) (n : Nm xs) (ne : 0 < xs.length) : 0 < nth xs (xs.length - 1) := by
  rcases n with rfl | n
  · simp at ne
  · have := (nth_bd h (xs.length - 1)).1; unfold nth at *; omega
theorem bitLen_val {xs : List Int} (h : Wd xs) (n : Nm xs) (ne : 0 < xs.length) : ∃ L : Nat, (xs.length : Int) * 64 - (64 - (Lib.bitLen (nth xs (xs.length - 1)).toNat : Int)) = (L : Int) ∧ val xs < 2 ^ L ∧ 1 ≤ L ∧ (2 : Int) ^ (L - 1) ≤ val xs := by
  have ht := nm_top h n ne
  have hb := bitLen_bd (nth xs (xs.length - 1)) ht (nth_bd h _).2
  have e := val_top ne
  have v0 := val_nonneg (h.take (xs.length - 1))
  have v1 := val_lt (h.take (xs.length - 1))
  rw [List.length_take, Nat.min_eq_left (by omega)] at v1
  have p := pw_pos (xs.length - 1)
  refine ⟨64 * (xs.length - 1) + Lib.bitLen (nth xs (xs.length - 1)).toNat, by omega, ?_, by omega, ?_⟩
  · rw [Int.pow_add, ← pw_two]
    have := Int.mul_le_mul_of_nonneg_left (show nth xs (xs.length - 1) + 1 ≤ 2 ^ Lib.bitLen (nth xs (xs.length - 1)).toNat by omega) (Int.le_of_lt p)
    grind
  · rw [show 64 * (xs.length - 1) + Lib.bitLen (nth xs (xs.length - 1)).toNat - 1 = 64 * (xs.length - 1) + (Lib.bitLen (nth xs (xs.length - 1)).toNat - 1) from by omega, Int.pow_add, ← pw_two]
    have := Int.mul_le_mul_of_nonneg_left hb.2.2.1 (Int.le_of_lt p)
    omega

set_option maxRecDepth 100000 in
set_option maxHeartbeats 400000 in
/-- (Nat).BitLen. -/
theorem BitLen_any (v : Value) (xs : List Int) (w : World) (h : Rd w v xs) (n : Nm xs) (hL : xs.length ≤ 1099511627776) :
    Calls Tryz.prog 103 #[.agg #[v]] w fun e w' => ∃ L : Nat, e = .returned (.int .i64 L) ∧ val xs < 2 ^ L ∧ (L = 0 ∨ (2 : Int) ^ (L - 1) ≤ val xs) ∧ (L : Int) ≤ 64 * xs.length ∧ Below w.heap.size w w' := by
  obtain ⟨w1, a, c, rfl, _, _, g⟩ := h
  by_cases h0 : xs.length = 0
  · have e0 : xs = [] := List.eq_nil_of_length_eq_zero h0
    have ht : ((xs.length : Int) == 0) = true := by rw [h0]; rfl
    have R : Hid (val xs = 0) := by rw [e0]; rfl
    clear g e0
    go_enter Tryz.func103, Tryz.ntmps103
    go_wp2
    go_ret
    exact ⟨0, rfl, by rw [R.out]; decide, Or.inl rfl, by omega, (Below.refl _ _).alloc (Nat.le_refl _) _⟩
  · obtain ⟨b, o, rfl, hc⟩ := g (by omega)
    have hb := hc.lt (by omega)
    have hc1 := hc.at (i := xs.length - 1) (by omega)
    have bd := nth_bd w1 (xs.length - 1)
    obtain ⟨L, e1, e2, e3, e4⟩ := bitLen_val w1 n (by omega)
    have ht := nm_top w1 n (by omega)
    have hb2 := bitLen_bd (nth xs (xs.length - 1)) ht bd.2
    have E1 : Hid _ := e1
    have ht' : ((xs.length : Int) == 0) = false := by rw [beq_eq_false_iff_ne]; omega
    have hL2 : (Lib.bitLen (nth xs (xs.length - 1)).toNat : Int) ≤ 64 := by omega
    clear e1 hb2 g
    go_enter Tryz.func103, Tryz.ntmps103
    go_wp2_with (go_at_call 125; refine (Tryz.bits_LeadingZeros64 _ _ bd.1 (by omega)).mono ?_; rintro e w' ⟨rfl, rfl⟩)
    go_ret
    exact ⟨L, by rw [← E1.out]; rfl, e2, Or.inr e4, by have := E1.out; omega, (Below.refl _ _).alloc (Nat.le_refl _) _⟩

set_option maxRecDepth 100000 in
/-- whole.Of. -/
theorem Of_any (x : Int) (w : World) (h0 : 0 ≤ x) (h1 : x < 18446744073709551616) :
    Calls Tryz.prog 59 #[.int .u64 x] w fun e w' => ∃ r zs, e = .returned (.agg #[r]) ∧ Rd w' r zs ∧ Nm zs ∧ val zs = x ∧ Below w.heap.size w w' := by
  have hc : Hid (Cells ((w.alloc (.cells #[.slice none 0 0] 56)).alloc (.cells #[.int .u64 x] 95)) (w.heap.size + 1) 0 [x]) := by
    intro i hi
    have : i = 0 := by simp at hi; omega
    subst this
    simp [nth]
  go_enter Tryz.func59, Tryz.ntmps59
  go_wp2_with fail
  refine (trim_rd _ _ _ [x] _ rfl (Wd.cons h0 h1 Wd.nil) (by simp) (by omega) (fun _ => ⟨_, _, rfl, hc.out⟩)).mono ?_
  rintro e w4 ⟨n, zs, rfl, -, hrd, hnm, hvz, hbl⟩
  have V2 := ((Bx.new w _ _).alloc _).below hbl
  have v1 := V2.1
  have v2 := V2.2
  have hvz' : Hid (val zs = x) := by
    have e : val [x] = x := by simp [val]
    exact hvz.trans e
  have pr : Below w.heap.size w ((w.alloc (.cells #[.slice none 0 0] 56)).alloc (.cells #[.int .u64 x] 95)) := ((Below.refl _ _).alloc (Nat.le_refl _) _).alloc (by simp) _
  clear hvz
  go_wp2
  refine bodyPost_ret (v := .agg #[.slice (some ⟨w.heap.size + 1, 0, none⟩) n 1]) (by simp [results, Tryz.results59, go_sem, v1]) rfl ⟨_, zs, rfl, hrd.put (by intro b o l c e; simp at e; omega), hnm, hvz'.out, below_put (pr.trans (hbl.mono pr.size)) (by omega) _⟩

set_option maxRecDepth 100000 in
/-- whole.multiplyAdd: x y + z, its low and its high word. -/
theorem mulAdd_any (x y z : Int) (w : World) (x0 : 0 ≤ x) (x1 : x < 18446744073709551616) (y0 : 0 ≤ y) (y1 : y < 18446744073709551616) (z0 : 0 ≤ z) (z1 : z < 18446744073709551616) :
    Calls Tryz.prog 96 #[.int .u64 x, .int .u64 y, .int .u64 z] w fun e w' => ∃ l h, e = .returned (.tuple #[.int .u64 l, .int .u64 h]) ∧ 0 ≤ l ∧ l < 18446744073709551616 ∧ 0 ≤ h ∧ h < 18446744073709551616 ∧ l + 18446744073709551616 * h = x * y + z ∧ w' = w := by
  have hh := hiw_bd x0 x1 y0 y1
  have hl := low_bd x y
  have e := hilo x y
  have E : Hid _ := e
  clear e
  go_enter Tryz.func96, Tryz.ntmps96
  go_wp2_with (first | (go_at_call 124; refine (mul64 x y _ x0 x1 y0 y1).mono ?_; rintro e w' ⟨rfl, rfl⟩) | simp only [add64_0 _ _ hl.1 z0])
  go_ret2
  exact ⟨_, _, rfl, by omega, by omega, by omega, by omega, by have := E.out; omega, rfl⟩
end Go.Proofs.YtfalncbcomlelaaGreatDoor
