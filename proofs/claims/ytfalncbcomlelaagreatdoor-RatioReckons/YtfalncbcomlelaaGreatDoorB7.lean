import Derived.Test.YtfalncbcomlelaaGreatDoorBw
namespace Go.Proofs.YtfalncbcomlelaaGreatDoor.L
open Go.RowKit Tl

/-- One limb of a division by one. -/
theorem quo_step {X xs : List Int} {j : Nat} {r d s : Int} (hX : Wd X) (hj : j < X.length) (hx : j < xs.length) (d1 : 0 < d) (r0 : 0 ≤ r) (r1 : r < d) (b0 : 0 ≤ nth xs j) (b1 : nth xs j < 1073741824) (hs : s = r * 1073741824 + nth xs j)
    (hv : val (X.drop (j + 1)) * d + r = val (xs.drop (j + 1))) :
    Wd (X.set j (s / d)) ∧ val ((X.set j (s / d)).drop j) * d + s % d = val (xs.drop j) ∧ 0 ≤ s % d ∧ s % d < d := by
  have s0 : 0 ≤ s := by omega
  have e := Int.mul_ediv_add_emod s d
  have m0 := Int.emod_nonneg s (show d ≠ 0 by omega)
  have m1 := Int.emod_lt_of_pos s d1
  have q0 : 0 ≤ s / d := Int.ediv_nonneg s0 (by omega)
  have q1 : s / d < 1073741824 := by
    apply Int.ediv_lt_of_lt_mul d1
    have := Int.mul_le_mul_of_nonneg_right (show r + 1 ≤ d by omega) (show (0 : Int) ≤ 1073741824 by decide)
    rw [Int.mul_comm 1073741824 d]; omega
  refine ⟨hX.set j q0 q1, ?_, m0, m1⟩
  have eX : (X.set j (s / d)).drop j = s / d :: X.drop (j + 1) := by
    rw [drop_getD _ j (by simpa using hj), List.drop_set_of_lt (by omega)]
    congr 1
    exact nth_set_same X j _ hj
  rw [eX, drop_getD xs j hx]
  simp only [val]
  have hb : nth xs j = xs.getD j 0 := rfl
  rw [← hb]
  generalize s / d = a at *
  generalize s % d = b at *
  generalize val (X.drop (j + 1)) = u at *
  generalize val (xs.drop (j + 1)) = z at *
  grind
set_option maxHeartbeats 1600000 in
set_option maxRecDepth 100000 in
/-- (Nat).small of the reference: by one limb; the answer lies in a row of its own. -/
theorem small_new (v1 : Value) (xs : List Int) (d : Int) (w : World) (h1 : Rd w v1 xs) (l1 : xs.length ≤ 549755813888) (d1 : 0 < d) (d2 : d < 1073741824) :
    Calls Tryz.prog 106 #[v1, .int .i64 d] w fun e w' => ∃ n zs m, e = .returned (.tuple #[.slice (some ⟨w.heap.size, 0, none⟩) n xs.length, .int .i64 m]) ∧ Rd w' (.slice (some ⟨w.heap.size, 0, none⟩) n xs.length) zs ∧ Nm zs ∧ val zs * d + m = val xs ∧ 0 ≤ m ∧ m < d ∧ Below w.heap.size w w' := by
  obtain ⟨hx, a1, c1, rfl, _, _, g1⟩ := h1
  have hs : Hid (∀ w', Below w.heap.size w w' → 0 < xs.length → ∃ b o, a1 = some ⟨b, o, none⟩ ∧ Cells w' b o xs) := fun w' h l => by obtain ⟨b, o, e, c⟩ := g1 l; exact ⟨b, o, e, c.grow h⟩
  clear g1
  go_enter Tryz.func106, Tryz.ntmps106
  go_wp2_with (first
    | (at_make; refine wpList_make_words rfl _ _ rfl xs.length _ _ rfl rfl rfl rfl (by omega) ?_; intro w1 k1 k2 k3 k4)
    | fail)
  go_loopw [7, 8] (fun c i wr => ∃ (j : Nat) (r : Int) (X : List Int), j ≤ xs.length ∧ c = .int .i64 r ∧ i = .int .i64 ((j : Int) - 1) ∧ 0 ≤ r ∧ r < d ∧ X.length = xs.length ∧ Wd X ∧ val (X.drop j) * d + r = val (xs.drop j) ∧ Cells wr w.heap.size 0 X ∧ Wr w.heap.size 0 xs.length w1 wr) (fun _ i _ => (intOf i + 1).toNat)
  case atStart => exact ⟨xs.length, 0, List.replicate xs.length 0, Nat.le_refl _, rfl, by go_num, by omega, d1, by simp, wd_zero _, by simp [val], k1, Wr.refl _ _ _ _⟩
  case round =>
    obtain ⟨j, r, X, hj, rfl, rfl, r0, r1, hl, hX, hv, hc, hwr⟩ := hrel
    have HV : Hid (val (X.drop j) * d + r = val (xs.drop j)) := hv
    clear hv
    have hb := k3.trans (hwr.below (B := w.heap.size) (Nat.le_refl _) (by omega))
    by_cases hlt : 0 < j
    · obtain ⟨i, rfl⟩ : ∃ i, j = i + 1 := ⟨j - 1, by omega⟩
      have kx := hc.at (i := i) (by omega)
      have kf := ((k2.wr hwr).free 0 xs.length) i (by omega)
      rw [Nat.zero_add] at kx kf
      have bx := nth_bd hx i
      obtain ⟨b1, o1, rfl, q1⟩ := hs.out _ hb (by omega)
      have e1 := q1.at (i := i) (by omega)
      obtain ⟨S, hS⟩ : ∃ S, r * 1073741824 + nth xs i = S := ⟨_, rfl⟩
      have R : Hid _ := quo_step hX (by omega) (by omega) d1 r0 r1 bx.1 bx.2 hS.symm HV.out
      have p1 : IntKind.i64.wrap (r * 1073741824) = r * 1073741824 := wrap_self _ (by omega) (by omega)
      have p2 : IntKind.i64.wrap (r * 1073741824 + nth xs i) = S := by rw [hS]; exact wrap_self _ (by omega) (by omega)
      have s0 : 0 ≤ S := by omega
      have s1 : S ≤ 1152921504606846976 := by omega
      have t1 : ((i : Int) + 1 - 1) = i := by omega
      have u1 : S.tdiv d = S / d := Int.tdiv_eq_ediv_of_nonneg s0
      have u2 : S.tmod d = S % d := Int.tmod_eq_emod_of_nonneg s0
      have u3 : IntKind.i64.wrap (S / d) = S / d := wrap_self _ (by have := Int.ediv_nonneg s0 (Int.le_of_lt d1); omega) (by have := Int.ediv_le_self d s0; omega)
      have nz : (d == 0) = false := by rw [beq_eq_false_iff_ne]; omega
      have nz2 : ¬ d = 0 := by omega
      clear hS
      go_wp2
      go_roundw
      case rel => exact ⟨i, _, _, by omega, rfl, by go_num, R.out.2.2.1, R.out.2.2.2, by simp [hl], R.out.1, R.out.2.1, by simpa using hc.set i (by omega) _, by simpa using hwr.setCell i (by omega) _⟩
      case measure => simp [intOf]
    · have ek : j = 0 := by omega
      subst ek
      have Rv : Hid (val X * d + r = val xs) := by have := HV.out; rw [List.drop_zero, List.drop_zero] at this; exact this
      clear HV
      go_wp2_with fail
      refine (norm_rd _ _ _ X wr hl.symm hX (by omega) (by omega) (fun _ => ⟨_, _, rfl, hc⟩)).mono ?_
      rintro e w' ⟨n, zs, rfl, hrd, hnm, hvz, rfl⟩
      have hvz' : Hid (val zs * d + r = val xs) := by have := Rv.out; rw [← hvz] at this; exact this
      clear hvz
      go_wp2
      exact bodyPost_ret (v := .tuple #[.slice (some ⟨w.heap.size, 0, none⟩) n xs.length, .int .i64 r]) (by simp [results, Tryz.results106, go_sem]) rfl ⟨_, zs, r, rfl, hrd, hnm, hvz'.out, r0, r1, hb⟩
theorem small_any (v1 : Value) (xs : List Int) (d : Int) (w : World) (h1 : Rd w v1 xs) (l1 : xs.length ≤ 549755813888) (d1 : 0 < d) (d2 : d < 1073741824) :
    Calls Tryz.prog 106 #[v1, .int .i64 d] w fun e w' => ∃ r zs m, e = .returned (.tuple #[r, .int .i64 m]) ∧ Rd w' r zs ∧ Nm zs ∧ val zs * d + m = val xs ∧ 0 ≤ m ∧ m < d ∧ Below w.heap.size w w' := by
  refine (small_new v1 xs d w h1 l1 d1 d2).mono ?_
  rintro e w' ⟨n, zs, m, he, hr⟩
  exact ⟨_, zs, m, he, hr⟩
end Go.Proofs.YtfalncbcomlelaaGreatDoor.L
