import Derived.Test.YtfalncbcomlelaaGreatDoorB5
namespace Go.Proofs.YtfalncbcomlelaaGreatDoor.L
open Go.RowKit Tl

/-- One limb of a difference. -/
theorem dif_step {X xs ys : List Int} {k : Nat} {c s v c' : Int} (hX : Wd X) (hk : k < X.length) (hs : s = nth xs k - c - nth ys k) (hv' : v = s + 1073741824 * c') (v0 : 0 ≤ v) (v1 : v < 1073741824)
    (hv : val (X.take k) - pw k * c = val (xs.take k) - val (ys.take k)) :
    Wd (X.set k v) ∧ val ((X.set k v).take (k + 1)) - pw (k + 1) * c' = val (xs.take (k + 1)) - val (ys.take (k + 1)) := by
  refine ⟨hX.set k v0 v1, ?_⟩
  rw [(Part.refl hX k).val hk, val_more xs k, val_more ys k]
  simp only [pw]
  grind
theorem dif_end {X xs ys : List Int} {c : Int} (hX : Wd X) (hl : X.length = xs.length) (n2 : ys.length ≤ xs.length) (le : val ys ≤ val xs) (c0 : 0 ≤ c)
    (e : val (X.take xs.length) - pw xs.length * c = val (xs.take xs.length) - val (ys.take xs.length)) : val X = val xs - val ys := by
  rw [List.take_of_length_le (by omega), List.take_of_length_le (by omega), List.take_of_length_le (by omega)] at e
  have b1 := val_lt hX
  rw [hl] at b1
  have hc : c = 0 := by
    by_cases h : c = 0
    · exact h
    · have := Int.mul_le_mul_of_nonneg_left (show 1 ≤ c by omega) (Int.le_of_lt (pw_pos xs.length))
      omega
  rw [hc] at e; omega
set_option maxHeartbeats 1600000 in
set_option maxRecDepth 100000 in
/-- (Nat).Sub of the reference, of what is not above. -/
theorem Sub_any (v1 v2 : Value) (xs ys : List Int) (w : World) (h1 : Rd w v1 xs) (h2 : Rd w v2 ys) (l1 : xs.length ≤ 549755813888) (n2 : ys.length ≤ xs.length) (le : val ys ≤ val xs) :
    Calls Tryz.prog 74 #[v1, v2] w fun e w' => ∃ r zs, e = .returned r ∧ Rd w' r zs ∧ Nm zs ∧ val zs = val xs - val ys ∧ Below w.heap.size w w' := by
  obtain ⟨hx, a1, c1, rfl, _, _, g1⟩ := h1
  obtain ⟨hy, a2, c2, rfl, _, _, g2⟩ := h2
  have hs : Hid (∀ w', Below w.heap.size w w' → 0 < xs.length → ∃ b o, a1 = some ⟨b, o, none⟩ ∧ Cells w' b o xs) := fun w' h l => by obtain ⟨b, o, e, c⟩ := g1 l; exact ⟨b, o, e, c.grow h⟩
  have hs2 : Hid (∀ w', Below w.heap.size w w' → 0 < ys.length → ∃ b o, a2 = some ⟨b, o, none⟩ ∧ Cells w' b o ys) := fun w' h l => by obtain ⟨b, o, e, c⟩ := g2 l; exact ⟨b, o, e, c.grow h⟩
  have LE : Hid (val ys ≤ val xs) := le
  clear g1 g2 le
  go_enter Tryz.func74, Tryz.ntmps74
  go_wp2_with (first
    | (at_make; refine wpList_make_words rfl _ _ rfl xs.length _ _ rfl rfl rfl rfl (by omega) ?_; intro w1 k1 k2 k3 k4)
    | fail)
  go_loopw [6, 7] (fun c i wr => ∃ (k : Nat) (cy : Int) (X : List Int), k ≤ xs.length ∧ c = .int .i64 cy ∧ i = .int .i64 k ∧ 0 ≤ cy ∧ cy ≤ 1 ∧ X.length = xs.length ∧ Wd X ∧ val (X.take k) - pw k * cy = val (xs.take k) - val (ys.take k) ∧ Cells wr w.heap.size 0 X ∧ Wr w.heap.size 0 xs.length w1 wr) (fun _ i _ => xs.length - (intOf i).toNat)
  case atStart => exact ⟨0, 0, List.replicate xs.length 0, Nat.zero_le _, rfl, rfl, by omega, by omega, by simp, wd_zero _, by simp [val, pw], k1, Wr.refl _ _ _ _⟩
  case round =>
    obtain ⟨k, cy, X, hk, rfl, rfl, c0, c1', hl, hX, hv, hc, hwr⟩ := hrel
    have HV : Hid (val (X.take k) - pw k * cy = val (xs.take k) - val (ys.take k)) := hv
    clear hv
    have hb := k3.trans (hwr.below (B := w.heap.size) (Nat.le_refl _) (by omega))
    by_cases hlt : k < xs.length
    · have kx := hc.at (i := k) (by omega)
      have kf := ((k2.wr hwr).free 0 xs.length) k hlt
      rw [Nat.zero_add] at kx kf
      have bx := nth_bd hx k
      have byy := nth_bd hy k
      obtain ⟨b1, o1, rfl, q1⟩ := hs.out _ hb (by omega)
      have d1 := q1.at (i := k) hlt
      by_cases e2 : k < ys.length
      · by_cases ng : nth xs k - cy - nth ys k < 0
        · skip
          obtain ⟨b2, o2, rfl, q2⟩ := hs2.out _ hb (by omega)
          have d2 := q2.at (i := k) e2
          have R : Hid _ := dif_step (s := nth xs k - cy - nth ys k) (v := nth xs k - cy - nth ys k + 1073741824) (c' := 1) hX (by omega) (by omega) (by omega) (by omega) (by omega) HV.out
          go_wp2
          go_roundw
          case rel => exact ⟨k + 1, 1, _, by omega, rfl, by go_num, by omega, by omega, by simp [hl], R.out.1, R.out.2, by simpa using hc.set k (by omega) _, by simpa using hwr.setCell k (by omega) _⟩
          case measure => simp [intOf]; omega
        · skip
          obtain ⟨b2, o2, rfl, q2⟩ := hs2.out _ hb (by omega)
          have d2 := q2.at (i := k) e2
          have R : Hid _ := dif_step (s := nth xs k - cy - nth ys k) (v := nth xs k - cy - nth ys k) (c' := 0) hX (by omega) (by omega) (by omega) (by omega) (by omega) HV.out
          go_wp2
          go_roundw
          case rel => exact ⟨k + 1, 0, _, by omega, rfl, by go_num, by omega, by omega, by simp [hl], R.out.1, R.out.2, by simpa using hc.set k (by omega) _, by simpa using hwr.setCell k (by omega) _⟩
          case measure => simp [intOf]; omega
      · by_cases ng : nth xs k - cy < 0
        · skip
          have z2 : nth ys k = 0 := nth_out ys k e2
          have R : Hid _ := dif_step (s := nth xs k - cy) (v := nth xs k - cy + 1073741824) (c' := 1) hX (by omega) (by omega) (by omega) (by omega) (by omega) HV.out
          clear z2
          go_wp2
          go_roundw
          case rel => exact ⟨k + 1, 1, _, by omega, rfl, by go_num, by omega, by omega, by simp [hl], R.out.1, R.out.2, by simpa using hc.set k (by omega) _, by simpa using hwr.setCell k (by omega) _⟩
          case measure => simp [intOf]; omega
        · skip
          have z2 : nth ys k = 0 := nth_out ys k e2
          have R : Hid _ := dif_step (s := nth xs k - cy) (v := nth xs k - cy) (c' := 0) hX (by omega) (by omega) (by omega) (by omega) (by omega) HV.out
          clear z2
          go_wp2
          go_roundw
          case rel => exact ⟨k + 1, 0, _, by omega, rfl, by go_num, by omega, by omega, by simp [hl], R.out.1, R.out.2, by simpa using hc.set k (by omega) _, by simpa using hwr.setCell k (by omega) _⟩
          case measure => simp [intOf]; omega
    · have ek : k = xs.length := by omega
      subst ek
      have Rv : Hid (val X = val xs - val ys) := dif_end hX hl n2 LE.out c0 HV.out
      clear HV
      go_wp2_with fail
      refine (norm_rd _ _ _ X wr hl.symm hX (by omega) (by omega) (fun _ => ⟨_, _, rfl, hc⟩)).mono ?_
      rintro e w' ⟨n, zs, rfl, hrd, hnm, hvz, rfl⟩
      have hvz' : Hid (val zs = val xs - val ys) := hvz.trans Rv.out
      clear hvz
      go_wp2
      go_ret
      exact ⟨_, zs, rfl, hrd, hnm, hvz'.out, hb⟩
end Go.Proofs.YtfalncbcomlelaaGreatDoor.L
