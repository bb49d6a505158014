import Derived.Test.YtfalncbcomlelaaGreatDoorB3
import Derived.Test.YtfalncbcomlelaaGreatDoorBw
namespace Go.Proofs.YtfalncbcomlelaaGreatDoor.L
open Go.RowKit Tl

/-- One limb of a sum. -/
theorem sum_step {X xs ys : List Int} {k : Nat} {c s : Int} (hX : Wd X) (hk : k < X.length) (hs : s = c + nth xs k + nth ys k)
    (hv : val (X.take k) + pw k * c = val (xs.take k) + val (ys.take k)) :
    Wd (X.set k (s % 1073741824)) ∧ val ((X.set k (s % 1073741824)).take (k + 1)) + pw (k + 1) * (s / 1073741824) = val (xs.take (k + 1)) + val (ys.take (k + 1)) := by
  refine ⟨hX.set k (by omega) (by omega), ?_⟩
  rw [(Part.refl hX k).val hk, val_more xs k, val_more ys k]
  simp only [pw]
  have e : s = s % 1073741824 + 1073741824 * (s / 1073741824) := by omega
  generalize s % 1073741824 = r at *
  generalize s / 1073741824 = q at *
  grind
theorem sum_end {X xs ys : List Int} {N : Nat} {c : Int} (hX : Wd X) (hx : Wd xs) (hy : Wd ys) (hl : X.length = N) (n1 : xs.length < N) (n2 : ys.length < N) (c0 : 0 ≤ c)
    (e : val (X.take N) + pw N * c = val (xs.take N) + val (ys.take N)) : val X = val xs + val ys := by
  rw [List.take_of_length_le (by omega), List.take_of_length_le (by omega), List.take_of_length_le (by omega)] at e
  have b1 := val_lt hx
  have b2 := val_lt hy
  have p1 := pw_mono (show xs.length ≤ N - 1 by omega)
  have p2 := pw_mono (show ys.length ≤ N - 1 by omega)
  have b4 := val_nonneg hX
  have pn : pw N = 1073741824 * pw (N - 1) := by
    obtain ⟨m, rfl⟩ : ∃ m, N = m + 1 := ⟨N - 1, by omega⟩
    rfl
  have b5 := pw_pos (N - 1)
  have hc : c = 0 := by
    by_cases h : c = 0
    · exact h
    · have := Int.mul_le_mul_of_nonneg_left (show 1 ≤ c by omega) (Int.le_of_lt (pw_pos N))
      omega
  rw [hc] at e; omega
set_option maxHeartbeats 1600000 in
set_option maxRecDepth 100000 in
/-- (Nat).Add of the reference. -/
theorem Add_any (v1 v2 : Value) (xs ys : List Int) (w : World) (h1 : Rd w v1 xs) (h2 : Rd w v2 ys) (l1 : xs.length ≤ 549755813888) (l2 : ys.length ≤ 549755813888) :
    Calls Tryz.prog 73 #[v1, v2] w fun e w' => ∃ r zs, e = .returned r ∧ Rd w' r zs ∧ Nm zs ∧ val zs = val xs + val ys ∧ Below w.heap.size w w' := by
  obtain ⟨hx, a1, c1, rfl, _, _, g1⟩ := h1
  obtain ⟨hy, a2, c2, rfl, _, _, g2⟩ := h2
  have hs : Hid (∀ w', Below w.heap.size w w' → 0 < xs.length → ∃ b o, a1 = some ⟨b, o, none⟩ ∧ Cells w' b o xs) := fun w' h l => by obtain ⟨b, o, e, c⟩ := g1 l; exact ⟨b, o, e, c.grow h⟩
  have hs2 : Hid (∀ w', Below w.heap.size w w' → 0 < ys.length → ∃ b o, a2 = some ⟨b, o, none⟩ ∧ Cells w' b o ys) := fun w' h l => by obtain ⟨b, o, e, c⟩ := g2 l; exact ⟨b, o, e, c.grow h⟩
  clear g1 g2
  have two : (xs.length < ys.length ∧ ∃ N, N = ys.length + 1) ∨ (¬ xs.length < ys.length ∧ ∃ N, N = xs.length + 1) := by
    by_cases h : xs.length < ys.length
    · exact Or.inl ⟨h, _, rfl⟩
    · exact Or.inr ⟨h, _, rfl⟩
  rcases two with ⟨hlt, N, hN⟩ | ⟨hlt, N, hN⟩
  all_goals
    have n1 : xs.length < N := by omega
    have n2 : ys.length < N := by omega
    have n3 : N ≤ 549755813889 := by omega
    have HN : Hid _ := hN
    clear hN
    go_enter Tryz.func73, Tryz.ntmps73
    go_wp2_with (first
      | (at_make; refine wpList_make_words rfl _ _ rfl N _ _ rfl rfl (by have := HN.out; omega) (by have := HN.out; omega) (by omega) ?_; intro w1 k1 k2 k3 k4)
      | fail)
    clear HN hlt
    go_loopw [6, 7] (fun c i wr => ∃ (k : Nat) (cy : Int) (X : List Int), k ≤ N ∧ c = .int .i64 cy ∧ i = .int .i64 k ∧ 0 ≤ cy ∧ cy ≤ 1 ∧ X.length = N ∧ Wd X ∧ val (X.take k) + pw k * cy = val (xs.take k) + val (ys.take k) ∧ Cells wr w.heap.size 0 X ∧ Wr w.heap.size 0 N w1 wr) (fun _ i _ => N - (intOf i).toNat)
    case atStart => exact ⟨0, 0, List.replicate N 0, Nat.zero_le _, rfl, rfl, by omega, by omega, by simp, wd_zero N, by simp [val, pw], k1, Wr.refl _ _ _ _⟩
    case round =>
      obtain ⟨k, cy, X, hk, rfl, rfl, c0, c1', hl, hX, hv, hc, hwr⟩ := hrel
      have HV : Hid (val (X.take k) + pw k * cy = val (xs.take k) + val (ys.take k)) := hv
      clear hv
      have hb := k3.trans (hwr.below (B := w.heap.size) (Nat.le_refl _) (by omega))
      by_cases hlt : k < N
      · have kx := hc.at (i := k) (by omega)
        have kf := ((k2.wr hwr).free 0 N) k hlt
        rw [Nat.zero_add] at kx kf
        have bx := nth_bd hx k
        have byy := nth_bd hy k
        by_cases e1 : k < xs.length
        · by_cases e2 : k < ys.length
          · skip
            obtain ⟨b1, o1, rfl, q1⟩ := hs.out _ hb (by omega)
            have d1 := q1.at (i := k) e1
            obtain ⟨b2, o2, rfl, q2⟩ := hs2.out _ hb (by omega)
            have d2 := q2.at (i := k) e2
            have R : Hid _ := sum_step (s := cy + nth xs k + nth ys k) hX (by omega) (rfl) HV.out
            go_wp2
            go_roundw
            case rel => exact ⟨k + 1, _, _, by omega, rfl, by go_num, by omega, by omega, by simp [hl], R.out.1, R.out.2, by simpa using hc.set k (by omega) _, by simpa using hwr.setCell k (by omega) _⟩
            case measure => simp [intOf]; omega
          · skip
            obtain ⟨b1, o1, rfl, q1⟩ := hs.out _ hb (by omega)
            have d1 := q1.at (i := k) e1
            have z2 : nth ys k = 0 := nth_out ys k e2
            have R : Hid _ := sum_step (s := cy + nth xs k) hX (by omega) (by omega) HV.out
            clear z2
            go_wp2
            go_roundw
            case rel => exact ⟨k + 1, _, _, by omega, rfl, by go_num, by omega, by omega, by simp [hl], R.out.1, R.out.2, by simpa using hc.set k (by omega) _, by simpa using hwr.setCell k (by omega) _⟩
            case measure => simp [intOf]; omega
        · by_cases e2 : k < ys.length
          · skip
            have z1 : nth xs k = 0 := nth_out xs k e1
            obtain ⟨b2, o2, rfl, q2⟩ := hs2.out _ hb (by omega)
            have d2 := q2.at (i := k) e2
            have R : Hid _ := sum_step (s := cy + nth ys k) hX (by omega) (by omega) HV.out
            clear z1
            go_wp2
            go_roundw
            case rel => exact ⟨k + 1, _, _, by omega, rfl, by go_num, by omega, by omega, by simp [hl], R.out.1, R.out.2, by simpa using hc.set k (by omega) _, by simpa using hwr.setCell k (by omega) _⟩
            case measure => simp [intOf]; omega
          · skip
            have z1 : nth xs k = 0 := nth_out xs k e1
            have z2 : nth ys k = 0 := nth_out ys k e2
            have R : Hid _ := sum_step (s := cy) hX (by omega) (by omega) HV.out
            clear z1
            clear z2
            go_wp2
            go_roundw
            case rel => exact ⟨k + 1, _, _, by omega, rfl, by go_num, by omega, by omega, by simp [hl], R.out.1, R.out.2, by simpa using hc.set k (by omega) _, by simpa using hwr.setCell k (by omega) _⟩
            case measure => simp [intOf]; omega
      · have ek : k = N := by omega
        subst ek
        have Rv : Hid (val X = val xs + val ys) := sum_end hX hx hy hl n1 n2 c0 HV.out
        clear HV
        go_wp2_with fail
        refine (norm_rd _ _ _ X wr hl.symm hX (by omega) (by omega) (fun _ => ⟨_, _, rfl, hc⟩)).mono ?_
        rintro e w' ⟨n, zs, rfl, hrd, hnm, hvz, rfl⟩
        have hvz' : Hid (val zs = val xs + val ys) := hvz.trans Rv.out
        clear hvz
        go_wp2
        go_ret
        exact ⟨_, zs, rfl, hrd, hnm, hvz'.out, hb⟩
end Go.Proofs.YtfalncbcomlelaaGreatDoor.L
