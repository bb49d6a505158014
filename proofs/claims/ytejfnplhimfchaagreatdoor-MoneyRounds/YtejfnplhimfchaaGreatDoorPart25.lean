import Derived.Test.YtejfnplhimfchaaGreatDoorPart23

namespace Go.Proofs.YtejfnplhimfchaaGreatDoor.L
open Go.RowKit Tl

/-- -1, 0, 1. -/
def cmp3 (x y : Int) : Int := if x < y then -1 else if y < x then 1 else 0
theorem cmp3_lt {x y : Int} (h : x < y) : cmp3 x y = -1 := by simp [cmp3, h]
theorem cmp3_gt {x y : Int} (h : y < x) : cmp3 x y = 1 := by unfold cmp3; rw [if_neg (by omega), if_pos h]
theorem cmp3_eq {x y : Int} (h : x = y) : cmp3 x y = 0 := by unfold cmp3; rw [if_neg (by omega), if_neg (by omega)]
theorem top_lt {xs ys : List Int} (hx : Wd xs) (hy : Wd ys) (hl : xs.length = ys.length) (j : Nat) (hj : j < xs.length) (hd : xs.drop (j + 1) = ys.drop (j + 1)) (h : nth xs j < nth ys j) : val xs < val ys := by
  have e1 := val_split xs j (by omega)
  have e2 := val_split ys j (by omega)
  rw [drop_getD xs j hj] at e1
  rw [drop_getD ys j (by omega), ← hd] at e2
  simp only [val] at e1 e2
  have b1 := val_lt (hx.take j)
  have b2 := val_nonneg (hy.take j)
  rw [List.length_take, Nat.min_eq_left (by omega)] at b1
  have h' : xs.getD j 0 + 1 ≤ ys.getD j 0 := h
  have b3 := Int.mul_le_mul_of_nonneg_left h' (Int.le_of_lt (pw_pos j))
  grind

theorem drop_more {xs ys : List Int} {k : Nat} (hk : k < xs.length) (hl : xs.length = ys.length) (hd : xs.drop (xs.length - k) = ys.drop (xs.length - k)) (he : nth xs (xs.length - 1 - k) = nth ys (xs.length - 1 - k)) : xs.drop (xs.length - (k + 1)) = ys.drop (xs.length - (k + 1)) := by
  have e : xs.length - (k + 1) = xs.length - 1 - k := by omega
  rw [e, drop_getD xs _ (by omega), drop_getD ys _ (by omega), show xs.length - 1 - k + 1 = xs.length - k from by omega, hd]
  exact congrArg (· :: _) he

set_option maxHeartbeats 1600000 in
set_option maxRecDepth 100000 in
theorem cmp_long (a1 a2 : Option Addr) (c1 c2 : Nat) (xs ys : List Int) (w : World) (hx : Wd xs) (hy : Wd ys) (hle : xs.length = ys.length) (hL : xs.length ≤ 1099511627776) (h1 : 0 < xs.length → ∃ b o, a1 = some ⟨b, o, none⟩ ∧ Cells w b o xs) (h2 : 0 < ys.length → ∃ b o, a2 = some ⟨b, o, none⟩ ∧ Cells w b o ys) :
    Calls Tryz.prog 31 #[.slice a1 xs.length c1, .slice a2 xs.length c2] w fun e w' => e = .returned (.int .i64 (cmp3 (val xs) (val ys))) ∧ Below w.heap.size w w' := by
  have HL : Hid (xs.length = ys.length) := hle
  clear hle
  go_enter Tryz.func31, Tryz.ntmps31
  go_wp2_with fail
  go_loopw [5] (fun i wr => ∃ (k : Nat), k ≤ xs.length ∧ i = .int .i64 ((xs.length : Int) - 1 - k) ∧ xs.drop (xs.length - k) = ys.drop (xs.length - k) ∧ ∃ m, wr = w.drewN m) (fun i _ => (intOf i + 1).toNat)
  case atStart => exact ⟨0, Nat.zero_le _, by go_num, by rw [Nat.sub_zero, List.drop_length, HL.out, List.drop_length], 0, rfl⟩
  case round =>
    obtain ⟨k, hk, rfl, hd, m, rfl⟩ := hrel
    have HD : Hid (xs.drop (xs.length - k) = ys.drop (xs.length - k)) := hd
    clear hd
    by_cases hlt : k < xs.length
    · obtain ⟨b1, o1, rfl, q1⟩ := h1 (by omega)
      obtain ⟨b2, o2, rfl, q2⟩ := h2 (by rw [← HL.out]; omega)
      have l1 := q1.lt (by omega)
      have l2 := q2.lt (by rw [← HL.out]; omega)
      have d1 := q1.at (i := xs.length - 1 - k) (by omega)
      have d2 := q2.at (i := xs.length - 1 - k) (by rw [← HL.out]; omega)
      have x0 : (0 : Int) ≤ (xs.length : Int) - 1 - k := by omega
      have x1 : ((xs.length : Int) - 1 - k).toNat = xs.length - 1 - k := by omega
      by_cases he : nth xs (xs.length - 1 - k) = nth ys (xs.length - 1 - k)
      · have HE : Hid (nth xs (xs.length - 1 - k) = nth ys (xs.length - 1 - k)) := he
        rw [← he] at d2
        clear he
        go_wp2_with fail
        go_quiet (fail)
        go_wp2_with fail
        go_quiet (fail)
        go_wp2
        go_roundw
        case rel => exact ⟨k + 1, by omega, by congr 1; omega, drop_more hlt HL.out HD.out HE.out, _, rfl⟩
        case measure => simp [intOf]; omega
      · rcases Int.lt_or_gt_of_ne he with hl | hl
        · have R : Hid (cmp3 (val xs) (val ys) = -1) := cmp3_lt (top_lt hx hy HL.out (xs.length - 1 - k) (by omega) (by have := HD.out; rwa [show xs.length - k = xs.length - 1 - k + 1 from by omega] at this) hl)
          go_wp2_with fail
          go_quiet (fail)
          go_wp2
          go_ret
          exact ⟨by rw [R.out]; simp, (by repeat (first | exact Below.refl _ _ | refine below_drewN ?_ _))⟩
        · have R : Hid (cmp3 (val xs) (val ys) = 1) := cmp3_gt (top_lt hy hx HL.out.symm (xs.length - 1 - k) (by rw [← HL.out]; omega) (by have := HD.out; rw [show xs.length - k = xs.length - 1 - k + 1 from by omega] at this; exact this.symm) hl)
          have hl2 : ¬ nth xs (xs.length - 1 - k) < nth ys (xs.length - 1 - k) := by omega
          go_wp2_with fail
          go_quiet (fail)
          go_wp2_with fail
          go_quiet (fail)
          go_wp2
          go_ret
          exact ⟨by rw [R.out]; simp, (by repeat (first | exact Below.refl _ _ | refine below_drewN ?_ _))⟩
    · have R : Hid (cmp3 (val xs) (val ys) = 0) := by
        have ek : k = xs.length := by omega
        have := HD.out
        rw [ek, Nat.sub_self, List.drop_zero, List.drop_zero] at this
        exact cmp3_eq (by rw [this])
      go_wp2
      go_ret
      exact ⟨by rw [R.out]; rfl, (by repeat (first | exact Below.refl _ _ | refine below_drewN ?_ _))⟩
set_option maxRecDepth 100000 in
theorem cmp_lens (a1 a2 : Option Addr) (c1 c2 n m : Nat) (w : World) (hne : n ≠ m) :
    Calls Tryz.prog 31 #[.slice a1 n c1, .slice a2 m c2] w fun e w' => e = .returned (.int .i64 (if n < m then -1 else 1)) ∧ Below w.heap.size w w' := by
  have h1 : ((n : Int) != (m : Int)) = true := by rw [bne_iff_ne]; omega
  by_cases h : n < m
  · go_enter Tryz.func31, Tryz.ntmps31
    go_wp2
    go_ret
    exact ⟨by simp, Below.refl _ _⟩
  · go_enter Tryz.func31, Tryz.ntmps31
    go_wp2
    go_ret
    exact ⟨by simp, Below.refl _ _⟩
/-- (Nat).Cmp of the reference, of two numbers. -/
theorem Cmp_any (v1 v2 : Value) (xs ys : List Int) (w : World) (h1 : Rd w v1 xs) (h2 : Rd w v2 ys) (n1 : Nm xs) (n2 : Nm ys) (l1 : xs.length ≤ 1099511627776) :
    Calls Tryz.prog 31 #[v1, v2] w fun e w' => e = .returned (.int .i64 (cmp3 (val xs) (val ys))) ∧ Below w.heap.size w w' := by
  obtain ⟨w1, a1, c1, rfl, _, _, g1⟩ := h1
  obtain ⟨w2, a2, c2, rfl, _, _, g2⟩ := h2
  by_cases h : xs.length = ys.length
  · rw [← h]; exact cmp_long a1 a2 c1 c2 xs ys w w1 w2 h l1 g1 g2
  · refine (cmp_lens a1 a2 c1 c2 xs.length ys.length w h).mono ?_
    rintro e w' ⟨rfl, hb⟩
    refine ⟨?_, hb⟩
    by_cases h' : xs.length < ys.length
    · rw [if_pos h', cmp3_lt (val_lt_of_length w1 w2 n2 h')]
    · rw [if_neg h', cmp3_gt (val_lt_of_length w2 w1 n1 (by omega))]
end Go.Proofs.YtejfnplhimfchaaGreatDoor.L

namespace Go.Proofs.YtejfnplhimfchaaGreatDoor.L
open Go.RowKit Tl

theorem pw_two (n : Nat) : pw n = 2 ^ (30 * n) := by
  induction n with
  | zero => rfl
  | succ n ih => rw [show 30 * (n + 1) = 30 * n + 30 from by omega, Int.pow_add, ← ih]; simp only [pw]; rw [Int.mul_comm]; rfl
/-- How the halves of the highest limb stand. -/
def Hv (t : Int) (j : Nat) (v : Int) : Prop := v = t / 2 ^ j ∧ (j = 0 ∨ 0 < t / 2 ^ (j - 1)) ∧ j ≤ 30
theorem Hv.next {t : Int} {j : Nat} {v : Int} (h : Hv t j v) (hv : 0 < v) (ht : t < 1073741824) : Hv t (j + 1) (v / 2) := by
  obtain ⟨rfl, _, c⟩ := h
  refine ⟨?_, Or.inr (by simpa using hv), ?_⟩
  · rw [Int.pow_succ, ← Int.ediv_ediv_of_nonneg (Int.le_of_lt (Int.pow_pos (by decide)))]
  · by_cases hj : j = 30
    · subst hj
      rw [show (2 : Int) ^ 30 = 1073741824 from by decide] at hv
      omega
    · omega
theorem Hv.done {xs : List Int} {j : Nat} {v : Int} (hx : Wd xs) (n : Nm xs) (ne : 0 < xs.length) (h : Hv (nth xs (xs.length - 1)) j v) (hv : ¬ 0 < v) :
    val xs < 2 ^ (30 * (xs.length - 1) + j) ∧ 1 ≤ 30 * (xs.length - 1) + j ∧ (2 : Int) ^ (30 * (xs.length - 1) + j - 1) ≤ val xs := by
  have ht := nm_top hx n ne
  have e := val_top ne
  have v0 := val_nonneg (hx.take (xs.length - 1))
  have v1 := val_lt (hx.take (xs.length - 1))
  rw [List.length_take, Nat.min_eq_left (by omega)] at v1
  have p := pw_pos (xs.length - 1)
  obtain ⟨rfl, b, _⟩ := h
  generalize nth xs (xs.length - 1) = t at *
  have pj : (0 : Int) < 2 ^ j := Int.pow_pos (by decide)
  have t1 : t < 2 ^ j := by
    have h0 : t / 2 ^ j = 0 := by have := Int.ediv_nonneg (Int.le_of_lt ht) (Int.le_of_lt pj); omega
    have := Int.lt_ediv_add_one_mul_self t pj
    rw [h0] at this; omega
  have j1 : j ≠ 0 := by rintro rfl; simp at t1; omega
  have t2 : (2 : Int) ^ (j - 1) ≤ t := by
    rcases b with b | b
    · exact absurd b j1
    · have := Int.ediv_mul_le t (show (2 : Int) ^ (j - 1) ≠ 0 from by have : (0 : Int) < 2 ^ (j - 1) := Int.pow_pos (by decide); omega)
      have q : (0 : Int) < 2 ^ (j - 1) := Int.pow_pos (by decide)
      have := Int.mul_le_mul_of_nonneg_right (show 1 ≤ t / 2 ^ (j - 1) by omega) (Int.le_of_lt q)
      omega
  refine ⟨?_, by omega, ?_⟩
  · rw [Int.pow_add, ← pw_two]
    have := Int.mul_le_mul_of_nonneg_left (show t + 1 ≤ 2 ^ j by omega) (Int.le_of_lt p)
    grind
  · rw [show 30 * (xs.length - 1) + j - 1 = 30 * (xs.length - 1) + (j - 1) from by omega, Int.pow_add, ← pw_two]
    have := Int.mul_le_mul_of_nonneg_left t2 (Int.le_of_lt p)
    omega
set_option maxRecDepth 100000 in
set_option maxHeartbeats 800000 in
/-- (Nat).Bits of the reference. -/
theorem Bits_any (v : Value) (xs : List Int) (w : World) (h : Rd w v xs) (n : Nm xs) (hL : xs.length ≤ 1099511627776) :
    Calls Tryz.prog 85 #[v] w fun e w' => ∃ L : Nat, e = .returned (.int .i64 L) ∧ val xs < 2 ^ L ∧ (L = 0 ∨ (2 : Int) ^ (L - 1) ≤ val xs) ∧ (L : Int) ≤ 30 * xs.length ∧ w' = w := by
  obtain ⟨w1, a, c, rfl, _, _, g⟩ := h
  by_cases h0 : xs.length = 0
  · have e0 : xs = [] := List.eq_nil_of_length_eq_zero h0
    have ht : ((xs.length : Int) == 0) = true := by rw [h0]; rfl
    have R : Hid (val xs = 0) := by rw [e0]; rfl
    clear g e0
    go_enter Tryz.func85, Tryz.ntmps85
    go_wp2
    go_ret
    exact ⟨0, rfl, by rw [R.out]; decide, Or.inl rfl, by omega, rfl⟩
  · obtain ⟨b, o, rfl, hc⟩ := g (by omega)
    have hb := hc.lt (by omega)
    have hc1 := hc.at (i := xs.length - 1) (by omega)
    have bd := nth_bd w1 (xs.length - 1)
    have D := fun j v => Hv.done (j := j) (v := v) w1 n (by omega)
    have hz : ((xs.length : Int) == 0) = false := by rw [beq_eq_false_iff_ne]; omega
    generalize nth xs (xs.length - 1) = t at *
    generalize val xs = V at *
    clear g hc w1 n
    go_enter Tryz.func85, Tryz.ntmps85
    go_wp2
    go_loop [3, 4] (fun p q => ∃ (j : Nat) (v : Int), p = .int .i64 (30 * ((xs.length : Int) - 1) + j) ∧ q = .int .i64 v ∧ Hv t j v) (fun _ q => (intOf q).toNat)
    case atStart => exact ⟨0, t, by go_num, rfl, by simp, Or.inl rfl, by omega⟩
    case round =>
      obtain ⟨j, v, rfl, rfl, H⟩ := hrel
      have H' : Hid (Hv t j v) := H
      have jl := H.2.2
      have v0 : 0 ≤ v := by rw [H.1]; exact Int.ediv_nonneg bd.1 (Int.le_of_lt (Int.pow_pos (by decide)))
      have v1 : v ≤ t := by rw [H.1]; exact Int.ediv_le_self _ bd.1
      clear H
      by_cases hv : 0 < v
      · go_wp2
        go_round
        case rel => exact ⟨j + 1, v / 2, by congr 1; omega, by first | rfl | (congr 1; omega), H'.out.next hv bd.2⟩
        case measure => simp [intOf]; omega
      · obtain ⟨d1, d2, d3⟩ := D j v H'.out (by omega)
        have d4 : Hid (V < 2 ^ (30 * (xs.length - 1) + j) ∧ (2 : Int) ^ (30 * (xs.length - 1) + j - 1) ≤ V) := ⟨d1, d3⟩
        clear d1 d3 D
        go_wp2
        go_ret
        exact ⟨30 * (xs.length - 1) + j, by show Ending.returned (.int .i64 (30 * ((xs.length : Int) - 1) + j)) = _; rw [show 30 * ((xs.length : Int) - 1) + j = ((30 * (xs.length - 1) + j : Nat) : Int) from by omega], d4.out.1, Or.inr d4.out.2, by omega, rfl⟩
end Go.Proofs.YtejfnplhimfchaaGreatDoor.L

namespace Go.Proofs.YtejfnplhimfchaaGreatDoor.L
open Go.RowKit Tl

/-- One limb of a sum. -/
theorem sum_step {X xs ys : List Int} {k : Nat} {c s : Int} (hX : Wd X) (hk : k < X.length) (hs : s = c + nth xs k + nth ys k)
    (hv : val (X.take k) + pw k * c = val (xs.take k) + val (ys.take k)) :
    Wd (X.set k (s % 1073741824)) ∧ val ((X.set k (s % 1073741824)).take (k + 1)) + pw (k + 1) * (s / 1073741824) = val (xs.take (k + 1)) + val (ys.take (k + 1)) := by
  refine ⟨hX.set k (by omega) (by omega), ?_⟩
  rw [(Part.refl hX k).val hk, val_more xs k, val_more ys k]
  simp only [pw]
  have e : s = s % 1073741824 + 1073741824 * (s / 1073741824) := by omega
  generalize s % 1073741824 = r at *
  generalize s / 1073741824 = q at *
  grind
theorem sum_end {X xs ys : List Int} {N : Nat} {c : Int} (hX : Wd X) (hx : Wd xs) (hy : Wd ys) (hl : X.length = N) (n1 : xs.length < N) (n2 : ys.length < N) (c0 : 0 ≤ c)
    (e : val (X.take N) + pw N * c = val (xs.take N) + val (ys.take N)) : val X = val xs + val ys := by
  rw [List.take_of_length_le (by omega), List.take_of_length_le (by omega), List.take_of_length_le (by omega)] at e
  have b1 := val_lt hx
  have b2 := val_lt hy
  have p1 := pw_mono (show xs.length ≤ N - 1 by omega)
  have p2 := pw_mono (show ys.length ≤ N - 1 by omega)
  have b4 := val_nonneg hX
  have pn : pw N = 1073741824 * pw (N - 1) := by
    obtain ⟨m, rfl⟩ : ∃ m, N = m + 1 := ⟨N - 1, by omega⟩
    rfl
  have b5 := pw_pos (N - 1)
  have hc : c = 0 := by
    by_cases h : c = 0
    · exact h
    · have := Int.mul_le_mul_of_nonneg_left (show 1 ≤ c by omega) (Int.le_of_lt (pw_pos N))
      omega
  rw [hc] at e; omega
set_option maxHeartbeats 1600000 in
set_option maxRecDepth 100000 in
/-- (Nat).Add of the reference. -/
theorem Add_any (v1 v2 : Value) (xs ys : List Int) (w : World) (h1 : Rd w v1 xs) (h2 : Rd w v2 ys) (l1 : xs.length ≤ 549755813888) (l2 : ys.length ≤ 549755813888) :
    Calls Tryz.prog 61 #[v1, v2] w fun e w' => ∃ r zs, e = .returned r ∧ Rd w' r zs ∧ Nm zs ∧ val zs = val xs + val ys ∧ Below w.heap.size w w' := by
  obtain ⟨hx, a1, c1, rfl, _, _, g1⟩ := h1
  obtain ⟨hy, a2, c2, rfl, _, _, g2⟩ := h2
  have hs : Hid (∀ w', Below w.heap.size w w' → 0 < xs.length → ∃ b o, a1 = some ⟨b, o, none⟩ ∧ Cells w' b o xs) := fun w' h l => by obtain ⟨b, o, e, c⟩ := g1 l; exact ⟨b, o, e, c.grow h⟩
  have hs2 : Hid (∀ w', Below w.heap.size w w' → 0 < ys.length → ∃ b o, a2 = some ⟨b, o, none⟩ ∧ Cells w' b o ys) := fun w' h l => by obtain ⟨b, o, e, c⟩ := g2 l; exact ⟨b, o, e, c.grow h⟩
  clear g1 g2
  have two : (xs.length < ys.length ∧ ∃ N, N = ys.length + 1) ∨ (¬ xs.length < ys.length ∧ ∃ N, N = xs.length + 1) := by
    by_cases h : xs.length < ys.length
    · exact Or.inl ⟨h, _, rfl⟩
    · exact Or.inr ⟨h, _, rfl⟩
  rcases two with ⟨hlt, N, hN⟩ | ⟨hlt, N, hN⟩
  all_goals
    have n1 : xs.length < N := by omega
    have n2 : ys.length < N := by omega
    have n3 : N ≤ 549755813889 := by omega
    have HN : Hid _ := hN
    clear hN
    go_enter Tryz.func61, Tryz.ntmps61
    go_wp2_with (first
      | (at_make; refine wpList_make_words rfl _ _ rfl N _ _ rfl rfl (by have := HN.out; omega) (by have := HN.out; omega) (by omega) ?_; intro w1 k1 k2 k3 k4)
      | fail)
    clear HN hlt
    go_loopw [6, 7] (fun c i wr => ∃ (k : Nat) (cy : Int) (X : List Int), k ≤ N ∧ c = .int .i64 cy ∧ i = .int .i64 k ∧ 0 ≤ cy ∧ cy ≤ 1 ∧ X.length = N ∧ Wd X ∧ val (X.take k) + pw k * cy = val (xs.take k) + val (ys.take k) ∧ Cells wr w.heap.size 0 X ∧ Wr w.heap.size 0 N w1 wr) (fun _ i _ => N - (intOf i).toNat)
    case atStart => exact ⟨0, 0, List.replicate N 0, Nat.zero_le _, rfl, rfl, by omega, by omega, by simp, wd_zero N, by simp [val, pw], k1, Wr.refl _ _ _ _⟩
    case round =>
      obtain ⟨k, cy, X, hk, rfl, rfl, c0, c1', hl, hX, hv, hc, hwr⟩ := hrel
      have HV : Hid (val (X.take k) + pw k * cy = val (xs.take k) + val (ys.take k)) := hv
      clear hv
      have hb := k3.trans (hwr.below (B := w.heap.size) (Nat.le_refl _) (by omega))
      by_cases hlt : k < N
      · have kx := hc.at (i := k) (by omega)
        have kf := ((k2.wr hwr).free 0 N) k hlt
        rw [Nat.zero_add] at kx kf
        have bx := nth_bd hx k
        have byy := nth_bd hy k
        by_cases e1 : k < xs.length
        · by_cases e2 : k < ys.length
          · skip
            obtain ⟨b1, o1, rfl, q1⟩ := hs.out _ hb (by omega)
            have d1 := q1.at (i := k) e1
            obtain ⟨b2, o2, rfl, q2⟩ := hs2.out _ hb (by omega)
            have d2 := q2.at (i := k) e2
            have R : Hid _ := sum_step (s := cy + nth xs k + nth ys k) hX (by omega) (rfl) HV.out
            go_wp2
            go_roundw
            case rel => exact ⟨k + 1, _, _, by omega, rfl, by go_num, by omega, by omega, by simp [hl], R.out.1, R.out.2, by simpa using hc.set k (by omega) _, by simpa using hwr.setCell k (by omega) _⟩
            case measure => simp [intOf]; omega
          · skip
            obtain ⟨b1, o1, rfl, q1⟩ := hs.out _ hb (by omega)
            have d1 := q1.at (i := k) e1
            have z2 : nth ys k = 0 := nth_out ys k e2
            have R : Hid _ := sum_step (s := cy + nth xs k) hX (by omega) (by omega) HV.out
            clear z2
            go_wp2
            go_roundw
            case rel => exact ⟨k + 1, _, _, by omega, rfl, by go_num, by omega, by omega, by simp [hl], R.out.1, R.out.2, by simpa using hc.set k (by omega) _, by simpa using hwr.setCell k (by omega) _⟩
            case measure => simp [intOf]; omega
        · by_cases e2 : k < ys.length
          · skip
            have z1 : nth xs k = 0 := nth_out xs k e1
            obtain ⟨b2, o2, rfl, q2⟩ := hs2.out _ hb (by omega)
            have d2 := q2.at (i := k) e2
            have R : Hid _ := sum_step (s := cy + nth ys k) hX (by omega) (by omega) HV.out
            clear z1
            go_wp2
            go_roundw
            case rel => exact ⟨k + 1, _, _, by omega, rfl, by go_num, by omega, by omega, by simp [hl], R.out.1, R.out.2, by simpa using hc.set k (by omega) _, by simpa using hwr.setCell k (by omega) _⟩
            case measure => simp [intOf]; omega
          · skip
            have z1 : nth xs k = 0 := nth_out xs k e1
            have z2 : nth ys k = 0 := nth_out ys k e2
            have R : Hid _ := sum_step (s := cy) hX (by omega) (by omega) HV.out
            clear z1
            clear z2
            go_wp2
            go_roundw
            case rel => exact ⟨k + 1, _, _, by omega, rfl, by go_num, by omega, by omega, by simp [hl], R.out.1, R.out.2, by simpa using hc.set k (by omega) _, by simpa using hwr.setCell k (by omega) _⟩
            case measure => simp [intOf]; omega
      · have ek : k = N := by omega
        subst ek
        have Rv : Hid (val X = val xs + val ys) := sum_end hX hx hy hl n1 n2 c0 HV.out
        clear HV
        go_wp2_with fail
        refine (norm_rd _ _ _ X wr hl.symm hX (by omega) (by omega) (fun _ => ⟨_, _, rfl, hc⟩)).mono ?_
        rintro e w' ⟨n, zs, rfl, hrd, hnm, hvz, rfl⟩
        have hvz' : Hid (val zs = val xs + val ys) := hvz.trans Rv.out
        clear hvz
        go_wp2
        go_ret
        exact ⟨_, zs, rfl, hrd, hnm, hvz'.out, hb⟩
end Go.Proofs.YtejfnplhimfchaaGreatDoor.L

namespace Go.Proofs.YtejfnplhimfchaaGreatDoor.L
open Go.RowKit Tl

theorem take_zero (n k : Nat) : val ((List.replicate n (0 : Int)).take k) = 0 := by
  rw [List.take_replicate]
  generalize min k n = m
  induction m with
  | zero => rfl
  | succ m ih => rw [List.replicate_succ]; simp [val, ih]
theorem shl_step {X xs : List Int} {q k r : Nat} {cy P S : Int} (hX : Wd X) (hk : k + q < X.length) (hP : P = nth xs k * 2 ^ r) (hS : S = cy + P) (b0 : 0 ≤ nth xs k) (b1 : nth xs k < 1073741824) (c0 : 0 ≤ cy) (c1 : cy < 2 ^ r) (hp0 : (0 : Int) < 2 ^ r)
    (hv : val (X.take (q + k)) + pw (q + k) * cy = pw q * 2 ^ r * val (xs.take k)) :
    Wd (X.set (k + q) (S % 1073741824)) ∧ val ((X.set (k + q) (S % 1073741824)).take (q + (k + 1))) + pw (q + (k + 1)) * (S / 1073741824) = pw q * 2 ^ r * val (xs.take (k + 1)) ∧ 0 ≤ S / 1073741824 ∧ S / 1073741824 < 2 ^ r := by
  have P0 : 0 ≤ P := by rw [hP]; exact Int.mul_nonneg b0 (Int.le_of_lt hp0)
  have P1 : P ≤ 1073741823 * 2 ^ r := by rw [hP]; exact Int.mul_le_mul_of_nonneg_right (by omega) (Int.le_of_lt hp0)
  refine ⟨hX.set _ (by omega) (by omega), ?_, by omega, by omega⟩
  rw [show q + (k + 1) = k + q + 1 from by omega, (Part.refl hX (k + q)).val hk, val_more xs k]
  have e : S = S % 1073741824 + 1073741824 * (S / 1073741824) := by omega
  rw [show q + k = k + q from by omega] at hv
  have e2 : pw (k + q) = pw q * pw k := by rw [Nat.add_comm, pw_add]
  simp only [pw]
  generalize S % 1073741824 = a at *
  generalize S / 1073741824 = b at *
  generalize (2 : Int) ^ r = t at *
  rw [e2] at hv ⊢
  grind
theorem shl_end {X xs : List Int} {n q r : Nat} {cy : Int} (hX : Wd X) (hl : X.length = xs.length + q + 1) (c0 : 0 ≤ cy) (c1 : cy < 2 ^ r) (hp : (2 : Int) ^ r ≤ 536870912) (hq : (n : Int) / 30 = q) (hr : (n : Int) % 30 = r)
    (hv : val (X.take (q + xs.length)) + pw (q + xs.length) * cy = pw q * 2 ^ r * val (xs.take xs.length)) :
    Wd (X.set (xs.length + q) cy) ∧ val (X.set (xs.length + q) cy) = val xs * 2 ^ n := by
  refine ⟨hX.set _ c0 (by omega), ?_⟩
  have e := (Part.refl hX (xs.length + q)).val (by omega) cy
  rw [List.take_of_length_le (by simp; omega)] at e
  rw [e, show xs.length + q = q + xs.length from by omega, hv, List.take_length, pw_two, show n = 30 * q + r from by omega, Int.pow_add]
  grind
set_option maxHeartbeats 1600000 in
set_option maxRecDepth 100000 in
/-- (Nat).Shl of the reference. -/
theorem shl_some (a1 : Option Addr) (c1 : Nat) (xs : List Int) (n q r : Nat) (w : World) (hx : Wd xs) (h1 : 0 < xs.length → ∃ b o, a1 = some ⟨b, o, none⟩ ∧ Cells w b o xs) (l1 : xs.length ≤ 549755813888) (ne : 0 < xs.length) (hn : n ≤ 1099511627776) (hq : (n : Int) / 30 = q) (hr : (n : Int) % 30 = r) :
    Calls Tryz.prog 83 #[.slice a1 xs.length c1, .int .i64 n] w fun e w' => ∃ v zs, e = .returned v ∧ Rd w' v zs ∧ Nm zs ∧ val zs = val xs * 2 ^ n ∧ Below w.heap.size w w' := by
  have hs : Hid (∀ w', Below w.heap.size w w' → ∃ b o, a1 = some ⟨b, o, none⟩ ∧ Cells w' b o xs) := fun w' h => by obtain ⟨b, o, e, c⟩ := h1 ne; exact ⟨b, o, e, c.grow h⟩
  clear h1
  have q1 : q ≤ 36650387593 := by omega
  have r1 : r < 30 := by omega
  have hz : ((xs.length : Int) == 0) = false := by rw [beq_eq_false_iff_ne]; omega
  have hp : ((2 : Int) ^ r) ≤ 536870912 := by
    have h : 2 ^ r ≤ 2 ^ 29 := Nat.pow_le_pow_right (by decide) (by omega)
    have e : ((2 ^ r : Nat) : Int) = (2 : Int) ^ r := by simp
    rw [← e]; omega
  have hp0 : (0 : Int) < 2 ^ r := Int.pow_pos (by decide)
  obtain ⟨N, hN⟩ : ∃ N, N = xs.length + q + 1 := ⟨_, rfl⟩
  have HN : Hid (N = xs.length + q + 1) := hN
  have nb : N ≤ 600000000000 := by omega
  clear hN
  go_enter Tryz.func83, Tryz.ntmps83
  go_wp2_with (first
    | (at_make; refine wpList_make_words rfl _ _ rfl N _ _ rfl rfl (by have := HN.out; omega) (by have := HN.out; omega) (by omega) ?_; intro w1 k1 k2 k3 k4)
    | fail)
  go_loopw [6, 7] (fun c i wr => ∃ (k : Nat) (cy : Int) (X : List Int), k ≤ xs.length ∧ c = .int .i64 cy ∧ i = .int .i64 k ∧ 0 ≤ cy ∧ cy < 2 ^ r ∧ X.length = N ∧ Wd X ∧ val (X.take (q + k)) + pw (q + k) * cy = pw q * 2 ^ r * val (xs.take k) ∧ Cells wr w.heap.size 0 X ∧ Wr w.heap.size 0 N w1 wr) (fun _ i _ => xs.length - (intOf i).toNat)
  case atStart => exact ⟨0, 0, List.replicate N 0, Nat.zero_le _, rfl, rfl, by omega, hp0, by simp, wd_zero N, by rw [take_zero]; simp [val], k1, Wr.refl _ _ _ _⟩
  case round =>
    obtain ⟨k, cy, X, hk, rfl, rfl, c0, c1', hl, hX, hv, hc, hwr⟩ := hrel
    have HV : Hid (val (X.take (q + k)) + pw (q + k) * cy = pw q * 2 ^ r * val (xs.take k)) := hv
    clear hv
    have hb := k3.trans (hwr.below (B := w.heap.size) (Nat.le_refl _) (by omega))
    have hN2 : xs.length + q < N := by have := HN.out; omega
    by_cases hlt : k < xs.length
    · have kx := hc.at (i := k + q) (by omega)
      have kf := ((k2.wr hwr).free 0 N) (k + q) (by omega)
      rw [Nat.zero_add] at kx kf
      have bx := nth_bd hx k
      obtain ⟨b1, o1, rfl, q1⟩ := hs.out _ hb
      have d1 := q1.at (i := k) hlt
      obtain ⟨P, hP⟩ : ∃ P, nth xs k * 2 ^ r = P := ⟨_, rfl⟩
      obtain ⟨S, hS⟩ : ∃ S, cy + P = S := ⟨_, rfl⟩
      have pb : 0 ≤ P ∧ P ≤ 576460751766552576 := by
        rw [← hP]
        refine ⟨Int.mul_nonneg bx.1 (Int.le_of_lt hp0), ?_⟩
        have a := Int.mul_le_mul_of_nonneg_left hp bx.1
        omega
      have R : Hid _ := shl_step hX (by omega) hP.symm hS.symm bx.1 bx.2 c0 c1' hp0 HV.out
      have w1' : IntKind.i64.wrap (nth xs k * 2 ^ r) = P := by rw [hP]; exact wrap_self _ (by omega) (by omega)
      have w2' : IntKind.i64.wrap (cy + P) = S := by rw [hS]; exact wrap_self _ (by omega) (by omega)
      have s0 : 0 ≤ S := by omega
      have s1 : S ≤ 576460752303423488 := by omega
      clear hP hS
      go_wp2
      go_roundw
      case rel => exact ⟨k + 1, _, _, by omega, rfl, by go_num, R.out.2.2.1, R.out.2.2.2, by simp [hl], R.out.1, R.out.2.1, by simpa using hc.set (k + q) (by omega) _, by simpa using hwr.setCell (k + q) (by omega) _⟩
      case measure => simp [intOf]; omega
    · have ek : k = xs.length := by omega
      subst ek
      have kx := hc.at (i := xs.length + q) (by omega)
      have kf := ((k2.wr hwr).free 0 N) (xs.length + q) (by omega)
      rw [Nat.zero_add] at kx kf
      have R : Hid _ := shl_end hX (by rw [hl]; exact HN.out) c0 c1' hp hq hr HV.out
      have c2' : cy < 1073741824 := by omega
      clear HV
      go_wp2_with (first
        | (go_at_call 81; refine (norm_rd _ _ _ (X.set (xs.length + q) cy) _ (by simp [hl]) R.out.1 (by simp [hl]) (by omega) (fun _ => ⟨_, _, rfl, by simpa using hc.set (xs.length + q) (by omega) cy⟩)).mono ?_; rintro e w' ⟨n, zs, rfl, hrd, hnm, hvz, rfl⟩; have hvz' : Hid _ := hvz.trans R.out.2; clear hvz)
        | fail)
      go_ret
      exact ⟨_, zs, rfl, hrd, hnm, hvz'.out, k3.trans ((hwr.setCell (xs.length + q) (by omega) _).below (B := w.heap.size) (Nat.le_refl _) (by omega))⟩
set_option maxRecDepth 100000 in
theorem shl_none (a1 : Option Addr) (c1 : Nat) (n : Int) (w : World) :
    Calls Tryz.prog 83 #[.slice a1 0 c1, .int .i64 n] w fun e w' => e = .returned (.slice none 0 0) ∧ w' = w := by
  go_enter Tryz.func83, Tryz.ntmps83
  go_wp2
  go_ret
  exact ⟨rfl, rfl⟩
/-- Nought. -/
theorem Shl_any (v : Value) (xs : List Int) (n : Nat) (w : World) (h : Rd w v xs) (l1 : xs.length ≤ 549755813888) (hn : n ≤ 1099511627776) :
    Calls Tryz.prog 83 #[v, .int .i64 n] w fun e w' => ∃ r zs, e = .returned r ∧ Rd w' r zs ∧ Nm zs ∧ val zs = val xs * 2 ^ n ∧ Below w.heap.size w w' := by
  obtain ⟨hx, a1, c1, rfl, _, _, g1⟩ := h
  by_cases ne : 0 < xs.length
  · exact shl_some a1 c1 xs n (n / 30) (n % 30) w hx g1 l1 ne hn (by simp) (by simp)
  · have e0 : xs = [] := List.eq_nil_of_length_eq_zero (by omega)
    subst e0
    refine (shl_none a1 c1 n w).mono ?_
    rintro e w' ⟨rfl, rfl⟩
    exact ⟨_, [], rfl, rd_nil _, Or.inl rfl, by simp [val], Below.refl _ _⟩
end Go.Proofs.YtejfnplhimfchaaGreatDoor.L

namespace Go.Proofs.YtejfnplhimfchaaGreatDoor.L
open Go.RowKit Tl

/-- One limb of a difference. -/
theorem dif_step {X xs ys : List Int} {k : Nat} {c s v c' : Int} (hX : Wd X) (hk : k < X.length) (hs : s = nth xs k - c - nth ys k) (hv' : v = s + 1073741824 * c') (v0 : 0 ≤ v) (v1 : v < 1073741824)
    (hv : val (X.take k) - pw k * c = val (xs.take k) - val (ys.take k)) :
    Wd (X.set k v) ∧ val ((X.set k v).take (k + 1)) - pw (k + 1) * c' = val (xs.take (k + 1)) - val (ys.take (k + 1)) := by
  refine ⟨hX.set k v0 v1, ?_⟩
  rw [(Part.refl hX k).val hk, val_more xs k, val_more ys k]
  simp only [pw]
  grind
theorem dif_end {X xs ys : List Int} {c : Int} (hX : Wd X) (hl : X.length = xs.length) (n2 : ys.length ≤ xs.length) (le : val ys ≤ val xs) (c0 : 0 ≤ c)
    (e : val (X.take xs.length) - pw xs.length * c = val (xs.take xs.length) - val (ys.take xs.length)) : val X = val xs - val ys := by
  rw [List.take_of_length_le (by omega), List.take_of_length_le (by omega), List.take_of_length_le (by omega)] at e
  have b1 := val_lt hX
  rw [hl] at b1
  have hc : c = 0 := by
    by_cases h : c = 0
    · exact h
    · have := Int.mul_le_mul_of_nonneg_left (show 1 ≤ c by omega) (Int.le_of_lt (pw_pos xs.length))
      omega
  rw [hc] at e; omega
set_option maxHeartbeats 1600000 in
set_option maxRecDepth 100000 in
/-- (Nat).Sub of the reference, of what is not above. -/
theorem Sub_any (v1 v2 : Value) (xs ys : List Int) (w : World) (h1 : Rd w v1 xs) (h2 : Rd w v2 ys) (l1 : xs.length ≤ 549755813888) (n2 : ys.length ≤ xs.length) (le : val ys ≤ val xs) :
    Calls Tryz.prog 64 #[v1, v2] w fun e w' => ∃ r zs, e = .returned r ∧ Rd w' r zs ∧ Nm zs ∧ val zs = val xs - val ys ∧ Below w.heap.size w w' := by
  obtain ⟨hx, a1, c1, rfl, _, _, g1⟩ := h1
  obtain ⟨hy, a2, c2, rfl, _, _, g2⟩ := h2
  have hs : Hid (∀ w', Below w.heap.size w w' → 0 < xs.length → ∃ b o, a1 = some ⟨b, o, none⟩ ∧ Cells w' b o xs) := fun w' h l => by obtain ⟨b, o, e, c⟩ := g1 l; exact ⟨b, o, e, c.grow h⟩
  have hs2 : Hid (∀ w', Below w.heap.size w w' → 0 < ys.length → ∃ b o, a2 = some ⟨b, o, none⟩ ∧ Cells w' b o ys) := fun w' h l => by obtain ⟨b, o, e, c⟩ := g2 l; exact ⟨b, o, e, c.grow h⟩
  have LE : Hid (val ys ≤ val xs) := le
  clear g1 g2 le
  go_enter Tryz.func64, Tryz.ntmps64
  go_wp2_with (first
    | (at_make; refine wpList_make_words rfl _ _ rfl xs.length _ _ rfl rfl rfl rfl (by omega) ?_; intro w1 k1 k2 k3 k4)
    | fail)
  go_loopw [6, 7] (fun c i wr => ∃ (k : Nat) (cy : Int) (X : List Int), k ≤ xs.length ∧ c = .int .i64 cy ∧ i = .int .i64 k ∧ 0 ≤ cy ∧ cy ≤ 1 ∧ X.length = xs.length ∧ Wd X ∧ val (X.take k) - pw k * cy = val (xs.take k) - val (ys.take k) ∧ Cells wr w.heap.size 0 X ∧ Wr w.heap.size 0 xs.length w1 wr) (fun _ i _ => xs.length - (intOf i).toNat)
  case atStart => exact ⟨0, 0, List.replicate xs.length 0, Nat.zero_le _, rfl, rfl, by omega, by omega, by simp, wd_zero _, by simp [val, pw], k1, Wr.refl _ _ _ _⟩
  case round =>
    obtain ⟨k, cy, X, hk, rfl, rfl, c0, c1', hl, hX, hv, hc, hwr⟩ := hrel
    have HV : Hid (val (X.take k) - pw k * cy = val (xs.take k) - val (ys.take k)) := hv
    clear hv
    have hb := k3.trans (hwr.below (B := w.heap.size) (Nat.le_refl _) (by omega))
    by_cases hlt : k < xs.length
    · have kx := hc.at (i := k) (by omega)
      have kf := ((k2.wr hwr).free 0 xs.length) k hlt
      rw [Nat.zero_add] at kx kf
      have bx := nth_bd hx k
      have byy := nth_bd hy k
      obtain ⟨b1, o1, rfl, q1⟩ := hs.out _ hb (by omega)
      have d1 := q1.at (i := k) hlt
      by_cases e2 : k < ys.length
      · by_cases ng : nth xs k - cy - nth ys k < 0
        · skip
          obtain ⟨b2, o2, rfl, q2⟩ := hs2.out _ hb (by omega)
          have d2 := q2.at (i := k) e2
          have R : Hid _ := dif_step (s := nth xs k - cy - nth ys k) (v := nth xs k - cy - nth ys k + 1073741824) (c' := 1) hX (by omega) (by omega) (by omega) (by omega) (by omega) HV.out
          go_wp2
          go_roundw
          case rel => exact ⟨k + 1, 1, _, by omega, rfl, by go_num, by omega, by omega, by simp [hl], R.out.1, R.out.2, by simpa using hc.set k (by omega) _, by simpa using hwr.setCell k (by omega) _⟩
          case measure => simp [intOf]; omega
        · skip
          obtain ⟨b2, o2, rfl, q2⟩ := hs2.out _ hb (by omega)
          have d2 := q2.at (i := k) e2
          have R : Hid _ := dif_step (s := nth xs k - cy - nth ys k) (v := nth xs k - cy - nth ys k) (c' := 0) hX (by omega) (by omega) (by omega) (by omega) (by omega) HV.out
          go_wp2
          go_roundw
          case rel => exact ⟨k + 1, 0, _, by omega, rfl, by go_num, by omega, by omega, by simp [hl], R.out.1, R.out.2, by simpa using hc.set k (by omega) _, by simpa using hwr.setCell k (by omega) _⟩
          case measure => simp [intOf]; omega
      · by_cases ng : nth xs k - cy < 0
        · skip
          have z2 : nth ys k = 0 := nth_out ys k e2
          have R : Hid _ := dif_step (s := nth xs k - cy) (v := nth xs k - cy + 1073741824) (c' := 1) hX (by omega) (by omega) (by omega) (by omega) (by omega) HV.out
          clear z2
          go_wp2
          go_roundw
          case rel => exact ⟨k + 1, 1, _, by omega, rfl, by go_num, by omega, by omega, by simp [hl], R.out.1, R.out.2, by simpa using hc.set k (by omega) _, by simpa using hwr.setCell k (by omega) _⟩
          case measure => simp [intOf]; omega
        · skip
          have z2 : nth ys k = 0 := nth_out ys k e2
          have R : Hid _ := dif_step (s := nth xs k - cy) (v := nth xs k - cy) (c' := 0) hX (by omega) (by omega) (by omega) (by omega) (by omega) HV.out
          clear z2
          go_wp2
          go_roundw
          case rel => exact ⟨k + 1, 0, _, by omega, rfl, by go_num, by omega, by omega, by simp [hl], R.out.1, R.out.2, by simpa using hc.set k (by omega) _, by simpa using hwr.setCell k (by omega) _⟩
          case measure => simp [intOf]; omega
    · have ek : k = xs.length := by omega
      subst ek
      have Rv : Hid (val X = val xs - val ys) := dif_end hX hl n2 LE.out c0 HV.out
      clear HV
      go_wp2_with fail
      refine (norm_rd _ _ _ X wr hl.symm hX (by omega) (by omega) (fun _ => ⟨_, _, rfl, hc⟩)).mono ?_
      rintro e w' ⟨n, zs, rfl, hrd, hnm, hvz, rfl⟩
      have hvz' : Hid (val zs = val xs - val ys) := hvz.trans Rv.out
      clear hvz
      go_wp2
      go_ret
      exact ⟨_, zs, rfl, hrd, hnm, hvz'.out, hb⟩
end Go.Proofs.YtejfnplhimfchaaGreatDoor.L

namespace Go.Proofs.YtejfnplhimfchaaGreatDoor.L
open Go.RowKit Tl

theorem val_mod2 (xs : List Int) : val xs % 2 = nth xs 0 % 2 := by
  cases xs with
  | nil => rfl
  | cons x xs =>
    show (x + 1073741824 * val xs) % 2 = x % 2
    omega
set_option maxRecDepth 100000 in
/-- (Nat).Even of the reference. -/
theorem Even_any (v : Value) (xs : List Int) (w : World) (h : Rd w v xs) :
    Calls Tryz.prog 36 #[v] w fun e w' => e = .returned (.bool (decide (val xs % 2 = 0))) ∧ w' = w := by
  obtain ⟨hx, a, c, rfl, _, _, g⟩ := h
  have m := val_mod2 xs
  by_cases h0 : xs.length = 0
  · have hz : ((xs.length : Int) == 0) = true := by rw [beq_iff_eq]; omega
    have r : nth xs 0 = 0 := nth_out xs 0 (by omega)
    have R : Hid (decide (val xs % 2 = 0) = true) := by show _ = _; rw [decide_eq_true_eq, m, r]; rfl
    clear g m
    go_enter Tryz.func36, Tryz.ntmps36
    go_wp2
    go_ret
    exact ⟨by rw [R.out]; rfl, rfl⟩
  · have hz : ((xs.length : Int) == 0) = false := by rw [beq_eq_false_iff_ne]; omega
    obtain ⟨b, o, rfl, q⟩ := g (by omega)
    have d1 := q.at (i := 0) (by omega)
    have bx := nth_bd hx 0
    rw [Nat.add_zero] at d1
    have t1 : (nth xs 0).tmod 2 = nth xs 0 % 2 := Int.tmod_eq_emod_of_nonneg bx.1
    have R : Hid (decide (val xs % 2 = 0) = (nth xs 0 % 2 == 0)) := by show _ = _; rw [m, Bool.eq_iff_iff, decide_eq_true_iff, beq_iff_eq]
    have l1 : 0 < xs.length := by omega
    clear g m
    go_enter Tryz.func36, Tryz.ntmps36
    go_wp2
    go_ret
    exact ⟨by rw [R.out]; rfl, rfl⟩
end Go.Proofs.YtejfnplhimfchaaGreatDoor.L
