import Derived.Test.YtfalncbcomlelaaGreatDoorSub
namespace Go.Proofs.YtfalncbcomlelaaGreatDoor
open Go.RowKit Tn

/-- -1, 0, 1. -/
def cmp3 (x y : Int) : Int := if x < y then -1 else if y < x then 1 else 0
theorem cmp3_lt {x y : Int} (h : x < y) : cmp3 x y = -1 := by simp [cmp3, h]
theorem cmp3_gt {x y : Int} (h : y < x) : cmp3 x y = 1 := by unfold cmp3; rw [if_neg (by omega), if_pos h]
theorem cmp3_eq {x y : Int} (h : x = y) : cmp3 x y = 0 := by unfold cmp3; rw [if_neg (by omega), if_neg (by omega)]
theorem top_lt {xs ys : List Int} (hx : Wd xs) (hy : Wd ys) (hl : xs.length = ys.length) (j : Nat) (hj : j < xs.length) (hd : xs.drop (j + 1) = ys.drop (j + 1)) (h : nth xs j < nth ys j) : val xs < val ys := by
  have e1 := val_split xs j (by omega)
  have e2 := val_split ys j (by omega)
  rw [drop_getD xs j hj] at e1
  rw [drop_getD ys j (by omega), ← hd] at e2
  simp only [val] at e1 e2
  have b1 := val_lt (hx.take j)
  have b2 := val_nonneg (hy.take j)
  rw [List.length_take, Nat.min_eq_left (by omega)] at b1
  have h' : xs.getD j 0 + 1 ≤ ys.getD j 0 := h
  have b3 := Int.mul_le_mul_of_nonneg_left h' (Int.le_of_lt (pw_pos j))
  grind

theorem drop_more {xs ys : List Int} {k : Nat} (hk : k < xs.length) (hl : xs.length = ys.length) (hd : xs.drop (xs.length - k) = ys.drop (xs.length - k)) (he : nth xs (xs.length - 1 - k) = nth ys (xs.length - 1 - k)) : xs.drop (xs.length - (k + 1)) = ys.drop (xs.length - (k + 1)) := by
  have e : xs.length - (k + 1) = xs.length - 1 - k := by omega
  rw [e, drop_getD xs _ (by omega), drop_getD ys _ (by omega), show xs.length - 1 - k + 1 = xs.length - k from by omega, hd]
  exact congrArg (· :: _) he

set_option maxHeartbeats 1600000 in
set_option maxRecDepth 100000 in
theorem cmp_long (a1 a2 : Option Addr) (c1 c2 : Nat) (xs ys : List Int) (w : World) (hx : Wd xs) (hy : Wd ys) (hle : xs.length = ys.length) (hL : xs.length ≤ 1099511627776) (h1 : 0 < xs.length → ∃ b o, a1 = some ⟨b, o, none⟩ ∧ Cells w b o xs) (h2 : 0 < ys.length → ∃ b o, a2 = some ⟨b, o, none⟩ ∧ Cells w b o ys) :
    Calls Tryz.prog 61 #[.agg #[.slice a1 xs.length c1], .agg #[.slice a2 xs.length c2]] w fun e w' => e = .returned (.int .i64 (cmp3 (val xs) (val ys))) ∧ Below w.heap.size w w' := by
  have HL : Hid (xs.length = ys.length) := hle
  clear hle
  go_enter Tryz.func61, Tryz.ntmps61
  go_wp2_with fail
  go_loopw [24] (fun i wr => ∃ (k : Nat), k ≤ xs.length ∧ i = .int .i64 k ∧ xs.drop (xs.length - k) = ys.drop (xs.length - k) ∧ ∃ m, wr = ((w.alloc (.cells #[.slice a1 xs.length c1] 56)).alloc (.cells #[.slice a2 xs.length c2] 56)).drewN m) (fun i _ => xs.length - (intOf i).toNat)
  case atStart => exact ⟨0, Nat.zero_le _, rfl, by rw [Nat.sub_zero, List.drop_length, HL.out, List.drop_length], 0, rfl⟩
  case round =>
    obtain ⟨k, hk, rfl, hd, m, rfl⟩ := hrel
    have HD : Hid (xs.drop (xs.length - k) = ys.drop (xs.length - k)) := hd
    clear hd
    by_cases hlt : k < xs.length
    · obtain ⟨b1, o1, rfl, q1⟩ := h1 (by omega)
      obtain ⟨b2, o2, rfl, q2⟩ := h2 (by rw [← HL.out]; omega)
      have l1 := q1.lt (by omega)
      have l2 := q2.lt (by rw [← HL.out]; omega)
      have d1 := q1.at (i := xs.length - 1 - k) (by omega)
      have d2 := q2.at (i := xs.length - 1 - k) (by rw [← HL.out]; omega)
      by_cases he : nth xs (xs.length - 1 - k) = nth ys (xs.length - 1 - k)
      · have HE : Hid (nth xs (xs.length - 1 - k) = nth ys (xs.length - 1 - k)) := he
        rw [← he] at d2
        clear he
        go_wp2_with fail
        go_quiet (fail)
        go_wp2
        go_roundw
        case rel => exact ⟨k + 1, by omega, by go_num, drop_more hlt HL.out HD.out HE.out, m + nq, rfl⟩
        case measure => simp [intOf]; omega
      · rcases Int.lt_or_gt_of_ne he with hl | hl
        · have R : Hid (cmp3 (val xs) (val ys) = -1) := cmp3_lt (top_lt hx hy HL.out (xs.length - 1 - k) (by omega) (by have := HD.out; rwa [show xs.length - k = xs.length - 1 - k + 1 from by omega] at this) hl)
          go_wp2_with fail
          go_quiet (fail)
          go_wp2_with (go_at_call 93; refine (order_any _ _).mono ?_; rintro e w' ⟨rfl, rfl⟩)
          go_ret
          exact ⟨by rw [R.out]; simp, below_drewN (((Below.refl _ _).alloc (Nat.le_refl _) _).alloc (by simp) _) _⟩
        · have R : Hid (cmp3 (val xs) (val ys) = 1) := cmp3_gt (top_lt hy hx HL.out.symm (xs.length - 1 - k) (by rw [← HL.out]; omega) (by have := HD.out; rw [show xs.length - k = xs.length - 1 - k + 1 from by omega] at this; exact this.symm) hl)
          have hl2 : ¬ nth xs (xs.length - 1 - k) < nth ys (xs.length - 1 - k) := by omega
          go_wp2_with fail
          go_quiet (fail)
          go_wp2_with (go_at_call 93; refine (order_any _ _).mono ?_; rintro e w' ⟨rfl, rfl⟩)
          go_ret
          exact ⟨by rw [R.out]; simp, below_drewN (((Below.refl _ _).alloc (Nat.le_refl _) _).alloc (by simp) _) _⟩
    · have R : Hid (cmp3 (val xs) (val ys) = 0) := by
        have ek : k = xs.length := by omega
        have := HD.out
        rw [ek, Nat.sub_self, List.drop_zero, List.drop_zero] at this
        exact cmp3_eq (by rw [this])
      go_wp2
      go_ret
      exact ⟨by rw [R.out]; rfl, below_drewN (((Below.refl _ _).alloc (Nat.le_refl _) _).alloc (by simp) _) _⟩
set_option maxRecDepth 100000 in
theorem cmp_lens (a1 a2 : Option Addr) (c1 c2 n m : Nat) (w : World) (hne : n ≠ m) :
    Calls Tryz.prog 61 #[.agg #[.slice a1 n c1], .agg #[.slice a2 m c2]] w fun e w' => e = .returned (.int .i64 (if n < m then -1 else 1)) ∧ Below w.heap.size w w' := by
  have h1 : ((n : Int) != (m : Int)) = true := by rw [bne_iff_ne]; omega
  by_cases h : n < m
  · go_enter Tryz.func61, Tryz.ntmps61
    go_wp2_with (go_at_call 93; refine (order_any _ _).mono ?_; rintro e w' ⟨rfl, rfl⟩)
    go_ret
    exact ⟨by simp, ((Below.refl _ _).alloc (Nat.le_refl _) _).alloc (by simp) _⟩
  · go_enter Tryz.func61, Tryz.ntmps61
    go_wp2_with (go_at_call 93; refine (order_any _ _).mono ?_; rintro e w' ⟨rfl, rfl⟩)
    go_ret
    exact ⟨by simp, ((Below.refl _ _).alloc (Nat.le_refl _) _).alloc (by simp) _⟩

/-- (Nat).Cmp, of two numbers. -/
theorem Cmp_any (v1 v2 : Value) (xs ys : List Int) (w : World) (h1 : Rd w v1 xs) (h2 : Rd w v2 ys) (n1 : Nm xs) (n2 : Nm ys) (l1 : xs.length ≤ 1099511627776) :
    Calls Tryz.prog 61 #[.agg #[v1], .agg #[v2]] w fun e w' => e = .returned (.int .i64 (cmp3 (val xs) (val ys))) ∧ Below w.heap.size w w' := by
  obtain ⟨w1, a1, c1, rfl, _, _, g1⟩ := h1
  obtain ⟨w2, a2, c2, rfl, _, _, g2⟩ := h2
  by_cases h : xs.length = ys.length
  · rw [← h]; exact cmp_long a1 a2 c1 c2 xs ys w w1 w2 h l1 g1 g2
  · refine (cmp_lens a1 a2 c1 c2 xs.length ys.length w h).mono ?_
    rintro e w' ⟨rfl, hb⟩
    refine ⟨?_, hb⟩
    by_cases h' : xs.length < ys.length
    · rw [if_pos h', cmp3_lt (val_lt_of_length w1 w2 n2 h')]
    · rw [if_neg h', cmp3_gt (val_lt_of_length w2 w1 n1 (by omega))]

set_option maxRecDepth 100000 in
theorem iszero_len (a : Option Addr) (n c : Nat) (w : World) : Calls Tryz.prog 42 #[.agg #[.slice a n c]] w fun e w' => e = .returned (.bool (n == 0)) ∧ Below w.heap.size w w' := by
  go_enter Tryz.func42, Tryz.ntmps42
  go_wp2
  go_ret
  exact ⟨by simp; rw [Bool.eq_iff_iff]; simp, (Below.refl _ _).alloc (Nat.le_refl _) _⟩
/-- (Nat).IsZero. -/
theorem IsZero_any (v : Value) (xs : List Int) (w : World) (h : Rd w v xs) (n : Nm xs) :
    Calls Tryz.prog 42 #[.agg #[v]] w fun e w' => e = .returned (.bool (decide (val xs = 0))) ∧ Below w.heap.size w w' := by
  obtain ⟨w1, a, c, rfl, _, _, g⟩ := h
  refine (iszero_len a xs.length c w).mono ?_
  rintro e w' ⟨rfl, hb⟩
  refine ⟨?_, hb⟩
  congr 2
  rw [Bool.eq_iff_iff]; simp [val_eq_zero w1 n, List.length_eq_zero_iff]

set_option maxRecDepth 100000 in
theorem isone_none (a : Option Addr) (n c : Nat) (w : World) (hn : n ≠ 1) : Calls Tryz.prog 68 #[.agg #[.slice a n c]] w fun e w' => e = .returned (.bool false) ∧ Below w.heap.size w w' := by
  have h1 : ((n : Int) == 1) = false := by rw [beq_eq_false_iff_ne]; omega
  go_enter Tryz.func68, Tryz.ntmps68
  go_wp2
  go_ret
  exact ⟨rfl, (Below.refl _ _).alloc (Nat.le_refl _) _⟩
set_option maxRecDepth 100000 in
theorem isone_one (b o c : Nat) (x : Int) (w : World) (h : w.cell? ⟨b, o, none⟩ = some (.int .u64 x)) (hb : b < w.heap.size) : Calls Tryz.prog 68 #[.agg #[.slice (some ⟨b, o, none⟩) 1 c]] w fun e w' => e = .returned (.bool (x == 1)) ∧ Below w.heap.size w w' := by
  go_enter Tryz.func68, Tryz.ntmps68
  go_wp2
  all_goals (go_ret; exact ⟨by simp_all, (Below.refl _ _).alloc (Nat.le_refl _) _⟩)
/-- (Nat).IsOne. -/
theorem IsOne_any (v : Value) (xs : List Int) (w : World) (h : Rd w v xs) (n : Nm xs) :
    Calls Tryz.prog 68 #[.agg #[v]] w fun e w' => e = .returned (.bool (decide (val xs = 1))) ∧ Below w.heap.size w w' := by
  obtain ⟨w1, a, c, rfl, _, _, g⟩ := h
  by_cases hl : xs.length = 1
  · obtain ⟨b, o, rfl, hc⟩ := g (by omega)
    obtain ⟨x, rfl⟩ : ∃ x, xs = [x] := List.length_eq_one_iff.1 hl
    have := hc 0 (by simp)
    refine (isone_one b o c x w (by simpa [nth] using this) (hc.lt (by simp))).mono ?_
    rintro e w' ⟨rfl, hb⟩
    refine ⟨?_, hb⟩
    congr 2
    rw [Bool.eq_iff_iff]; simp [val]
  · refine (isone_none a xs.length c w hl).mono ?_
    rintro e w' ⟨rfl, hb⟩
    refine ⟨?_, hb⟩
    congr 2
    symm
    rw [decide_eq_false_iff_not]
    intro e
    by_cases h0 : xs = []
    · subst h0; simp [val] at e
    · have := val_low w1 n h0
      have h2 : 1 ≤ xs.length - 1 := by have := List.length_pos_iff.2 h0; omega
      have h3 := pw_mono h2
      have : pw 1 = 18446744073709551616 := rfl
      omega
end Go.Proofs.YtfalncbcomlelaaGreatDoor
