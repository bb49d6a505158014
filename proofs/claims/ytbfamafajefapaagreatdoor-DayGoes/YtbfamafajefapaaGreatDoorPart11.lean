import Derived.Test.YtbfamafajefapaaGreatDoorPart10
import Derived.Lib.ItoaNum

namespace Go.Proofs.YtbfamafajefapaaGreatDoor
open Go.RowKit Tn

/-- -1, 0, 1. -/
def cmp3 (x y : Int) : Int := if x < y then -1 else if y < x then 1 else 0
theorem cmp3_lt {x y : Int} (h : x < y) : cmp3 x y = -1 := by simp [cmp3, h]
theorem cmp3_gt {x y : Int} (h : y < x) : cmp3 x y = 1 := by unfold cmp3; rw [if_neg (by omega), if_pos h]
theorem cmp3_eq {x y : Int} (h : x = y) : cmp3 x y = 0 := by unfold cmp3; rw [if_neg (by omega), if_neg (by omega)]
theorem top_lt {xs ys : List Int} (hx : Wd xs) (hy : Wd ys) (hl : xs.length = ys.length) (j : Nat) (hj : j < xs.length) (hd : xs.drop (j + 1) = ys.drop (j + 1)) (h : nth xs j < nth ys j) : val xs < val ys := by
  have e1 := val_split xs j (by omega)
  have e2 := val_split ys j (by omega)
  rw [drop_getD xs j hj] at e1
  rw [drop_getD ys j (by omega), ← hd] at e2
  simp only [val] at e1 e2
  have b1 := val_lt (hx.take j)
  have b2 := val_nonneg (hy.take j)
  rw [List.length_take, Nat.min_eq_left (by omega)] at b1
  have h' : xs.getD j 0 + 1 ≤ ys.getD j 0 := h
  have b3 := Int.mul_le_mul_of_nonneg_left h' (Int.le_of_lt (pw_pos j))
  grind

theorem drop_more {xs ys : List Int} {k : Nat} (hk : k < xs.length) (hl : xs.length = ys.length) (hd : xs.drop (xs.length - k) = ys.drop (xs.length - k)) (he : nth xs (xs.length - 1 - k) = nth ys (xs.length - 1 - k)) : xs.drop (xs.length - (k + 1)) = ys.drop (xs.length - (k + 1)) := by
  have e : xs.length - (k + 1) = xs.length - 1 - k := by omega
  rw [e, drop_getD xs _ (by omega), drop_getD ys _ (by omega), show xs.length - 1 - k + 1 = xs.length - k from by omega, hd]
  exact congrArg (· :: _) he

set_option maxHeartbeats 1600000 in
set_option maxRecDepth 100000 in
theorem cmp_long (a1 a2 : Option Addr) (c1 c2 : Nat) (xs ys : List Int) (w : World) (hx : Wd xs) (hy : Wd ys) (hle : xs.length = ys.length) (hL : xs.length ≤ 1099511627776) (h1 : 0 < xs.length → ∃ b o, a1 = some ⟨b, o, none⟩ ∧ Cells w b o xs) (h2 : 0 < ys.length → ∃ b o, a2 = some ⟨b, o, none⟩ ∧ Cells w b o ys) :
    Calls Tryz.prog 88 #[.agg #[.slice a1 xs.length c1], .agg #[.slice a2 xs.length c2]] w fun e w' => e = .returned (.int .i64 (cmp3 (val xs) (val ys))) ∧ Below w.heap.size w w' := by
  have HL : Hid (xs.length = ys.length) := hle
  clear hle
  go_enter Tryz.func88, Tryz.ntmps88
  go_wp2_with fail
  go_loopw [24] (fun i wr => ∃ (k : Nat), k ≤ xs.length ∧ i = .int .i64 k ∧ xs.drop (xs.length - k) = ys.drop (xs.length - k) ∧ ∃ m, wr = ((w.alloc (.cells #[.slice a1 xs.length c1] 71)).alloc (.cells #[.slice a2 xs.length c2] 71)).drewN m) (fun i _ => xs.length - (intOf i).toNat)
  case atStart => exact ⟨0, Nat.zero_le _, rfl, by rw [Nat.sub_zero, List.drop_length, HL.out, List.drop_length], 0, rfl⟩
  case round =>
    obtain ⟨k, hk, rfl, hd, m, rfl⟩ := hrel
    have HD : Hid (xs.drop (xs.length - k) = ys.drop (xs.length - k)) := hd
    clear hd
    by_cases hlt : k < xs.length
    · obtain ⟨b1, o1, rfl, q1⟩ := h1 (by omega)
      obtain ⟨b2, o2, rfl, q2⟩ := h2 (by rw [← HL.out]; omega)
      have l1 := q1.lt (by omega)
      have l2 := q2.lt (by rw [← HL.out]; omega)
      have d1 := q1.at (i := xs.length - 1 - k) (by omega)
      have d2 := q2.at (i := xs.length - 1 - k) (by rw [← HL.out]; omega)
      by_cases he : nth xs (xs.length - 1 - k) = nth ys (xs.length - 1 - k)
      · have HE : Hid (nth xs (xs.length - 1 - k) = nth ys (xs.length - 1 - k)) := he
        rw [← he] at d2
        clear he
        go_wp2_with fail
        go_quiet (fail)
        go_wp2
        go_roundw
        case rel => exact ⟨k + 1, by omega, by go_num, drop_more hlt HL.out HD.out HE.out, m + nq, rfl⟩
        case measure => simp [intOf]; omega
      · rcases Int.lt_or_gt_of_ne he with hl | hl
        · have R : Hid (cmp3 (val xs) (val ys) = -1) := cmp3_lt (top_lt hx hy HL.out (xs.length - 1 - k) (by omega) (by have := HD.out; rwa [show xs.length - k = xs.length - 1 - k + 1 from by omega] at this) hl)
          go_wp2_with fail
          go_quiet (fail)
          go_wp2_with (go_at_call 147; refine (order_any _ _).mono ?_; rintro e w' ⟨rfl, rfl⟩)
          go_ret
          exact ⟨by rw [R.out]; simp, below_drewN (((Below.refl _ _).alloc (Nat.le_refl _) _).alloc (by simp) _) _⟩
        · have R : Hid (cmp3 (val xs) (val ys) = 1) := cmp3_gt (top_lt hy hx HL.out.symm (xs.length - 1 - k) (by rw [← HL.out]; omega) (by have := HD.out; rw [show xs.length - k = xs.length - 1 - k + 1 from by omega] at this; exact this.symm) hl)
          have hl2 : ¬ nth xs (xs.length - 1 - k) < nth ys (xs.length - 1 - k) := by omega
          go_wp2_with fail
          go_quiet (fail)
          go_wp2_with (go_at_call 147; refine (order_any _ _).mono ?_; rintro e w' ⟨rfl, rfl⟩)
          go_ret
          exact ⟨by rw [R.out]; simp, below_drewN (((Below.refl _ _).alloc (Nat.le_refl _) _).alloc (by simp) _) _⟩
    · have R : Hid (cmp3 (val xs) (val ys) = 0) := by
        have ek : k = xs.length := by omega
        have := HD.out
        rw [ek, Nat.sub_self, List.drop_zero, List.drop_zero] at this
        exact cmp3_eq (by rw [this])
      go_wp2
      go_ret
      exact ⟨by rw [R.out]; rfl, below_drewN (((Below.refl _ _).alloc (Nat.le_refl _) _).alloc (by simp) _) _⟩
set_option maxRecDepth 100000 in
theorem cmp_lens (a1 a2 : Option Addr) (c1 c2 n m : Nat) (w : World) (hne : n ≠ m) :
    Calls Tryz.prog 88 #[.agg #[.slice a1 n c1], .agg #[.slice a2 m c2]] w fun e w' => e = .returned (.int .i64 (if n < m then -1 else 1)) ∧ Below w.heap.size w w' := by
  have h1 : ((n : Int) != (m : Int)) = true := by rw [bne_iff_ne]; omega
  by_cases h : n < m
  · go_enter Tryz.func88, Tryz.ntmps88
    go_wp2_with (go_at_call 147; refine (order_any _ _).mono ?_; rintro e w' ⟨rfl, rfl⟩)
    go_ret
    exact ⟨by simp, ((Below.refl _ _).alloc (Nat.le_refl _) _).alloc (by simp) _⟩
  · go_enter Tryz.func88, Tryz.ntmps88
    go_wp2_with (go_at_call 147; refine (order_any _ _).mono ?_; rintro e w' ⟨rfl, rfl⟩)
    go_ret
    exact ⟨by simp, ((Below.refl _ _).alloc (Nat.le_refl _) _).alloc (by simp) _⟩

/-- (Nat).Cmp, of two numbers. -/
theorem Cmp_any (v1 v2 : Value) (xs ys : List Int) (w : World) (h1 : Rd w v1 xs) (h2 : Rd w v2 ys) (n1 : Nm xs) (n2 : Nm ys) (l1 : xs.length ≤ 1099511627776) :
    Calls Tryz.prog 88 #[.agg #[v1], .agg #[v2]] w fun e w' => e = .returned (.int .i64 (cmp3 (val xs) (val ys))) ∧ Below w.heap.size w w' := by
  obtain ⟨w1, a1, c1, rfl, _, _, g1⟩ := h1
  obtain ⟨w2, a2, c2, rfl, _, _, g2⟩ := h2
  by_cases h : xs.length = ys.length
  · rw [← h]; exact cmp_long a1 a2 c1 c2 xs ys w w1 w2 h l1 g1 g2
  · refine (cmp_lens a1 a2 c1 c2 xs.length ys.length w h).mono ?_
    rintro e w' ⟨rfl, hb⟩
    refine ⟨?_, hb⟩
    by_cases h' : xs.length < ys.length
    · rw [if_pos h', cmp3_lt (val_lt_of_length w1 w2 n2 h')]
    · rw [if_neg h', cmp3_gt (val_lt_of_length w2 w1 n1 (by omega))]

set_option maxRecDepth 100000 in
theorem iszero_len (a : Option Addr) (n c : Nat) (w : World) : Calls Tryz.prog 95 #[.agg #[.slice a n c]] w fun e w' => e = .returned (.bool (n == 0)) ∧ Below w.heap.size w w' := by
  go_enter Tryz.func95, Tryz.ntmps95
  go_wp2
  go_ret
  exact ⟨by simp; rw [Bool.eq_iff_iff]; simp, (Below.refl _ _).alloc (Nat.le_refl _) _⟩
/-- (Nat).IsZero. -/
theorem IsZero_any (v : Value) (xs : List Int) (w : World) (h : Rd w v xs) (n : Nm xs) :
    Calls Tryz.prog 95 #[.agg #[v]] w fun e w' => e = .returned (.bool (decide (val xs = 0))) ∧ Below w.heap.size w w' := by
  obtain ⟨w1, a, c, rfl, _, _, g⟩ := h
  refine (iszero_len a xs.length c w).mono ?_
  rintro e w' ⟨rfl, hb⟩
  refine ⟨?_, hb⟩
  congr 2
  rw [Bool.eq_iff_iff]; simp [val_eq_zero w1 n, List.length_eq_zero_iff]

set_option maxRecDepth 100000 in
theorem isone_none (a : Option Addr) (n c : Nat) (w : World) (hn : n ≠ 1) : Calls Tryz.prog 87 #[.agg #[.slice a n c]] w fun e w' => e = .returned (.bool false) ∧ Below w.heap.size w w' := by
  have h1 : ((n : Int) == 1) = false := by rw [beq_eq_false_iff_ne]; omega
  go_enter Tryz.func87, Tryz.ntmps87
  go_wp2
  go_ret
  exact ⟨rfl, (Below.refl _ _).alloc (Nat.le_refl _) _⟩
set_option maxRecDepth 100000 in
theorem isone_one (b o c : Nat) (x : Int) (w : World) (h : w.cell? ⟨b, o, none⟩ = some (.int .u64 x)) (hb : b < w.heap.size) : Calls Tryz.prog 87 #[.agg #[.slice (some ⟨b, o, none⟩) 1 c]] w fun e w' => e = .returned (.bool (x == 1)) ∧ Below w.heap.size w w' := by
  go_enter Tryz.func87, Tryz.ntmps87
  go_wp2
  all_goals (go_ret; exact ⟨by simp_all, (Below.refl _ _).alloc (Nat.le_refl _) _⟩)
/-- (Nat).IsOne. -/
theorem IsOne_any (v : Value) (xs : List Int) (w : World) (h : Rd w v xs) (n : Nm xs) :
    Calls Tryz.prog 87 #[.agg #[v]] w fun e w' => e = .returned (.bool (decide (val xs = 1))) ∧ Below w.heap.size w w' := by
  obtain ⟨w1, a, c, rfl, _, _, g⟩ := h
  by_cases hl : xs.length = 1
  · obtain ⟨b, o, rfl, hc⟩ := g (by omega)
    obtain ⟨x, rfl⟩ : ∃ x, xs = [x] := List.length_eq_one_iff.1 hl
    have := hc 0 (by simp)
    refine (isone_one b o c x w (by simpa [nth] using this) (hc.lt (by simp))).mono ?_
    rintro e w' ⟨rfl, hb⟩
    refine ⟨?_, hb⟩
    congr 2
    rw [Bool.eq_iff_iff]; simp [val]
  · refine (isone_none a xs.length c w hl).mono ?_
    rintro e w' ⟨rfl, hb⟩
    refine ⟨?_, hb⟩
    congr 2
    symm
    rw [decide_eq_false_iff_not]
    intro e
    by_cases h0 : xs = []
    · subst h0; simp [val] at e
    · have := val_low w1 n h0
      have h2 : 1 ≤ xs.length - 1 := by have := List.length_pos_iff.2 h0; omega
      have h3 := pw_mono h2
      have : pw 1 = 18446744073709551616 := rfl
      omega
end Go.Proofs.YtbfamafajefapaaGreatDoor

namespace Go.Proofs.YtbfamafajefapaaGreatDoor
open Go.RowKit Tn

theorem pw_two (n : Nat) : pw n = 2 ^ (64 * n) := by
  induction n with
  | zero => rfl
  | succ n ih => rw [show 64 * (n + 1) = 64 * n + 64 from by omega, Int.pow_add, ← ih]; simp only [pw]; rw [Int.mul_comm]; rfl
theorem bitLen_bd (x : Int) (h0 : 0 < x) (h1 : x < 18446744073709551616) : 1 ≤ Lib.bitLen x.toNat ∧ Lib.bitLen x.toNat ≤ 64 ∧ (2 : Int) ^ (Lib.bitLen x.toNat - 1) ≤ x ∧ x < 2 ^ Lib.bitLen x.toNat := by
  obtain ⟨n, rfl⟩ := Int.eq_ofNat_of_zero_le (Int.le_of_lt h0)
  rw [Int.toNat_natCast]
  have hb := Lib.bitLenAux_bounds 64 n (by omega) (by omega)
  have hc := Lib.bitLen_le n 64 (by omega) (by omega)
  refine ⟨hb.1, hc, ?_, ?_⟩
  · have := Int.ofNat_le.2 hb.2.1; rw [Int.natCast_pow] at this; exact this
  · have := Int.ofNat_lt.2 hb.2.2; rw [Int.natCast_pow] at this; exact this
theorem val_top {xs : List Int} (ne : 0 < xs.length) : val xs = val (xs.take (xs.length - 1)) + pw (xs.length - 1) * nth xs (xs.length - 1) := by
  have e := val_at xs (xs.length - 1) (by omega)
  rw [Nat.sub_add_cancel ne, List.take_length] at e; exact e
theorem nm_top {xs : List Int} (h : Wd xs) (n : Nm xs) (ne : 0 < xs.length) : 0 < nth xs (xs.length - 1) := by
  rcases n with rfl | n
  · simp at ne
  · have := (nth_bd h (xs.length - 1)).1; unfold nth at *; omega
theorem bitLen_val {xs : List Int} (h : Wd xs) (n : Nm xs) (ne : 0 < xs.length) : ∃ L : Nat, (xs.length : Int) * 64 - (64 - (Lib.bitLen (nth xs (xs.length - 1)).toNat : Int)) = (L : Int) ∧ val xs < 2 ^ L ∧ 1 ≤ L ∧ (2 : Int) ^ (L - 1) ≤ val xs := by
  have ht := nm_top h n ne
  have hb := bitLen_bd (nth xs (xs.length - 1)) ht (nth_bd h _).2
  have e := val_top ne
  have v0 := val_nonneg (h.take (xs.length - 1))
  have v1 := val_lt (h.take (xs.length - 1))
  rw [List.length_take, Nat.min_eq_left (by omega)] at v1
  have p := pw_pos (xs.length - 1)
  refine ⟨64 * (xs.length - 1) + Lib.bitLen (nth xs (xs.length - 1)).toNat, by omega, ?_, by omega, ?_⟩
  · rw [Int.pow_add, ← pw_two]
    have := Int.mul_le_mul_of_nonneg_left (show nth xs (xs.length - 1) + 1 ≤ 2 ^ Lib.bitLen (nth xs (xs.length - 1)).toNat by omega) (Int.le_of_lt p)
    grind
  · rw [show 64 * (xs.length - 1) + Lib.bitLen (nth xs (xs.length - 1)).toNat - 1 = 64 * (xs.length - 1) + (Lib.bitLen (nth xs (xs.length - 1)).toNat - 1) from by omega, Int.pow_add, ← pw_two]
    have := Int.mul_le_mul_of_nonneg_left hb.2.2.1 (Int.le_of_lt p)
    omega

set_option maxRecDepth 100000 in
set_option maxHeartbeats 400000 in
/-- (Nat).BitLen. -/
theorem BitLen_any (v : Value) (xs : List Int) (w : World) (h : Rd w v xs) (n : Nm xs) (hL : xs.length ≤ 1099511627776) :
    Calls Tryz.prog 158 #[.agg #[v]] w fun e w' => ∃ L : Nat, e = .returned (.int .i64 L) ∧ val xs < 2 ^ L ∧ (L = 0 ∨ (2 : Int) ^ (L - 1) ≤ val xs) ∧ (L : Int) ≤ 64 * xs.length ∧ Below w.heap.size w w' := by
  obtain ⟨w1, a, c, rfl, _, _, g⟩ := h
  by_cases h0 : xs.length = 0
  · have e0 : xs = [] := List.eq_nil_of_length_eq_zero h0
    have ht : ((xs.length : Int) == 0) = true := by rw [h0]; rfl
    have R : Hid (val xs = 0) := by rw [e0]; rfl
    clear g e0
    go_enter Tryz.func158, Tryz.ntmps158
    go_wp2
    go_ret
    exact ⟨0, rfl, by rw [R.out]; decide, Or.inl rfl, by omega, (Below.refl _ _).alloc (Nat.le_refl _) _⟩
  · obtain ⟨b, o, rfl, hc⟩ := g (by omega)
    have hb := hc.lt (by omega)
    have hc1 := hc.at (i := xs.length - 1) (by omega)
    have bd := nth_bd w1 (xs.length - 1)
    obtain ⟨L, e1, e2, e3, e4⟩ := bitLen_val w1 n (by omega)
    have ht := nm_top w1 n (by omega)
    have hb2 := bitLen_bd (nth xs (xs.length - 1)) ht bd.2
    have E1 : Hid _ := e1
    have ht' : ((xs.length : Int) == 0) = false := by rw [beq_eq_false_iff_ne]; omega
    have hL2 : (Lib.bitLen (nth xs (xs.length - 1)).toNat : Int) ≤ 64 := by omega
    clear e1 hb2 g
    go_enter Tryz.func158, Tryz.ntmps158
    go_wp2_with (go_at_call 176; refine (Tryz.bits_LeadingZeros64 _ _ bd.1 (by omega)).mono ?_; rintro e w' ⟨rfl, rfl⟩)
    go_ret
    exact ⟨L, by rw [← E1.out]; rfl, e2, Or.inr e4, by have := E1.out; omega, (Below.refl _ _).alloc (Nat.le_refl _) _⟩

set_option maxRecDepth 100000 in
/-- whole.Of. -/
theorem Of_any (x : Int) (w : World) (h0 : 0 ≤ x) (h1 : x < 18446744073709551616) :
    Calls Tryz.prog 89 #[.int .u64 x] w fun e w' => ∃ r zs, e = .returned (.agg #[r]) ∧ Rd w' r zs ∧ Nm zs ∧ val zs = x ∧ Below w.heap.size w w' := by
  have hc : Hid (Cells ((w.alloc (.cells #[.slice none 0 0] 71)).alloc (.cells #[.int .u64 x] 119)) (w.heap.size + 1) 0 [x]) := by
    intro i hi
    have : i = 0 := by simp at hi; omega
    subst this
    simp [nth]
  go_enter Tryz.func89, Tryz.ntmps89
  go_wp2_with fail
  refine (trim_rd _ _ _ [x] _ rfl (Wd.cons h0 h1 Wd.nil) (by simp) (by omega) (fun _ => ⟨_, _, rfl, hc.out⟩)).mono ?_
  rintro e w4 ⟨n, zs, rfl, -, hrd, hnm, hvz, hbl⟩
  have V2 := ((Bx.new w _ _).alloc _).below hbl
  have v1 := V2.1
  have v2 := V2.2
  have hvz' : Hid (val zs = x) := by have e : val [x] = x := by simp [val]
                                     exact hvz.trans e
  have pr : Below w.heap.size w ((w.alloc (.cells #[.slice none 0 0] 71)).alloc (.cells #[.int .u64 x] 119)) := ((Below.refl _ _).alloc (Nat.le_refl _) _).alloc (by simp) _
  clear hvz
  go_wp2
  refine bodyPost_ret (v := .agg #[.slice (some ⟨w.heap.size + 1, 0, none⟩) n 1]) (by simp [results, Tryz.results89, go_sem, v1]) rfl ⟨_, zs, rfl, hrd.put (by intro b o l c e; simp at e; omega), hnm, hvz'.out, below_put (pr.trans (hbl.mono pr.size)) (by omega) _⟩

set_option maxRecDepth 100000 in
/-- whole.multiplyAdd: x y + z, its low and its high word. -/
theorem mulAdd_any (x y z : Int) (w : World) (x0 : 0 ≤ x) (x1 : x < 18446744073709551616) (y0 : 0 ≤ y) (y1 : y < 18446744073709551616) (z0 : 0 ≤ z) (z1 : z < 18446744073709551616) :
    Calls Tryz.prog 141 #[.int .u64 x, .int .u64 y, .int .u64 z] w fun e w' => ∃ l h, e = .returned (.tuple #[.int .u64 l, .int .u64 h]) ∧ 0 ≤ l ∧ l < 18446744073709551616 ∧ 0 ≤ h ∧ h < 18446744073709551616 ∧ l + 18446744073709551616 * h = x * y + z ∧ w' = w := by
  have hh := hiw_bd x0 x1 y0 y1
  have hl := low_bd x y
  have e := hilo x y
  have E : Hid _ := e
  clear e
  go_enter Tryz.func141, Tryz.ntmps141
  go_wp2_with (first | (go_at_call 174; refine (mul64 x y _ x0 x1 y0 y1).mono ?_; rintro e w' ⟨rfl, rfl⟩) | simp only [add64_0 _ _ hl.1 z0])
  go_ret2
  exact ⟨_, _, rfl, by omega, by omega, by omega, by omega, by have := E.out; omega, rfl⟩
end Go.Proofs.YtbfamafajefapaaGreatDoor
