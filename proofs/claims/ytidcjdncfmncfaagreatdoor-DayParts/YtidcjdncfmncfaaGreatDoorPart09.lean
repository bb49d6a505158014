import Derived.Test.YtidcjdncfmncfaaGreatDoorPart08
import Derived.Lib.ItoaNum
import Derived.WalkLawsBesides
import Derived.Deep.DeepCutAuto
import Derived.Deep.CutBlock

namespace Go.Proofs.YtidcjdncfmncfaaGreatDoor
open Go.RowKit Tn

/-- -1, 0, 1. -/
def cmp3 (x y : Int) : Int := if x < y then -1 else if y < x then 1 else 0
theorem cmp3_lt {x y : Int} (h : x < y) : cmp3 x y = -1 := by simp [cmp3, h]
theorem cmp3_gt {x y : Int} (h : y < x) : cmp3 x y = 1 := by unfold cmp3; rw [if_neg (by omega), if_pos h]
theorem cmp3_eq {x y : Int} (h : x = y) : cmp3 x y = 0 := by unfold cmp3; rw [if_neg (by omega), if_neg (by omega)]
theorem top_lt {xs ys : List Int} (hx : Wd xs) (hy : Wd ys) (hl : xs.length = ys.length) (j : Nat) (hj : j < xs.length) (hd : xs.drop (j + 1) = ys.drop (j + 1)) (h : nth xs j < nth ys j) : val xs < val ys := by
  have e1 := val_split xs j (by omega)
  have e2 := val_split ys j (by omega)
  rw [drop_getD xs j hj] at e1
  rw [drop_getD ys j (by omega), ← hd] at e2
  simp only [val] at e1 e2
  have b1 := val_lt (hx.take j)
  have b2 := val_nonneg (hy.take j)
  rw [List.length_take, Nat.min_eq_left (by omega)] at b1
  have h' : xs.getD j 0 + 1 ≤ ys.getD j 0 := h
  have b3 := Int.mul_le_mul_of_nonneg_left h' (Int.le_of_lt (pw_pos j))
  grind

theorem drop_more {xs ys : List Int} {k : Nat} (hk : k < xs.length) (hl : xs.length = ys.length) (hd : xs.drop (xs.length - k) = ys.drop (xs.length - k)) (he : nth xs (xs.length - 1 - k) = nth ys (xs.length - 1 - k)) : xs.drop (xs.length - (k + 1)) = ys.drop (xs.length - (k + 1)) := by
  have e : xs.length - (k + 1) = xs.length - 1 - k := by omega
  rw [e, drop_getD xs _ (by omega), drop_getD ys _ (by omega), show xs.length - 1 - k + 1 = xs.length - k from by omega, hd]
  exact congrArg (· :: _) he

set_option maxHeartbeats 1600000 in
set_option maxRecDepth 100000 in
theorem cmp_long (a1 a2 : Option Addr) (c1 c2 : Nat) (xs ys : List Int) (w : World) (hx : Wd xs) (hy : Wd ys) (hle : xs.length = ys.length) (hL : xs.length ≤ 1099511627776) (h1 : 0 < xs.length → ∃ b o, a1 = some ⟨b, o, none⟩ ∧ Cells w b o xs) (h2 : 0 < ys.length → ∃ b o, a2 = some ⟨b, o, none⟩ ∧ Cells w b o ys) :
    Calls Tryz.prog 80 #[.agg #[.slice a1 xs.length c1], .agg #[.slice a2 xs.length c2]] w fun e w' => e = .returned (.int .i64 (cmp3 (val xs) (val ys))) ∧ Below w.heap.size w w' := by
  have HL : Hid (xs.length = ys.length) := hle
  clear hle
  go_enter Tryz.func80, Tryz.ntmps80
  go_wp2_with fail
  go_loopw [24] (fun i wr => ∃ (k : Nat), k ≤ xs.length ∧ i = .int .i64 k ∧ xs.drop (xs.length - k) = ys.drop (xs.length - k) ∧ ∃ m, wr = ((w.alloc (.cells #[.slice a1 xs.length c1] 63)).alloc (.cells #[.slice a2 xs.length c2] 63)).drewN m) (fun i _ => xs.length - (intOf i).toNat)
  case atStart => exact ⟨0, Nat.zero_le _, rfl, by rw [Nat.sub_zero, List.drop_length, HL.out, List.drop_length], 0, rfl⟩
  case round =>
    obtain ⟨k, hk, rfl, hd, m, rfl⟩ := hrel
    have HD : Hid (xs.drop (xs.length - k) = ys.drop (xs.length - k)) := hd
    clear hd
    by_cases hlt : k < xs.length
    · obtain ⟨b1, o1, rfl, q1⟩ := h1 (by omega)
      obtain ⟨b2, o2, rfl, q2⟩ := h2 (by rw [← HL.out]; omega)
      have l1 := q1.lt (by omega)
      have l2 := q2.lt (by rw [← HL.out]; omega)
      have d1 := q1.at (i := xs.length - 1 - k) (by omega)
      have d2 := q2.at (i := xs.length - 1 - k) (by rw [← HL.out]; omega)
      by_cases he : nth xs (xs.length - 1 - k) = nth ys (xs.length - 1 - k)
      · have HE : Hid (nth xs (xs.length - 1 - k) = nth ys (xs.length - 1 - k)) := he
        rw [← he] at d2
        clear he
        go_wp2_with fail
        go_quiet (fail)
        go_wp2
        go_roundw
        case rel => exact ⟨k + 1, by omega, by go_num, drop_more hlt HL.out HD.out HE.out, m + nq, rfl⟩
        case measure => simp [intOf]; omega
      · rcases Int.lt_or_gt_of_ne he with hl | hl
        · have R : Hid (cmp3 (val xs) (val ys) = -1) := cmp3_lt (top_lt hx hy HL.out (xs.length - 1 - k) (by omega) (by have := HD.out; rwa [show xs.length - k = xs.length - 1 - k + 1 from by omega] at this) hl)
          go_wp2_with fail
          go_quiet (fail)
          go_wp2_with (go_at_call 132; refine (order_any _ _).mono ?_; rintro e w' ⟨rfl, rfl⟩)
          go_ret
          exact ⟨by rw [R.out]; simp, below_drewN (((Below.refl _ _).alloc (Nat.le_refl _) _).alloc (by simp) _) _⟩
        · have R : Hid (cmp3 (val xs) (val ys) = 1) := cmp3_gt (top_lt hy hx HL.out.symm (xs.length - 1 - k) (by rw [← HL.out]; omega) (by have := HD.out; rw [show xs.length - k = xs.length - 1 - k + 1 from by omega] at this; exact this.symm) hl)
          have hl2 : ¬ nth xs (xs.length - 1 - k) < nth ys (xs.length - 1 - k) := by omega
          go_wp2_with fail
          go_quiet (fail)
          go_wp2_with (go_at_call 132; refine (order_any _ _).mono ?_; rintro e w' ⟨rfl, rfl⟩)
          go_ret
          exact ⟨by rw [R.out]; simp, below_drewN (((Below.refl _ _).alloc (Nat.le_refl _) _).alloc (by simp) _) _⟩
    · have R : Hid (cmp3 (val xs) (val ys) = 0) := by
        have ek : k = xs.length := by omega
        have := HD.out
        rw [ek, Nat.sub_self, List.drop_zero, List.drop_zero] at this
        exact cmp3_eq (by rw [this])
      go_wp2
      go_ret
      exact ⟨by rw [R.out]; rfl, below_drewN (((Below.refl _ _).alloc (Nat.le_refl _) _).alloc (by simp) _) _⟩
set_option maxRecDepth 100000 in
theorem cmp_lens (a1 a2 : Option Addr) (c1 c2 n m : Nat) (w : World) (hne : n ≠ m) :
    Calls Tryz.prog 80 #[.agg #[.slice a1 n c1], .agg #[.slice a2 m c2]] w fun e w' => e = .returned (.int .i64 (if n < m then -1 else 1)) ∧ Below w.heap.size w w' := by
  have h1 : ((n : Int) != (m : Int)) = true := by rw [bne_iff_ne]; omega
  by_cases h : n < m
  · go_enter Tryz.func80, Tryz.ntmps80
    go_wp2_with (go_at_call 132; refine (order_any _ _).mono ?_; rintro e w' ⟨rfl, rfl⟩)
    go_ret
    exact ⟨by simp, ((Below.refl _ _).alloc (Nat.le_refl _) _).alloc (by simp) _⟩
  · go_enter Tryz.func80, Tryz.ntmps80
    go_wp2_with (go_at_call 132; refine (order_any _ _).mono ?_; rintro e w' ⟨rfl, rfl⟩)
    go_ret
    exact ⟨by simp, ((Below.refl _ _).alloc (Nat.le_refl _) _).alloc (by simp) _⟩

/-- (Nat).Cmp, of two numbers. -/
theorem Cmp_any (v1 v2 : Value) (xs ys : List Int) (w : World) (h1 : Rd w v1 xs) (h2 : Rd w v2 ys) (n1 : Nm xs) (n2 : Nm ys) (l1 : xs.length ≤ 1099511627776) :
    Calls Tryz.prog 80 #[.agg #[v1], .agg #[v2]] w fun e w' => e = .returned (.int .i64 (cmp3 (val xs) (val ys))) ∧ Below w.heap.size w w' := by
  obtain ⟨w1, a1, c1, rfl, _, _, g1⟩ := h1
  obtain ⟨w2, a2, c2, rfl, _, _, g2⟩ := h2
  by_cases h : xs.length = ys.length
  · rw [← h]; exact cmp_long a1 a2 c1 c2 xs ys w w1 w2 h l1 g1 g2
  · refine (cmp_lens a1 a2 c1 c2 xs.length ys.length w h).mono ?_
    rintro e w' ⟨rfl, hb⟩
    refine ⟨?_, hb⟩
    by_cases h' : xs.length < ys.length
    · rw [if_pos h', cmp3_lt (val_lt_of_length w1 w2 n2 h')]
    · rw [if_neg h', cmp3_gt (val_lt_of_length w2 w1 n1 (by omega))]

set_option maxRecDepth 100000 in
theorem iszero_len (a : Option Addr) (n c : Nat) (w : World) : Calls Tryz.prog 87 #[.agg #[.slice a n c]] w fun e w' => e = .returned (.bool (n == 0)) ∧ Below w.heap.size w w' := by
  go_enter Tryz.func87, Tryz.ntmps87
  go_wp2
  go_ret
  exact ⟨by simp; rw [Bool.eq_iff_iff]; simp, (Below.refl _ _).alloc (Nat.le_refl _) _⟩
/-- (Nat).IsZero. -/
theorem IsZero_any (v : Value) (xs : List Int) (w : World) (h : Rd w v xs) (n : Nm xs) :
    Calls Tryz.prog 87 #[.agg #[v]] w fun e w' => e = .returned (.bool (decide (val xs = 0))) ∧ Below w.heap.size w w' := by
  obtain ⟨w1, a, c, rfl, _, _, g⟩ := h
  refine (iszero_len a xs.length c w).mono ?_
  rintro e w' ⟨rfl, hb⟩
  refine ⟨?_, hb⟩
  congr 2
  rw [Bool.eq_iff_iff]; simp [val_eq_zero w1 n, List.length_eq_zero_iff]

set_option maxRecDepth 100000 in
theorem isone_none (a : Option Addr) (n c : Nat) (w : World) (hn : n ≠ 1) : Calls Tryz.prog 79 #[.agg #[.slice a n c]] w fun e w' => e = .returned (.bool false) ∧ Below w.heap.size w w' := by
  have h1 : ((n : Int) == 1) = false := by rw [beq_eq_false_iff_ne]; omega
  go_enter Tryz.func79, Tryz.ntmps79
  go_wp2
  go_ret
  exact ⟨rfl, (Below.refl _ _).alloc (Nat.le_refl _) _⟩
set_option maxRecDepth 100000 in
theorem isone_one (b o c : Nat) (x : Int) (w : World) (h : w.cell? ⟨b, o, none⟩ = some (.int .u64 x)) (hb : b < w.heap.size) : Calls Tryz.prog 79 #[.agg #[.slice (some ⟨b, o, none⟩) 1 c]] w fun e w' => e = .returned (.bool (x == 1)) ∧ Below w.heap.size w w' := by
  go_enter Tryz.func79, Tryz.ntmps79
  go_wp2
  all_goals (go_ret; exact ⟨by simp_all, (Below.refl _ _).alloc (Nat.le_refl _) _⟩)
/-- (Nat).IsOne. -/
theorem IsOne_any (v : Value) (xs : List Int) (w : World) (h : Rd w v xs) (n : Nm xs) :
    Calls Tryz.prog 79 #[.agg #[v]] w fun e w' => e = .returned (.bool (decide (val xs = 1))) ∧ Below w.heap.size w w' := by
  obtain ⟨w1, a, c, rfl, _, _, g⟩ := h
  by_cases hl : xs.length = 1
  · obtain ⟨b, o, rfl, hc⟩ := g (by omega)
    obtain ⟨x, rfl⟩ : ∃ x, xs = [x] := List.length_eq_one_iff.1 hl
    have := hc 0 (by simp)
    refine (isone_one b o c x w (by simpa [nth] using this) (hc.lt (by simp))).mono ?_
    rintro e w' ⟨rfl, hb⟩
    refine ⟨?_, hb⟩
    congr 2
    rw [Bool.eq_iff_iff]; simp [val]
  · refine (isone_none a xs.length c w hl).mono ?_
    rintro e w' ⟨rfl, hb⟩
    refine ⟨?_, hb⟩
    congr 2
    symm
    rw [decide_eq_false_iff_not]
    intro e
    by_cases h0 : xs = []
    · subst h0; simp [val] at e
    · have := val_low w1 n h0
      have h2 : 1 ≤ xs.length - 1 := by have := List.length_pos_iff.2 h0; omega
      have h3 := pw_mono h2
      have : pw 1 = 18446744073709551616 := rfl
      omega
end Go.Proofs.YtidcjdncfmncfaaGreatDoor

namespace Go.Proofs.YtidcjdncfmncfaaGreatDoor
open Go.RowKit Tn

theorem pw_two (n : Nat) : pw n = 2 ^ (64 * n) := by
  induction n with
  | zero => rfl
  | succ n ih => rw [show 64 * (n + 1) = 64 * n + 64 from by omega, Int.pow_add, ← ih]; simp only [pw]; rw [Int.mul_comm]; rfl
theorem bitLen_bd (x : Int) (h0 : 0 < x) (h1 : x < 18446744073709551616) : 1 ≤ Lib.bitLen x.toNat ∧ Lib.bitLen x.toNat ≤ 64 ∧ (2 : Int) ^ (Lib.bitLen x.toNat - 1) ≤ x ∧ x < 2 ^ Lib.bitLen x.toNat := by
  obtain ⟨n, rfl⟩ := Int.eq_ofNat_of_zero_le (Int.le_of_lt h0)
  rw [Int.toNat_natCast]
  have hb := Lib.bitLenAux_bounds 64 n (by omega) (by omega)
  have hc := Lib.bitLen_le n 64 (by omega) (by omega)
  refine ⟨hb.1, hc, ?_, ?_⟩
  · have := Int.ofNat_le.2 hb.2.1; rw [Int.natCast_pow] at this; exact this
  · have := Int.ofNat_lt.2 hb.2.2; rw [Int.natCast_pow] at this; exact this
theorem val_top {xs : List Int} (ne : 0 < xs.length) : val xs = val (xs.take (xs.length - 1)) + pw (xs.length - 1) * nth xs (xs.length - 1) := by
  have e := val_at xs (xs.length - 1) (by omega)
  rw [Nat.sub_add_cancel ne, List.take_length] at e; exact e
theorem nm_top {xs : List Int} (h : Wd xs) (n : Nm xs) (ne : 0 < xs.length) : 0 < nth xs (xs.length - 1) := by
  rcases n with rfl | n
  · simp at ne
  · have := (nth_bd h (xs.length - 1)).1; unfold nth at *; omega
theorem bitLen_val {xs : List Int} (h : Wd xs) (n : Nm xs) (ne : 0 < xs.length) : ∃ L : Nat, (xs.length : Int) * 64 - (64 - (Lib.bitLen (nth xs (xs.length - 1)).toNat : Int)) = (L : Int) ∧ val xs < 2 ^ L ∧ 1 ≤ L ∧ (2 : Int) ^ (L - 1) ≤ val xs := by
  have ht := nm_top h n ne
  have hb := bitLen_bd (nth xs (xs.length - 1)) ht (nth_bd h _).2
  have e := val_top ne
  have v0 := val_nonneg (h.take (xs.length - 1))
  have v1 := val_lt (h.take (xs.length - 1))
  rw [List.length_take, Nat.min_eq_left (by omega)] at v1
  have p := pw_pos (xs.length - 1)
  refine ⟨64 * (xs.length - 1) + Lib.bitLen (nth xs (xs.length - 1)).toNat, by omega, ?_, by omega, ?_⟩
  · rw [Int.pow_add, ← pw_two]
    have := Int.mul_le_mul_of_nonneg_left (show nth xs (xs.length - 1) + 1 ≤ 2 ^ Lib.bitLen (nth xs (xs.length - 1)).toNat by omega) (Int.le_of_lt p)
    grind
  · rw [show 64 * (xs.length - 1) + Lib.bitLen (nth xs (xs.length - 1)).toNat - 1 = 64 * (xs.length - 1) + (Lib.bitLen (nth xs (xs.length - 1)).toNat - 1) from by omega, Int.pow_add, ← pw_two]
    have := Int.mul_le_mul_of_nonneg_left hb.2.2.1 (Int.le_of_lt p)
    omega

set_option maxRecDepth 100000 in
set_option maxHeartbeats 400000 in
/-- (Nat).BitLen. -/
theorem BitLen_any (v : Value) (xs : List Int) (w : World) (h : Rd w v xs) (n : Nm xs) (hL : xs.length ≤ 1099511627776) :
    Calls Tryz.prog 144 #[.agg #[v]] w fun e w' => ∃ L : Nat, e = .returned (.int .i64 L) ∧ val xs < 2 ^ L ∧ (L = 0 ∨ (2 : Int) ^ (L - 1) ≤ val xs) ∧ (L : Int) ≤ 64 * xs.length ∧ Below w.heap.size w w' := by
  obtain ⟨w1, a, c, rfl, _, _, g⟩ := h
  by_cases h0 : xs.length = 0
  · have e0 : xs = [] := List.eq_nil_of_length_eq_zero h0
    have ht : ((xs.length : Int) == 0) = true := by rw [h0]; rfl
    have R : Hid (val xs = 0) := by rw [e0]; rfl
    clear g e0
    go_enter Tryz.func144, Tryz.ntmps144
    go_wp2
    go_ret
    exact ⟨0, rfl, by rw [R.out]; decide, Or.inl rfl, by omega, (Below.refl _ _).alloc (Nat.le_refl _) _⟩
  · obtain ⟨b, o, rfl, hc⟩ := g (by omega)
    have hb := hc.lt (by omega)
    have hc1 := hc.at (i := xs.length - 1) (by omega)
    have bd := nth_bd w1 (xs.length - 1)
    obtain ⟨L, e1, e2, e3, e4⟩ := bitLen_val w1 n (by omega)
    have ht := nm_top w1 n (by omega)
    have hb2 := bitLen_bd (nth xs (xs.length - 1)) ht bd.2
    have E1 : Hid _ := e1
    have ht' : ((xs.length : Int) == 0) = false := by rw [beq_eq_false_iff_ne]; omega
    have hL2 : (Lib.bitLen (nth xs (xs.length - 1)).toNat : Int) ≤ 64 := by omega
    clear e1 hb2 g
    go_enter Tryz.func144, Tryz.ntmps144
    go_wp2_with (go_at_call 157; refine (Tryz.bits_LeadingZeros64 _ _ bd.1 (by omega)).mono ?_; rintro e w' ⟨rfl, rfl⟩)
    go_ret
    exact ⟨L, by rw [← E1.out]; rfl, e2, Or.inr e4, by have := E1.out; omega, (Below.refl _ _).alloc (Nat.le_refl _) _⟩

set_option maxRecDepth 100000 in
/-- whole.Of. -/
theorem Of_any (x : Int) (w : World) (h0 : 0 ≤ x) (h1 : x < 18446744073709551616) :
    Calls Tryz.prog 81 #[.int .u64 x] w fun e w' => ∃ r zs, e = .returned (.agg #[r]) ∧ Rd w' r zs ∧ Nm zs ∧ val zs = x ∧ Below w.heap.size w w' := by
  have hc : Hid (Cells ((w.alloc (.cells #[.slice none 0 0] 63)).alloc (.cells #[.int .u64 x] 107)) (w.heap.size + 1) 0 [x]) := by
    intro i hi
    have : i = 0 := by simp at hi; omega
    subst this
    simp [nth]
  go_enter Tryz.func81, Tryz.ntmps81
  go_wp2_with fail
  refine (trim_rd _ _ _ [x] _ rfl (Wd.cons h0 h1 Wd.nil) (by simp) (by omega) (fun _ => ⟨_, _, rfl, hc.out⟩)).mono ?_
  rintro e w4 ⟨n, zs, rfl, -, hrd, hnm, hvz, hbl⟩
  have V2 := ((Bx.new w _ _).alloc _).below hbl
  have v1 := V2.1
  have v2 := V2.2
  have hvz' : Hid (val zs = x) := by have e : val [x] = x := by simp [val]
                                     exact hvz.trans e
  have pr : Below w.heap.size w ((w.alloc (.cells #[.slice none 0 0] 63)).alloc (.cells #[.int .u64 x] 107)) := ((Below.refl _ _).alloc (Nat.le_refl _) _).alloc (by simp) _
  clear hvz
  go_wp2
  refine bodyPost_ret (v := .agg #[.slice (some ⟨w.heap.size + 1, 0, none⟩) n 1]) (by simp [results, Tryz.results81, go_sem, v1]) rfl ⟨_, zs, rfl, hrd.put (by intro b o l c e; simp at e; omega), hnm, hvz'.out, below_put (pr.trans (hbl.mono pr.size)) (by omega) _⟩

set_option maxRecDepth 100000 in
/-- whole.multiplyAdd: x y + z, its low and its high word. -/
theorem mulAdd_any (x y z : Int) (w : World) (x0 : 0 ≤ x) (x1 : x < 18446744073709551616) (y0 : 0 ≤ y) (y1 : y < 18446744073709551616) (z0 : 0 ≤ z) (z1 : z < 18446744073709551616) :
    Calls Tryz.prog 126 #[.int .u64 x, .int .u64 y, .int .u64 z] w fun e w' => ∃ l h, e = .returned (.tuple #[.int .u64 l, .int .u64 h]) ∧ 0 ≤ l ∧ l < 18446744073709551616 ∧ 0 ≤ h ∧ h < 18446744073709551616 ∧ l + 18446744073709551616 * h = x * y + z ∧ w' = w := by
  have hh := hiw_bd x0 x1 y0 y1
  have hl := low_bd x y
  have e := hilo x y
  have E : Hid _ := e
  clear e
  go_enter Tryz.func126, Tryz.ntmps126
  go_wp2_with (first | (go_at_call 155; refine (mul64 x y _ x0 x1 y0 y1).mono ?_; rintro e w' ⟨rfl, rfl⟩) | simp only [add64_0 _ _ hl.1 z0])
  go_ret2
  exact ⟨_, _, rfl, by omega, by omega, by omega, by omega, by have := E.out; omega, rfl⟩
end Go.Proofs.YtidcjdncfmncfaaGreatDoor

namespace Tn
/-- The estimate of one digit of a quotient: two digits by the first one of the divisor; a step down. -/
theorem est_start {b v1 v0 uh u0 q : Int} (hb : 0 < b) (h1 : 0 < v1) (hv0 : 0 ≤ v0) (hu0 : u0 < b) (hq : 0 ≤ q) (h : q * (v1 * b + v0) ≤ uh * b + u0) : q ≤ uh / v1 := by
  have e1 : q * (v1 * b + v0) = q * v1 * b + q * v0 := by grind
  have h2 : 0 ≤ q * v0 := Int.mul_nonneg hq hv0
  have h3 : q * v1 * b < (uh + 1) * b := by
    have : (uh + 1) * b = uh * b + b := by grind
    omega
  have h4 : q * v1 < uh + 1 := Int.lt_of_mul_lt_mul_right h3 (Int.le_of_lt hb)
  exact (Int.le_ediv_iff_mul_le h1).2 (by omega)
theorem est_down {b v1 v0 uh u0 q g r : Int} (hv : 0 < v1 * b + v0) (hr : g * v1 + r = uh) (h : q * (v1 * b + v0) ≤ uh * b + u0) (hc : b * r + u0 < g * v0) : q ≤ g - 1 := by
  have e : g * (v1 * b + v0) = g * v1 * b + g * v0 := by grind
  have e2 : uh * b = g * v1 * b + r * b := by rw [← hr]; grind
  have e3 : r * b = b * r := Int.mul_comm _ _
  have h1 : q * (v1 * b + v0) < g * (v1 * b + v0) := by omega
  have := Int.lt_of_mul_lt_mul_right h1 (Int.le_of_lt hv)
  omega
theorem est_fits {b v1 v0 uh u0 g r : Int} (hr : g * v1 + r = uh) (hc : g * v0 ≤ b * r + u0) : g * (v1 * b + v0) ≤ uh * b + u0 := by
  have e : g * (v1 * b + v0) = g * v1 * b + g * v0 := by grind
  have e2 : uh * b = g * v1 * b + r * b := by rw [← hr]; grind
  have e3 : r * b = b * r := Int.mul_comm _ _
  omega
theorem quo_of {U v g q : Int} (hv : 0 < v) (h1 : q = U / v) (h2 : q ≤ g) (h3 : g * v ≤ U) : g = q := by
  have := (Int.le_ediv_iff_mul_le hv).2 h3
  omega
theorem quo_le {U v : Int} (hv : 0 < v) : (U / v) * v ≤ U := (Int.le_ediv_iff_mul_le hv).1 (Int.le_refl _)
end Tn

namespace Go.Proofs.YtidcjdncfmncfaaGreatDoor
open Go.RowKit Tn

theorem wrap_u64 (x : Int) : IntKind.u64.wrap x = x % 18446744073709551616 := by simp [IntKind.wrap, IntKind.bits, IntKind.signed]
theorem and32 (x : Int) (h0 : 0 ≤ x) (h1 : x < 18446744073709551616) : bits .and .u64 x 4294967295 = x % 4294967296 := by
  rw [u64_and x 4294967295 h0 h1 (by decide) (by decide)]
  obtain ⟨n, rfl⟩ := Int.eq_ofNat_of_zero_le h0
  have := Nat.and_two_pow_sub_one_eq_mod n 32
  simp only [Int.toNat_natCast]
  have e : (4294967295 : Int).toNat = 2 ^ 32 - 1 := rfl
  rw [e, this]; rfl
theorem two_pos (s : Nat) : (0 : Int) < 2 ^ s := Int.pow_pos (by decide)
theorem or_shift (s : Nat) (a b : Int) (a0 : 0 ≤ a) (a1 : a * 2 ^ s < 18446744073709551616) (b0 : 0 ≤ b) (b1 : b < 2 ^ s) (b2 : b < 18446744073709551616) : bits .or .u64 (a * 2 ^ s) b = a * 2 ^ s + b := by
  have p := two_pos s
  rw [u64_or _ _ (Int.mul_nonneg a0 (Int.le_of_lt p)) a1 b0 b2]
  obtain ⟨m, rfl⟩ := Int.eq_ofNat_of_zero_le a0
  obtain ⟨n, rfl⟩ := Int.eq_ofNat_of_zero_le b0
  have h : n < 2 ^ s := by have h3 : ((n : Nat) : Int) < ((2 ^ s : Nat) : Int) := by rw [Int.natCast_pow]; exact b1
                           exact Int.ofNat_lt.1 h3
  have e := Nat.two_pow_add_eq_or_of_lt h m
  have e1 : ((m : Int) * 2 ^ s).toNat = 2 ^ s * m := by
    have : (m : Int) * 2 ^ s = ((2 ^ s * m : Nat) : Int) := by rw [Int.natCast_mul, Int.natCast_pow, Int.mul_comm]; rfl
    rw [this]; rfl
  rw [e1, Int.toNat_natCast, ← e, Int.natCast_add, Int.natCast_mul, Int.natCast_pow, Int.mul_comm]; rfl
theorem pow_split {s : Nat} (h : s ≤ 64) : (2 : Int) ^ s * 2 ^ (64 - s) = 18446744073709551616 := by
  rw [← Int.pow_add, Nat.add_sub_cancel' h]; rfl
/-- What is shifted out of a word at its top. -/
theorem shift_out (lo : Int) (s : Nat) (h : s ≤ 64) : lo * 2 ^ s / 18446744073709551616 = lo / 2 ^ (64 - s) := by
  rw [← pow_split h, Int.mul_comm lo, Int.mul_ediv_mul_of_pos _ _ (two_pos s)]
theorem shift_out_lt (lo : Int) (s : Nat) (h : s ≤ 64) (l0 : 0 ≤ lo) (l1 : lo < 18446744073709551616) : 0 ≤ lo / 2 ^ (64 - s) ∧ lo / 2 ^ (64 - s) < 2 ^ s := by
  refine ⟨Int.ediv_nonneg l0 (Int.le_of_lt (two_pos _)), ?_⟩
  refine Int.ediv_lt_of_lt_mul (two_pos _) ?_
  rw [pow_split h]; exact l1
/-- The divisor, shifted so that its first bit is set. -/
theorem norm_bd (y : Int) (s : Nat) (y0 : 0 < y) (y1 : y < 18446744073709551616) (hs : (s : Int) = 64 - (Lib.bitLen y.toNat : Int)) : s ≤ 63 ∧ 9223372036854775808 ≤ y * 2 ^ s ∧ y * 2 ^ s < 18446744073709551616 := by
  have hb := bitLen_bd y y0 y1
  have h1 : s = 64 - Lib.bitLen y.toNat := by omega
  have p := two_pos s
  refine ⟨by omega, ?_, ?_⟩
  · have := Int.mul_le_mul_of_nonneg_right hb.2.2.1 (Int.le_of_lt p)
    rw [← Int.pow_add, show Lib.bitLen y.toNat - 1 + s = 63 from by omega] at this
    exact this
  · have := Int.mul_lt_mul_of_pos_right hb.2.2.2 p
    rw [← Int.pow_add, show Lib.bitLen y.toNat + s = 64 from by omega] at this
    exact this

/-- One digit of the quotient: its guess g by the first digit, and what that leaves. -/
structure Est (b v1 v0 uh u0 g r : Int) : Prop where
  sum : g * v1 + r = uh
  ge : (uh * b + u0) / (v1 * b + v0) ≤ g
  r0 : 0 ≤ r
  r1 : r < b
  g0 : 0 ≤ g
  g1 : g ≤ b + 1
theorem Est.start {b v1 v0 uh u0 : Int} (hb : b = 4294967296) (h1 : 2147483648 ≤ v1) (h1' : v1 < b) (hv0 : 0 ≤ v0) (hv0' : v0 < b) (hu : 0 ≤ u0) (hu0 : u0 < b) (hh : 0 ≤ uh) (hlt : uh < v1 * b + v0) : Est b v1 v0 uh u0 (uh / v1) (uh - uh / v1 * v1) := by
  have hv : 0 < v1 * b + v0 := by have := Int.mul_nonneg (show 0 ≤ v1 by omega) (show 0 ≤ b by omega); have := Int.mul_le_mul_of_nonneg_right (show 1 ≤ v1 by omega) (show 0 ≤ b by omega); omega
  have e := Int.emod_add_mul_ediv uh v1
  have m0 := Int.emod_nonneg uh (show v1 ≠ 0 by omega)
  have m1 := Int.emod_lt_of_pos uh (show 0 < v1 by omega)
  have c : uh / v1 * v1 = v1 * (uh / v1) := Int.mul_comm _ _
  refine ⟨by omega, ?_, by omega, by omega, Int.ediv_nonneg hh (by omega), ?_⟩
  · refine est_start (by omega) (by omega) hv0 hu0 (Int.ediv_nonneg (by have := Int.mul_nonneg hh (show 0 ≤ b by omega); omega) (by omega)) ?_
    exact quo_le hv
  · have h3 : uh / v1 < b + 2 := by
      refine Int.ediv_lt_of_lt_mul (by omega) ?_
      have : (b + 2) * v1 = v1 * b + 2 * v1 := by grind
      omega
    omega
theorem Est.down {b v1 v0 uh u0 g r : Int} (h : Est b v1 v0 uh u0 g r) (hb : b = 4294967296) (h1 : 2147483648 ≤ v1) (h1' : v1 < b) (hv0 : 0 ≤ v0) (hu0 : 0 ≤ u0) (hh : uh < v1 * b + v0) (hlt' : u0 < b) (hc : b ≤ g ∨ b * r + u0 < g * v0) :
    (uh * b + u0) / (v1 * b + v0) ≤ g - 1 ∧ (g - 1) * v1 + (r + v1) = uh ∧ 1 ≤ g := by
  have hv : 0 < v1 * b + v0 := by have := Int.mul_le_mul_of_nonneg_right (show 1 ≤ v1 by omega) (show 0 ≤ b by omega); omega
  have hge : (uh * b + u0) / (v1 * b + v0) ≤ g - 1 := by
    rcases hc with hc | hc
    · have : (uh * b + u0) / (v1 * b + v0) < b := by
        refine Int.ediv_lt_of_lt_mul hv ?_
        have := Int.mul_le_mul_of_nonneg_right (show uh + 1 ≤ v1 * b + v0 by omega) (show 0 ≤ b by omega)
        grind
      omega
    · exact est_down hv h.sum (quo_le hv) hc
  have hq : 0 ≤ (uh * b + u0) / (v1 * b + v0) := by
    have hu : 0 ≤ uh := by have := h.sum; have := Int.mul_nonneg h.g0 (show 0 ≤ v1 by omega); have := h.r0; omega
    exact Int.ediv_nonneg (by have := Int.mul_nonneg hu (show 0 ≤ b by omega); omega) (by omega)
  refine ⟨hge, by have := h.sum; grind, by omega⟩
theorem Est.next {b v1 v0 uh u0 g r : Int} (h : Est b v1 v0 uh u0 g r) (hd : (uh * b + u0) / (v1 * b + v0) ≤ g - 1 ∧ (g - 1) * v1 + (r + v1) = uh ∧ 1 ≤ g) (h1 : 0 ≤ v1) (hr : r + v1 < b) : Est b v1 v0 uh u0 (g - 1) (r + v1) :=
  ⟨hd.2.1, hd.1, by have := h.r0; omega, hr, by omega, by have := h.g1; omega⟩
theorem Est.isBrk {b v1 v0 uh u0 g r : Int} (h : Est b v1 v0 uh u0 g r) (hd : (uh * b + u0) / (v1 * b + v0) ≤ g - 1 ∧ (g - 1) * v1 + (r + v1) = uh ∧ 1 ≤ g) (hb : b = 4294967296) (h1 : 2147483648 ≤ v1) (hv0 : 0 ≤ v0) (hv0' : v0 < b) (hu0 : 0 ≤ u0) (hr : b ≤ r + v1) : g - 1 = (uh * b + u0) / (v1 * b + v0) := by
  have hv : 0 < v1 * b + v0 := by have := Int.mul_le_mul_of_nonneg_right (show 1 ≤ v1 by omega) (show 0 ≤ b by omega); omega
  refine quo_of hv rfl hd.1 (est_fits hd.2.1 ?_)
  have a1 := Int.mul_le_mul_of_nonneg_left (show v0 ≤ b - 1 by omega) (show 0 ≤ g - 1 by omega)
  have a2 := Int.mul_le_mul_of_nonneg_right (show g - 1 ≤ b by have := h.g1; omega) (show 0 ≤ b - 1 by omega)
  have a3 := Int.mul_le_mul_of_nonneg_left hr (show 0 ≤ b by omega)
  have : b * (b - 1) = b * b - b := by grind
  omega
theorem Est.done {b v1 v0 uh u0 g r : Int} (h : Est b v1 v0 uh u0 g r) (hb : 0 < b) (h1 : 0 < v1) (hv0 : 0 ≤ v0) (hc : g * v0 ≤ b * r + u0) : g = (uh * b + u0) / (v1 * b + v0) := by
  have hv : 0 < v1 * b + v0 := by have := Int.mul_le_mul_of_nonneg_right (show 1 ≤ v1 by omega) (show 0 ≤ b by omega); omega
  exact quo_of hv rfl h.ge (est_fits h.sum hc)
end Go.Proofs.YtidcjdncfmncfaaGreatDoor

namespace Go.Proofs.YtidcjdncfmncfaaGreatDoor
open Go.RowKit Tn

set_option maxRecDepth 100000 in
set_option maxHeartbeats 3200000 in
theorem div64_core (hi lo y : Int) (w : World) (h0 : 0 < hi) (h1 : hi < y) (y1 : y < 18446744073709551616) (s : Nat) (hs : (s : Int) = 64 - (Lib.bitLen y.toNat : Int)) (s1 : s ≤ 63)
    (Y v1 v0 uh ul u1 u0 Q1 R1 Q0 R0 : Int) (r1 : IntKind.u64.wrap (y * 2 ^ s) = Y) (r2 : Y / 4294967296 = v1) (r3 : bits .and .u64 Y 4294967295 = v0) (r4 : bits .or .u64 (IntKind.u64.wrap (hi * 2 ^ s)) (lo / 2 ^ (64 - s)) = uh)
    (r5 : IntKind.u64.wrap (lo * 2 ^ s) = ul) (r6 : ul / 4294967296 = u1) (r7 : bits .and .u64 ul 4294967295 = u0)
    (a1 : 2147483648 ≤ v1) (a2 : v1 < 4294967296) (a3 : 0 ≤ v0) (a4 : v0 < 4294967296) (a5 : 0 ≤ u1) (a6 : u1 < 4294967296) (a7 : 0 ≤ u0) (a8 : u0 < 4294967296) (a9 : 0 ≤ uh) (a10 : uh < v1 * 4294967296 + v0) (a11 : Y = v1 * 4294967296 + v0) (a12 : uh < 18446744073709551616)
    (d1 : Q1 = (uh * 4294967296 + u1) / Y) (d3 : Q0 = (R1 * 4294967296 + u0) / Y)
    (e1 : IntKind.u64.wrap (uh / v1 * v1) = uh / v1 * v1) (e2 : IntKind.u64.wrap (uh - uh / v1 * v1) = uh - uh / v1 * v1)
    (e3 : IntKind.u64.wrap (IntKind.u64.wrap (IntKind.u64.wrap (uh * 4294967296) + u1) - IntKind.u64.wrap (Q1 * Y)) = R1)
    (e4 : IntKind.u64.wrap (R1 / v1 * v1) = R1 / v1 * v1) (e5 : IntKind.u64.wrap (R1 - R1 / v1 * v1) = R1 - R1 / v1 * v1)
    (e6 : IntKind.u64.wrap (IntKind.u64.wrap (IntKind.u64.wrap (R1 * 4294967296) + u0) - IntKind.u64.wrap (Q0 * Y)) = R0)
    (e7 : 0 ≤ Q1) (e8 : Q1 < 4294967296) (e9 : 0 ≤ Q0) (e10 : Q0 < 4294967296) (e11 : 0 ≤ R1) (e12 : R1 < v1 * 4294967296 + v0) (e13 : R1 < 18446744073709551616) :
    Calls Tryz.prog 161 #[.int .u64 hi, .int .u64 lo, .int .u64 y] w fun e w' => e = .returned (.tuple #[.int .u64 (Q1 * 4294967296 + Q0), .int .u64 (R0 / 2 ^ s)]) ∧ w' = w := by
  have t1 : (y == 0) = false := by rw [beq_eq_false_iff_ne]; omega
  have t2 : (hi == 0) = false := by rw [beq_eq_false_iff_ne]; omega
  have HS : Hid ((64 - (Lib.bitLen y.toNat : Int)) = (s : Int)) := hs.symm
  have S1 : Hid (Est 4294967296 v1 v0 uh u1 (uh / v1) (uh - uh / v1 * v1)) := Est.start rfl a1 a2 a3 a4 a5 a6 a9 a10
  have S2 : Hid (Est 4294967296 v1 v0 R1 u0 (R1 / v1) (R1 - R1 / v1 * v1)) := Est.start rfl a1 a2 a3 a4 a7 a8 e11 e12
  have D1 : Hid (Q1 = (uh * 4294967296 + u1) / (v1 * 4294967296 + v0)) := by rw [d1, a11]; exact rfl
  have D3 : Hid (Q0 = (R1 * 4294967296 + u0) / (v1 * 4294967296 + v0)) := by rw [d3, a11]; exact rfl
  have H10 : Hid (uh < v1 * 4294967296 + v0) := a10
  have H12 : Hid (R1 < v1 * 4294967296 + v0) := e12
  have n1 : ¬ v1 = 0 := by omega
  clear hs a10 a11 d1 d3 e12
  go_enter Tryz.func161, Tryz.ntmps161
  go_upto_block 0 with (go_at_call 157; refine (Tryz.bits_LeadingZeros64 _ _ (by omega) (by omega)).mono ?_; rintro e w' ⟨rfl, hw'⟩; have hw2 := hw'.symm; subst hw2; rw [HS.out])
  go_cut [15, 16] (fun a _ wc => a = .int .u64 Q1 ∧ wc = w)
  case first =>
    go_wp2_with fail
    go_loop [15, 16] (fun a b => ∃ g r : Int, a = .int .u64 g ∧ b = .int .u64 r ∧ Est 4294967296 v1 v0 uh u1 g r) (fun a _ => (intOf a).toNat)
    case atStart => exact ⟨_, _, rfl, rfl, S1.out⟩
    case round =>
      obtain ⟨g, r, rfl, rfl, hE⟩ := hrel
      have g0 := hE.g0; have g1 := hE.g1; have q0 := hE.r0; have q1 := hE.r1
      by_cases hg : 4294967296 ≤ g
      · have hd : Hid _ := hE.down rfl a1 a2 a3 a5 H10.out a6 (Or.inl hg)
        by_cases hr : r + v1 < 4294967296
        · go_wp2
          go_round
          case rel => exact ⟨g - 1, r + v1, rfl, rfl, hE.next hd.out (by omega) hr⟩
          case measure => simp [intOf]; omega
        · go_wp2
          go_meet
          case rel => exact ⟨by rw [D1.out]; exact congrArg _ (hE.isBrk hd.out rfl a1 a3 a4 a5 (by omega)), rfl⟩
      · have m := mul_hi (M := 4294967295) g0 (by omega) a3 (by omega)
        have p1 : IntKind.u64.wrap (g * v0) = g * v0 := by rw [wrap_u64]; omega
        by_cases hc : 4294967296 * r + u1 < g * v0
        · have hd : Hid _ := hE.down rfl a1 a2 a3 a5 H10.out a6 (Or.inr hc)
          have hg1 : 1 ≤ g := hd.out.2.2
          by_cases hr : r + v1 < 4294967296
          · go_wp2
            go_round
            case rel => exact ⟨g - 1, r + v1, rfl, rfl, hE.next hd.out (by omega) hr⟩
            case measure => simp [intOf]; omega
          · go_wp2
            go_meet
            case rel => exact ⟨by rw [D1.out]; exact congrArg _ (hE.isBrk hd.out rfl a1 a3 a4 a5 (by omega)), rfl⟩
        · go_wp2
          go_meet
          case rel => exact ⟨by rw [D1.out]; exact congrArg _ (hE.done (by omega) (by omega) a3 (by omega)), rfl⟩
  case rest =>
    obtain ⟨rfl, rfl⟩ := hcut
    go_upto_block 2 with fail
    go_cut [18, 16] (fun a _ wd => a = .int .u64 Q0 ∧ wd = wc)
    case first =>
      go_wp2_with fail
      go_loop [18, 16] (fun a b => ∃ g r : Int, a = .int .u64 g ∧ b = .int .u64 r ∧ Est 4294967296 v1 v0 R1 u0 g r) (fun a _ => (intOf a).toNat)
      case atStart => exact ⟨_, _, rfl, rfl, S2.out⟩
      case round =>
        obtain ⟨g, r, rfl, rfl, hE⟩ := hrel
        have g0 := hE.g0; have g1 := hE.g1; have q0 := hE.r0; have q1 := hE.r1
        by_cases hg : 4294967296 ≤ g
        · have hd : Hid _ := hE.down rfl a1 a2 a3 a7 H12.out a8 (Or.inl hg)
          by_cases hr : r + v1 < 4294967296
          · go_wp2
            go_round
            case rel => exact ⟨g - 1, r + v1, rfl, rfl, hE.next hd.out (by omega) hr⟩
            case measure => simp [intOf]; omega
          · go_wp2
            go_meet
            case rel => exact ⟨by rw [D3.out]; exact congrArg _ (hE.isBrk hd.out rfl a1 a3 a4 a7 (by omega)), rfl⟩
        · have m := mul_hi (M := 4294967295) g0 (by omega) a3 (by omega)
          have p1 : IntKind.u64.wrap (g * v0) = g * v0 := by rw [wrap_u64]; omega
          by_cases hc : 4294967296 * r + u0 < g * v0
          · have hd : Hid _ := hE.down rfl a1 a2 a3 a7 H12.out a8 (Or.inr hc)
            have hg1 : 1 ≤ g := hd.out.2.2
            by_cases hr : r + v1 < 4294967296
            · go_wp2
              go_round
              case rel => exact ⟨g - 1, r + v1, rfl, rfl, hE.next hd.out (by omega) hr⟩
              case measure => simp [intOf]; omega
            · go_wp2
              go_meet
              case rel => exact ⟨by rw [D3.out]; exact congrArg _ (hE.isBrk hd.out rfl a1 a3 a4 a7 (by omega)), rfl⟩
          · go_wp2
            go_meet
            case rel => exact ⟨by rw [D3.out]; exact congrArg _ (hE.done (by omega) (by omega) a3 (by omega)), rfl⟩
    case rest =>
      obtain ⟨rfl, rfl⟩ := hcut
      go_wp2
      go_ret2
      exact ⟨rfl, rfl⟩

set_option maxRecDepth 100000 in
theorem div64_small (lo y : Int) (w : World) (h1 : 0 < y) (l0 : 0 ≤ lo) (l1 : lo < 18446744073709551616) :
    Calls Tryz.prog 161 #[.int .u64 0, .int .u64 lo, .int .u64 y] w fun e w' => e = .returned (.tuple #[.int .u64 (lo / y), .int .u64 (lo % y)]) ∧ ∃ n, w' = w.drewN n := by
  have t1 : (y == 0) = false := by rw [beq_eq_false_iff_ne]; omega
  have t2 : ¬ y ≤ 0 := by omega
  have n1 : ¬ y = 0 := by omega
  go_enter Tryz.func161, Tryz.ntmps161
  go_wp2
  go_quiet (fail)
  go_wp2
  go_ret2
  exact ⟨rfl, _, rfl⟩
end Go.Proofs.YtidcjdncfmncfaaGreatDoor

namespace Go.Proofs.YtidcjdncfmncfaaGreatDoor
open Go.RowKit Tn

theorem divmod_eq (u v : Int) : u = u / v * v + u % v := by
  have := Int.emod_add_mul_ediv u v; rw [Int.mul_comm v] at this; omega
theorem step_wrap {A P R u : Int} (h : A + u = P + R) (r0 : 0 ≤ R) (r1 : R < 18446744073709551616) : IntKind.u64.wrap (IntKind.u64.wrap (IntKind.u64.wrap A + u) - IntKind.u64.wrap P) = R := by
  simp only [wrap_u64]; omega
theorem le_wrap {A : Int} (h0 : 0 ≤ A) (h1 : A < 18446744073709551616) : IntKind.u64.wrap A = A := by rw [wrap_u64]; omega
theorem part_le {u v : Int} (hu : 0 ≤ u) (hv : 0 < v) : 0 ≤ u / v * v ∧ u / v * v ≤ u := ⟨Int.mul_nonneg (Int.ediv_nonneg hu (by omega)) (by omega), quo_le hv⟩

/-- math/bits.Div64. -/
theorem Div64_any (hi lo y : Int) (w : World) (h0 : 0 ≤ hi) (h1 : hi < y) (l0 : 0 ≤ lo) (l1 : lo < 18446744073709551616) (y1 : y < 18446744073709551616) :
    Calls Tryz.prog 161 #[.int .u64 hi, .int .u64 lo, .int .u64 y] w fun e w' => ∃ q r, e = .returned (.tuple #[.int .u64 q, .int .u64 r]) ∧ q * y + r = hi * 18446744073709551616 + lo ∧ 0 ≤ r ∧ r < y ∧ 0 ≤ q ∧ q < 18446744073709551616 ∧ ∃ n, w' = w.drewN n := by
  by_cases hz : hi = 0
  · subst hz
    refine (div64_small lo y w h1 l0 l1).mono ?_
    rintro e w' ⟨rfl, n, rfl⟩
    have e := Int.emod_add_mul_ediv lo y
    refine ⟨_, _, rfl, by rw [Int.mul_comm]; omega, Int.emod_nonneg _ (by omega), Int.emod_lt_of_pos _ h1, Int.ediv_nonneg l0 (by omega), ?_, n, rfl⟩
    exact Int.lt_of_le_of_lt (Int.ediv_le_self _ l0) l1
  · obtain ⟨s, hs⟩ : ∃ s : Nat, (s : Int) = 64 - (Lib.bitLen y.toNat : Int) := ⟨64 - Lib.bitLen y.toNat, by have := bitLen_bd y (by omega) y1; omega⟩
    obtain ⟨s1, n1, n2⟩ := norm_bd y s (by omega) y1 hs
    have p := two_pos s
    have so := shift_out_lt lo s (by omega) l0 l1
    have se := shift_out lo s (by omega)
    obtain ⟨Y, hY⟩ : ∃ Y, Y = y * 2 ^ s := ⟨_, rfl⟩
    obtain ⟨T, hT⟩ : ∃ T : Int, T = lo / 2 ^ (64 - s) := ⟨_, rfl⟩
    obtain ⟨A, hA⟩ : ∃ A : Int, A = hi * 2 ^ s := ⟨_, rfl⟩
    obtain ⟨L, hL⟩ : ∃ L : Int, L = lo * 2 ^ s := ⟨_, rfl⟩
    have hA0 : 0 ≤ A := by rw [hA]; exact Int.mul_nonneg h0 (by omega)
    have hAY : A + 2 ^ s ≤ Y := by
      have := Int.mul_le_mul_of_nonneg_right (show hi + 1 ≤ y by omega) (Int.le_of_lt p)
      rw [hA, hY]; grind
    rw [← hT] at so se
    rw [← hL] at se
    rw [← hY] at n1 n2
    have hL0 : 0 ≤ L := by rw [hL]; exact Int.mul_nonneg l0 (by omega)
    have e1 := part_le (u := A + T) (v := Y / 4294967296) (by omega) (by omega)
    have dY : Y = Y / 4294967296 * 4294967296 + Y % 4294967296 := by omega
    obtain ⟨Q1, hQ1⟩ : ∃ Q1, Q1 = ((A + T) * 4294967296 + L % 18446744073709551616 / 4294967296) / Y := ⟨_, rfl⟩
    obtain ⟨R1, hR1⟩ : ∃ R1, R1 = ((A + T) * 4294967296 + L % 18446744073709551616 / 4294967296) % Y := ⟨_, rfl⟩
    obtain ⟨Q0, hQ0⟩ : ∃ Q0, Q0 = (R1 * 4294967296 + L % 18446744073709551616 % 4294967296) / Y := ⟨_, rfl⟩
    obtain ⟨R0, hR0⟩ : ∃ R0, R0 = (R1 * 4294967296 + L % 18446744073709551616 % 4294967296) % Y := ⟨_, rfl⟩
    have k1 : (A + T) * 4294967296 + L % 18446744073709551616 / 4294967296 = Q1 * Y + R1 := by rw [hQ1, hR1]; exact divmod_eq _ _
    have k2 : R1 * 4294967296 + L % 18446744073709551616 % 4294967296 = Q0 * Y + R0 := by rw [hQ0, hR0]; exact divmod_eq _ _
    have b1 : 0 ≤ R1 ∧ R1 < Y := by rw [hR1]; exact ⟨Int.emod_nonneg _ (by omega), Int.emod_lt_of_pos _ (by omega)⟩
    have b2 : 0 ≤ R0 ∧ R0 < Y := by rw [hR0]; exact ⟨Int.emod_nonneg _ (by omega), Int.emod_lt_of_pos _ (by omega)⟩
    have b3 : 0 ≤ Q1 := by rw [hQ1]; exact Int.ediv_nonneg (by omega) (by omega)
    have b4 : 0 ≤ Q0 := by rw [hQ0]; exact Int.ediv_nonneg (by omega) (by omega)
    have b5 : Q1 < 4294967296 := by
      rw [hQ1]; refine Int.ediv_lt_of_lt_mul (by omega) ?_; omega
    have b6 : Q0 < 4294967296 := by
      rw [hQ0]; refine Int.ediv_lt_of_lt_mul (by omega) ?_; omega
    have e4 := part_le (u := R1) (v := Y / 4294967296) b1.1 (by omega)
    have wA : IntKind.u64.wrap (hi * 2 ^ s) = hi * 2 ^ s := by rw [← hA]; exact le_wrap hA0 (by omega)
    refine (div64_core hi lo y w (by omega) h1 y1 s hs s1 Y (Y / 4294967296) (Y % 4294967296) (A + T) (L % 18446744073709551616) (L % 18446744073709551616 / 4294967296) (L % 18446744073709551616 % 4294967296) Q1 R1 Q0 R0
      (by rw [← hY]; exact le_wrap (by omega) n2) rfl (and32 Y (by omega) n2) (by rw [wA, ← hT, or_shift s hi T h0 (by rw [← hA]; omega) so.1 so.2 (by omega), hA]) (by rw [← hL, wrap_u64]) rfl (and32 _ (by omega) (by omega))
      (by omega) (by omega) (by omega) (by omega) (by omega) (by omega) (by omega) (by omega) (by omega) (by omega) dY (by omega) hQ1 hQ0
      (le_wrap e1.1 (by omega)) (le_wrap (by omega) (by omega)) (step_wrap k1 b1.1 (by omega)) (le_wrap e4.1 (by omega)) (le_wrap (by omega) (by omega)) (step_wrap k2 b2.1 (by omega))
      b3 b5 b4 b6 b1.1 (by omega) (by omega)).mono ?_
    rintro e w' ⟨rfl, hw'⟩
    have main : (hi * 18446744073709551616 + lo) * 2 ^ s = (Q1 * 4294967296 + Q0) * y * 2 ^ s + R0 := by
      have f1 : (hi * 18446744073709551616 + lo) * 2 ^ s = A * 18446744073709551616 + L := by rw [hA, hL]; grind
      have f2 : (Q1 * 4294967296 + Q0) * y * 2 ^ s = (Q1 * Y) * 4294967296 + Q0 * Y := by rw [hY]; grind
      rw [f1, f2]; omega
    have f3 : R0 = (hi * 18446744073709551616 + lo - (Q1 * 4294967296 + Q0) * y) * 2 ^ s := by
      have : (hi * 18446744073709551616 + lo - (Q1 * 4294967296 + Q0) * y) * 2 ^ s = (hi * 18446744073709551616 + lo) * 2 ^ s - (Q1 * 4294967296 + Q0) * y * 2 ^ s := by grind
      rw [this]; omega
    have f4 : R0 / 2 ^ s = hi * 18446744073709551616 + lo - (Q1 * 4294967296 + Q0) * y := by
      rw [f3]; exact Int.mul_ediv_cancel _ (by omega)
    refine ⟨_, _, rfl, by rw [f4]; omega, Int.ediv_nonneg b2.1 (by omega), ?_, by omega, by omega, 0, hw'⟩
    refine Int.ediv_lt_of_lt_mul p ?_
    rw [← hY]; exact b2.2
end Go.Proofs.YtidcjdncfmncfaaGreatDoor
