import Derived.Test.YtfpmegfdopnnpaaPart13
import Derived.Test.YtfpmegfdopnnpaaPart20
import Derived.Test.YtfpmegfdopnnpaaPart21
import Derived.Test.YtfpmegfdopnnpaaPart22
import Derived.Test.YtfpmegfdopnnpaaPart23
import Derived.Test.YtfpmegfdopnnpaaPart11

namespace Go.Proofs.Ytfpmegfdopnnpaa
open Go.RowKit Tn

theorem cutF_1 (H : Int) (p : Nat) (mr g : Bool) (way : Int) : ((cutF H p mr g way).1 = H / 2 ^ p ∨ (cutF H p mr g way).1 = H / 2 ^ p + 1) ∧ ((cutF H p mr g way).2 = true → (cutF H p mr g way).1 = H / 2 ^ p) := by
  unfold cutF
  split
  · exact ⟨Or.inl rfl, fun _ => rfl⟩
  · split
    · exact ⟨Or.inr rfl, fun k => by simp at k⟩
    · exact ⟨Or.inl rfl, fun k => by simp at k⟩
theorem or_zero (H : Int) (h0 : 0 ≤ H) (h1 : H < 18446744073709551616) : bits .or .u64 H 0 = H := by
  obtain ⟨n, rfl⟩ := Int.eq_ofNat_of_zero_le h0
  have := bits_or_u64_nat n 0 (by omega) (by decide)
  rw [show ((0 : Nat) : Int) = 0 from rfl] at this
  rw [this, Nat.or_zero]
/-- A size, raised: its topmost bit is set. -/
theorem raised_size (n : Int) (n0 : 0 < n) (n1 : n < 18446744073709551616) : 9223372036854775808 ≤ n * 2 ^ (64 - L.bl n) ∧ n * 2 ^ (64 - L.bl n) < 18446744073709551616 := by
  obtain ⟨b1, b2⟩ := L.bl_le64 n0 n1
  obtain ⟨c1, c0, c2⟩ := L.bl_pos n0
  have t := L.two_pow_pos (64 - L.bl n)
  have u1 := Int.mul_lt_mul_of_pos_right c1 t
  have u2 := Int.mul_le_mul_of_nonneg_right c2 (Int.le_of_lt t)
  rw [← Int.pow_add] at u1 u2
  rw [show L.bl n + (64 - L.bl n) = 64 from by omega] at u1
  rw [show L.bl n - 1 + (64 - L.bl n) = 63 from by omega] at u2
  have e1 : (2 : Int) ^ 64 = 18446744073709551616 := by decide
  have e2 : (2 : Int) ^ 63 = 9223372036854775808 := by decide
  omega
theorem pack_ok_w (p : Int × Bool × Int × Int) (ok : OkW p) (w : World) : Calls Try.prog 79 #[fmtW, prt4 p] w fun e w' => e = .returned (.int .u64 (pckW p)) ∧ Below w.heap.size w w' := by
  have h : 0 ≤ p.2.2.1 ∧ p.2.2.1 < 18446744073709551616 := by unfold OkW at ok; omega
  obtain ⟨N, -, h2, h3⟩ := pack_w p h.1 h.2
  rw [← h2 ok]
  exact h3 w
theorem fin_ok_w (g : Bool) (M X : Int) (m0 : 0 ≤ M) (m1 : M < 9007199254740992) (x0 : -1074 ≤ X) (x1 : X ≤ 971) (st : X = -1074 ∨ 4503599627370496 ≤ M) : OkW (finW g M X) ∧ pckW (finW g M X) = L.sgnW g (L.layW M X) := by
  unfold finW L.layW L.sgnW
  by_cases a : M = 0
  · subst a
    simp only [if_true]
    refine ⟨by simp [OkW], ?_⟩
    cases g <;> rfl
  rw [if_neg a]
  by_cases b : M < 4503599627370496
  · rw [if_pos b, if_neg (show ¬ 4503599627370496 ≤ M by omega)]
    refine ⟨by simp [OkW]; omega, ?_⟩
    cases g <;> simp [pckW]
  · rw [if_neg b, if_pos (show 4503599627370496 ≤ M by omega)]
    refine ⟨by simp [OkW]; omega, ?_⟩
    cases g <;> simp [pckW] <;> omega
theorem tooGreat_w (g : Bool) (way : Int) (w1 : 1 ≤ way) (w2 : way ≤ 6) (w : World) :
    Calls Try.prog 82 #[.agg #[.int .i64 53, .int .i64 (-1074), .int .i64 971], .bool g, .int .i64 way] w fun e w' => e = .returned (.int .u64 (L.sgnW g (if L.inw g way = true then 9218868437227405311 else 9218868437227405312))) ∧ Below w.heap.size w w' := by
  have e : L.inw g way = !awayF way g false 1 := by
    have : way = 1 ∨ way = 2 ∨ way = 3 ∨ way = 4 ∨ way = 5 ∨ way = 6 := by omega
    rcases this with rfl | rfl | rfl | rfl | rfl | rfl <;> cases g <;> rfl
  rw [e]
  cases hA : awayF way g false 1
  · have ok := fin_ok_w g 9007199254740991 971 (by decide) (by decide) (by decide) (by decide) (Or.inr (by decide))
    have := tooGreat_w_max g way _ hA (pack_ok_w _ ok.1) w
    rw [ok.2] at this
    exact this
  · have := tooGreat_w_inf g way _ hA (pack_ok_w (3, g, 0, 0) (by simp [OkW])) w
    have e : pckW (3, g, 0, 0) = L.sgnW g 9218868437227405312 := by cases g <;> rfl
    rw [e] at this
    exact this
/-- round, of a size of one word. -/
theorem round_w (g mr : Bool) (way n E fl : Int) (n0 : 0 < n) (n1 : n < 18446744073709551616) (e0 : -100000 ≤ E) (e1 : E ≤ 100000) (w1 : 1 ≤ way) (w2 : way ≤ 6) (w : World) :
    Calls Try.prog 53 #[.agg #[.int .i64 53, .int .i64 (-1074), .int .i64 971], nmb 2 g 0 n E mr fl, .int .i64 way] w fun r w' => ∃ F : Int, r = .returned (.tuple #[.int .u64 (L.laidW g (cutF (n * 2 ^ (64 - L.bl n)) (L.canW n E - E + (64 - L.bl n : Nat)).toNat mr g way).1 (L.canW n E) way).1, .int .i64 F]) ∧ Below w.heap.size w w' := by
  obtain ⟨b1, b2⟩ := L.bl_le64 n0 n1
  obtain ⟨h0, h1⟩ := raised_size n n0 n1
  obtain ⟨lz, hlz⟩ : ∃ lz, lz = 64 - L.bl n := ⟨_, rfl⟩
  rw [← hlz] at h0 h1 ⊢
  obtain ⟨H, hH⟩ : ∃ H, H = n * 2 ^ lz := ⟨_, rfl⟩
  rw [← hH] at h0 h1 ⊢
  obtain ⟨X, hX⟩ : ∃ X, X = L.canW n E := ⟨_, rfl⟩
  rw [← hX] at ⊢
  have X0 : X = max (E + L.bl n - 53) (-1074) := hX
  obtain ⟨p, hp⟩ : ∃ p : Nat, (p : Int) = X - E + lz := ⟨(X - E + lz).toNat, by omega⟩
  rw [show (X - E + (lz : Int)).toNat = p from by omega]
  have p1 : 11 ≤ p := by omega
  have sh : min (lz : Int).toNat IntKind.u64.bits = lz := by simp [IntKind.bits]; omega
  have R := raised_low g mr fl (E - 64) (E - 64 - lz) (64 - lz) E n H lz (w64 _ (by omega) (by omega)) (w64 _ (by omega) (by omega)) (w64 _ (by omega) (by omega))
    (by rw [shift_shl_any _ _ _ _ (by omega), sh, ← hH, wu64 H (by omega) h1]) (by rw [shift_shl_any _ _ _ _ (by omega), Int.zero_mul]; rfl) (by rw [shift_shr_any _ _ _ _ (by omega), Int.zero_ediv]) (or_zero H (by omega) h1)
    (fun w => by have := LeadingZeros64_any n (by omega) (by omega) w; rw [show 64 - (L.bl n : Int) = (lz : Int) from by omega] at this; exact this)
  have C := cut_all H p mr g way (by omega) h1 (by omega) (by omega)
  obtain ⟨k1, k2⟩ := cutF_1 H p mr g way
  have q0 : 0 ≤ H / 2 ^ p := Int.ediv_nonneg (by omega) (Int.le_of_lt (L.two_pow_pos p))
  have q1 : H / 2 ^ p < 9007199254740992 := by
    apply Int.ediv_lt_of_lt_mul (L.two_pow_pos p)
    have := L.two_pow_le (show 11 ≤ p by omega)
    have t : (2 : Int) ^ 11 = 2048 := by decide
    omega
  have q2 : X = -1074 ∨ 4503599627370496 ≤ H / 2 ^ p := by
    by_cases c : X = -1074
    · exact Or.inl c
    · right
      have e : p = 11 := by omega
      rw [e]
      have t : (2 : Int) ^ 11 = 2048 := by decide
      rw [t]; omega
  have TG := tooGreat_w g way w1 w2
  have y1 : IntKind.i64.wrap (E - 64 - lz + 128) = E + L.bl n := by rw [show E - 64 - (lz : Int) + 128 = E + L.bl n from by omega]; exact w64 _ (by omega) (by omega)
  have y2 : IntKind.i64.wrap (E + L.bl n - 53) = E + L.bl n - 53 := w64 _ (by omega) (by omega)
  have y3 : IntKind.i64.wrap (X - (E - 64 - lz)) = X - (E - 64 - lz) := w64 _ (by omega) (by omega)
  have y4 : IntKind.i64.wrap (X - (E - 64 - lz) - 64) = (p : Int) := by rw [show X - (E - 64 - (lz : Int)) - 64 = p from by omega]; exact w64 _ (by omega) (by omega)
  unfold L.laidW
  generalize hc : cutF H p mr g way = c at *
  obtain ⟨M, kp⟩ := c
  simp only at k1 k2 C ⊢
  by_cases cr : M = 9007199254740992
  · have kf : kp = false := by
      cases kp
      · rfl
      · have := k2 rfl; omega
    subst kf
    rw [cr] at C
    rw [if_pos cr]
    unfold L.endW
    have x' : IntKind.i64.wrap (X + 1) = X + 1 := w64 _ (by omega) (by omega)
    by_cases ov : 971 < X + 1
    · rw [if_pos ov]
      exact (round_w_carry_over g mr way 0 n E H (E - 64 - lz) fl _ _ _ X _ p y1 y2 X0.symm y3 y4 R false C (X + 1) x' ov TG w).mono (fun r w' k => ⟨_, k⟩)
    · rw [if_neg ov]
      have ok := fin_ok_w g 4503599627370496 (X + 1) (by decide) (by decide) (by omega) (by omega) (Or.inr (by decide))
      have PK := pack_ok_w _ ok.1
      rw [ok.2] at PK
      by_cases sm : E + L.bl n < -1021
      · exact (round_w_carry_small g mr way 0 n E H (E - 64 - lz) fl _ _ _ X _ p y1 y2 X0.symm y3 y4 R C (X + 1) x' (by omega) PK (decide_eq_true sm) w).mono (fun r w' k => ⟨_, k⟩)
      · exact (round_w_carry_plain g mr way 0 n E H (E - 64 - lz) fl _ _ _ X _ p y1 y2 X0.symm y3 y4 R C (X + 1) x' (by omega) PK (decide_eq_false sm) w).mono (fun r w' k => ⟨_, k⟩)
  · have hM : (M == 9007199254740992) = false := by rw [beq_eq_false_iff_ne]; exact cr
    rw [if_neg cr]
    unfold L.endW
    by_cases ov : 971 < X
    · rw [if_pos ov]
      exact (round_w_over g mr way 0 n E H (E - 64 - lz) fl _ _ _ X M _ p y1 y2 X0.symm y3 y4 R kp C hM ov TG w).mono (fun r w' k => ⟨_, k⟩)
    · rw [if_neg ov]
      have ok := fin_ok_w g M X (by omega) (by omega) (by omega) (by omega) (by omega)
      have PK := pack_ok_w _ ok.1
      rw [ok.2] at PK
      cases kp
      · by_cases sm : E + L.bl n < -1021
        · exact (round_w_small g mr way 0 n E H (E - 64 - lz) fl _ _ _ X M _ p y1 y2 X0.symm y3 y4 R C hM (by omega) PK (decide_eq_true sm) w).mono (fun r w' k => ⟨_, k⟩)
        · exact (round_w_plain g mr way 0 n E H (E - 64 - lz) fl _ _ _ X M _ p y1 y2 X0.symm y3 y4 R C hM (by omega) PK (decide_eq_false sm) w).mono (fun r w' k => ⟨_, k⟩)
      · exact (round_w_kept g mr way 0 n E H (E - 64 - lz) fl _ _ _ X M _ p y1 y2 X0.symm y3 y4 R C hM (by omega) PK w).mono (fun r w' k => ⟨_, k⟩)
theorem pack_ok_s (p : Int × Bool × Int × Int) (ok : OkS p) (w : World) : Calls Try.prog 79 #[fmtS, prt4 p] w fun e w' => e = .returned (.int .u64 (pckS p)) ∧ Below w.heap.size w w' := by
  have h : 0 ≤ p.2.2.1 ∧ p.2.2.1 < 18446744073709551616 := by unfold OkS at ok; omega
  obtain ⟨N, -, h2, h3⟩ := pack_s p h.1 h.2
  rw [← h2 ok]
  exact h3 w
theorem fin_ok_s (g : Bool) (M X : Int) (m0 : 0 ≤ M) (m1 : M < 16777216) (x0 : -149 ≤ X) (x1 : X ≤ 104) (st : X = -149 ∨ 8388608 ≤ M) : OkS (finS g M X) ∧ pckS (finS g M X) = L.sgnS g (L.layS M X) := by
  unfold finS L.layS L.sgnS
  by_cases a : M = 0
  · subst a
    simp only [if_true]
    refine ⟨by simp [OkS], ?_⟩
    cases g <;> rfl
  rw [if_neg a]
  by_cases b : M < 8388608
  · rw [if_pos b, if_neg (show ¬ 8388608 ≤ M by omega)]
    refine ⟨by simp [OkS]; omega, ?_⟩
    cases g <;> simp [pckS]
  · rw [if_neg b, if_pos (show 8388608 ≤ M by omega)]
    refine ⟨by simp [OkS]; omega, ?_⟩
    cases g <;> simp [pckS] <;> omega
theorem tooGreat_s (g : Bool) (way : Int) (w1 : 1 ≤ way) (w2 : way ≤ 6) (w : World) :
    Calls Try.prog 82 #[.agg #[.int .i64 24, .int .i64 (-149), .int .i64 104], .bool g, .int .i64 way] w fun e w' => e = .returned (.int .u64 (L.sgnS g (if L.inw g way = true then 2139095039 else 2139095040))) ∧ Below w.heap.size w w' := by
  have e : L.inw g way = !awayF way g false 1 := by
    have : way = 1 ∨ way = 2 ∨ way = 3 ∨ way = 4 ∨ way = 5 ∨ way = 6 := by omega
    rcases this with rfl | rfl | rfl | rfl | rfl | rfl <;> cases g <;> rfl
  rw [e]
  cases hA : awayF way g false 1
  · have ok := fin_ok_s g 16777215 104 (by decide) (by decide) (by decide) (by decide) (Or.inr (by decide))
    have := tooGreat_s_max g way _ hA (pack_ok_s _ ok.1) w
    rw [ok.2] at this
    exact this
  · have := tooGreat_s_inf g way _ hA (pack_ok_s (3, g, 0, 0) (by simp [OkS])) w
    have e : pckS (3, g, 0, 0) = L.sgnS g 2139095040 := by cases g <;> rfl
    rw [e] at this
    exact this
/-- round, of a size of one word. -/
theorem round_s (g mr : Bool) (way n E fl : Int) (n0 : 0 < n) (n1 : n < 18446744073709551616) (e0 : -100000 ≤ E) (e1 : E ≤ 100000) (w1 : 1 ≤ way) (w2 : way ≤ 6) (w : World) :
    Calls Try.prog 53 #[.agg #[.int .i64 24, .int .i64 (-149), .int .i64 104], nmb 2 g 0 n E mr fl, .int .i64 way] w fun r w' => ∃ F : Int, r = .returned (.tuple #[.int .u64 (L.laidS g (cutF (n * 2 ^ (64 - L.bl n)) (L.canS n E - E + (64 - L.bl n : Nat)).toNat mr g way).1 (L.canS n E) way).1, .int .i64 F]) ∧ Below w.heap.size w w' := by
  obtain ⟨b1, b2⟩ := L.bl_le64 n0 n1
  obtain ⟨h0, h1⟩ := raised_size n n0 n1
  obtain ⟨lz, hlz⟩ : ∃ lz, lz = 64 - L.bl n := ⟨_, rfl⟩
  rw [← hlz] at h0 h1 ⊢
  obtain ⟨H, hH⟩ : ∃ H, H = n * 2 ^ lz := ⟨_, rfl⟩
  rw [← hH] at h0 h1 ⊢
  obtain ⟨X, hX⟩ : ∃ X, X = L.canS n E := ⟨_, rfl⟩
  rw [← hX] at ⊢
  have X0 : X = max (E + L.bl n - 24) (-149) := hX
  obtain ⟨p, hp⟩ : ∃ p : Nat, (p : Int) = X - E + lz := ⟨(X - E + lz).toNat, by omega⟩
  rw [show (X - E + (lz : Int)).toNat = p from by omega]
  have p1 : 40 ≤ p := by omega
  have sh : min (lz : Int).toNat IntKind.u64.bits = lz := by simp [IntKind.bits]; omega
  have R := raised_low g mr fl (E - 64) (E - 64 - lz) (64 - lz) E n H lz (w64 _ (by omega) (by omega)) (w64 _ (by omega) (by omega)) (w64 _ (by omega) (by omega))
    (by rw [shift_shl_any _ _ _ _ (by omega), sh, ← hH, wu64 H (by omega) h1]) (by rw [shift_shl_any _ _ _ _ (by omega), Int.zero_mul]; rfl) (by rw [shift_shr_any _ _ _ _ (by omega), Int.zero_ediv]) (or_zero H (by omega) h1)
    (fun w => by have := LeadingZeros64_any n (by omega) (by omega) w; rw [show 64 - (L.bl n : Int) = (lz : Int) from by omega] at this; exact this)
  have C := cut_all H p mr g way (by omega) h1 (by omega) (by omega)
  obtain ⟨k1, k2⟩ := cutF_1 H p mr g way
  have q0 : 0 ≤ H / 2 ^ p := Int.ediv_nonneg (by omega) (Int.le_of_lt (L.two_pow_pos p))
  have q1 : H / 2 ^ p < 16777216 := by
    apply Int.ediv_lt_of_lt_mul (L.two_pow_pos p)
    have := L.two_pow_le (show 40 ≤ p by omega)
    have t : (2 : Int) ^ 40 = 1099511627776 := by decide
    omega
  have q2 : X = -149 ∨ 8388608 ≤ H / 2 ^ p := by
    by_cases c : X = -149
    · exact Or.inl c
    · right
      have e : p = 40 := by omega
      rw [e]
      have t : (2 : Int) ^ 40 = 1099511627776 := by decide
      rw [t]; omega
  have TG := tooGreat_s g way w1 w2
  have y1 : IntKind.i64.wrap (E - 64 - lz + 128) = E + L.bl n := by rw [show E - 64 - (lz : Int) + 128 = E + L.bl n from by omega]; exact w64 _ (by omega) (by omega)
  have y2 : IntKind.i64.wrap (E + L.bl n - 24) = E + L.bl n - 24 := w64 _ (by omega) (by omega)
  have y3 : IntKind.i64.wrap (X - (E - 64 - lz)) = X - (E - 64 - lz) := w64 _ (by omega) (by omega)
  have y4 : IntKind.i64.wrap (X - (E - 64 - lz) - 64) = (p : Int) := by rw [show X - (E - 64 - (lz : Int)) - 64 = p from by omega]; exact w64 _ (by omega) (by omega)
  unfold L.laidS
  generalize hc : cutF H p mr g way = c at *
  obtain ⟨M, kp⟩ := c
  simp only at k1 k2 C ⊢
  by_cases cr : M = 16777216
  · have kf : kp = false := by
      cases kp
      · rfl
      · have := k2 rfl; omega
    subst kf
    rw [cr] at C
    rw [if_pos cr]
    unfold L.endS
    have x' : IntKind.i64.wrap (X + 1) = X + 1 := w64 _ (by omega) (by omega)
    by_cases ov : 104 < X + 1
    · rw [if_pos ov]
      exact (round_s_carry_over g mr way 0 n E H (E - 64 - lz) fl _ _ _ X _ p y1 y2 X0.symm y3 y4 R false C (X + 1) x' ov TG w).mono (fun r w' k => ⟨_, k⟩)
    · rw [if_neg ov]
      have ok := fin_ok_s g 8388608 (X + 1) (by decide) (by decide) (by omega) (by omega) (Or.inr (by decide))
      have PK := pack_ok_s _ ok.1
      rw [ok.2] at PK
      by_cases sm : E + L.bl n < -125
      · exact (round_s_carry_small g mr way 0 n E H (E - 64 - lz) fl _ _ _ X _ p y1 y2 X0.symm y3 y4 R C (X + 1) x' (by omega) PK (decide_eq_true sm) w).mono (fun r w' k => ⟨_, k⟩)
      · exact (round_s_carry_plain g mr way 0 n E H (E - 64 - lz) fl _ _ _ X _ p y1 y2 X0.symm y3 y4 R C (X + 1) x' (by omega) PK (decide_eq_false sm) w).mono (fun r w' k => ⟨_, k⟩)
  · have hM : (M == 16777216) = false := by rw [beq_eq_false_iff_ne]; exact cr
    rw [if_neg cr]
    unfold L.endS
    by_cases ov : 104 < X
    · rw [if_pos ov]
      exact (round_s_over g mr way 0 n E H (E - 64 - lz) fl _ _ _ X M _ p y1 y2 X0.symm y3 y4 R kp C hM ov TG w).mono (fun r w' k => ⟨_, k⟩)
    · rw [if_neg ov]
      have ok := fin_ok_s g M X (by omega) (by omega) (by omega) (by omega) (by omega)
      have PK := pack_ok_s _ ok.1
      rw [ok.2] at PK
      cases kp
      · by_cases sm : E + L.bl n < -125
        · exact (round_s_small g mr way 0 n E H (E - 64 - lz) fl _ _ _ X M _ p y1 y2 X0.symm y3 y4 R C hM (by omega) PK (decide_eq_true sm) w).mono (fun r w' k => ⟨_, k⟩)
        · exact (round_s_plain g mr way 0 n E H (E - 64 - lz) fl _ _ _ X M _ p y1 y2 X0.symm y3 y4 R C hM (by omega) PK (decide_eq_false sm) w).mono (fun r w' k => ⟨_, k⟩)
      · exact (round_s_kept g mr way 0 n E H (E - 64 - lz) fl _ _ _ X M _ p y1 y2 X0.symm y3 y4 R C hM (by omega) PK w).mono (fun r w' k => ⟨_, k⟩)
end Go.Proofs.Ytfpmegfdopnnpaa

namespace Go.Proofs.Ytfpmegfdopnnpaa
open Go.RowKit Tn

set_option maxRecDepth 100000 in
set_option maxHeartbeats 1600000 in
theorem nought_any (g : Bool) (w : World) : Calls Try.prog 102 #[.bool g] w fun e w' => e = .returned (.agg #[.int .i64 0, .bool g, .int .u64 0, .int .u64 0, .int .i64 0, .bool false, .int .i64 0]) ∧ Below w.heap.size w w' := by
  go_enter Try.func102, Try.ntmps102
  go_wp2
  exact bodyPost_ret (v := .agg #[.int .i64 0, .bool g, .int .u64 0, .int .u64 0, .int .i64 0, .bool false, .int .i64 0]) (by simp [results, Try.results102, go_sem]) rfl ⟨rfl, (Below.refl _ _).alloc (Nat.le_refl _) _⟩
set_option maxRecDepth 100000 in
set_option maxHeartbeats 1600000 in
theorem ofSize_some (g : Bool) (s : Int) (hs : (s == 0) = false) (w : World) : Calls Try.prog 73 #[.bool g, .int .u64 s] w fun e w' => e = .returned (.agg #[.int .i64 2, .bool g, .int .u64 0, .int .u64 s, .int .i64 0, .bool false, .int .i64 0]) ∧ Below w.heap.size w w' := by
  go_enter Try.func73, Try.ntmps73
  go_wp2
  exact bodyPost_ret (v := .agg #[.int .i64 2, .bool g, .int .u64 0, .int .u64 s, .int .i64 0, .bool false, .int .i64 0]) (by simp [results, Try.results73, go_sem]) rfl ⟨rfl, (Below.refl _ _).alloc (Nat.le_refl _) _⟩
set_option maxRecDepth 100000 in
set_option maxHeartbeats 1600000 in
theorem ofSize_zero (g : Bool) (w : World) : Calls Try.prog 73 #[.bool g, .int .u64 0] w fun e w' => e = .returned (.agg #[.int .i64 0, .bool false, .int .u64 0, .int .u64 0, .int .i64 0, .bool false, .int .i64 0]) ∧ Below w.heap.size w w' := by
  have K := Blk.new w #[.int .i64 0, .bool false, .int .u64 0, .int .u64 0, .int .i64 0, .bool false, .int .i64 0] 85
  have pr : Below w.heap.size w (w.alloc (.cells #[.int .i64 0, .bool false, .int .u64 0, .int .u64 0, .int .i64 0, .bool false, .int .i64 0] 85)) := (Below.refl _ _).alloc (Nat.le_refl _) _
  go_enter Try.func73, Try.ntmps73
  go_wp2_with (first
    | (go_at_call 102; refine (nought_any false _).mono ?_; rintro x w1 ⟨rfl, b1⟩; replace K := K.below b1 K.lt; replace pr := bel pr b1; clear b1; have e0 : w1.cell? ⟨w.heap.size, 0, none⟩ = some (.int .i64 0) := K.at 0; have e1 : w1.cell? ⟨w.heap.size, 1, none⟩ = some (.bool false) := K.at 1; have e2 : w1.cell? ⟨w.heap.size, 2, none⟩ = some (.int .u64 0) := K.at 2; have e3 : w1.cell? ⟨w.heap.size, 3, none⟩ = some (.int .u64 0) := K.at 3; have e4 : w1.cell? ⟨w.heap.size, 4, none⟩ = some (.int .i64 0) := K.at 4; have e5 : w1.cell? ⟨w.heap.size, 5, none⟩ = some (.bool false) := K.at 5; have e6 : w1.cell? ⟨w.heap.size, 6, none⟩ = some (.int .i64 0) := K.at 6; have g0 := K.free 0; have g1 := K.free 1; have g2 := K.free 2; have g3 := K.free 3; have g4 := K.free 4; have g5 := K.free 5; have g6 := K.free 6)
    | fail)
  have JF : Blk (((((((w1.setCell ⟨w.heap.size, 0, none⟩ (.int .i64 0)).setCell ⟨w.heap.size, 1, none⟩ (.bool false)).setCell ⟨w.heap.size, 2, none⟩ (.int .u64 0)).setCell ⟨w.heap.size, 3, none⟩ (.int .u64 0)).setCell ⟨w.heap.size, 4, none⟩ (.int .i64 0)).setCell ⟨w.heap.size, 5, none⟩ (.bool false)).setCell ⟨w.heap.size, 6, none⟩ (.int .i64 0)) w.heap.size #[.int .i64 0, .bool false, .int .u64 0, .int .u64 0, .int .i64 0, .bool false, .int .i64 0] 85 := (blk_set (blk_set (blk_set (blk_set (blk_set (blk_set (blk_set K)))))))
  have F0 : (((((((w1.setCell ⟨w.heap.size, 0, none⟩ (.int .i64 0)).setCell ⟨w.heap.size, 1, none⟩ (.bool false)).setCell ⟨w.heap.size, 2, none⟩ (.int .u64 0)).setCell ⟨w.heap.size, 3, none⟩ (.int .u64 0)).setCell ⟨w.heap.size, 4, none⟩ (.int .i64 0)).setCell ⟨w.heap.size, 5, none⟩ (.bool false)).setCell ⟨w.heap.size, 6, none⟩ (.int .i64 0)).cell? ⟨w.heap.size, 0, none⟩ = some (.int .i64 0) := JF.at 0
  have F1 : (((((((w1.setCell ⟨w.heap.size, 0, none⟩ (.int .i64 0)).setCell ⟨w.heap.size, 1, none⟩ (.bool false)).setCell ⟨w.heap.size, 2, none⟩ (.int .u64 0)).setCell ⟨w.heap.size, 3, none⟩ (.int .u64 0)).setCell ⟨w.heap.size, 4, none⟩ (.int .i64 0)).setCell ⟨w.heap.size, 5, none⟩ (.bool false)).setCell ⟨w.heap.size, 6, none⟩ (.int .i64 0)).cell? ⟨w.heap.size, 1, none⟩ = some (.bool false) := JF.at 1
  have F2 : (((((((w1.setCell ⟨w.heap.size, 0, none⟩ (.int .i64 0)).setCell ⟨w.heap.size, 1, none⟩ (.bool false)).setCell ⟨w.heap.size, 2, none⟩ (.int .u64 0)).setCell ⟨w.heap.size, 3, none⟩ (.int .u64 0)).setCell ⟨w.heap.size, 4, none⟩ (.int .i64 0)).setCell ⟨w.heap.size, 5, none⟩ (.bool false)).setCell ⟨w.heap.size, 6, none⟩ (.int .i64 0)).cell? ⟨w.heap.size, 2, none⟩ = some (.int .u64 0) := JF.at 2
  have F3 : (((((((w1.setCell ⟨w.heap.size, 0, none⟩ (.int .i64 0)).setCell ⟨w.heap.size, 1, none⟩ (.bool false)).setCell ⟨w.heap.size, 2, none⟩ (.int .u64 0)).setCell ⟨w.heap.size, 3, none⟩ (.int .u64 0)).setCell ⟨w.heap.size, 4, none⟩ (.int .i64 0)).setCell ⟨w.heap.size, 5, none⟩ (.bool false)).setCell ⟨w.heap.size, 6, none⟩ (.int .i64 0)).cell? ⟨w.heap.size, 3, none⟩ = some (.int .u64 0) := JF.at 3
  have F4 : (((((((w1.setCell ⟨w.heap.size, 0, none⟩ (.int .i64 0)).setCell ⟨w.heap.size, 1, none⟩ (.bool false)).setCell ⟨w.heap.size, 2, none⟩ (.int .u64 0)).setCell ⟨w.heap.size, 3, none⟩ (.int .u64 0)).setCell ⟨w.heap.size, 4, none⟩ (.int .i64 0)).setCell ⟨w.heap.size, 5, none⟩ (.bool false)).setCell ⟨w.heap.size, 6, none⟩ (.int .i64 0)).cell? ⟨w.heap.size, 4, none⟩ = some (.int .i64 0) := JF.at 4
  have F5 : (((((((w1.setCell ⟨w.heap.size, 0, none⟩ (.int .i64 0)).setCell ⟨w.heap.size, 1, none⟩ (.bool false)).setCell ⟨w.heap.size, 2, none⟩ (.int .u64 0)).setCell ⟨w.heap.size, 3, none⟩ (.int .u64 0)).setCell ⟨w.heap.size, 4, none⟩ (.int .i64 0)).setCell ⟨w.heap.size, 5, none⟩ (.bool false)).setCell ⟨w.heap.size, 6, none⟩ (.int .i64 0)).cell? ⟨w.heap.size, 5, none⟩ = some (.bool false) := JF.at 5
  have F6 : (((((((w1.setCell ⟨w.heap.size, 0, none⟩ (.int .i64 0)).setCell ⟨w.heap.size, 1, none⟩ (.bool false)).setCell ⟨w.heap.size, 2, none⟩ (.int .u64 0)).setCell ⟨w.heap.size, 3, none⟩ (.int .u64 0)).setCell ⟨w.heap.size, 4, none⟩ (.int .i64 0)).setCell ⟨w.heap.size, 5, none⟩ (.bool false)).setCell ⟨w.heap.size, 6, none⟩ (.int .i64 0)).cell? ⟨w.heap.size, 6, none⟩ = some (.int .i64 0) := JF.at 6
  exact bodyPost_ret (v := .agg #[.int .i64 0, .bool false, .int .u64 0, .int .u64 0, .int .i64 0, .bool false, .int .i64 0]) (by simp [results, Try.results73, go_sem, F0, F1, F2, F3, F4, F5, F6]) rfl ⟨rfl, (bel_set (bel_set (bel_set (bel_set (bel_set (bel_set (bel_set pr (Nat.le_refl _)) (Nat.le_refl _)) (Nat.le_refl _)) (Nat.le_refl _)) (Nat.le_refl _)) (Nat.le_refl _)) (Nat.le_refl _))⟩
end Go.Proofs.Ytfpmegfdopnnpaa

namespace Go.Proofs.Ytfpmegfdopnnpaa
open Go.RowKit Tn

set_option maxRecDepth 100000 in
set_option maxHeartbeats 800000 in
theorem FSplit64 (n : Nat) (hn : n < 18446744073709551616) (w : World) :
    Calls Try.prog 8 #[.float .f64 n] w fun e w' => e = .returned (prt4 (splW n)) ∧ Below w.heap.size w w' := by
  have S := split_w n (by omega)
  generalize splW n = q at S ⊢
  obtain ⟨k, g, m, e⟩ := q
  have hb := f64bits n
  go_enter Try.func8, Try.ntmps8
  have K1 := Blk.new w #[.int .i64 0, .bool false, .int .u64 0, .int .i64 0] 25
  have pr : Below w.heap.size w (w.alloc (.cells #[.int .i64 0, .bool false, .int .u64 0, .int .i64 0] 25)) := (Below.refl _ _).alloc (Nat.le_refl _) _
  go_wp2_with (first
    | (go_at_call 40; refine (floats_any _).mono ?_; rintro e w1 ⟨rfl, b1⟩; replace K1 := K1.below b1 K1.lt; replace pr := bel pr b1; have hb1 := hb w1)
    | (go_at_call 41; refine (S _).mono ?_; rintro e w2 ⟨rfl, b2⟩; replace K1 := K1.below b2 K1.lt; replace pr := bel pr b2; have c0 : w2.cell? ⟨w.heap.size, 0, none⟩ = some (.int .i64 0) := K1.at 0; have c1 : w2.cell? ⟨w.heap.size, 1, none⟩ = some (.bool false) := K1.at 1; have c2 : w2.cell? ⟨w.heap.size, 2, none⟩ = some (.int .u64 0) := K1.at 2; have c3 : w2.cell? ⟨w.heap.size, 3, none⟩ = some (.int .i64 0) := K1.at 3; have z0 := K1.free 0; have z1 := K1.free 1; have z2 := K1.free 2; have z3 := K1.free 3)
    | fail)
  obtain ⟨F0, F1, F2, F3, FB⟩ := put4 (.int .i64 k) (.bool g) (.int .u64 m) (.int .i64 e) c0 c1 c2 c3
  exact bodyPost_ret (v := prt k g m e) (by simp [results, Try.results8, go_sem, F0, F1, F2, F3]) rfl ⟨rfl, FB _ _ (by omega) pr⟩
set_option maxRecDepth 100000 in
set_option maxHeartbeats 800000 in
theorem FJoin64 (k : Int) (g : Bool) (m e : Int) (j c : Nat) (jc : joiW (k, g, m, e) = ((j : Int), (c : Int))) (h0 : 0 ≤ m) (h1 : m < 18446744073709551616) (w : World) :
    Calls Try.prog 15 #[prt k g m e] w fun x w' => x = .returned (.tuple #[.float .f64 j, .int .i64 c]) ∧ Below w.heap.size w w' := by
  have S := join_w (k, g, m, e) h0 h1
  rw [jc] at S
  have hb := f64frombits j
  go_enter Try.func15, Try.ntmps15
  go_wp2_with fail
  have K1 := Blk.new w #[.int .i64 k, .bool g, .int .u64 m, .int .i64 e] 25
  have pr : Below w.heap.size w (w.alloc (.cells #[.int .i64 k, .bool g, .int .u64 m, .int .i64 e] 25)) := (Below.refl _ _).alloc (Nat.le_refl _) _
  generalize w.alloc (.cells #[.int .i64 k, .bool g, .int .u64 m, .int .i64 e] 25) = W at *
  have c0 : W.cell? ⟨w.heap.size, 0, none⟩ = some (.int .i64 k) := K1.at 0
  have c1 : W.cell? ⟨w.heap.size, 1, none⟩ = some (.bool g) := K1.at 1
  have c2 : W.cell? ⟨w.heap.size, 2, none⟩ = some (.int .u64 m) := K1.at 2
  have c3 : W.cell? ⟨w.heap.size, 3, none⟩ = some (.int .i64 e) := K1.at 3
  go_region_held3 (fun x => x.cell? ⟨w.heap.size, 0, none⟩ = some (.int .i64 k) ∧ x.cell? ⟨w.heap.size, 1, none⟩ = some (.bool g) ∧ x.cell? ⟨w.heap.size, 2, none⟩ = some (.int .u64 m) ∧ x.cell? ⟨w.heap.size, 3, none⟩ = some (.int .i64 e)) (go_keep) (first
    | (go_at_call 40; refine (floats_any _).mono ?_; rintro x w1 ⟨rfl, b1⟩; replace K1 := K1.below (below_undrew b1) K1.lt; replace pr := bel pr (below_undrew b1); clear b1; have c0 : w1.cell? ⟨w.heap.size, 0, none⟩ = some (.int .i64 k) := K1.at 0; have c1 : w1.cell? ⟨w.heap.size, 1, none⟩ = some (.bool g) := K1.at 1; have c2 : w1.cell? ⟨w.heap.size, 2, none⟩ = some (.int .u64 m) := K1.at 2; have c3 : w1.cell? ⟨w.heap.size, 3, none⟩ = some (.int .i64 e) := K1.at 3)
    | (go_at_call 47; refine (S _).mono ?_; rintro x w1 ⟨rfl, b1⟩; replace K1 := K1.below b1 K1.lt; replace pr := bel pr b1; clear b1; have c0 : w1.cell? ⟨w.heap.size, 0, none⟩ = some (.int .i64 k) := K1.at 0; have c1 : w1.cell? ⟨w.heap.size, 1, none⟩ = some (.bool g) := K1.at 1; have c2 : w1.cell? ⟨w.heap.size, 2, none⟩ = some (.int .u64 m) := K1.at 2; have c3 : w1.cell? ⟨w.heap.size, 3, none⟩ = some (.int .i64 e) := K1.at 3)
    | fail)
  go_wp2
  exact bodyPost_ret (v := .tuple #[.float .f64 j, .int .i64 c]) (by simp [results, Try.results15, go_sem]) rfl ⟨rfl, pr⟩
set_option maxRecDepth 100000 in
set_option maxHeartbeats 800000 in
theorem is64_yes (n : Nat) (w : World) :
    Calls Try.prog 18 #[.float .f64 n, .int .u64 n] w fun x w' => x = .returned (.bool true) ∧ w' = w := by
  have hb := f64bits n w
  go_enter Try.func18, Try.ntmps18
  go_wp2
  go_ret
  exact ⟨rfl, rfl⟩
set_option maxRecDepth 100000 in
set_option maxHeartbeats 800000 in
theorem FSplit32 (n : Nat) (hn : n < 4294967296) (w : World) :
    Calls Try.prog 12 #[.float .f32 n] w fun e w' => e = .returned (prt4 (splS n)) ∧ Below w.heap.size w w' := by
  have S := split_s n (by omega)
  generalize splS n = q at S ⊢
  obtain ⟨k, g, m, e⟩ := q
  have hb := f32bits n
  have hw : IntKind.u64.wrap (n : Int) = n := wu64 _ (by omega) (by omega)
  go_enter Try.func12, Try.ntmps12
  have K1 := Blk.new w #[.int .i64 0, .bool false, .int .u64 0, .int .i64 0] 25
  have pr : Below w.heap.size w (w.alloc (.cells #[.int .i64 0, .bool false, .int .u64 0, .int .i64 0] 25)) := (Below.refl _ _).alloc (Nat.le_refl _) _
  go_wp2_with (first
    | (go_at_call 45; refine (smallFloats_any _).mono ?_; rintro e w1 ⟨rfl, b1⟩; replace K1 := K1.below b1 K1.lt; replace pr := bel pr b1; have hb1 := hb w1)
    | (go_at_call 41; refine (S _).mono ?_; rintro e w2 ⟨rfl, b2⟩; replace K1 := K1.below b2 K1.lt; replace pr := bel pr b2; have c0 : w2.cell? ⟨w.heap.size, 0, none⟩ = some (.int .i64 0) := K1.at 0; have c1 : w2.cell? ⟨w.heap.size, 1, none⟩ = some (.bool false) := K1.at 1; have c2 : w2.cell? ⟨w.heap.size, 2, none⟩ = some (.int .u64 0) := K1.at 2; have c3 : w2.cell? ⟨w.heap.size, 3, none⟩ = some (.int .i64 0) := K1.at 3; have z0 := K1.free 0; have z1 := K1.free 1; have z2 := K1.free 2; have z3 := K1.free 3)
    | fail)
  obtain ⟨F0, F1, F2, F3, FB⟩ := put4 (.int .i64 k) (.bool g) (.int .u64 m) (.int .i64 e) c0 c1 c2 c3
  exact bodyPost_ret (v := prt k g m e) (by simp [results, Try.results12, go_sem, F0, F1, F2, F3]) rfl ⟨rfl, FB _ _ (by omega) pr⟩
set_option maxRecDepth 100000 in
set_option maxHeartbeats 800000 in
theorem FJoin32 (k : Int) (g : Bool) (m e : Int) (j c : Nat) (jc : joiS (k, g, m, e) = ((j : Int), (c : Int))) (hj : j < 4294967296) (h0 : 0 ≤ m) (h1 : m < 18446744073709551616) (w : World) :
    Calls Try.prog 16 #[prt k g m e] w fun x w' => x = .returned (.tuple #[.float .f32 j, .int .i64 c]) ∧ Below w.heap.size w w' := by
  have S := join_s (k, g, m, e) h0 h1
  rw [jc] at S
  have hb := f32frombits j
  have hw : IntKind.u32.wrap (j : Int) = (j : Int) := by simp [IntKind.wrap, IntKind.bits, IntKind.signed]; omega
  go_enter Try.func16, Try.ntmps16
  go_wp2_with fail
  have K1 := Blk.new w #[.int .i64 k, .bool g, .int .u64 m, .int .i64 e] 25
  have pr : Below w.heap.size w (w.alloc (.cells #[.int .i64 k, .bool g, .int .u64 m, .int .i64 e] 25)) := (Below.refl _ _).alloc (Nat.le_refl _) _
  generalize w.alloc (.cells #[.int .i64 k, .bool g, .int .u64 m, .int .i64 e] 25) = W at *
  have c0 : W.cell? ⟨w.heap.size, 0, none⟩ = some (.int .i64 k) := K1.at 0
  have c1 : W.cell? ⟨w.heap.size, 1, none⟩ = some (.bool g) := K1.at 1
  have c2 : W.cell? ⟨w.heap.size, 2, none⟩ = some (.int .u64 m) := K1.at 2
  have c3 : W.cell? ⟨w.heap.size, 3, none⟩ = some (.int .i64 e) := K1.at 3
  go_region_held3 (fun x => x.cell? ⟨w.heap.size, 0, none⟩ = some (.int .i64 k) ∧ x.cell? ⟨w.heap.size, 1, none⟩ = some (.bool g) ∧ x.cell? ⟨w.heap.size, 2, none⟩ = some (.int .u64 m) ∧ x.cell? ⟨w.heap.size, 3, none⟩ = some (.int .i64 e)) (go_keep) (first
    | (go_at_call 45; refine (smallFloats_any _).mono ?_; rintro x w1 ⟨rfl, b1⟩; replace K1 := K1.below (below_undrew b1) K1.lt; replace pr := bel pr (below_undrew b1); clear b1; have c0 : w1.cell? ⟨w.heap.size, 0, none⟩ = some (.int .i64 k) := K1.at 0; have c1 : w1.cell? ⟨w.heap.size, 1, none⟩ = some (.bool g) := K1.at 1; have c2 : w1.cell? ⟨w.heap.size, 2, none⟩ = some (.int .u64 m) := K1.at 2; have c3 : w1.cell? ⟨w.heap.size, 3, none⟩ = some (.int .i64 e) := K1.at 3)
    | (go_at_call 47; refine (S _).mono ?_; rintro x w1 ⟨rfl, b1⟩; replace K1 := K1.below b1 K1.lt; replace pr := bel pr b1; clear b1; have c0 : w1.cell? ⟨w.heap.size, 0, none⟩ = some (.int .i64 k) := K1.at 0; have c1 : w1.cell? ⟨w.heap.size, 1, none⟩ = some (.bool g) := K1.at 1; have c2 : w1.cell? ⟨w.heap.size, 2, none⟩ = some (.int .u64 m) := K1.at 2; have c3 : w1.cell? ⟨w.heap.size, 3, none⟩ = some (.int .i64 e) := K1.at 3)
    | fail)
  go_wp2
  exact bodyPost_ret (v := .tuple #[.float .f32 j, .int .i64 c]) (by simp [results, Try.results16, go_sem]) rfl ⟨rfl, pr⟩
set_option maxRecDepth 100000 in
set_option maxHeartbeats 800000 in
theorem is32_yes (n : Nat) (hn : n < 4294967296) (w : World) :
    Calls Try.prog 19 #[.float .f32 n, .int .u64 n] w fun x w' => x = .returned (.bool true) ∧ w' = w := by
  have hb := f32bits n w
  have hw : IntKind.u64.wrap (n : Int) = n := wu64 _ (by omega) (by omega)
  go_enter Try.func19, Try.ntmps19
  go_wp2
  go_ret
  exact ⟨rfl, rfl⟩
set_option maxRecDepth 100000 in
theorem names_any (w : World) : Calls Try.prog 7 #[] w fun x w' => x = .returned (.bool true) ∧ w' = w := by
  go_enter Try.func7, Try.ntmps7
  go_wp2
  go_ret
  exact ⟨rfl, rfl⟩

end Go.Proofs.Ytfpmegfdopnnpaa

namespace Go.Proofs.Ytfpmegfdopnnpaa
open Go.RowKit Tn

set_option maxRecDepth 100000 in
set_option maxHeartbeats 1600000 in
theorem isFin_yes (k : Int) (g : Bool) (m e : Int) (h3 : (k != 3) = true) (h4 : (k != 4) = true) (w : World) : Calls Try.prog 65 #[.agg #[.int .i64 k, .bool g, .int .u64 m, .int .i64 e]] w fun e w' => e = .returned (.bool true) ∧ Below w.heap.size w w' := by
  go_enter Try.func65, Try.ntmps65
  go_wp2
  go_ret
  exact ⟨rfl, (Below.refl _ _).alloc (Nat.le_refl _) _⟩
set_option maxRecDepth 100000 in
set_option maxHeartbeats 1600000 in
theorem isFin_no3 (k : Int) (g : Bool) (m e : Int) (h3 : (k != 3) = false) (w : World) : Calls Try.prog 65 #[.agg #[.int .i64 k, .bool g, .int .u64 m, .int .i64 e]] w fun e w' => e = .returned (.bool false) ∧ Below w.heap.size w w' := by
  go_enter Try.func65, Try.ntmps65
  go_wp2
  go_ret
  exact ⟨rfl, (Below.refl _ _).alloc (Nat.le_refl _) _⟩
set_option maxRecDepth 100000 in
set_option maxHeartbeats 1600000 in
theorem isFin_no4 (k : Int) (g : Bool) (m e : Int) (h3 : (k != 3) = true) (h4 : (k != 4) = false) (w : World) : Calls Try.prog 65 #[.agg #[.int .i64 k, .bool g, .int .u64 m, .int .i64 e]] w fun e w' => e = .returned (.bool false) ∧ Below w.heap.size w w' := by
  go_enter Try.func65, Try.ntmps65
  go_wp2
  go_ret
  exact ⟨rfl, (Below.refl _ _).alloc (Nat.le_refl _) _⟩
end Go.Proofs.Ytfpmegfdopnnpaa

namespace Go.Proofs.Ytfpmegfdopnnpaa
open Go.RowKit Tn

set_option maxRecDepth 100000 in
set_option maxHeartbeats 1600000 in
theorem wholeSize_neg (k m E way M : Int) (g kp : Bool) (T : Nat) (hE : IntKind.i64.wrap (-E) = (T : Int)) (e0 : E < 0)
    (C : ∀ w, Calls Try.prog 81 #[.int .u64 m, .int .i64 T, .bool false, .bool g, .int .i64 way] w fun e w' => e = .returned (.tuple #[.int .u64 M, .bool kp]) ∧ w' = w) (w : World) :
    Calls Try.prog 69 #[prt k g m E, .int .i64 way] w fun e w' => e = .returned (.tuple #[.int .u64 M, .bool true]) ∧ Below w.heap.size w w' := by
  go_enter Try.func69, Try.ntmps69
  go_wp2_with (first
    | (go_at_call 81; (with_reducible refine (C _).mono ?_); rintro e w1 ⟨rfl, rfl⟩)
    | fail)
  exact bodyPost_ret (v := .tuple #[.int .u64 M, .bool true]) (by simp [results, Try.results69, go_sem]) rfl ⟨rfl, (Below.refl _ _).alloc (Nat.le_refl _) _⟩
set_option maxRecDepth 100000 in
set_option maxHeartbeats 1600000 in
theorem wholeSize_pos (k m way N B s : Int) (g t : Bool) (T : Nat) (hs : Op.shift .shl .u64 m .i64 (T : Int) = pure (.int .u64 N)) (hB : IntKind.i64.wrap (B + T) = s) (ht : decide (s ≤ 64) = t)
    (L : ∀ w, Calls Try.prog 97 #[.int .u64 m] w fun e w' => e = .returned (.int .i64 B) ∧ w' = w) (w : World) :
    Calls Try.prog 69 #[prt k g m (T : Int), .int .i64 way] w fun e w' => e = .returned (.tuple #[.int .u64 N, .bool t]) ∧ Below w.heap.size w w' := by
  have K0 := Blk.new w #[.int .i64 k, .bool g, .int .u64 m, .int .i64 (T : Int)] 25
  have pr : Below w.heap.size w (w.alloc (.cells #[.int .i64 k, .bool g, .int .u64 m, .int .i64 (T : Int)] 25)) := (Below.refl _ _).alloc (Nat.le_refl _) _
  go_enter Try.func69, Try.ntmps69
  go_wp2_with fail
  generalize w.alloc (.cells #[.int .i64 k, .bool g, .int .u64 m, .int .i64 (T : Int)] 25) = W at *
  have c2 : W.cell? ⟨w.heap.size, 2, none⟩ = some (.int .u64 m) := K0.at 2
  have c3 : W.cell? ⟨w.heap.size, 3, none⟩ = some (.int .i64 (T : Int)) := K0.at 3
  go_region_held3 (fun x => x.cell? ⟨w.heap.size, 2, none⟩ = some (.int .u64 m) ∧ x.cell? ⟨w.heap.size, 3, none⟩ = some (.int .i64 (T : Int))) (go_keep) (first
    | (go_at_call 97; (with_reducible refine (L _).mono ?_); rintro e w1 ⟨rfl, rfl⟩)
    | fail)
  go_wp2_with fail
  exact bodyPost_ret (v := .tuple #[.int .u64 N, .bool t]) (by simp [results, Try.results69, go_sem]) rfl ⟨rfl, pr.drew⟩
end Go.Proofs.Ytfpmegfdopnnpaa
