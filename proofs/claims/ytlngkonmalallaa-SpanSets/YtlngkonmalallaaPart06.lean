import Derived.Test.YtlngkonmalallaaPart04
import Derived.Test.YtlngkonmalallaaPart05
import Derived.Deep.DeepCutAuto
import Derived.Deep.CutBlock

namespace Go.Proofs.Ytlngkonmalallaa.L
open Go.RowKit Tl

theorem Bits_q (v : Value) (xs : List Int) (w : World) (h : Rd w v xs) (n : Nm xs) (hL : xs.length ≤ 1099511627776) :
    Calls Try.prog 82 #[v] w fun e w' => e = .returned (.int .i64 (bl (val xs) : Nat)) ∧ ∃ n, w' = w.drewN n := by
  refine (Bits_fn v xs w h n hL).mono ?_
  rintro e w' ⟨rfl, rfl⟩
  exact ⟨rfl, 0, rfl⟩
theorem belN {n : Nat} {w W w1 : World} (h : Below w.heap.size w W) (k : Below (W.drewN n).heap.size (W.drewN n) w1) : Below w.heap.size w w1 := h.trans (Below.mono (show Below W.heap.size W w1 from ⟨k.os, k.tape, k.output, k.size, k.block⟩) h.size)
/-- The bits of m times 2 to the e. -/
def lay52 (m e : Int) : Int := if 4503599627370496 ≤ m then m - 4503599627370496 + (e + 1075) * 4503599627370496 else m
theorem bl_53 {m : Int} (h0 : 4503599627370496 ≤ m) (h1 : m < 9007199254740992) : bl m = 53 := by
  refine (bl_unique (L := 53) (by omega) ?_ (Or.inr ?_)).symm
  · have : (2 : Int) ^ 53 = 9007199254740992 := by decide
    omega
  · have : (2 : Int) ^ (53 - 1) = 4503599627370496 := by decide
    omega
theorem bl_52 {m : Int} (h0 : 0 ≤ m) (h1 : m < 4503599627370496) : bl m ≤ 52 := by
  by_cases c : 0 < m
  · have b := bl_pos c
    by_cases d : bl m ≤ 52
    · exact d
    · have := two_pow_le (show 52 ≤ bl m - 1 by omega)
      have e : (2 : Int) ^ 52 = 4503599627370496 := by decide
      omega
  · unfold bl; rw [if_pos (by omega)]; omega
theorem or_limb (b m : Int) (b0 : 0 ≤ b) (b1 : b < 17179869184) (m0 : 0 ≤ m) (m1 : m < 1073741824) : bits .or .u64 (b * 1073741824) m = b * 1073741824 + m := by
  obtain ⟨x, rfl⟩ := Int.eq_ofNat_of_zero_le b0
  obtain ⟨y, rfl⟩ := Int.eq_ofNat_of_zero_le m0
  have e := bits_or_u64_nat (1073741824 * x) y (by omega) (by omega)
  rw [Tn.or_high x y 30 1073741824 (by decide) (by omega)] at e
  rw [show (x : Int) * 1073741824 = ((1073741824 * x : Nat) : Int) from by omega, e]
  omega
theorem laid_step {ms : List Int} {i : Nat} {b : Int} (h : Wd ms) (hi : i < ms.length) (hb : b = val (ms.drop (i + 1))) (hm : val ms < 9007199254740992) : 0 ≤ b ∧ b < 17179869184 ∧ b * 1073741824 + nth ms i = val (ms.drop i) := by
  have e := drop_getD ms i hi
  have d0 := val_nonneg (h.drop (i + 1))
  have d1 := val_nonneg (h.drop i)
  have bx := nth_bd h i
  have e2 : val (ms.drop i) = nth ms i + 1073741824 * val (ms.drop (i + 1)) := by rw [e]; rfl
  have s := val_split ms i (by omega)
  have t0 := val_nonneg (h.take i)
  have p := pw_pos i
  have := Int.mul_le_mul_of_nonneg_right (show 1 ≤ pw i by omega) d1
  omega
set_option maxHeartbeats 1600000 in
set_option maxRecDepth 100000 in
/-- Size's laid: what is finite, above nought. -/
theorem laid_w_norm (v : Value) (ms : List Int) (e way K Z : Int) (w : World) (h : Rd w v ms) (n : Nm ms) (m0 : 4503599627370496 ≤ val ms) (m1 : val ms < 9007199254740992) (e0 : -1074 ≤ e) (e1 : e ≤ 971) (hK : e + 1075 = K) (hZ : val ms - 4503599627370496 + K * 4503599627370496 = Z) :
    Calls Try.prog 109 #[.agg #[.int .i64 53, .int .i64 (-1074), .int .i64 971, .int .i64 52], .bool false, v, .int .i64 e, .int .i64 way] w fun r w' => r = .returned (.tuple #[.int .u64 Z, .bool false]) ∧ Below w.heap.size w w' := by
  have hbl : bl (val ms) = 53 := bl_53 m0 m1
  have ll : ms.length ≤ 2 := by
    by_cases c : ms.length ≤ 2
    · exact c
    · have := val_low h.1 n (by intro e; rw [e] at c; simp at c)
      have := pw_mono (show 2 ≤ ms.length - 1 by omega)
      have : pw 2 = 1152921504606846976 := by decide
      omega
  have hw := h.1
  obtain ⟨a1, c1, rfl⟩ : ∃ a1 c1, v = .slice a1 ms.length c1 := by obtain ⟨_, a1, c1, e, _⟩ := h; exact ⟨a1, c1, e⟩
  have K0 := Blk.new w #[.int .i64 53, .int .i64 (-1074), .int .i64 971, .int .i64 52] 31
  have pr : Below w.heap.size w (w.alloc (.cells #[.int .i64 53, .int .i64 (-1074), .int .i64 971, .int .i64 52] 31)) := (Below.refl _ _).alloc (Nat.le_refl _) _
  have hR := h.grow pr
  go_enter Try.func109, Try.ntmps109
  go_wp2_with fail
  generalize w.alloc (.cells #[.int .i64 53, .int .i64 (-1074), .int .i64 971, .int .i64 52] 31) = W at *
  have q0 : W.cell? ⟨w.heap.size, 0, none⟩ = some (.int .i64 53) := K0.at 0
  have q1 : W.cell? ⟨w.heap.size, 1, none⟩ = some (.int .i64 (-1074)) := K0.at 1
  have q2 : W.cell? ⟨w.heap.size, 2, none⟩ = some (.int .i64 971) := K0.at 2
  have q3 : W.cell? ⟨w.heap.size, 3, none⟩ = some (.int .i64 52) := K0.at 3
  go_quiet ((go_at_call 82; exact Calls.quiet_of (Bits_q _ ms _ hR n (by omega))))
  go_wp2_with fail
  go_loop [12, 13] (fun b i => ∃ j : Nat, j ≤ ms.length ∧ i = .int .i64 ((j : Int) - 1) ∧ b = .int .u64 (val (ms.drop j))) (fun _ i => (intOf i + 1).toNat)
  case atStart => exact ⟨ms.length, Nat.le_refl _, by go_num, by simp [val]⟩
  case round =>
    obtain ⟨j, hj, rfl, rfl⟩ := hrel
    by_cases hlt : 0 < j
    · obtain ⟨i, rfl⟩ : ∃ i, j = i + 1 := ⟨j - 1, by omega⟩
      obtain ⟨b, hb⟩ : ∃ b, b = val (ms.drop (i + 1)) := ⟨_, rfl⟩
      have R := laid_step hw (by omega) hb m1
      rw [← hb]
      obtain ⟨_, _, _, e', _, _, g1⟩ := hR
      obtain ⟨b1, o1, rfl, hc⟩ := g1 (by omega)
      have cc := hc.at (i := i) (by omega)
      have bx := nth_bd hw i
      have t1 : ((i : Int) + 1 - 1) = i := by omega
      have f1 : IntKind.u64.wrap (b * 1073741824) = b * 1073741824 := by rw [IntKind.wrap_u64]; omega
      have f2 : IntKind.u64.wrap (nth ms i) = nth ms i := by rw [IntKind.wrap_u64]; omega
      have f3 := or_limb b (nth ms i) R.1 R.2.1 bx.1 bx.2
      rw [R.2.2] at f3
      clear R hb
      go_wp2
      go_round
      case rel => exact ⟨i, by omega, by go_num, rfl⟩
      case measure => simp [intOf]
    · have ej : j = 0 := by omega
      subst ej
      rw [List.drop_zero]
      have f1 : IntKind.u64.wrap (val ms - 4503599627370496) = val ms - 4503599627370496 := by rw [IntKind.wrap_u64]; omega
      have f2 : IntKind.i64.wrap (e - -1074) = e + 1074 := by rw [Int.sub_neg]; exact wrap_self _ (by omega) (by omega)
      have f3 : IntKind.i64.wrap (e + 1074 + 1) = K := by rw [show e + 1074 + 1 = K from by omega]; exact wrap_self _ (by omega) (by omega)
      have f4 : IntKind.u64.wrap K = K := by rw [IntKind.wrap_u64]; omega
      have f5 : IntKind.u64.wrap (K * 4503599627370496) = K * 4503599627370496 := by rw [IntKind.wrap_u64]; omega
      have f6 : IntKind.u64.wrap (val ms - 4503599627370496 + K * 4503599627370496) = Z := by rw [hZ, IntKind.wrap_u64]; omega
      have hR2 : Rd (W.drewN nq) (.slice a1 ms.length c1) ms := hR
      have K2 : Blk (W.drewN nq) w.heap.size #[.int .i64 53, .int .i64 (-1074), .int .i64 971, .int .i64 52] 31 := K0
      have pr2 : Below w.heap.size w (W.drewN nq) := ⟨pr.os, pr.tape, pr.output, pr.size, pr.block⟩
      clear hK hZ q0 q1 q2 q3 K0 pr hR
      generalize W.drewN nq = W2 at *
      have q0 : W2.cell? ⟨w.heap.size, 0, none⟩ = some (.int .i64 53) := K2.at 0
      have q1 : W2.cell? ⟨w.heap.size, 1, none⟩ = some (.int .i64 (-1074)) := K2.at 1
      have q2 : W2.cell? ⟨w.heap.size, 2, none⟩ = some (.int .i64 971) := K2.at 2
      have q3 : W2.cell? ⟨w.heap.size, 3, none⟩ = some (.int .i64 52) := K2.at 3
      go_wp2_with fail
      go_quiet ((go_at_call 82; exact Calls.quiet_of (Bits_q _ ms _ hR2 n (by omega))))
      go_wp2_with fail
      go_quiet (fail)
      go_wp2_with (first
        | (go_at_call 61; refine (signed_w_pos _ _).mono ?_; rintro r w1 ⟨rfl, b1⟩)
        | fail)
      exact bodyPost_ret (v := .tuple #[.int .u64 Z, .bool false]) (by simp [results, Try.results109, go_sem]) rfl ⟨rfl, belN pr2 b1⟩
set_option maxHeartbeats 1600000 in
set_option maxRecDepth 100000 in
/-- Size's laid: what is finite, above nought. -/
theorem laid_w_small (v : Value) (ms : List Int) (e way : Int) (w : World) (h : Rd w v ms) (n : Nm ms) (m0 : val ms < 4503599627370496) (e1 : e ≤ 971) :
    Calls Try.prog 109 #[.agg #[.int .i64 53, .int .i64 (-1074), .int .i64 971, .int .i64 52], .bool false, v, .int .i64 e, .int .i64 way] w fun r w' => r = .returned (.tuple #[.int .u64 (val ms), .bool false]) ∧ Below w.heap.size w w' := by
  have m1 : val ms < 9007199254740992 := by omega
  have hbl := bl_52 (val_nonneg h.1) m0
  have hb2 : ((bl (val ms) : Int) == 53) = false := by rw [beq_eq_false_iff_ne]; omega
  have ll : ms.length ≤ 2 := by
    by_cases c : ms.length ≤ 2
    · exact c
    · have := val_low h.1 n (by intro e; rw [e] at c; simp at c)
      have := pw_mono (show 2 ≤ ms.length - 1 by omega)
      have : pw 2 = 1152921504606846976 := by decide
      omega
  have hw := h.1
  obtain ⟨a1, c1, rfl⟩ : ∃ a1 c1, v = .slice a1 ms.length c1 := by obtain ⟨_, a1, c1, e, _⟩ := h; exact ⟨a1, c1, e⟩
  have K0 := Blk.new w #[.int .i64 53, .int .i64 (-1074), .int .i64 971, .int .i64 52] 31
  have pr : Below w.heap.size w (w.alloc (.cells #[.int .i64 53, .int .i64 (-1074), .int .i64 971, .int .i64 52] 31)) := (Below.refl _ _).alloc (Nat.le_refl _) _
  have hR := h.grow pr
  go_enter Try.func109, Try.ntmps109
  go_wp2_with fail
  generalize w.alloc (.cells #[.int .i64 53, .int .i64 (-1074), .int .i64 971, .int .i64 52] 31) = W at *
  have q0 : W.cell? ⟨w.heap.size, 0, none⟩ = some (.int .i64 53) := K0.at 0
  have q1 : W.cell? ⟨w.heap.size, 1, none⟩ = some (.int .i64 (-1074)) := K0.at 1
  have q2 : W.cell? ⟨w.heap.size, 2, none⟩ = some (.int .i64 971) := K0.at 2
  have q3 : W.cell? ⟨w.heap.size, 3, none⟩ = some (.int .i64 52) := K0.at 3
  go_quiet ((go_at_call 82; exact Calls.quiet_of (Bits_q _ ms _ hR n (by omega))))
  go_wp2_with fail
  go_loop [12, 13] (fun b i => ∃ j : Nat, j ≤ ms.length ∧ i = .int .i64 ((j : Int) - 1) ∧ b = .int .u64 (val (ms.drop j))) (fun _ i => (intOf i + 1).toNat)
  case atStart => exact ⟨ms.length, Nat.le_refl _, by go_num, by simp [val]⟩
  case round =>
    obtain ⟨j, hj, rfl, rfl⟩ := hrel
    by_cases hlt : 0 < j
    · obtain ⟨i, rfl⟩ : ∃ i, j = i + 1 := ⟨j - 1, by omega⟩
      obtain ⟨b, hb⟩ : ∃ b, b = val (ms.drop (i + 1)) := ⟨_, rfl⟩
      have R := laid_step hw (by omega) hb m1
      rw [← hb]
      obtain ⟨_, _, _, e', _, _, g1⟩ := hR
      obtain ⟨b1, o1, rfl, hc⟩ := g1 (by omega)
      have cc := hc.at (i := i) (by omega)
      have bx := nth_bd hw i
      have t1 : ((i : Int) + 1 - 1) = i := by omega
      have f1 : IntKind.u64.wrap (b * 1073741824) = b * 1073741824 := by rw [IntKind.wrap_u64]; omega
      have f2 : IntKind.u64.wrap (nth ms i) = nth ms i := by rw [IntKind.wrap_u64]; omega
      have f3 := or_limb b (nth ms i) R.1 R.2.1 bx.1 bx.2
      rw [R.2.2] at f3
      clear R hb
      go_wp2
      go_round
      case rel => exact ⟨i, by omega, by go_num, rfl⟩
      case measure => simp [intOf]
    · have ej : j = 0 := by omega
      subst ej
      rw [List.drop_zero]
      have hR2 : Rd (W.drewN nq) (.slice a1 ms.length c1) ms := hR
      have K2 : Blk (W.drewN nq) w.heap.size #[.int .i64 53, .int .i64 (-1074), .int .i64 971, .int .i64 52] 31 := K0
      have pr2 : Below w.heap.size w (W.drewN nq) := ⟨pr.os, pr.tape, pr.output, pr.size, pr.block⟩
      clear q0 q1 q2 q3 K0 pr hR
      generalize W.drewN nq = W2 at *
      have q0 : W2.cell? ⟨w.heap.size, 0, none⟩ = some (.int .i64 53) := K2.at 0
      have q1 : W2.cell? ⟨w.heap.size, 1, none⟩ = some (.int .i64 (-1074)) := K2.at 1
      have q2 : W2.cell? ⟨w.heap.size, 2, none⟩ = some (.int .i64 971) := K2.at 2
      have q3 : W2.cell? ⟨w.heap.size, 3, none⟩ = some (.int .i64 52) := K2.at 3
      go_wp2_with fail
      go_quiet ((go_at_call 82; exact Calls.quiet_of (Bits_q _ ms _ hR2 n (by omega))))
      go_wp2_with (first
        | (go_at_call 61; refine (signed_w_pos _ _).mono ?_; rintro r w1 ⟨rfl, b1⟩)
        | fail)
      exact bodyPost_ret (v := .tuple #[.int .u64 (val ms), .bool false]) (by simp [results, Try.results109, go_sem]) rfl ⟨rfl, belN pr2 b1⟩
theorem laid_w (v : Value) (ms : List Int) (e way : Int) (w : World) (h : Rd w v ms) (n : Nm ms) (m1 : val ms < 9007199254740992) (e0 : -1074 ≤ e) (e1 : e ≤ 971) :
    Calls Try.prog 109 #[.agg #[.int .i64 53, .int .i64 (-1074), .int .i64 971, .int .i64 52], .bool false, v, .int .i64 e, .int .i64 way] w fun r w' => r = .returned (.tuple #[.int .u64 (lay52 (val ms) e), .bool false]) ∧ Below w.heap.size w w' := by
  unfold lay52
  split
  · exact laid_w_norm v ms e way _ _ w h n (by assumption) m1 e0 e1 rfl rfl
  · exact laid_w_small v ms e way w h n (by omega) e1
end Go.Proofs.Ytlngkonmalallaa.L

namespace Go.Proofs.Ytlngkonmalallaa.L
open Go.RowKit Tl

/-- m steps of 2 to the e go into N by D, and r is left. -/
structure Fl (N D e m r : Int) : Prop where
  eq : N * 2 ^ (-e).toNat = m * (D * 2 ^ e.toNat) + r
  r0 : 0 ≤ r
  r1 : r < D * 2 ^ e.toNat
theorem lt_pow {m : Int} {a b : Nat} (h : m * 2 ^ a < 2 ^ b) (hb : b ≤ a + 53) : m < 9007199254740992 := by
  have p := two_pow_pos a
  have q := two_pow_le hb
  rw [Int.pow_add, show (2 : Int) ^ 53 = 9007199254740992 from by decide, Int.mul_comm] at q
  exact Int.lt_of_mul_lt_mul_right (show m * 2 ^ a < 9007199254740992 * 2 ^ a by omega) (Int.le_of_lt p)
theorem ge_pow {m : Int} {a b : Nat} (h : 2 ^ b < (m + 1) * 2 ^ a) (hb : a + 52 ≤ b) : 4503599627370496 ≤ m := by
  have p := two_pow_pos a
  have q := two_pow_le hb
  rw [Int.pow_add, show (2 : Int) ^ 52 = 4503599627370496 from by decide, Int.mul_comm] at q
  have := Int.lt_of_mul_lt_mul_right (show 4503599627370496 * 2 ^ a < (m + 1) * 2 ^ a by omega) (Int.le_of_lt p)
  omega
theorem Fl.lt {N D e m r : Int} (h : Fl N D e m r) (hN : 0 < N) (hD : 0 < D) (m0 : 0 ≤ m) (he : (bl N : Int) - bl D - 52 ≤ e) : m < 9007199254740992 := by
  have bN := bl_pos hN
  have bD := bl_pos hD
  have h1 : m * (D * 2 ^ e.toNat) < 2 ^ (bl N + (-e).toNat) := by
    have a := Int.mul_lt_mul_of_pos_right bN.1 (two_pow_pos (-e).toNat)
    rw [← Int.pow_add] at a
    have := h.eq; have := h.r0; omega
  have h2 : m * 2 ^ (bl D - 1 + e.toNat) ≤ m * (D * 2 ^ e.toNat) := by
    refine Int.mul_le_mul_of_nonneg_left ?_ m0
    rw [Int.pow_add]
    exact Int.mul_le_mul_of_nonneg_right bD.2.2 (Int.le_of_lt (two_pow_pos _))
  exact lt_pow (Int.lt_of_le_of_lt h2 h1) (by omega)
theorem Fl.ge {N D e m r : Int} (h : Fl N D e m r) (hN : 0 < N) (hD : 0 < D) (m0 : 0 ≤ m) (he : e ≤ (bl N : Int) - bl D - 53) : 4503599627370496 ≤ m := by
  have bN := bl_pos hN
  have bD := bl_pos hD
  have h1 : 2 ^ (bl N - 1 + (-e).toNat) < (m + 1) * (D * 2 ^ e.toNat) := by
    have a := Int.mul_le_mul_of_nonneg_right bN.2.2 (Int.le_of_lt (two_pow_pos (-e).toNat))
    rw [← Int.pow_add] at a
    have := h.eq; have := h.r1
    have e1 : (m + 1) * (D * 2 ^ e.toNat) = m * (D * 2 ^ e.toNat) + D * 2 ^ e.toNat := by grind
    omega
  have h2 : (m + 1) * (D * 2 ^ e.toNat) ≤ (m + 1) * 2 ^ (bl D + e.toNat) := by
    refine Int.mul_le_mul_of_nonneg_left ?_ (by omega)
    rw [Int.pow_add]
    exact Int.mul_le_mul_of_nonneg_right (Int.le_of_lt bD.1) (Int.le_of_lt (two_pow_pos _))
  exact ge_pow (Int.lt_of_lt_of_le h1 h2) (by omega)
theorem half1 {X q m r m' r' : Int} (q0 : 0 < q) (h : X = m * q + r) (r0 : 0 ≤ r) (h' : X = m' * (q * 2) + r') (r1 : r' < q * 2) (hm : 9007199254740992 ≤ m) : 4503599627370496 ≤ m' := by
  have g1 := Int.mul_le_mul_of_nonneg_right hm (Int.le_of_lt q0)
  have e1 : m' * (q * 2) + q * 2 = (m' + 1) * 2 * q := by grind
  have := Int.lt_of_mul_lt_mul_right (show 9007199254740992 * q < (m' + 1) * 2 * q by omega) (Int.le_of_lt q0)
  omega
theorem half2 {X q m r m' r' : Int} (q0 : 0 < q) (h : X * 2 = m * q + r) (r0 : 0 ≤ r) (h' : X = m' * q + r') (r1 : r' < q) (hm : 9007199254740992 ≤ m) : 4503599627370496 ≤ m' := by
  have g1 := Int.mul_le_mul_of_nonneg_right hm (Int.le_of_lt q0)
  have e1 : (m' + 1) * 2 * q = m' * q * 2 + q * 2 := by grind
  have := Int.lt_of_mul_lt_mul_right (show 9007199254740992 * q < (m' + 1) * 2 * q by omega) (Int.le_of_lt q0)
  omega
/-- One place further up. -/
theorem Fl.half {N D e m r m' r' : Int} (h : Fl N D e m r) (h' : Fl N D (e + 1) m' r') (hD : 0 < D) (hm : 9007199254740992 ≤ m) : 4503599627370496 ≤ m' := by
  have e1 := h.eq
  have e2 := h'.eq
  have b := h'.r1
  by_cases he : 0 ≤ e
  · rw [show (-e).toNat = 0 from by omega] at e1
    rw [show (-(e + 1)).toNat = 0 from by omega, show (e + 1).toNat = e.toNat + 1 from by omega, Int.pow_succ, ← Int.mul_assoc D] at e2
    rw [show (e + 1).toNat = e.toNat + 1 from by omega, Int.pow_succ, ← Int.mul_assoc] at b
    exact half1 (Int.mul_pos hD (two_pow_pos _)) e1 h.r0 e2 b hm
  · rw [show (-e).toNat = (-(e + 1)).toNat + 1 from by omega, Int.pow_succ, ← Int.mul_assoc, show e.toNat = 0 from by omega] at e1
    rw [show (e + 1).toNat = 0 from by omega] at e2 b
    exact half2 (show 0 < D * 2 ^ 0 by simpa using hD) e1 h.r0 e2 b hm
theorem big_bl {m : Int} (h : 53 < bl m) : 9007199254740992 ≤ m := by
  by_cases c : 0 < m
  · have b := bl_pos c
    have := two_pow_le (show 53 ≤ bl m - 1 by omega)
    have e : (2 : Int) ^ 53 = 9007199254740992 := by decide
    omega
  · unfold bl at h; rw [if_pos (by omega)] at h; omega
theorem not_big {m : Int} (h0 : 0 ≤ m) (h : ¬ 53 < bl m) : m < 9007199254740992 := by
  by_cases c : 0 < m
  · have b := bl_pos c
    have := two_pow_le (show bl m ≤ 53 by omega)
    have e : (2 : Int) ^ 53 = 9007199254740992 := by decide
    omega
  · omega
set_option maxHeartbeats 3200000 in
set_option maxRecDepth 100000 in
/-- Size's Rounded, of floats: where nothing is lost. -/
theorem Rounded_w (v1 v2 : Value) (ns ds : List Int) (way : Int) (w : World) (h1 : Rd w v1 ns) (h2 : Rd w v2 ds) (n1 : Nm ns) (n2 : Nm ds) (l1 : ns.length ≤ 20000) (l2 : ds.length ≤ 20000) (N0 : 0 < val ns) (D0 : 0 < val ds)
    (hex : ∀ e m r : Int, Fl (val ns) (val ds) e m r → 0 ≤ m → -1074 ≤ e → m < 9007199254740992 → (e = -1074 ∨ 4503599627370496 ≤ m) → r = 0 ∧ e ≤ 971) :
    Calls Try.prog 67 #[.agg #[.int .i64 53, .int .i64 (-1074), .int .i64 971, .int .i64 52], .agg #[.bool false, v1, v2], .int .i64 way] w fun r w' => ∃ e m : Int, Fl (val ns) (val ds) e m 0 ∧ 0 ≤ m ∧ m < 9007199254740992 ∧ -1074 ≤ e ∧ (e = -1074 ∨ 4503599627370496 ≤ m) ∧ r = .returned (.tuple #[.int .u64 (lay52 m e), .bool false]) ∧ Below w.heap.size w w' := by
  have p1 : 0 < ns.length := by
    by_cases c : 0 < ns.length
    · exact c
    · rw [nm_nil c] at N0; simp [val] at N0
  obtain ⟨a1, c1, rfl⟩ : ∃ a1 c1, v1 = .slice a1 ns.length c1 := by obtain ⟨_, a1, c1, e, _⟩ := h1; exact ⟨a1, c1, e⟩
  obtain ⟨a2, c2, rfl⟩ : ∃ a1 c1, v2 = .slice a1 ds.length c1 := by obtain ⟨_, a1, c1, e, _⟩ := h2; exact ⟨a1, c1, e⟩
  have b1 := bl_len h1.1
  have b2 := bl_len h2.1
  have HEX : Hid (∀ e m r : Int, Fl (val ns) (val ds) e m r → 0 ≤ m → -1074 ≤ e → m < 9007199254740992 → (e = -1074 ∨ 4503599627370496 ≤ m) → r = 0 ∧ e ≤ 971) := hex
  clear hex
  obtain ⟨LN, hLN⟩ : ∃ L : Nat, L = bl (val ns) := ⟨_, rfl⟩
  obtain ⟨LD, hLD⟩ : ∃ L : Nat, L = bl (val ds) := ⟨_, rfl⟩
  rw [← hLN] at b1
  rw [← hLD] at b2
  have HLN : Hid (LN = bl (val ns)) := hLN
  have HLD : Hid (LD = bl (val ds)) := hLD
  clear hLN hLD
  obtain ⟨E0, hE0⟩ : ∃ E : Int, (if (LN : Int) - LD - 53 < -1074 then -1074 else (LN : Int) - LD - 53) = E := ⟨_, rfl⟩
  have E1 : -1074 ≤ E0 ∧ (LN : Int) - LD - 53 ≤ E0 ∧ (E0 = -1074 ∨ E0 = (LN : Int) - LD - 53) := by rw [← hE0]; split <;> omega
  have K1 : Blk ((w.alloc (.cells #[.int .i64 53, .int .i64 (-1074), .int .i64 971, .int .i64 52] 31)).alloc (.cells #[.bool false, .slice a1 ns.length c1, .slice a2 ds.length c2] 104)) w.heap.size #[.int .i64 53, .int .i64 (-1074), .int .i64 971, .int .i64 52] 31 := (Blk.new w _ _).alloc _
  have K2 := Blk.new (w.alloc (.cells #[.int .i64 53, .int .i64 (-1074), .int .i64 971, .int .i64 52] 31)) #[.bool false, .slice a1 ns.length c1, .slice a2 ds.length c2] 104
  simp only [World.size_alloc] at K2
  have pr : Below w.heap.size w ((w.alloc (.cells #[.int .i64 53, .int .i64 (-1074), .int .i64 971, .int .i64 52] 31)).alloc (.cells #[.bool false, .slice a1 ns.length c1, .slice a2 ds.length c2] 104)) := ((Below.refl _ _).alloc (Nat.le_refl _) _).alloc (by simp) _
  go_enter Try.func67, Try.ntmps67
  go_wp2_with (first
    | (go_at_call 103; (refine (Sign_any false a1 a2 ns.length c1 ds.length c2 _ p1).mono ?_; rintro r w1 ⟨⟨s, rfl, hs⟩, bb⟩; have hs2 : (s == 0) = false := beq_eq_false_iff_ne.2 hs; replace K1 := K1.below bb K1.lt; replace K2 := K2.below bb K2.lt; replace pr := pr.trans (bb.mono pr.size); clear bb; have e0 : w1.cell? ⟨w.heap.size, 0, none⟩ = some (.int .i64 53) := K1.at 0; have e1 : w1.cell? ⟨w.heap.size, 1, none⟩ = some (.int .i64 (-1074)) := K1.at 1; have f1 : w1.cell? ⟨w.heap.size + 1, 1, none⟩ = some (.slice a1 ns.length c1) := K2.at 1; have f2 : w1.cell? ⟨w.heap.size + 1, 2, none⟩ = some (.slice a2 ds.length c2) := K2.at 2))
    | fail)
  have g1 := h1.grow pr
  have g2 := h2.grow pr
  have B1 : ∀ k, Calls Try.prog 82 #[.slice a1 ns.length c1] (w1.drewN k) fun e w' => e = .returned (.int .i64 LN) ∧ ∃ n, w' = (w1.drewN k).drewN n := fun k => by rw [HLN.out]; exact Bits_q _ ns _ (show Rd (w1.drewN k) _ _ from g1) n1 (by omega)
  have B2 : ∀ k, Calls Try.prog 82 #[.slice a2 ds.length c2] (w1.drewN k) fun e w' => e = .returned (.int .i64 LD) ∧ ∃ n, w' = (w1.drewN k).drewN n := fun k => by rw [HLD.out]; exact Bits_q _ ds _ (show Rd (w1.drewN k) _ _ from g2) n2 (by omega)
  go_quiet (first
    | (go_at_call 82; with_reducible exact Calls.quiet_of (B1 _))
    | (go_at_call 82; with_reducible exact Calls.quiet_of (B2 _)))
  have J1 : Blk (w1.drewN nq) w.heap.size #[.int .i64 53, .int .i64 (-1074), .int .i64 971, .int .i64 52] 31 := K1
  have J2 : Blk (w1.drewN nq) (w.heap.size + 1) #[.bool false, .slice a1 ns.length c1, .slice a2 ds.length c2] 104 := K2
  have pr2 : Below w.heap.size w (w1.drewN nq) := ⟨pr.os, pr.tape, pr.output, pr.size, pr.block⟩
  clear B1 B2 e0 e1 f1 f2 K1 K2 pr g1 g2
  generalize w1.drewN nq = W at *
  have z0 : W.cell? ⟨w.heap.size, 0, none⟩ = some (.int .i64 53) := J1.at 0
  have z1 : W.cell? ⟨w.heap.size, 1, none⟩ = some (.int .i64 (-1074)) := J1.at 1
  have z2 : W.cell? ⟨w.heap.size, 2, none⟩ = some (.int .i64 971) := J1.at 2
  have z3 : W.cell? ⟨w.heap.size, 3, none⟩ = some (.int .i64 52) := J1.at 3
  have y0 : W.cell? ⟨w.heap.size + 1, 0, none⟩ = some (.bool false) := J2.at 0
  have y1 : W.cell? ⟨w.heap.size + 1, 1, none⟩ = some (.slice a1 ns.length c1) := J2.at 1
  have y2 : W.cell? ⟨w.heap.size + 1, 2, none⟩ = some (.slice a2 ds.length c2) := J2.at 2
  go_wp2_with (first
    | (go_at_call 104; (refine (floor_any 53 (-1074) 971 52 false _ _ ns ds E0 _ (h1.grow pr2) (h2.grow pr2) n1 n2 (by omega) (by omega) (by omega) (by omega) D0).mono ?_; rintro r w2 ⟨u1, u2, ms, rs, rfl, hm, nm, hr, nr, fe, r0, r1, lm, lr, bb⟩; have FL : Hid (Fl (val ns) (val ds) E0 (val ms) (val rs)) := ⟨fe, r0, r1⟩; clear fe r0 r1; replace J1 := J1.below bb J1.lt; replace J2 := J2.below bb J2.lt; replace pr2 := pr2.trans (bb.mono pr2.size); clear bb))
    | fail)
  have ST : Hid (E0 = -1074 ∨ 4503599627370496 ≤ val ms) := by
    rcases E1.2.2 with h | h
    · exact Or.inl h
    · exact Or.inr (FL.out.ge N0 D0 (val_nonneg hm.1) (by rw [← HLN.out, ← HLD.out]; omega))
  have EB : Hid (E0 ≤ 600000) := show E0 ≤ 600000 by omega
  have E00 : Hid (-1074 ≤ E0) := E1.1
  clear hE0 E1 z0 z1 z2 z3 y0 y1 y2
  go_loopw [8, 9, 10] (fun a b c wr => ∃ (e : Int) (ms rs : List Int), a = .int .i64 e ∧ Rd wr b ms ∧ Nm ms ∧ Rd wr c rs ∧ Nm rs ∧ Fl (val ns) (val ds) e (val ms) (val rs) ∧ -1074 ≤ e ∧ e ≤ 600000 ∧ (e = -1074 ∨ 4503599627370496 ≤ val ms) ∧ ms.length ≤ 2000000 ∧ rs.length ≤ 2000000 ∧ Blk wr w.heap.size #[.int .i64 53, .int .i64 (-1074), .int .i64 971, .int .i64 52] 31 ∧ Blk wr (w.heap.size + 1) #[.bool false, .slice a1 ns.length c1, .slice a2 ds.length c2] 104 ∧ Below w.heap.size w wr) (fun a _ _ _ => ((LN : Int) - LD - 52 - intOf a).toNat)
  case atStart => exact ⟨E0, ms, rs, rfl, hm, nm, hr, nr, FL.out, E00.out, EB.out, ST.out, lm, lr, J1, J2, pr2⟩
  case round =>
    clear hm nm hr nr FL ST EB E00 lm lr J1 J2 pr2
    obtain ⟨e, ms, rs, rfl, hm, nm, hr, nr, fl, e1, e2, st, lm, lr, J1, J2, pr2⟩ := hrel
    have FL : Hid (Fl (val ns) (val ds) e (val ms) (val rs)) := fl
    have ST : Hid (e = -1074 ∨ 4503599627370496 ≤ val ms) := st
    clear fl st
    obtain ⟨wl, rfl⟩ : ∃ wl : World, wl = wr := ⟨_, rfl⟩
    have z0 : wl.cell? ⟨w.heap.size, 0, none⟩ = some (.int .i64 53) := J1.at 0
    obtain ⟨LM, hLM⟩ : ∃ L : Nat, L = bl (val ms) := ⟨_, rfl⟩
    have HLM : Hid (LM = bl (val ms)) := hLM
    have B1 : ∀ k, Calls Try.prog 82 #[u9] (wl.drewN k) fun e w' => e = .returned (.int .i64 LM) ∧ ∃ n, w' = (wl.drewN k).drewN n := fun k => by rw [hLM]; exact Bits_q _ ms _ (show Rd (wl.drewN k) _ _ from hm) nm (by omega)
    clear hLM
    have m0 := val_nonneg hm.1
    by_cases hbig : 53 < LM
    · have hb2 : (53 : Int) < LM := by omega
      have mb : Hid (9007199254740992 ≤ val ms) := big_bl (by rw [← HLM.out]; exact hbig)
      have lt : e < (LN : Int) - LD - 52 := by
        by_cases c : e < (LN : Int) - LD - 52
        · exact c
        · have := FL.out.lt N0 D0 m0 (by rw [← HLN.out, ← HLD.out]; omega); have := mb.out; omega
      have ew : IntKind.i64.wrap (e + 1) = e + 1 := wrap_self _ (by omega) (by omega)
      go_wp2_with fail
      go_quiet ((go_at_call 82; with_reducible exact Calls.quiet_of (B1 _)))
      have I1 : Blk (wl.drewN nq) w.heap.size #[.int .i64 53, .int .i64 (-1074), .int .i64 971, .int .i64 52] 31 := J1
      have I2 : Blk (wl.drewN nq) (w.heap.size + 1) #[.bool false, .slice a1 ns.length c1, .slice a2 ds.length c2] 104 := J2
      have pr3 : Below w.heap.size w (wl.drewN nq) := ⟨pr2.os, pr2.tape, pr2.output, pr2.size, pr2.block⟩
      clear B1 z0 J1 J2 pr2 hm hr
      generalize wl.drewN nq = W2 at *
      have z0 : W2.cell? ⟨w.heap.size, 0, none⟩ = some (.int .i64 53) := I1.at 0
      have z1 : W2.cell? ⟨w.heap.size, 1, none⟩ = some (.int .i64 (-1074)) := I1.at 1
      have z2 : W2.cell? ⟨w.heap.size, 2, none⟩ = some (.int .i64 971) := I1.at 2
      have z3 : W2.cell? ⟨w.heap.size, 3, none⟩ = some (.int .i64 52) := I1.at 3
      have y0 : W2.cell? ⟨w.heap.size + 1, 0, none⟩ = some (.bool false) := I2.at 0
      have y1 : W2.cell? ⟨w.heap.size + 1, 1, none⟩ = some (.slice a1 ns.length c1) := I2.at 1
      have y2 : W2.cell? ⟨w.heap.size + 1, 2, none⟩ = some (.slice a2 ds.length c2) := I2.at 2
      go_wp2_with (first
        | (go_at_call 104; (refine (floor_any 53 (-1074) 971 52 false _ _ ns ds (e + 1) _ (h1.grow pr3) (h2.grow pr3) n1 n2 (by omega) (by omega) (by omega) (by omega) D0).mono ?_; rintro r w2 ⟨v1, v2, ms2, rs2, rfl, hm2, nm2, hr2, nr2, fe, r0, r1, lm2, lr2, bb⟩; have FL2 : Hid (Fl (val ns) (val ds) (e + 1) (val ms2) (val rs2)) := ⟨fe, r0, r1⟩; clear fe r0 r1; replace I1 := I1.below bb I1.lt; replace I2 := I2.below bb I2.lt; replace pr3 := pr3.trans (bb.mono pr3.size); clear bb))
        | fail)
      go_roundw
      case rel => exact ⟨e + 1, ms2, rs2, rfl, hm2, nm2, hr2, nr2, FL2.out, by omega, by omega, Or.inr (FL.out.half FL2.out D0 mb.out), lm2, lr2, I1, I2, pr3⟩
      case measure => simp [intOf]; omega
    · have hb2 : ¬ (53 : Int) < LM := by omega
      have ms1 : val ms < 9007199254740992 := not_big m0 (by rw [← HLM.out]; exact hbig)
      have RX : Hid (val rs = 0 ∧ e ≤ 971) := HEX.out e (val ms) (val rs) FL.out m0 e1 ms1 ST.out
      have ers : rs = [] := (val_eq_zero hr.1 nr).1 RX.out.1
      subst ers
      have e3 : e ≤ 971 := RX.out.2
      have FL0 : Hid (Fl (val ns) (val ds) e (val ms) 0) := FL.out
      obtain ⟨ar, cr, rfl⟩ : ∃ a1 c1, u10 = .slice a1 0 c1 := by obtain ⟨_, a1, c1, e, _⟩ := hr; exact ⟨a1, c1, e⟩
      go_wp2_with fail
      go_quiet ((go_at_call 82; with_reducible exact Calls.quiet_of (B1 _)))
      have I1 : Blk (wl.drewN nq) w.heap.size #[.int .i64 53, .int .i64 (-1074), .int .i64 971, .int .i64 52] 31 := J1
      have I2 : Blk (wl.drewN nq) (w.heap.size + 1) #[.bool false, .slice a1 ns.length c1, .slice a2 ds.length c2] 104 := J2
      have pr3 : Below w.heap.size w (wl.drewN nq) := ⟨pr2.os, pr2.tape, pr2.output, pr2.size, pr2.block⟩
      have hm2 : Rd (wl.drewN nq) u9 ms := hm
      clear B1 z0 J1 J2 pr2 hm hr
      generalize wl.drewN nq = W2 at *
      have z0 : W2.cell? ⟨w.heap.size, 0, none⟩ = some (.int .i64 53) := I1.at 0
      have z1 : W2.cell? ⟨w.heap.size, 1, none⟩ = some (.int .i64 (-1074)) := I1.at 1
      have z2 : W2.cell? ⟨w.heap.size, 2, none⟩ = some (.int .i64 971) := I1.at 2
      have z3 : W2.cell? ⟨w.heap.size, 3, none⟩ = some (.int .i64 52) := I1.at 3
      have y0 : W2.cell? ⟨w.heap.size + 1, 0, none⟩ = some (.bool false) := I2.at 0
      have y1 : W2.cell? ⟨w.heap.size + 1, 1, none⟩ = some (.slice a1 ns.length c1) := I2.at 1
      have y2 : W2.cell? ⟨w.heap.size + 1, 2, none⟩ = some (.slice a2 ds.length c2) := I2.at 2
      go_wp2_with (first
        | (go_at_call 105; (refine (scaled_any false _ _ ns ds e _ (h1.grow pr3) (h2.grow pr3) n1 n2 (by omega) (by omega) (by omega) (by omega)).mono ?_; rintro r w2 ⟨t1, t2, za, zb, rfl, _, _, _, _, _, _, _, _, bb⟩; replace I1 := I1.below bb I1.lt; replace I2 := I2.below bb I2.lt; replace pr3 := pr3.trans (bb.mono pr3.size); have hm3 := hm2.grow bb; clear bb z0 z1 z2 z3 y0 y1 y2; have z0 : w2.cell? ⟨w.heap.size, 0, none⟩ = some (.int .i64 53) := I1.at 0; have z1 : w2.cell? ⟨w.heap.size, 1, none⟩ = some (.int .i64 (-1074)) := I1.at 1; have z2 : w2.cell? ⟨w.heap.size, 2, none⟩ = some (.int .i64 971) := I1.at 2; have z3 : w2.cell? ⟨w.heap.size, 3, none⟩ = some (.int .i64 52) := I1.at 3; have y0 : w2.cell? ⟨w.heap.size + 1, 0, none⟩ = some (.bool false) := I2.at 0))
        | fail)
      go_quiet (fail)
      go_wp2_with (first
        | (go_at_call 109; refine (laid_w _ ms e way _ (show Rd (w2.drewN nq) _ _ from hm3) nm ms1 e1 e3).mono ?_; rintro r w3 ⟨rfl, bb⟩)
        | fail)
      exact bodyPost_ret (v := .tuple #[.int .u64 (lay52 (val ms) e), .bool false]) (by simp [results, Try.results67, go_sem]) rfl ⟨e, val ms, FL0.out, m0, ms1, e1, ST.out, rfl, belN pr3 bb⟩
end Go.Proofs.Ytlngkonmalallaa.L

namespace Go.Proofs.Ytlngkonmalallaa.L
open Go.RowKit Tl

theorem bl_24 {m : Int} (h0 : 8388608 ≤ m) (h1 : m < 16777216) : bl m = 24 := by
  refine (bl_unique (L := 24) (by omega) ?_ (Or.inr ?_)).symm
  · have : (2 : Int) ^ 24 = 16777216 := by decide
    omega
  · have : (2 : Int) ^ (24 - 1) = 8388608 := by decide
    omega
theorem bl_23 {m : Int} (h0 : 0 ≤ m) (h1 : m < 8388608) : bl m ≤ 23 := by
  by_cases c : 0 < m
  · have b := bl_pos c
    by_cases d : bl m ≤ 23
    · exact d
    · have := two_pow_le (show 23 ≤ bl m - 1 by omega)
      have e : (2 : Int) ^ 23 = 8388608 := by decide
      omega
  · unfold bl; rw [if_pos (by omega)]; omega
set_option maxHeartbeats 1600000 in
set_option maxRecDepth 100000 in
/-- Size's laid: what is finite, above nought. -/
theorem lays_w_norm (v : Value) (ms : List Int) (e way K Z : Int) (neg : Bool) (R : Int) (SG : ∀ w, Calls Try.prog 61 #[szW, .bool neg, .int .u64 Z] w fun e w' => e = .returned (.int .u64 R) ∧ Below w.heap.size w w') (w : World) (h : Rd w v ms) (n : Nm ms) (m0 : 4503599627370496 ≤ val ms) (m1 : val ms < 9007199254740992) (e0 : -1074 ≤ e) (e1 : e ≤ 971) (hK : e + 1075 = K) (hZ : val ms - 4503599627370496 + K * 4503599627370496 = Z) :
    Calls Try.prog 109 #[.agg #[.int .i64 53, .int .i64 (-1074), .int .i64 971, .int .i64 52], .bool neg, v, .int .i64 e, .int .i64 way] w fun r w' => r = .returned (.tuple #[.int .u64 R, .bool false]) ∧ Below w.heap.size w w' := by
  have hbl : bl (val ms) = 53 := bl_53 m0 m1
  have ll : ms.length ≤ 2 := by
    by_cases c : ms.length ≤ 2
    · exact c
    · have := val_low h.1 n (by intro e; rw [e] at c; simp at c)
      have := pw_mono (show 2 ≤ ms.length - 1 by omega)
      have : pw 2 = 1152921504606846976 := by decide
      omega
  have hw := h.1
  obtain ⟨a1, c1, rfl⟩ : ∃ a1 c1, v = .slice a1 ms.length c1 := by obtain ⟨_, a1, c1, e, _⟩ := h; exact ⟨a1, c1, e⟩
  have K0 := Blk.new w #[.int .i64 53, .int .i64 (-1074), .int .i64 971, .int .i64 52] 31
  have pr : Below w.heap.size w (w.alloc (.cells #[.int .i64 53, .int .i64 (-1074), .int .i64 971, .int .i64 52] 31)) := (Below.refl _ _).alloc (Nat.le_refl _) _
  have hR := h.grow pr
  go_enter Try.func109, Try.ntmps109
  go_wp2_with fail
  generalize w.alloc (.cells #[.int .i64 53, .int .i64 (-1074), .int .i64 971, .int .i64 52] 31) = W at *
  have q0 : W.cell? ⟨w.heap.size, 0, none⟩ = some (.int .i64 53) := K0.at 0
  have q1 : W.cell? ⟨w.heap.size, 1, none⟩ = some (.int .i64 (-1074)) := K0.at 1
  have q2 : W.cell? ⟨w.heap.size, 2, none⟩ = some (.int .i64 971) := K0.at 2
  have q3 : W.cell? ⟨w.heap.size, 3, none⟩ = some (.int .i64 52) := K0.at 3
  go_quiet ((go_at_call 82; exact Calls.quiet_of (Bits_q _ ms _ hR n (by omega))))
  go_wp2_with fail
  go_loop [12, 13] (fun b i => ∃ j : Nat, j ≤ ms.length ∧ i = .int .i64 ((j : Int) - 1) ∧ b = .int .u64 (val (ms.drop j))) (fun _ i => (intOf i + 1).toNat)
  case atStart => exact ⟨ms.length, Nat.le_refl _, by go_num, by simp [val]⟩
  case round =>
    obtain ⟨j, hj, rfl, rfl⟩ := hrel
    by_cases hlt : 0 < j
    · obtain ⟨i, rfl⟩ : ∃ i, j = i + 1 := ⟨j - 1, by omega⟩
      obtain ⟨b, hb⟩ : ∃ b, b = val (ms.drop (i + 1)) := ⟨_, rfl⟩
      have R := laid_step hw (by omega) hb (by omega)
      rw [← hb]
      obtain ⟨_, _, _, e', _, _, g1⟩ := hR
      obtain ⟨b1, o1, rfl, hc⟩ := g1 (by omega)
      have cc := hc.at (i := i) (by omega)
      have bx := nth_bd hw i
      have t1 : ((i : Int) + 1 - 1) = i := by omega
      have f1 : IntKind.u64.wrap (b * 1073741824) = b * 1073741824 := by rw [IntKind.wrap_u64]; omega
      have f2 : IntKind.u64.wrap (nth ms i) = nth ms i := by rw [IntKind.wrap_u64]; omega
      have f3 := or_limb b (nth ms i) R.1 R.2.1 bx.1 bx.2
      rw [R.2.2] at f3
      clear R hb
      go_wp2
      go_round
      case rel => exact ⟨i, by omega, by go_num, rfl⟩
      case measure => simp [intOf]
    · have ej : j = 0 := by omega
      subst ej
      rw [List.drop_zero]
      have f1 : IntKind.u64.wrap (val ms - 4503599627370496) = val ms - 4503599627370496 := by rw [IntKind.wrap_u64]; omega
      have f2 : IntKind.i64.wrap (e - -1074) = e + 1074 := by rw [Int.sub_neg]; exact wrap_self _ (by omega) (by omega)
      have f3 : IntKind.i64.wrap (e + 1074 + 1) = K := by rw [show e + 1074 + 1 = K from by omega]; exact wrap_self _ (by omega) (by omega)
      have f4 : IntKind.u64.wrap K = K := by rw [IntKind.wrap_u64]; omega
      have f5 : IntKind.u64.wrap (K * 4503599627370496) = K * 4503599627370496 := by rw [IntKind.wrap_u64]; omega
      have f6 : IntKind.u64.wrap (val ms - 4503599627370496 + K * 4503599627370496) = Z := by rw [hZ, IntKind.wrap_u64]; omega
      have hR2 : Rd (W.drewN nq) (.slice a1 ms.length c1) ms := hR
      have K2 : Blk (W.drewN nq) w.heap.size #[.int .i64 53, .int .i64 (-1074), .int .i64 971, .int .i64 52] 31 := K0
      have pr2 : Below w.heap.size w (W.drewN nq) := ⟨pr.os, pr.tape, pr.output, pr.size, pr.block⟩
      clear hK hZ q0 q1 q2 q3 K0 pr hR
      generalize W.drewN nq = W2 at *
      have q0 : W2.cell? ⟨w.heap.size, 0, none⟩ = some (.int .i64 53) := K2.at 0
      have q1 : W2.cell? ⟨w.heap.size, 1, none⟩ = some (.int .i64 (-1074)) := K2.at 1
      have q2 : W2.cell? ⟨w.heap.size, 2, none⟩ = some (.int .i64 971) := K2.at 2
      have q3 : W2.cell? ⟨w.heap.size, 3, none⟩ = some (.int .i64 52) := K2.at 3
      go_wp2_with fail
      go_quiet ((go_at_call 82; exact Calls.quiet_of (Bits_q _ ms _ hR2 n (by omega))))
      go_wp2_with fail
      go_quiet (fail)
      go_wp2_with (first
        | (go_at_call 61; refine (SG _).mono ?_; rintro r w1 ⟨rfl, b1⟩)
        | fail)
      exact bodyPost_ret (v := .tuple #[.int .u64 R, .bool false]) (by simp [results, Try.results109, go_sem]) rfl ⟨rfl, belN pr2 b1⟩
set_option maxHeartbeats 1600000 in
set_option maxRecDepth 100000 in
/-- Size's laid: what is finite, above nought. -/
theorem lays_w_small (v : Value) (ms : List Int) (e way : Int) (neg : Bool) (R : Int) (SG : ∀ w, Calls Try.prog 61 #[szW, .bool neg, .int .u64 (val ms)] w fun e w' => e = .returned (.int .u64 R) ∧ Below w.heap.size w w') (w : World) (h : Rd w v ms) (n : Nm ms) (m0 : val ms < 4503599627370496) (e1 : e ≤ 971) :
    Calls Try.prog 109 #[.agg #[.int .i64 53, .int .i64 (-1074), .int .i64 971, .int .i64 52], .bool neg, v, .int .i64 e, .int .i64 way] w fun r w' => r = .returned (.tuple #[.int .u64 R, .bool false]) ∧ Below w.heap.size w w' := by
  have m1 : val ms < 9007199254740992 := by omega
  have hbl := bl_52 (val_nonneg h.1) m0
  have hb2 : ((bl (val ms) : Int) == 53) = false := by rw [beq_eq_false_iff_ne]; omega
  have ll : ms.length ≤ 2 := by
    by_cases c : ms.length ≤ 2
    · exact c
    · have := val_low h.1 n (by intro e; rw [e] at c; simp at c)
      have := pw_mono (show 2 ≤ ms.length - 1 by omega)
      have : pw 2 = 1152921504606846976 := by decide
      omega
  have hw := h.1
  obtain ⟨a1, c1, rfl⟩ : ∃ a1 c1, v = .slice a1 ms.length c1 := by obtain ⟨_, a1, c1, e, _⟩ := h; exact ⟨a1, c1, e⟩
  have K0 := Blk.new w #[.int .i64 53, .int .i64 (-1074), .int .i64 971, .int .i64 52] 31
  have pr : Below w.heap.size w (w.alloc (.cells #[.int .i64 53, .int .i64 (-1074), .int .i64 971, .int .i64 52] 31)) := (Below.refl _ _).alloc (Nat.le_refl _) _
  have hR := h.grow pr
  go_enter Try.func109, Try.ntmps109
  go_wp2_with fail
  generalize w.alloc (.cells #[.int .i64 53, .int .i64 (-1074), .int .i64 971, .int .i64 52] 31) = W at *
  have q0 : W.cell? ⟨w.heap.size, 0, none⟩ = some (.int .i64 53) := K0.at 0
  have q1 : W.cell? ⟨w.heap.size, 1, none⟩ = some (.int .i64 (-1074)) := K0.at 1
  have q2 : W.cell? ⟨w.heap.size, 2, none⟩ = some (.int .i64 971) := K0.at 2
  have q3 : W.cell? ⟨w.heap.size, 3, none⟩ = some (.int .i64 52) := K0.at 3
  go_quiet ((go_at_call 82; exact Calls.quiet_of (Bits_q _ ms _ hR n (by omega))))
  go_wp2_with fail
  go_loop [12, 13] (fun b i => ∃ j : Nat, j ≤ ms.length ∧ i = .int .i64 ((j : Int) - 1) ∧ b = .int .u64 (val (ms.drop j))) (fun _ i => (intOf i + 1).toNat)
  case atStart => exact ⟨ms.length, Nat.le_refl _, by go_num, by simp [val]⟩
  case round =>
    obtain ⟨j, hj, rfl, rfl⟩ := hrel
    by_cases hlt : 0 < j
    · obtain ⟨i, rfl⟩ : ∃ i, j = i + 1 := ⟨j - 1, by omega⟩
      obtain ⟨b, hb⟩ : ∃ b, b = val (ms.drop (i + 1)) := ⟨_, rfl⟩
      have R := laid_step hw (by omega) hb (by omega)
      rw [← hb]
      obtain ⟨_, _, _, e', _, _, g1⟩ := hR
      obtain ⟨b1, o1, rfl, hc⟩ := g1 (by omega)
      have cc := hc.at (i := i) (by omega)
      have bx := nth_bd hw i
      have t1 : ((i : Int) + 1 - 1) = i := by omega
      have f1 : IntKind.u64.wrap (b * 1073741824) = b * 1073741824 := by rw [IntKind.wrap_u64]; omega
      have f2 : IntKind.u64.wrap (nth ms i) = nth ms i := by rw [IntKind.wrap_u64]; omega
      have f3 := or_limb b (nth ms i) R.1 R.2.1 bx.1 bx.2
      rw [R.2.2] at f3
      clear R hb
      go_wp2
      go_round
      case rel => exact ⟨i, by omega, by go_num, rfl⟩
      case measure => simp [intOf]
    · have ej : j = 0 := by omega
      subst ej
      rw [List.drop_zero]
      have hR2 : Rd (W.drewN nq) (.slice a1 ms.length c1) ms := hR
      have K2 : Blk (W.drewN nq) w.heap.size #[.int .i64 53, .int .i64 (-1074), .int .i64 971, .int .i64 52] 31 := K0
      have pr2 : Below w.heap.size w (W.drewN nq) := ⟨pr.os, pr.tape, pr.output, pr.size, pr.block⟩
      clear q0 q1 q2 q3 K0 pr hR
      generalize W.drewN nq = W2 at *
      have q0 : W2.cell? ⟨w.heap.size, 0, none⟩ = some (.int .i64 53) := K2.at 0
      have q1 : W2.cell? ⟨w.heap.size, 1, none⟩ = some (.int .i64 (-1074)) := K2.at 1
      have q2 : W2.cell? ⟨w.heap.size, 2, none⟩ = some (.int .i64 971) := K2.at 2
      have q3 : W2.cell? ⟨w.heap.size, 3, none⟩ = some (.int .i64 52) := K2.at 3
      go_wp2_with fail
      go_quiet ((go_at_call 82; exact Calls.quiet_of (Bits_q _ ms _ hR2 n (by omega))))
      go_wp2_with (first
        | (go_at_call 61; refine (SG _).mono ?_; rintro r w1 ⟨rfl, b1⟩)
        | fail)
      exact bodyPost_ret (v := .tuple #[.int .u64 R, .bool false]) (by simp [results, Try.results109, go_sem]) rfl ⟨rfl, belN pr2 b1⟩
set_option maxHeartbeats 1600000 in
set_option maxRecDepth 100000 in
/-- Size's laid: what is finite, above nought. -/
theorem lays_s_norm (v : Value) (ms : List Int) (e way K Z : Int) (neg : Bool) (R : Int) (SG : ∀ w, Calls Try.prog 61 #[szS, .bool neg, .int .u64 Z] w fun e w' => e = .returned (.int .u64 R) ∧ Below w.heap.size w w') (w : World) (h : Rd w v ms) (n : Nm ms) (m0 : 8388608 ≤ val ms) (m1 : val ms < 16777216) (e0 : -149 ≤ e) (e1 : e ≤ 104) (hK : e + 150 = K) (hZ : val ms - 8388608 + K * 8388608 = Z) :
    Calls Try.prog 109 #[.agg #[.int .i64 24, .int .i64 (-149), .int .i64 104, .int .i64 23], .bool neg, v, .int .i64 e, .int .i64 way] w fun r w' => r = .returned (.tuple #[.int .u64 R, .bool false]) ∧ Below w.heap.size w w' := by
  have hbl : bl (val ms) = 24 := bl_24 m0 m1
  have ll : ms.length ≤ 2 := by
    by_cases c : ms.length ≤ 2
    · exact c
    · have := val_low h.1 n (by intro e; rw [e] at c; simp at c)
      have := pw_mono (show 2 ≤ ms.length - 1 by omega)
      have : pw 2 = 1152921504606846976 := by decide
      omega
  have hw := h.1
  obtain ⟨a1, c1, rfl⟩ : ∃ a1 c1, v = .slice a1 ms.length c1 := by obtain ⟨_, a1, c1, e, _⟩ := h; exact ⟨a1, c1, e⟩
  have K0 := Blk.new w #[.int .i64 24, .int .i64 (-149), .int .i64 104, .int .i64 23] 31
  have pr : Below w.heap.size w (w.alloc (.cells #[.int .i64 24, .int .i64 (-149), .int .i64 104, .int .i64 23] 31)) := (Below.refl _ _).alloc (Nat.le_refl _) _
  have hR := h.grow pr
  go_enter Try.func109, Try.ntmps109
  go_wp2_with fail
  generalize w.alloc (.cells #[.int .i64 24, .int .i64 (-149), .int .i64 104, .int .i64 23] 31) = W at *
  have q0 : W.cell? ⟨w.heap.size, 0, none⟩ = some (.int .i64 24) := K0.at 0
  have q1 : W.cell? ⟨w.heap.size, 1, none⟩ = some (.int .i64 (-149)) := K0.at 1
  have q2 : W.cell? ⟨w.heap.size, 2, none⟩ = some (.int .i64 104) := K0.at 2
  have q3 : W.cell? ⟨w.heap.size, 3, none⟩ = some (.int .i64 23) := K0.at 3
  go_quiet ((go_at_call 82; exact Calls.quiet_of (Bits_q _ ms _ hR n (by omega))))
  go_wp2_with fail
  go_loop [12, 13] (fun b i => ∃ j : Nat, j ≤ ms.length ∧ i = .int .i64 ((j : Int) - 1) ∧ b = .int .u64 (val (ms.drop j))) (fun _ i => (intOf i + 1).toNat)
  case atStart => exact ⟨ms.length, Nat.le_refl _, by go_num, by simp [val]⟩
  case round =>
    obtain ⟨j, hj, rfl, rfl⟩ := hrel
    by_cases hlt : 0 < j
    · obtain ⟨i, rfl⟩ : ∃ i, j = i + 1 := ⟨j - 1, by omega⟩
      obtain ⟨b, hb⟩ : ∃ b, b = val (ms.drop (i + 1)) := ⟨_, rfl⟩
      have R := laid_step hw (by omega) hb (by omega)
      rw [← hb]
      obtain ⟨_, _, _, e', _, _, g1⟩ := hR
      obtain ⟨b1, o1, rfl, hc⟩ := g1 (by omega)
      have cc := hc.at (i := i) (by omega)
      have bx := nth_bd hw i
      have t1 : ((i : Int) + 1 - 1) = i := by omega
      have f1 : IntKind.u64.wrap (b * 1073741824) = b * 1073741824 := by rw [IntKind.wrap_u64]; omega
      have f2 : IntKind.u64.wrap (nth ms i) = nth ms i := by rw [IntKind.wrap_u64]; omega
      have f3 := or_limb b (nth ms i) R.1 R.2.1 bx.1 bx.2
      rw [R.2.2] at f3
      clear R hb
      go_wp2
      go_round
      case rel => exact ⟨i, by omega, by go_num, rfl⟩
      case measure => simp [intOf]
    · have ej : j = 0 := by omega
      subst ej
      rw [List.drop_zero]
      have f1 : IntKind.u64.wrap (val ms - 8388608) = val ms - 8388608 := by rw [IntKind.wrap_u64]; omega
      have f2 : IntKind.i64.wrap (e - -149) = e + 149 := by rw [Int.sub_neg]; exact wrap_self _ (by omega) (by omega)
      have f3 : IntKind.i64.wrap (e + 149 + 1) = K := by rw [show e + 149 + 1 = K from by omega]; exact wrap_self _ (by omega) (by omega)
      have f4 : IntKind.u64.wrap K = K := by rw [IntKind.wrap_u64]; omega
      have f5 : IntKind.u64.wrap (K * 8388608) = K * 8388608 := by rw [IntKind.wrap_u64]; omega
      have f6 : IntKind.u64.wrap (val ms - 8388608 + K * 8388608) = Z := by rw [hZ, IntKind.wrap_u64]; omega
      have hR2 : Rd (W.drewN nq) (.slice a1 ms.length c1) ms := hR
      have K2 : Blk (W.drewN nq) w.heap.size #[.int .i64 24, .int .i64 (-149), .int .i64 104, .int .i64 23] 31 := K0
      have pr2 : Below w.heap.size w (W.drewN nq) := ⟨pr.os, pr.tape, pr.output, pr.size, pr.block⟩
      clear hK hZ q0 q1 q2 q3 K0 pr hR
      generalize W.drewN nq = W2 at *
      have q0 : W2.cell? ⟨w.heap.size, 0, none⟩ = some (.int .i64 24) := K2.at 0
      have q1 : W2.cell? ⟨w.heap.size, 1, none⟩ = some (.int .i64 (-149)) := K2.at 1
      have q2 : W2.cell? ⟨w.heap.size, 2, none⟩ = some (.int .i64 104) := K2.at 2
      have q3 : W2.cell? ⟨w.heap.size, 3, none⟩ = some (.int .i64 23) := K2.at 3
      go_wp2_with fail
      go_quiet ((go_at_call 82; exact Calls.quiet_of (Bits_q _ ms _ hR2 n (by omega))))
      go_wp2_with fail
      go_quiet (fail)
      go_wp2_with (first
        | (go_at_call 61; refine (SG _).mono ?_; rintro r w1 ⟨rfl, b1⟩)
        | fail)
      exact bodyPost_ret (v := .tuple #[.int .u64 R, .bool false]) (by simp [results, Try.results109, go_sem]) rfl ⟨rfl, belN pr2 b1⟩
set_option maxHeartbeats 1600000 in
set_option maxRecDepth 100000 in
/-- Size's laid: what is finite, above nought. -/
theorem lays_s_small (v : Value) (ms : List Int) (e way : Int) (neg : Bool) (R : Int) (SG : ∀ w, Calls Try.prog 61 #[szS, .bool neg, .int .u64 (val ms)] w fun e w' => e = .returned (.int .u64 R) ∧ Below w.heap.size w w') (w : World) (h : Rd w v ms) (n : Nm ms) (m0 : val ms < 8388608) (e1 : e ≤ 104) :
    Calls Try.prog 109 #[.agg #[.int .i64 24, .int .i64 (-149), .int .i64 104, .int .i64 23], .bool neg, v, .int .i64 e, .int .i64 way] w fun r w' => r = .returned (.tuple #[.int .u64 R, .bool false]) ∧ Below w.heap.size w w' := by
  have m1 : val ms < 16777216 := by omega
  have hbl := bl_23 (val_nonneg h.1) m0
  have hb2 : ((bl (val ms) : Int) == 24) = false := by rw [beq_eq_false_iff_ne]; omega
  have ll : ms.length ≤ 2 := by
    by_cases c : ms.length ≤ 2
    · exact c
    · have := val_low h.1 n (by intro e; rw [e] at c; simp at c)
      have := pw_mono (show 2 ≤ ms.length - 1 by omega)
      have : pw 2 = 1152921504606846976 := by decide
      omega
  have hw := h.1
  obtain ⟨a1, c1, rfl⟩ : ∃ a1 c1, v = .slice a1 ms.length c1 := by obtain ⟨_, a1, c1, e, _⟩ := h; exact ⟨a1, c1, e⟩
  have K0 := Blk.new w #[.int .i64 24, .int .i64 (-149), .int .i64 104, .int .i64 23] 31
  have pr : Below w.heap.size w (w.alloc (.cells #[.int .i64 24, .int .i64 (-149), .int .i64 104, .int .i64 23] 31)) := (Below.refl _ _).alloc (Nat.le_refl _) _
  have hR := h.grow pr
  go_enter Try.func109, Try.ntmps109
  go_wp2_with fail
  generalize w.alloc (.cells #[.int .i64 24, .int .i64 (-149), .int .i64 104, .int .i64 23] 31) = W at *
  have q0 : W.cell? ⟨w.heap.size, 0, none⟩ = some (.int .i64 24) := K0.at 0
  have q1 : W.cell? ⟨w.heap.size, 1, none⟩ = some (.int .i64 (-149)) := K0.at 1
  have q2 : W.cell? ⟨w.heap.size, 2, none⟩ = some (.int .i64 104) := K0.at 2
  have q3 : W.cell? ⟨w.heap.size, 3, none⟩ = some (.int .i64 23) := K0.at 3
  go_quiet ((go_at_call 82; exact Calls.quiet_of (Bits_q _ ms _ hR n (by omega))))
  go_wp2_with fail
  go_loop [12, 13] (fun b i => ∃ j : Nat, j ≤ ms.length ∧ i = .int .i64 ((j : Int) - 1) ∧ b = .int .u64 (val (ms.drop j))) (fun _ i => (intOf i + 1).toNat)
  case atStart => exact ⟨ms.length, Nat.le_refl _, by go_num, by simp [val]⟩
  case round =>
    obtain ⟨j, hj, rfl, rfl⟩ := hrel
    by_cases hlt : 0 < j
    · obtain ⟨i, rfl⟩ : ∃ i, j = i + 1 := ⟨j - 1, by omega⟩
      obtain ⟨b, hb⟩ : ∃ b, b = val (ms.drop (i + 1)) := ⟨_, rfl⟩
      have R := laid_step hw (by omega) hb (by omega)
      rw [← hb]
      obtain ⟨_, _, _, e', _, _, g1⟩ := hR
      obtain ⟨b1, o1, rfl, hc⟩ := g1 (by omega)
      have cc := hc.at (i := i) (by omega)
      have bx := nth_bd hw i
      have t1 : ((i : Int) + 1 - 1) = i := by omega
      have f1 : IntKind.u64.wrap (b * 1073741824) = b * 1073741824 := by rw [IntKind.wrap_u64]; omega
      have f2 : IntKind.u64.wrap (nth ms i) = nth ms i := by rw [IntKind.wrap_u64]; omega
      have f3 := or_limb b (nth ms i) R.1 R.2.1 bx.1 bx.2
      rw [R.2.2] at f3
      clear R hb
      go_wp2
      go_round
      case rel => exact ⟨i, by omega, by go_num, rfl⟩
      case measure => simp [intOf]
    · have ej : j = 0 := by omega
      subst ej
      rw [List.drop_zero]
      have hR2 : Rd (W.drewN nq) (.slice a1 ms.length c1) ms := hR
      have K2 : Blk (W.drewN nq) w.heap.size #[.int .i64 24, .int .i64 (-149), .int .i64 104, .int .i64 23] 31 := K0
      have pr2 : Below w.heap.size w (W.drewN nq) := ⟨pr.os, pr.tape, pr.output, pr.size, pr.block⟩
      clear q0 q1 q2 q3 K0 pr hR
      generalize W.drewN nq = W2 at *
      have q0 : W2.cell? ⟨w.heap.size, 0, none⟩ = some (.int .i64 24) := K2.at 0
      have q1 : W2.cell? ⟨w.heap.size, 1, none⟩ = some (.int .i64 (-149)) := K2.at 1
      have q2 : W2.cell? ⟨w.heap.size, 2, none⟩ = some (.int .i64 104) := K2.at 2
      have q3 : W2.cell? ⟨w.heap.size, 3, none⟩ = some (.int .i64 23) := K2.at 3
      go_wp2_with fail
      go_quiet ((go_at_call 82; exact Calls.quiet_of (Bits_q _ ms _ hR2 n (by omega))))
      go_wp2_with (first
        | (go_at_call 61; refine (SG _).mono ?_; rintro r w1 ⟨rfl, b1⟩)
        | fail)
      exact bodyPost_ret (v := .tuple #[.int .u64 R, .bool false]) (by simp [results, Try.results109, go_sem]) rfl ⟨rfl, belN pr2 b1⟩
end Go.Proofs.Ytlngkonmalallaa.L
