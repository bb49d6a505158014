import Derived.Test.YtjgljcifnklmeaaB18
import Derived.Test.YtjgljcifnklmeaaFl3
import Derived.Test.YtjgljcifnklmeaaFlM
namespace Go.Proofs.Ytjgljcifnklmeaa.L
open Go.RowKit Tl

theorem Bits_q (v : Value) (xs : List Int) (w : World) (h : Rd w v xs) (n : Nm xs) (hL : xs.length ≤ 1099511627776) :
    Calls Try.prog 71 #[v] w fun e w' => e = .returned (.int .i64 (bl (val xs) : Nat)) ∧ ∃ n, w' = w.drewN n := by
  refine (Bits_fn v xs w h n hL).mono ?_
  rintro e w' ⟨rfl, rfl⟩
  exact ⟨rfl, 0, rfl⟩
theorem belN {n : Nat} {w W w1 : World} (h : Below w.heap.size w W) (k : Below (W.drewN n).heap.size (W.drewN n) w1) : Below w.heap.size w w1 := h.trans (Below.mono (show Below W.heap.size W w1 from ⟨k.os, k.tape, k.output, k.size, k.block⟩) h.size)
/-- The bits of m times 2 to the e. -/
def lay52 (m e : Int) : Int := if 4503599627370496 ≤ m then m - 4503599627370496 + (e + 1075) * 4503599627370496 else m
theorem bl_53 {m : Int} (h0 : 4503599627370496 ≤ m) (h1 : m < 9007199254740992) : bl m = 53 := by
  refine (bl_unique (L := 53) (by omega) ?_ (Or.inr ?_)).symm
  · have : (2 : Int) ^ 53 = 9007199254740992 := by decide
    omega
  · have : (2 : Int) ^ (53 - 1) = 4503599627370496 := by decide
    omega
theorem bl_52 {m : Int} (h0 : 0 ≤ m) (h1 : m < 4503599627370496) : bl m ≤ 52 := by
  by_cases c : 0 < m
  · have b := bl_pos c
    by_cases d : bl m ≤ 52
    · exact d
    · have := two_pow_le (show 52 ≤ bl m - 1 by omega)
      have e : (2 : Int) ^ 52 = 4503599627370496 := by decide
      omega
  · unfold bl; rw [if_pos (by omega)]; omega
theorem or_limb (b m : Int) (b0 : 0 ≤ b) (b1 : b < 17179869184) (m0 : 0 ≤ m) (m1 : m < 1073741824) : bits .or .u64 (b * 1073741824) m = b * 1073741824 + m := by
  obtain ⟨x, rfl⟩ := Int.eq_ofNat_of_zero_le b0
  obtain ⟨y, rfl⟩ := Int.eq_ofNat_of_zero_le m0
  have e := bits_or_u64_nat (1073741824 * x) y (by omega) (by omega)
  rw [Tn.or_high x y 30 1073741824 (by decide) (by omega)] at e
  rw [show (x : Int) * 1073741824 = ((1073741824 * x : Nat) : Int) from by omega, e]
  omega
theorem laid_step {ms : List Int} {i : Nat} {b : Int} (h : Wd ms) (hi : i < ms.length) (hb : b = val (ms.drop (i + 1))) (hm : val ms < 9007199254740992) : 0 ≤ b ∧ b < 17179869184 ∧ b * 1073741824 + nth ms i = val (ms.drop i) := by
  have e := drop_getD ms i hi
  have d0 := val_nonneg (h.drop (i + 1))
  have d1 := val_nonneg (h.drop i)
  have bx := nth_bd h i
  have e2 : val (ms.drop i) = nth ms i + 1073741824 * val (ms.drop (i + 1)) := by rw [e]; rfl
  have s := val_split ms i (by omega)
  have t0 := val_nonneg (h.take i)
  have p := pw_pos i
  have := Int.mul_le_mul_of_nonneg_right (show 1 ≤ pw i by omega) d1
  omega
set_option maxHeartbeats 1600000 in
set_option maxRecDepth 100000 in
/-- Size's laid: what is finite, above nought. -/
theorem laid_w_norm (v : Value) (ms : List Int) (e way K Z : Int) (w : World) (h : Rd w v ms) (n : Nm ms) (m0 : 4503599627370496 ≤ val ms) (m1 : val ms < 9007199254740992) (e0 : -1074 ≤ e) (e1 : e ≤ 971) (hK : e + 1075 = K) (hZ : val ms - 4503599627370496 + K * 4503599627370496 = Z) :
    Calls Try.prog 90 #[.agg #[.int .i64 53, .int .i64 (-1074), .int .i64 971, .int .i64 52], .bool false, v, .int .i64 e, .int .i64 way] w fun r w' => r = .returned (.tuple #[.int .u64 Z, .bool false]) ∧ Below w.heap.size w w' := by
  have hbl : bl (val ms) = 53 := bl_53 m0 m1
  have ll : ms.length ≤ 2 := by
    by_cases c : ms.length ≤ 2
    · exact c
    · have := val_low h.1 n (by intro e; rw [e] at c; simp at c)
      have := pw_mono (show 2 ≤ ms.length - 1 by omega)
      have : pw 2 = 1152921504606846976 := by decide
      omega
  have hw := h.1
  obtain ⟨a1, c1, rfl⟩ : ∃ a1 c1, v = .slice a1 ms.length c1 := by obtain ⟨_, a1, c1, e, _⟩ := h; exact ⟨a1, c1, e⟩
  have K0 := Blk.new w #[.int .i64 53, .int .i64 (-1074), .int .i64 971, .int .i64 52] 31
  have pr : Below w.heap.size w (w.alloc (.cells #[.int .i64 53, .int .i64 (-1074), .int .i64 971, .int .i64 52] 31)) := (Below.refl _ _).alloc (Nat.le_refl _) _
  have hR := h.grow pr
  go_enter Try.func90, Try.ntmps90
  go_wp2_with fail
  generalize w.alloc (.cells #[.int .i64 53, .int .i64 (-1074), .int .i64 971, .int .i64 52] 31) = W at *
  have q0 : W.cell? ⟨w.heap.size, 0, none⟩ = some (.int .i64 53) := K0.at 0
  have q1 : W.cell? ⟨w.heap.size, 1, none⟩ = some (.int .i64 (-1074)) := K0.at 1
  have q2 : W.cell? ⟨w.heap.size, 2, none⟩ = some (.int .i64 971) := K0.at 2
  have q3 : W.cell? ⟨w.heap.size, 3, none⟩ = some (.int .i64 52) := K0.at 3
  go_quiet ((go_at_call 71; exact Calls.quiet_of (Bits_q _ ms _ hR n (by omega))))
  go_wp2_with fail
  go_loop [12, 13] (fun b i => ∃ j : Nat, j ≤ ms.length ∧ i = .int .i64 ((j : Int) - 1) ∧ b = .int .u64 (val (ms.drop j))) (fun _ i => (intOf i + 1).toNat)
  case atStart => exact ⟨ms.length, Nat.le_refl _, by go_num, by simp [val]⟩
  case round =>
    obtain ⟨j, hj, rfl, rfl⟩ := hrel
    by_cases hlt : 0 < j
    · obtain ⟨i, rfl⟩ : ∃ i, j = i + 1 := ⟨j - 1, by omega⟩
      obtain ⟨b, hb⟩ : ∃ b, b = val (ms.drop (i + 1)) := ⟨_, rfl⟩
      have R := laid_step hw (by omega) hb m1
      rw [← hb]
      obtain ⟨_, _, _, e', _, _, g1⟩ := hR
      obtain ⟨b1, o1, rfl, hc⟩ := g1 (by omega)
      have cc := hc.at (i := i) (by omega)
      have bx := nth_bd hw i
      have t1 : ((i : Int) + 1 - 1) = i := by omega
      have f1 : IntKind.u64.wrap (b * 1073741824) = b * 1073741824 := by rw [IntKind.wrap_u64]; omega
      have f2 : IntKind.u64.wrap (nth ms i) = nth ms i := by rw [IntKind.wrap_u64]; omega
      have f3 := or_limb b (nth ms i) R.1 R.2.1 bx.1 bx.2
      rw [R.2.2] at f3
      clear R hb
      go_wp2
      go_round
      case rel => exact ⟨i, by omega, by go_num, rfl⟩
      case measure => simp [intOf]
    · have ej : j = 0 := by omega
      subst ej
      rw [List.drop_zero]
      have f1 : IntKind.u64.wrap (val ms - 4503599627370496) = val ms - 4503599627370496 := by rw [IntKind.wrap_u64]; omega
      have f2 : IntKind.i64.wrap (e - -1074) = e + 1074 := by rw [Int.sub_neg]; exact wrap_self _ (by omega) (by omega)
      have f3 : IntKind.i64.wrap (e + 1074 + 1) = K := by rw [show e + 1074 + 1 = K from by omega]; exact wrap_self _ (by omega) (by omega)
      have f4 : IntKind.u64.wrap K = K := by rw [IntKind.wrap_u64]; omega
      have f5 : IntKind.u64.wrap (K * 4503599627370496) = K * 4503599627370496 := by rw [IntKind.wrap_u64]; omega
      have f6 : IntKind.u64.wrap (val ms - 4503599627370496 + K * 4503599627370496) = Z := by rw [hZ, IntKind.wrap_u64]; omega
      have hR2 : Rd (W.drewN nq) (.slice a1 ms.length c1) ms := hR
      have K2 : Blk (W.drewN nq) w.heap.size #[.int .i64 53, .int .i64 (-1074), .int .i64 971, .int .i64 52] 31 := K0
      have pr2 : Below w.heap.size w (W.drewN nq) := ⟨pr.os, pr.tape, pr.output, pr.size, pr.block⟩
      clear hK hZ q0 q1 q2 q3 K0 pr hR
      generalize W.drewN nq = W2 at *
      have q0 : W2.cell? ⟨w.heap.size, 0, none⟩ = some (.int .i64 53) := K2.at 0
      have q1 : W2.cell? ⟨w.heap.size, 1, none⟩ = some (.int .i64 (-1074)) := K2.at 1
      have q2 : W2.cell? ⟨w.heap.size, 2, none⟩ = some (.int .i64 971) := K2.at 2
      have q3 : W2.cell? ⟨w.heap.size, 3, none⟩ = some (.int .i64 52) := K2.at 3
      go_wp2_with fail
      go_quiet ((go_at_call 71; exact Calls.quiet_of (Bits_q _ ms _ hR2 n (by omega))))
      go_wp2_with fail
      go_quiet (fail)
      go_wp2_with (first
        | (go_at_call 50; refine (signed_w_pos _ _).mono ?_; rintro r w1 ⟨rfl, b1⟩)
        | fail)
      exact bodyPost_ret (v := .tuple #[.int .u64 Z, .bool false]) (by simp [results, Try.results90, go_sem]) rfl ⟨rfl, belN pr2 b1⟩
set_option maxHeartbeats 1600000 in
set_option maxRecDepth 100000 in
/-- Size's laid: what is finite, above nought. -/
theorem laid_w_small (v : Value) (ms : List Int) (e way : Int) (w : World) (h : Rd w v ms) (n : Nm ms) (m0 : val ms < 4503599627370496) (e1 : e ≤ 971) :
    Calls Try.prog 90 #[.agg #[.int .i64 53, .int .i64 (-1074), .int .i64 971, .int .i64 52], .bool false, v, .int .i64 e, .int .i64 way] w fun r w' => r = .returned (.tuple #[.int .u64 (val ms), .bool false]) ∧ Below w.heap.size w w' := by
  have m1 : val ms < 9007199254740992 := by omega
  have hbl := bl_52 (val_nonneg h.1) m0
  have hb2 : ((bl (val ms) : Int) == 53) = false := by rw [beq_eq_false_iff_ne]; omega
  have ll : ms.length ≤ 2 := by
    by_cases c : ms.length ≤ 2
    · exact c
    · have := val_low h.1 n (by intro e; rw [e] at c; simp at c)
      have := pw_mono (show 2 ≤ ms.length - 1 by omega)
      have : pw 2 = 1152921504606846976 := by decide
      omega
  have hw := h.1
  obtain ⟨a1, c1, rfl⟩ : ∃ a1 c1, v = .slice a1 ms.length c1 := by obtain ⟨_, a1, c1, e, _⟩ := h; exact ⟨a1, c1, e⟩
  have K0 := Blk.new w #[.int .i64 53, .int .i64 (-1074), .int .i64 971, .int .i64 52] 31
  have pr : Below w.heap.size w (w.alloc (.cells #[.int .i64 53, .int .i64 (-1074), .int .i64 971, .int .i64 52] 31)) := (Below.refl _ _).alloc (Nat.le_refl _) _
  have hR := h.grow pr
  go_enter Try.func90, Try.ntmps90
  go_wp2_with fail
  generalize w.alloc (.cells #[.int .i64 53, .int .i64 (-1074), .int .i64 971, .int .i64 52] 31) = W at *
  have q0 : W.cell? ⟨w.heap.size, 0, none⟩ = some (.int .i64 53) := K0.at 0
  have q1 : W.cell? ⟨w.heap.size, 1, none⟩ = some (.int .i64 (-1074)) := K0.at 1
  have q2 : W.cell? ⟨w.heap.size, 2, none⟩ = some (.int .i64 971) := K0.at 2
  have q3 : W.cell? ⟨w.heap.size, 3, none⟩ = some (.int .i64 52) := K0.at 3
  go_quiet ((go_at_call 71; exact Calls.quiet_of (Bits_q _ ms _ hR n (by omega))))
  go_wp2_with fail
  go_loop [12, 13] (fun b i => ∃ j : Nat, j ≤ ms.length ∧ i = .int .i64 ((j : Int) - 1) ∧ b = .int .u64 (val (ms.drop j))) (fun _ i => (intOf i + 1).toNat)
  case atStart => exact ⟨ms.length, Nat.le_refl _, by go_num, by simp [val]⟩
  case round =>
    obtain ⟨j, hj, rfl, rfl⟩ := hrel
    by_cases hlt : 0 < j
    · obtain ⟨i, rfl⟩ : ∃ i, j = i + 1 := ⟨j - 1, by omega⟩
      obtain ⟨b, hb⟩ : ∃ b, b = val (ms.drop (i + 1)) := ⟨_, rfl⟩
      have R := laid_step hw (by omega) hb m1
      rw [← hb]
      obtain ⟨_, _, _, e', _, _, g1⟩ := hR
      obtain ⟨b1, o1, rfl, hc⟩ := g1 (by omega)
      have cc := hc.at (i := i) (by omega)
      have bx := nth_bd hw i
      have t1 : ((i : Int) + 1 - 1) = i := by omega
      have f1 : IntKind.u64.wrap (b * 1073741824) = b * 1073741824 := by rw [IntKind.wrap_u64]; omega
      have f2 : IntKind.u64.wrap (nth ms i) = nth ms i := by rw [IntKind.wrap_u64]; omega
      have f3 := or_limb b (nth ms i) R.1 R.2.1 bx.1 bx.2
      rw [R.2.2] at f3
      clear R hb
      go_wp2
      go_round
      case rel => exact ⟨i, by omega, by go_num, rfl⟩
      case measure => simp [intOf]
    · have ej : j = 0 := by omega
      subst ej
      rw [List.drop_zero]
      have hR2 : Rd (W.drewN nq) (.slice a1 ms.length c1) ms := hR
      have K2 : Blk (W.drewN nq) w.heap.size #[.int .i64 53, .int .i64 (-1074), .int .i64 971, .int .i64 52] 31 := K0
      have pr2 : Below w.heap.size w (W.drewN nq) := ⟨pr.os, pr.tape, pr.output, pr.size, pr.block⟩
      clear q0 q1 q2 q3 K0 pr hR
      generalize W.drewN nq = W2 at *
      have q0 : W2.cell? ⟨w.heap.size, 0, none⟩ = some (.int .i64 53) := K2.at 0
      have q1 : W2.cell? ⟨w.heap.size, 1, none⟩ = some (.int .i64 (-1074)) := K2.at 1
      have q2 : W2.cell? ⟨w.heap.size, 2, none⟩ = some (.int .i64 971) := K2.at 2
      have q3 : W2.cell? ⟨w.heap.size, 3, none⟩ = some (.int .i64 52) := K2.at 3
      go_wp2_with fail
      go_quiet ((go_at_call 71; exact Calls.quiet_of (Bits_q _ ms _ hR2 n (by omega))))
      go_wp2_with (first
        | (go_at_call 50; refine (signed_w_pos _ _).mono ?_; rintro r w1 ⟨rfl, b1⟩)
        | fail)
      exact bodyPost_ret (v := .tuple #[.int .u64 (val ms), .bool false]) (by simp [results, Try.results90, go_sem]) rfl ⟨rfl, belN pr2 b1⟩
theorem laid_w (v : Value) (ms : List Int) (e way : Int) (w : World) (h : Rd w v ms) (n : Nm ms) (m1 : val ms < 9007199254740992) (e0 : -1074 ≤ e) (e1 : e ≤ 971) :
    Calls Try.prog 90 #[.agg #[.int .i64 53, .int .i64 (-1074), .int .i64 971, .int .i64 52], .bool false, v, .int .i64 e, .int .i64 way] w fun r w' => r = .returned (.tuple #[.int .u64 (lay52 (val ms) e), .bool false]) ∧ Below w.heap.size w w' := by
  unfold lay52
  split
  · exact laid_w_norm v ms e way _ _ w h n (by assumption) m1 e0 e1 rfl rfl
  · exact laid_w_small v ms e way w h n (by omega) e1
end Go.Proofs.Ytjgljcifnklmeaa.L
