import Derived.Test.YtfpmegfdopnnpaaPart06
import Derived.Test.YtfpmegfdopnnpaaPart10

namespace Go.Proofs.Ytfpmegfdopnnpaa.L
open Go.RowKit Tl

set_option maxRecDepth 100000 in
theorem Mode_yes (way : Int) (h1 : 1 ≤ way) (h2 : way ≤ 6) (w : World) : Calls Try.prog 55 #[.int .i64 way] w fun e w' => e = .returned (.bool true) ∧ w' = w := by
  go_enter Try.func55, Try.ntmps55
  go_wp2
  go_ret
  exact ⟨rfl, rfl⟩
set_option maxRecDepth 100000 in
theorem Mode_low (way : Int) (h1 : way < 1) (w : World) : Calls Try.prog 55 #[.int .i64 way] w fun e w' => e = .returned (.bool false) ∧ w' = w := by
  have h : ¬ 1 ≤ way := by omega
  go_enter Try.func55, Try.ntmps55
  go_wp2
  go_ret
  exact ⟨rfl, rfl⟩
set_option maxRecDepth 100000 in
theorem Mode_high (way : Int) (h1 : 6 < way) (w : World) : Calls Try.prog 55 #[.int .i64 way] w fun e w' => e = .returned (.bool false) ∧ w' = w := by
  have h : 1 ≤ way := by omega
  have h2 : ¬ way ≤ 6 := by omega
  go_enter Try.func55, Try.ntmps55
  go_wp2
  go_ret
  exact ⟨rfl, rfl⟩
set_option maxHeartbeats 1600000 in
set_option maxRecDepth 100000 in
theorem Of_pos (n : Int) (n0 : 0 ≤ n) (n1 : n < 9223372036854775808) (w : World) :
    Calls Try.prog 74 #[.int .i64 n] w fun e w' => ∃ u1 u2 ns, e = .returned (.agg #[.bool false, u1, u2]) ∧ Rd w' u1 ns ∧ Nm ns ∧ val ns = n ∧ Rd w' u2 [1] ∧ Below w.heap.size w w' := by
  have hz : ¬ n < 0 := by omega
  have K0 := Blk.new w #[.bool false, .slice none 0 0, .slice none 0 0] 91
  have pr : Below w.heap.size w (w.alloc (.cells #[.bool false, .slice none 0 0, .slice none 0 0] 91)) := (Below.refl _ _).alloc (Nat.le_refl _) _
  go_enter Try.func74, Try.ntmps74
  go_wp2_with (first
    | (go_at_call 103; (refine (NatOf_any (n) _ (by omega) (by omega)).mono ?_); (rintro x w1 ⟨u, ns, rfl, hu, nu, vu, b1⟩; have VU : Hid (val ns = n) := vu; clear vu; replace K0 := (K0.below b1 K0.lt).alloc (.cells #[.int .i64 1] 3); replace pr := (bel pr b1); have pr2 := pr.alloc pr.size (.cells #[.int .i64 1] 3); replace hu := hu.grow ((Below.refl _ _).alloc (Nat.le_refl _) (.cells #[.int .i64 1] 3)); have ho : Rd (w1.alloc (.cells #[.int .i64 1] 3)) (.slice (some ⟨w1.heap.size, 0, none⟩) 1 1) [1] := rd_one (by simp) (by decide) (by decide); have e0 : (w1.alloc (.cells #[.int .i64 1] 3)).cell? ⟨w.heap.size, 0, none⟩ = some (.bool false) := K0.at 0; have e1 : (w1.alloc (.cells #[.int .i64 1] 3)).cell? ⟨w.heap.size, 1, none⟩ = some (.slice none 0 0) := K0.at 1; have e2 : (w1.alloc (.cells #[.int .i64 1] 3)).cell? ⟨w.heap.size, 2, none⟩ = some (.slice none 0 0) := K0.at 2; have z0 := K0.free 0; have z1 := K0.free 1; have z2 := K0.free 2; obtain ⟨a1, c1, rfl⟩ : ∃ a c, u = .slice a ns.length c := (by obtain ⟨_, a, c, e, _⟩ := hu; exact ⟨a, c, e⟩)))
    | fail)
  obtain ⟨F0, F1, F2, FB⟩ := put3 (.bool false) (.slice a1 ns.length c1) (.slice (some ⟨w1.heap.size, 0, none⟩) 1 1) e0 e1 e2
  exact bodyPost_ret (v := .agg #[.bool false, .slice a1 ns.length c1, .slice (some ⟨w1.heap.size, 0, none⟩) 1 1]) (by simp [results, Try.results74, go_sem, F0, F1, F2]) rfl ⟨_, _, ns, rfl, hu.putQ K0, nu, VU.out, ho.putQ K0, FB _ _ (Nat.le_refl _) pr2⟩
set_option maxHeartbeats 1600000 in
set_option maxRecDepth 100000 in
theorem Of_neg (n : Int) (n0 : n < 0) (n1 : -9223372036854775808 ≤ n) (w : World) :
    Calls Try.prog 74 #[.int .i64 n] w fun e w' => ∃ u1 u2 ns, e = .returned (.agg #[.bool true, u1, u2]) ∧ Rd w' u1 ns ∧ Nm ns ∧ val ns = -n ∧ Rd w' u2 [1] ∧ Below w.heap.size w w' := by
  have c1 : IntKind.u64.wrap n = n + 18446744073709551616 := by rw [IntKind.wrap_u64]; omega
  have c2 : IntKind.u64.wrap (-(n + 18446744073709551616)) = -n := by rw [IntKind.wrap_u64]; omega
  have K0 := Blk.new w #[.bool false, .slice none 0 0, .slice none 0 0] 91
  have pr : Below w.heap.size w (w.alloc (.cells #[.bool false, .slice none 0 0, .slice none 0 0] 91)) := (Below.refl _ _).alloc (Nat.le_refl _) _
  go_enter Try.func74, Try.ntmps74
  go_wp2_with (first
    | (go_at_call 91; (refine (NatOf64_any (-n) _ (by omega) (by omega)).mono ?_); (rintro x w1 ⟨u, ns, rfl, hu, nu, vu, b1⟩; have VU : Hid (val ns = -n) := vu; clear vu; replace K0 := (K0.below b1 K0.lt).alloc (.cells #[.int .i64 1] 3); replace pr := (bel pr b1); have pr2 := pr.alloc pr.size (.cells #[.int .i64 1] 3); replace hu := hu.grow ((Below.refl _ _).alloc (Nat.le_refl _) (.cells #[.int .i64 1] 3)); have ho : Rd (w1.alloc (.cells #[.int .i64 1] 3)) (.slice (some ⟨w1.heap.size, 0, none⟩) 1 1) [1] := rd_one (by simp) (by decide) (by decide); have e0 : (w1.alloc (.cells #[.int .i64 1] 3)).cell? ⟨w.heap.size, 0, none⟩ = some (.bool false) := K0.at 0; have e1 : (w1.alloc (.cells #[.int .i64 1] 3)).cell? ⟨w.heap.size, 1, none⟩ = some (.slice none 0 0) := K0.at 1; have e2 : (w1.alloc (.cells #[.int .i64 1] 3)).cell? ⟨w.heap.size, 2, none⟩ = some (.slice none 0 0) := K0.at 2; have z0 := K0.free 0; have z1 := K0.free 1; have z2 := K0.free 2; obtain ⟨a1, c1, rfl⟩ : ∃ a c, u = .slice a ns.length c := (by obtain ⟨_, a, c, e, _⟩ := hu; exact ⟨a, c, e⟩)))
    | fail)
  obtain ⟨F0, F1, F2, FB⟩ := put3 (.bool true) (.slice a1 ns.length c1) (.slice (some ⟨w1.heap.size, 0, none⟩) 1 1) e0 e1 e2
  exact bodyPost_ret (v := .agg #[.bool true, .slice a1 ns.length c1, .slice (some ⟨w1.heap.size, 0, none⟩) 1 1]) (by simp [results, Try.results74, go_sem, F0, F1, F2]) rfl ⟨_, _, ns, rfl, hu.putQ K0, nu, VU.out, ho.putQ K0, FB _ _ (Nat.le_refl _) pr2⟩
end Go.Proofs.Ytfpmegfdopnnpaa.L

namespace Go.Proofs.Ytfpmegfdopnnpaa.L
open Go.RowKit Tl

theorem bl_24 {m : Int} (h0 : 8388608 ≤ m) (h1 : m < 16777216) : bl m = 24 := by
  refine (bl_unique (L := 24) (by omega) ?_ (Or.inr ?_)).symm
  · have : (2 : Int) ^ 24 = 16777216 := by decide
    omega
  · have : (2 : Int) ^ (24 - 1) = 8388608 := by decide
    omega
theorem bl_23 {m : Int} (h0 : 0 ≤ m) (h1 : m < 8388608) : bl m ≤ 23 := by
  by_cases c : 0 < m
  · have b := bl_pos c
    by_cases d : bl m ≤ 23
    · exact d
    · have := two_pow_le (show 23 ≤ bl m - 1 by omega)
      have e : (2 : Int) ^ 23 = 8388608 := by decide
      omega
  · unfold bl; rw [if_pos (by omega)]; omega
set_option maxHeartbeats 1600000 in
set_option maxRecDepth 100000 in
/-- Size's laid: what is finite, above nought. -/
theorem lays_w_norm (v : Value) (ms : List Int) (e way K Z : Int) (neg : Bool) (R : Int) (SG : ∀ w, Calls Try.prog 50 #[szW, .bool neg, .int .u64 Z] w fun e w' => e = .returned (.int .u64 R) ∧ Below w.heap.size w w') (w : World) (h : Rd w v ms) (n : Nm ms) (m0 : 4503599627370496 ≤ val ms) (m1 : val ms < 9007199254740992) (e0 : -1074 ≤ e) (e1 : e ≤ 971) (hK : e + 1075 = K) (hZ : val ms - 4503599627370496 + K * 4503599627370496 = Z) :
    Calls Try.prog 90 #[.agg #[.int .i64 53, .int .i64 (-1074), .int .i64 971, .int .i64 52], .bool neg, v, .int .i64 e, .int .i64 way] w fun r w' => r = .returned (.tuple #[.int .u64 R, .bool false]) ∧ Below w.heap.size w w' := by
  have hbl : bl (val ms) = 53 := bl_53 m0 m1
  have ll : ms.length ≤ 2 := by
    by_cases c : ms.length ≤ 2
    · exact c
    · have := val_low h.1 n (by intro e; rw [e] at c; simp at c)
      have := pw_mono (show 2 ≤ ms.length - 1 by omega)
      have : pw 2 = 1152921504606846976 := by decide
      omega
  have hw := h.1
  obtain ⟨a1, c1, rfl⟩ : ∃ a1 c1, v = .slice a1 ms.length c1 := by obtain ⟨_, a1, c1, e, _⟩ := h; exact ⟨a1, c1, e⟩
  have K0 := Blk.new w #[.int .i64 53, .int .i64 (-1074), .int .i64 971, .int .i64 52] 31
  have pr : Below w.heap.size w (w.alloc (.cells #[.int .i64 53, .int .i64 (-1074), .int .i64 971, .int .i64 52] 31)) := (Below.refl _ _).alloc (Nat.le_refl _) _
  have hR := h.grow pr
  go_enter Try.func90, Try.ntmps90
  go_wp2_with fail
  generalize w.alloc (.cells #[.int .i64 53, .int .i64 (-1074), .int .i64 971, .int .i64 52] 31) = W at *
  have q0 : W.cell? ⟨w.heap.size, 0, none⟩ = some (.int .i64 53) := K0.at 0
  have q1 : W.cell? ⟨w.heap.size, 1, none⟩ = some (.int .i64 (-1074)) := K0.at 1
  have q2 : W.cell? ⟨w.heap.size, 2, none⟩ = some (.int .i64 971) := K0.at 2
  have q3 : W.cell? ⟨w.heap.size, 3, none⟩ = some (.int .i64 52) := K0.at 3
  go_quiet ((go_at_call 71; exact Calls.quiet_of (Bits_q _ ms _ hR n (by omega))))
  go_wp2_with fail
  go_loop [12, 13] (fun b i => ∃ j : Nat, j ≤ ms.length ∧ i = .int .i64 ((j : Int) - 1) ∧ b = .int .u64 (val (ms.drop j))) (fun _ i => (intOf i + 1).toNat)
  case atStart => exact ⟨ms.length, Nat.le_refl _, by go_num, by simp [val]⟩
  case round =>
    obtain ⟨j, hj, rfl, rfl⟩ := hrel
    by_cases hlt : 0 < j
    · obtain ⟨i, rfl⟩ : ∃ i, j = i + 1 := ⟨j - 1, by omega⟩
      obtain ⟨b, hb⟩ : ∃ b, b = val (ms.drop (i + 1)) := ⟨_, rfl⟩
      have R := laid_step hw (by omega) hb (by omega)
      rw [← hb]
      obtain ⟨_, _, _, e', _, _, g1⟩ := hR
      obtain ⟨b1, o1, rfl, hc⟩ := g1 (by omega)
      have cc := hc.at (i := i) (by omega)
      have bx := nth_bd hw i
      have t1 : ((i : Int) + 1 - 1) = i := by omega
      have f1 : IntKind.u64.wrap (b * 1073741824) = b * 1073741824 := by rw [IntKind.wrap_u64]; omega
      have f2 : IntKind.u64.wrap (nth ms i) = nth ms i := by rw [IntKind.wrap_u64]; omega
      have f3 := or_limb b (nth ms i) R.1 R.2.1 bx.1 bx.2
      rw [R.2.2] at f3
      clear R hb
      go_wp2
      go_round
      case rel => exact ⟨i, by omega, by go_num, rfl⟩
      case measure => simp [intOf]
    · have ej : j = 0 := by omega
      subst ej
      rw [List.drop_zero]
      have f1 : IntKind.u64.wrap (val ms - 4503599627370496) = val ms - 4503599627370496 := by rw [IntKind.wrap_u64]; omega
      have f2 : IntKind.i64.wrap (e - -1074) = e + 1074 := by rw [Int.sub_neg]; exact wrap_self _ (by omega) (by omega)
      have f3 : IntKind.i64.wrap (e + 1074 + 1) = K := by rw [show e + 1074 + 1 = K from by omega]; exact wrap_self _ (by omega) (by omega)
      have f4 : IntKind.u64.wrap K = K := by rw [IntKind.wrap_u64]; omega
      have f5 : IntKind.u64.wrap (K * 4503599627370496) = K * 4503599627370496 := by rw [IntKind.wrap_u64]; omega
      have f6 : IntKind.u64.wrap (val ms - 4503599627370496 + K * 4503599627370496) = Z := by rw [hZ, IntKind.wrap_u64]; omega
      have hR2 : Rd (W.drewN nq) (.slice a1 ms.length c1) ms := hR
      have K2 : Blk (W.drewN nq) w.heap.size #[.int .i64 53, .int .i64 (-1074), .int .i64 971, .int .i64 52] 31 := K0
      have pr2 : Below w.heap.size w (W.drewN nq) := ⟨pr.os, pr.tape, pr.output, pr.size, pr.block⟩
      clear hK hZ q0 q1 q2 q3 K0 pr hR
      generalize W.drewN nq = W2 at *
      have q0 : W2.cell? ⟨w.heap.size, 0, none⟩ = some (.int .i64 53) := K2.at 0
      have q1 : W2.cell? ⟨w.heap.size, 1, none⟩ = some (.int .i64 (-1074)) := K2.at 1
      have q2 : W2.cell? ⟨w.heap.size, 2, none⟩ = some (.int .i64 971) := K2.at 2
      have q3 : W2.cell? ⟨w.heap.size, 3, none⟩ = some (.int .i64 52) := K2.at 3
      go_wp2_with fail
      go_quiet ((go_at_call 71; exact Calls.quiet_of (Bits_q _ ms _ hR2 n (by omega))))
      go_wp2_with fail
      go_quiet (fail)
      go_wp2_with (first
        | (go_at_call 50; refine (SG _).mono ?_; rintro r w1 ⟨rfl, b1⟩)
        | fail)
      exact bodyPost_ret (v := .tuple #[.int .u64 R, .bool false]) (by simp [results, Try.results90, go_sem]) rfl ⟨rfl, belN pr2 b1⟩
set_option maxHeartbeats 1600000 in
set_option maxRecDepth 100000 in
/-- Size's laid: what is finite, above nought. -/
theorem lays_w_small (v : Value) (ms : List Int) (e way : Int) (neg : Bool) (R : Int) (SG : ∀ w, Calls Try.prog 50 #[szW, .bool neg, .int .u64 (val ms)] w fun e w' => e = .returned (.int .u64 R) ∧ Below w.heap.size w w') (w : World) (h : Rd w v ms) (n : Nm ms) (m0 : val ms < 4503599627370496) (e1 : e ≤ 971) :
    Calls Try.prog 90 #[.agg #[.int .i64 53, .int .i64 (-1074), .int .i64 971, .int .i64 52], .bool neg, v, .int .i64 e, .int .i64 way] w fun r w' => r = .returned (.tuple #[.int .u64 R, .bool false]) ∧ Below w.heap.size w w' := by
  have m1 : val ms < 9007199254740992 := by omega
  have hbl := bl_52 (val_nonneg h.1) m0
  have hb2 : ((bl (val ms) : Int) == 53) = false := by rw [beq_eq_false_iff_ne]; omega
  have ll : ms.length ≤ 2 := by
    by_cases c : ms.length ≤ 2
    · exact c
    · have := val_low h.1 n (by intro e; rw [e] at c; simp at c)
      have := pw_mono (show 2 ≤ ms.length - 1 by omega)
      have : pw 2 = 1152921504606846976 := by decide
      omega
  have hw := h.1
  obtain ⟨a1, c1, rfl⟩ : ∃ a1 c1, v = .slice a1 ms.length c1 := by obtain ⟨_, a1, c1, e, _⟩ := h; exact ⟨a1, c1, e⟩
  have K0 := Blk.new w #[.int .i64 53, .int .i64 (-1074), .int .i64 971, .int .i64 52] 31
  have pr : Below w.heap.size w (w.alloc (.cells #[.int .i64 53, .int .i64 (-1074), .int .i64 971, .int .i64 52] 31)) := (Below.refl _ _).alloc (Nat.le_refl _) _
  have hR := h.grow pr
  go_enter Try.func90, Try.ntmps90
  go_wp2_with fail
  generalize w.alloc (.cells #[.int .i64 53, .int .i64 (-1074), .int .i64 971, .int .i64 52] 31) = W at *
  have q0 : W.cell? ⟨w.heap.size, 0, none⟩ = some (.int .i64 53) := K0.at 0
  have q1 : W.cell? ⟨w.heap.size, 1, none⟩ = some (.int .i64 (-1074)) := K0.at 1
  have q2 : W.cell? ⟨w.heap.size, 2, none⟩ = some (.int .i64 971) := K0.at 2
  have q3 : W.cell? ⟨w.heap.size, 3, none⟩ = some (.int .i64 52) := K0.at 3
  go_quiet ((go_at_call 71; exact Calls.quiet_of (Bits_q _ ms _ hR n (by omega))))
  go_wp2_with fail
  go_loop [12, 13] (fun b i => ∃ j : Nat, j ≤ ms.length ∧ i = .int .i64 ((j : Int) - 1) ∧ b = .int .u64 (val (ms.drop j))) (fun _ i => (intOf i + 1).toNat)
  case atStart => exact ⟨ms.length, Nat.le_refl _, by go_num, by simp [val]⟩
  case round =>
    obtain ⟨j, hj, rfl, rfl⟩ := hrel
    by_cases hlt : 0 < j
    · obtain ⟨i, rfl⟩ : ∃ i, j = i + 1 := ⟨j - 1, by omega⟩
      obtain ⟨b, hb⟩ : ∃ b, b = val (ms.drop (i + 1)) := ⟨_, rfl⟩
      have R := laid_step hw (by omega) hb (by omega)
      rw [← hb]
      obtain ⟨_, _, _, e', _, _, g1⟩ := hR
      obtain ⟨b1, o1, rfl, hc⟩ := g1 (by omega)
      have cc := hc.at (i := i) (by omega)
      have bx := nth_bd hw i
      have t1 : ((i : Int) + 1 - 1) = i := by omega
      have f1 : IntKind.u64.wrap (b * 1073741824) = b * 1073741824 := by rw [IntKind.wrap_u64]; omega
      have f2 : IntKind.u64.wrap (nth ms i) = nth ms i := by rw [IntKind.wrap_u64]; omega
      have f3 := or_limb b (nth ms i) R.1 R.2.1 bx.1 bx.2
      rw [R.2.2] at f3
      clear R hb
      go_wp2
      go_round
      case rel => exact ⟨i, by omega, by go_num, rfl⟩
      case measure => simp [intOf]
    · have ej : j = 0 := by omega
      subst ej
      rw [List.drop_zero]
      have hR2 : Rd (W.drewN nq) (.slice a1 ms.length c1) ms := hR
      have K2 : Blk (W.drewN nq) w.heap.size #[.int .i64 53, .int .i64 (-1074), .int .i64 971, .int .i64 52] 31 := K0
      have pr2 : Below w.heap.size w (W.drewN nq) := ⟨pr.os, pr.tape, pr.output, pr.size, pr.block⟩
      clear q0 q1 q2 q3 K0 pr hR
      generalize W.drewN nq = W2 at *
      have q0 : W2.cell? ⟨w.heap.size, 0, none⟩ = some (.int .i64 53) := K2.at 0
      have q1 : W2.cell? ⟨w.heap.size, 1, none⟩ = some (.int .i64 (-1074)) := K2.at 1
      have q2 : W2.cell? ⟨w.heap.size, 2, none⟩ = some (.int .i64 971) := K2.at 2
      have q3 : W2.cell? ⟨w.heap.size, 3, none⟩ = some (.int .i64 52) := K2.at 3
      go_wp2_with fail
      go_quiet ((go_at_call 71; exact Calls.quiet_of (Bits_q _ ms _ hR2 n (by omega))))
      go_wp2_with (first
        | (go_at_call 50; refine (SG _).mono ?_; rintro r w1 ⟨rfl, b1⟩)
        | fail)
      exact bodyPost_ret (v := .tuple #[.int .u64 R, .bool false]) (by simp [results, Try.results90, go_sem]) rfl ⟨rfl, belN pr2 b1⟩
set_option maxHeartbeats 1600000 in
set_option maxRecDepth 100000 in
/-- Size's laid: what is finite, above nought. -/
theorem lays_s_norm (v : Value) (ms : List Int) (e way K Z : Int) (neg : Bool) (R : Int) (SG : ∀ w, Calls Try.prog 50 #[szS, .bool neg, .int .u64 Z] w fun e w' => e = .returned (.int .u64 R) ∧ Below w.heap.size w w') (w : World) (h : Rd w v ms) (n : Nm ms) (m0 : 8388608 ≤ val ms) (m1 : val ms < 16777216) (e0 : -149 ≤ e) (e1 : e ≤ 104) (hK : e + 150 = K) (hZ : val ms - 8388608 + K * 8388608 = Z) :
    Calls Try.prog 90 #[.agg #[.int .i64 24, .int .i64 (-149), .int .i64 104, .int .i64 23], .bool neg, v, .int .i64 e, .int .i64 way] w fun r w' => r = .returned (.tuple #[.int .u64 R, .bool false]) ∧ Below w.heap.size w w' := by
  have hbl : bl (val ms) = 24 := bl_24 m0 m1
  have ll : ms.length ≤ 2 := by
    by_cases c : ms.length ≤ 2
    · exact c
    · have := val_low h.1 n (by intro e; rw [e] at c; simp at c)
      have := pw_mono (show 2 ≤ ms.length - 1 by omega)
      have : pw 2 = 1152921504606846976 := by decide
      omega
  have hw := h.1
  obtain ⟨a1, c1, rfl⟩ : ∃ a1 c1, v = .slice a1 ms.length c1 := by obtain ⟨_, a1, c1, e, _⟩ := h; exact ⟨a1, c1, e⟩
  have K0 := Blk.new w #[.int .i64 24, .int .i64 (-149), .int .i64 104, .int .i64 23] 31
  have pr : Below w.heap.size w (w.alloc (.cells #[.int .i64 24, .int .i64 (-149), .int .i64 104, .int .i64 23] 31)) := (Below.refl _ _).alloc (Nat.le_refl _) _
  have hR := h.grow pr
  go_enter Try.func90, Try.ntmps90
  go_wp2_with fail
  generalize w.alloc (.cells #[.int .i64 24, .int .i64 (-149), .int .i64 104, .int .i64 23] 31) = W at *
  have q0 : W.cell? ⟨w.heap.size, 0, none⟩ = some (.int .i64 24) := K0.at 0
  have q1 : W.cell? ⟨w.heap.size, 1, none⟩ = some (.int .i64 (-149)) := K0.at 1
  have q2 : W.cell? ⟨w.heap.size, 2, none⟩ = some (.int .i64 104) := K0.at 2
  have q3 : W.cell? ⟨w.heap.size, 3, none⟩ = some (.int .i64 23) := K0.at 3
  go_quiet ((go_at_call 71; exact Calls.quiet_of (Bits_q _ ms _ hR n (by omega))))
  go_wp2_with fail
  go_loop [12, 13] (fun b i => ∃ j : Nat, j ≤ ms.length ∧ i = .int .i64 ((j : Int) - 1) ∧ b = .int .u64 (val (ms.drop j))) (fun _ i => (intOf i + 1).toNat)
  case atStart => exact ⟨ms.length, Nat.le_refl _, by go_num, by simp [val]⟩
  case round =>
    obtain ⟨j, hj, rfl, rfl⟩ := hrel
    by_cases hlt : 0 < j
    · obtain ⟨i, rfl⟩ : ∃ i, j = i + 1 := ⟨j - 1, by omega⟩
      obtain ⟨b, hb⟩ : ∃ b, b = val (ms.drop (i + 1)) := ⟨_, rfl⟩
      have R := laid_step hw (by omega) hb (by omega)
      rw [← hb]
      obtain ⟨_, _, _, e', _, _, g1⟩ := hR
      obtain ⟨b1, o1, rfl, hc⟩ := g1 (by omega)
      have cc := hc.at (i := i) (by omega)
      have bx := nth_bd hw i
      have t1 : ((i : Int) + 1 - 1) = i := by omega
      have f1 : IntKind.u64.wrap (b * 1073741824) = b * 1073741824 := by rw [IntKind.wrap_u64]; omega
      have f2 : IntKind.u64.wrap (nth ms i) = nth ms i := by rw [IntKind.wrap_u64]; omega
      have f3 := or_limb b (nth ms i) R.1 R.2.1 bx.1 bx.2
      rw [R.2.2] at f3
      clear R hb
      go_wp2
      go_round
      case rel => exact ⟨i, by omega, by go_num, rfl⟩
      case measure => simp [intOf]
    · have ej : j = 0 := by omega
      subst ej
      rw [List.drop_zero]
      have f1 : IntKind.u64.wrap (val ms - 8388608) = val ms - 8388608 := by rw [IntKind.wrap_u64]; omega
      have f2 : IntKind.i64.wrap (e - -149) = e + 149 := by rw [Int.sub_neg]; exact wrap_self _ (by omega) (by omega)
      have f3 : IntKind.i64.wrap (e + 149 + 1) = K := by rw [show e + 149 + 1 = K from by omega]; exact wrap_self _ (by omega) (by omega)
      have f4 : IntKind.u64.wrap K = K := by rw [IntKind.wrap_u64]; omega
      have f5 : IntKind.u64.wrap (K * 8388608) = K * 8388608 := by rw [IntKind.wrap_u64]; omega
      have f6 : IntKind.u64.wrap (val ms - 8388608 + K * 8388608) = Z := by rw [hZ, IntKind.wrap_u64]; omega
      have hR2 : Rd (W.drewN nq) (.slice a1 ms.length c1) ms := hR
      have K2 : Blk (W.drewN nq) w.heap.size #[.int .i64 24, .int .i64 (-149), .int .i64 104, .int .i64 23] 31 := K0
      have pr2 : Below w.heap.size w (W.drewN nq) := ⟨pr.os, pr.tape, pr.output, pr.size, pr.block⟩
      clear hK hZ q0 q1 q2 q3 K0 pr hR
      generalize W.drewN nq = W2 at *
      have q0 : W2.cell? ⟨w.heap.size, 0, none⟩ = some (.int .i64 24) := K2.at 0
      have q1 : W2.cell? ⟨w.heap.size, 1, none⟩ = some (.int .i64 (-149)) := K2.at 1
      have q2 : W2.cell? ⟨w.heap.size, 2, none⟩ = some (.int .i64 104) := K2.at 2
      have q3 : W2.cell? ⟨w.heap.size, 3, none⟩ = some (.int .i64 23) := K2.at 3
      go_wp2_with fail
      go_quiet ((go_at_call 71; exact Calls.quiet_of (Bits_q _ ms _ hR2 n (by omega))))
      go_wp2_with fail
      go_quiet (fail)
      go_wp2_with (first
        | (go_at_call 50; refine (SG _).mono ?_; rintro r w1 ⟨rfl, b1⟩)
        | fail)
      exact bodyPost_ret (v := .tuple #[.int .u64 R, .bool false]) (by simp [results, Try.results90, go_sem]) rfl ⟨rfl, belN pr2 b1⟩
set_option maxHeartbeats 1600000 in
set_option maxRecDepth 100000 in
/-- Size's laid: what is finite, above nought. -/
theorem lays_s_small (v : Value) (ms : List Int) (e way : Int) (neg : Bool) (R : Int) (SG : ∀ w, Calls Try.prog 50 #[szS, .bool neg, .int .u64 (val ms)] w fun e w' => e = .returned (.int .u64 R) ∧ Below w.heap.size w w') (w : World) (h : Rd w v ms) (n : Nm ms) (m0 : val ms < 8388608) (e1 : e ≤ 104) :
    Calls Try.prog 90 #[.agg #[.int .i64 24, .int .i64 (-149), .int .i64 104, .int .i64 23], .bool neg, v, .int .i64 e, .int .i64 way] w fun r w' => r = .returned (.tuple #[.int .u64 R, .bool false]) ∧ Below w.heap.size w w' := by
  have m1 : val ms < 16777216 := by omega
  have hbl := bl_23 (val_nonneg h.1) m0
  have hb2 : ((bl (val ms) : Int) == 24) = false := by rw [beq_eq_false_iff_ne]; omega
  have ll : ms.length ≤ 2 := by
    by_cases c : ms.length ≤ 2
    · exact c
    · have := val_low h.1 n (by intro e; rw [e] at c; simp at c)
      have := pw_mono (show 2 ≤ ms.length - 1 by omega)
      have : pw 2 = 1152921504606846976 := by decide
      omega
  have hw := h.1
  obtain ⟨a1, c1, rfl⟩ : ∃ a1 c1, v = .slice a1 ms.length c1 := by obtain ⟨_, a1, c1, e, _⟩ := h; exact ⟨a1, c1, e⟩
  have K0 := Blk.new w #[.int .i64 24, .int .i64 (-149), .int .i64 104, .int .i64 23] 31
  have pr : Below w.heap.size w (w.alloc (.cells #[.int .i64 24, .int .i64 (-149), .int .i64 104, .int .i64 23] 31)) := (Below.refl _ _).alloc (Nat.le_refl _) _
  have hR := h.grow pr
  go_enter Try.func90, Try.ntmps90
  go_wp2_with fail
  generalize w.alloc (.cells #[.int .i64 24, .int .i64 (-149), .int .i64 104, .int .i64 23] 31) = W at *
  have q0 : W.cell? ⟨w.heap.size, 0, none⟩ = some (.int .i64 24) := K0.at 0
  have q1 : W.cell? ⟨w.heap.size, 1, none⟩ = some (.int .i64 (-149)) := K0.at 1
  have q2 : W.cell? ⟨w.heap.size, 2, none⟩ = some (.int .i64 104) := K0.at 2
  have q3 : W.cell? ⟨w.heap.size, 3, none⟩ = some (.int .i64 23) := K0.at 3
  go_quiet ((go_at_call 71; exact Calls.quiet_of (Bits_q _ ms _ hR n (by omega))))
  go_wp2_with fail
  go_loop [12, 13] (fun b i => ∃ j : Nat, j ≤ ms.length ∧ i = .int .i64 ((j : Int) - 1) ∧ b = .int .u64 (val (ms.drop j))) (fun _ i => (intOf i + 1).toNat)
  case atStart => exact ⟨ms.length, Nat.le_refl _, by go_num, by simp [val]⟩
  case round =>
    obtain ⟨j, hj, rfl, rfl⟩ := hrel
    by_cases hlt : 0 < j
    · obtain ⟨i, rfl⟩ : ∃ i, j = i + 1 := ⟨j - 1, by omega⟩
      obtain ⟨b, hb⟩ : ∃ b, b = val (ms.drop (i + 1)) := ⟨_, rfl⟩
      have R := laid_step hw (by omega) hb (by omega)
      rw [← hb]
      obtain ⟨_, _, _, e', _, _, g1⟩ := hR
      obtain ⟨b1, o1, rfl, hc⟩ := g1 (by omega)
      have cc := hc.at (i := i) (by omega)
      have bx := nth_bd hw i
      have t1 : ((i : Int) + 1 - 1) = i := by omega
      have f1 : IntKind.u64.wrap (b * 1073741824) = b * 1073741824 := by rw [IntKind.wrap_u64]; omega
      have f2 : IntKind.u64.wrap (nth ms i) = nth ms i := by rw [IntKind.wrap_u64]; omega
      have f3 := or_limb b (nth ms i) R.1 R.2.1 bx.1 bx.2
      rw [R.2.2] at f3
      clear R hb
      go_wp2
      go_round
      case rel => exact ⟨i, by omega, by go_num, rfl⟩
      case measure => simp [intOf]
    · have ej : j = 0 := by omega
      subst ej
      rw [List.drop_zero]
      have hR2 : Rd (W.drewN nq) (.slice a1 ms.length c1) ms := hR
      have K2 : Blk (W.drewN nq) w.heap.size #[.int .i64 24, .int .i64 (-149), .int .i64 104, .int .i64 23] 31 := K0
      have pr2 : Below w.heap.size w (W.drewN nq) := ⟨pr.os, pr.tape, pr.output, pr.size, pr.block⟩
      clear q0 q1 q2 q3 K0 pr hR
      generalize W.drewN nq = W2 at *
      have q0 : W2.cell? ⟨w.heap.size, 0, none⟩ = some (.int .i64 24) := K2.at 0
      have q1 : W2.cell? ⟨w.heap.size, 1, none⟩ = some (.int .i64 (-149)) := K2.at 1
      have q2 : W2.cell? ⟨w.heap.size, 2, none⟩ = some (.int .i64 104) := K2.at 2
      have q3 : W2.cell? ⟨w.heap.size, 3, none⟩ = some (.int .i64 23) := K2.at 3
      go_wp2_with fail
      go_quiet ((go_at_call 71; exact Calls.quiet_of (Bits_q _ ms _ hR2 n (by omega))))
      go_wp2_with (first
        | (go_at_call 50; refine (SG _).mono ?_; rintro r w1 ⟨rfl, b1⟩)
        | fail)
      exact bodyPost_ret (v := .tuple #[.int .u64 R, .bool false]) (by simp [results, Try.results90, go_sem]) rfl ⟨rfl, belN pr2 b1⟩
end Go.Proofs.Ytfpmegfdopnnpaa.L

namespace Go.Proofs.Ytfpmegfdopnnpaa.L
open Go.RowKit Tl

set_option maxHeartbeats 3200000 in
set_option maxRecDepth 100000 in
/-- Size's laid: too great: the greatest finite one .. -/
theorem lays_w_over (v : Value) (ms : List Int) (e way : Int) (neg a1 a2 a3 : Bool) (hw1 : (way == 1) = a1) (hw2 : (way == 2) = a2) (hw3 : (way == 3) = a3) (RM RI : Int)
    (TM : ∀ w, Calls Try.prog 50 #[szW, .bool neg, .int .u64 9218868437227405311] w fun e w' => e = .returned (.int .u64 RM) ∧ Below w.heap.size w w')
    (TI : ∀ w, Calls Try.prog 49 #[szW, .bool neg] w fun e w' => e = .returned (.int .u64 RI) ∧ Below w.heap.size w w')
    (w : World) (h : Rd w v ms) (n : Nm ms) (hb : bl (val ms) ≤ 53) (ll : ms.length ≤ 1000) (e1 : 971 < e) :
    Calls Try.prog 90 #[.agg #[.int .i64 53, .int .i64 (-1074), .int .i64 971, .int .i64 52], .bool neg, v, .int .i64 e, .int .i64 way] w fun r w' => r = .returned (.tuple #[.int .u64 (if (a3 || (a1 && !neg) || (a2 && neg)) = true then RM else RI), .bool true]) ∧ Below w.heap.size w w' := by
  obtain ⟨LM, hLM⟩ : ∃ L : Nat, L = bl (val ms) := ⟨_, rfl⟩
  have hb2 : ¬ (53 : Int) < LM := by omega
  have K0 := Blk.new w #[.int .i64 53, .int .i64 (-1074), .int .i64 971, .int .i64 52] 31
  have pr : Below w.heap.size w (w.alloc (.cells #[.int .i64 53, .int .i64 (-1074), .int .i64 971, .int .i64 52] 31)) := (Below.refl _ _).alloc (Nat.le_refl _) _
  have hR := h.grow pr
  have B1 : ∀ k, Calls Try.prog 71 #[v] ((w.alloc (.cells #[.int .i64 53, .int .i64 (-1074), .int .i64 971, .int .i64 52] 31)).drewN k) fun e w' => e = .returned (.int .i64 LM) ∧ ∃ n, w' = ((w.alloc (.cells #[.int .i64 53, .int .i64 (-1074), .int .i64 971, .int .i64 52] 31)).drewN k).drewN n := fun k => by rw [hLM]; exact Bits_q _ ms _ (show Rd ((w.alloc (.cells #[.int .i64 53, .int .i64 (-1074), .int .i64 971, .int .i64 52] 31)).drewN k) _ _ from hR) n (by omega)
  clear hLM hb
  have c1 : IntKind.u64.wrap 9218868437227405312 = 9218868437227405312 := by decide
  have c2 : IntKind.u64.wrap 9218868437227405311 = 9218868437227405311 := by decide
  cases neg <;> cases a1 <;> cases a2 <;> cases a3
  all_goals
    simp only [Bool.or_true, Bool.or_false, Bool.and_true, Bool.and_false, Bool.not_true, Bool.not_false, if_true, if_false, Bool.false_eq_true]
    go_enter Try.func90, Try.ntmps90
    go_wp2_with fail
    generalize w.alloc (.cells #[.int .i64 53, .int .i64 (-1074), .int .i64 971, .int .i64 52] 31) = W at *
    have q0 : W.cell? ⟨w.heap.size, 0, none⟩ = some (.int .i64 53) := K0.at 0
    have q1 : W.cell? ⟨w.heap.size, 1, none⟩ = some (.int .i64 (-1074)) := K0.at 1
    have q2 : W.cell? ⟨w.heap.size, 2, none⟩ = some (.int .i64 971) := K0.at 2
    have q3 : W.cell? ⟨w.heap.size, 3, none⟩ = some (.int .i64 52) := K0.at 3
    go_quiet ((go_at_call 71; with_reducible exact Calls.quiet_of (B1 _)))
    have K2 : Blk (W.drewN nq) w.heap.size #[.int .i64 53, .int .i64 (-1074), .int .i64 971, .int .i64 52] 31 := K0
    have pr2 : Below w.heap.size w (W.drewN nq) := ⟨pr.os, pr.tape, pr.output, pr.size, pr.block⟩
    clear q0 q1 q2 q3 K0 pr B1
    generalize W.drewN nq = W2 at *
    have q0 : W2.cell? ⟨w.heap.size, 0, none⟩ = some (.int .i64 53) := K2.at 0
    have q1 : W2.cell? ⟨w.heap.size, 1, none⟩ = some (.int .i64 (-1074)) := K2.at 1
    have q2 : W2.cell? ⟨w.heap.size, 2, none⟩ = some (.int .i64 971) := K2.at 2
    have q3 : W2.cell? ⟨w.heap.size, 3, none⟩ = some (.int .i64 52) := K2.at 3
    go_wp2_with (first
      | (go_at_call 49; refine (TI _).mono ?_; rintro x w5 ⟨rfl, b5⟩; replace pr2 := bel pr2 b5)
      | fail)
    first
      | exact bodyPost_ret (v := .tuple #[.int .u64 RI, .bool true]) (by simp [results, Try.results90, go_sem]) rfl ⟨rfl, pr2⟩
      | (go_region_held3 (fun x => x.cell? ⟨w.heap.size, 0, none⟩ = some (.int .i64 53) ∧ x.cell? ⟨w.heap.size, 1, none⟩ = some (.int .i64 (-1074)) ∧ x.cell? ⟨w.heap.size, 2, none⟩ = some (.int .i64 971) ∧ x.cell? ⟨w.heap.size, 3, none⟩ = some (.int .i64 52)) (go_keep) (first
      | (go_at_call 43; refine (top_w _).mono ?_; rintro x w6 ⟨rfl, b5⟩; replace K2 := K2.below b5 K2.lt; replace pr2 := bel pr2 b5; clear b5; have q0 : w6.cell? ⟨w.heap.size, 0, none⟩ = some (.int .i64 53) := K2.at 0; have q1 : w6.cell? ⟨w.heap.size, 1, none⟩ = some (.int .i64 (-1074)) := K2.at 1; have q2 : w6.cell? ⟨w.heap.size, 2, none⟩ = some (.int .i64 971) := K2.at 2; have q3 : w6.cell? ⟨w.heap.size, 3, none⟩ = some (.int .i64 52) := K2.at 3)
      | (go_at_call 43; refine (top_w _).mono ?_; rintro x w6 ⟨rfl, b5⟩; replace K2 := K2.below (below_undrew b5) K2.lt; replace pr2 := bel pr2 (below_undrew b5); clear b5; have q0 : w6.cell? ⟨w.heap.size, 0, none⟩ = some (.int .i64 53) := K2.at 0; have q1 : w6.cell? ⟨w.heap.size, 1, none⟩ = some (.int .i64 (-1074)) := K2.at 1; have q2 : w6.cell? ⟨w.heap.size, 2, none⟩ = some (.int .i64 971) := K2.at 2; have q3 : w6.cell? ⟨w.heap.size, 3, none⟩ = some (.int .i64 52) := K2.at 3)
      | (go_at_call 50; refine (TM _).mono ?_; rintro x w7 ⟨rfl, b5⟩; replace K2 := K2.below b5 K2.lt; replace pr2 := bel pr2 b5; clear b5; have q0 : w7.cell? ⟨w.heap.size, 0, none⟩ = some (.int .i64 53) := K2.at 0; have q1 : w7.cell? ⟨w.heap.size, 1, none⟩ = some (.int .i64 (-1074)) := K2.at 1; have q2 : w7.cell? ⟨w.heap.size, 2, none⟩ = some (.int .i64 971) := K2.at 2; have q3 : w7.cell? ⟨w.heap.size, 3, none⟩ = some (.int .i64 52) := K2.at 3)
      | (go_at_call 50; refine (TM _).mono ?_; rintro x w7 ⟨rfl, b5⟩; replace K2 := K2.below (below_undrew b5) K2.lt; replace pr2 := bel pr2 (below_undrew b5); clear b5; have q0 : w7.cell? ⟨w.heap.size, 0, none⟩ = some (.int .i64 53) := K2.at 0; have q1 : w7.cell? ⟨w.heap.size, 1, none⟩ = some (.int .i64 (-1074)) := K2.at 1; have q2 : w7.cell? ⟨w.heap.size, 2, none⟩ = some (.int .i64 971) := K2.at 2; have q3 : w7.cell? ⟨w.heap.size, 3, none⟩ = some (.int .i64 52) := K2.at 3)
      | fail)
         go_wp2
         exact bodyPost_ret (v := .tuple #[.int .u64 RM, .bool true]) (by simp [results, Try.results90, go_sem]) rfl ⟨rfl, pr2⟩)
set_option maxHeartbeats 3200000 in
set_option maxRecDepth 100000 in
/-- Size's laid: too great: the greatest finite one .. -/
theorem lays_s_over (v : Value) (ms : List Int) (e way : Int) (neg a1 a2 a3 : Bool) (hw1 : (way == 1) = a1) (hw2 : (way == 2) = a2) (hw3 : (way == 3) = a3) (RM RI : Int)
    (TM : ∀ w, Calls Try.prog 50 #[szS, .bool neg, .int .u64 2139095039] w fun e w' => e = .returned (.int .u64 RM) ∧ Below w.heap.size w w')
    (TI : ∀ w, Calls Try.prog 49 #[szS, .bool neg] w fun e w' => e = .returned (.int .u64 RI) ∧ Below w.heap.size w w')
    (w : World) (h : Rd w v ms) (n : Nm ms) (hb : bl (val ms) ≤ 24) (ll : ms.length ≤ 1000) (e1 : 104 < e) :
    Calls Try.prog 90 #[.agg #[.int .i64 24, .int .i64 (-149), .int .i64 104, .int .i64 23], .bool neg, v, .int .i64 e, .int .i64 way] w fun r w' => r = .returned (.tuple #[.int .u64 (if (a3 || (a1 && !neg) || (a2 && neg)) = true then RM else RI), .bool true]) ∧ Below w.heap.size w w' := by
  obtain ⟨LM, hLM⟩ : ∃ L : Nat, L = bl (val ms) := ⟨_, rfl⟩
  have hb2 : ¬ (24 : Int) < LM := by omega
  have K0 := Blk.new w #[.int .i64 24, .int .i64 (-149), .int .i64 104, .int .i64 23] 31
  have pr : Below w.heap.size w (w.alloc (.cells #[.int .i64 24, .int .i64 (-149), .int .i64 104, .int .i64 23] 31)) := (Below.refl _ _).alloc (Nat.le_refl _) _
  have hR := h.grow pr
  have B1 : ∀ k, Calls Try.prog 71 #[v] ((w.alloc (.cells #[.int .i64 24, .int .i64 (-149), .int .i64 104, .int .i64 23] 31)).drewN k) fun e w' => e = .returned (.int .i64 LM) ∧ ∃ n, w' = ((w.alloc (.cells #[.int .i64 24, .int .i64 (-149), .int .i64 104, .int .i64 23] 31)).drewN k).drewN n := fun k => by rw [hLM]; exact Bits_q _ ms _ (show Rd ((w.alloc (.cells #[.int .i64 24, .int .i64 (-149), .int .i64 104, .int .i64 23] 31)).drewN k) _ _ from hR) n (by omega)
  clear hLM hb
  have c1 : IntKind.u64.wrap 2139095040 = 2139095040 := by decide
  have c2 : IntKind.u64.wrap 2139095039 = 2139095039 := by decide
  cases neg <;> cases a1 <;> cases a2 <;> cases a3
  all_goals
    simp only [Bool.or_true, Bool.or_false, Bool.and_true, Bool.and_false, Bool.not_true, Bool.not_false, if_true, if_false, Bool.false_eq_true]
    go_enter Try.func90, Try.ntmps90
    go_wp2_with fail
    generalize w.alloc (.cells #[.int .i64 24, .int .i64 (-149), .int .i64 104, .int .i64 23] 31) = W at *
    have q0 : W.cell? ⟨w.heap.size, 0, none⟩ = some (.int .i64 24) := K0.at 0
    have q1 : W.cell? ⟨w.heap.size, 1, none⟩ = some (.int .i64 (-149)) := K0.at 1
    have q2 : W.cell? ⟨w.heap.size, 2, none⟩ = some (.int .i64 104) := K0.at 2
    have q3 : W.cell? ⟨w.heap.size, 3, none⟩ = some (.int .i64 23) := K0.at 3
    go_quiet ((go_at_call 71; with_reducible exact Calls.quiet_of (B1 _)))
    have K2 : Blk (W.drewN nq) w.heap.size #[.int .i64 24, .int .i64 (-149), .int .i64 104, .int .i64 23] 31 := K0
    have pr2 : Below w.heap.size w (W.drewN nq) := ⟨pr.os, pr.tape, pr.output, pr.size, pr.block⟩
    clear q0 q1 q2 q3 K0 pr B1
    generalize W.drewN nq = W2 at *
    have q0 : W2.cell? ⟨w.heap.size, 0, none⟩ = some (.int .i64 24) := K2.at 0
    have q1 : W2.cell? ⟨w.heap.size, 1, none⟩ = some (.int .i64 (-149)) := K2.at 1
    have q2 : W2.cell? ⟨w.heap.size, 2, none⟩ = some (.int .i64 104) := K2.at 2
    have q3 : W2.cell? ⟨w.heap.size, 3, none⟩ = some (.int .i64 23) := K2.at 3
    go_wp2_with (first
      | (go_at_call 49; refine (TI _).mono ?_; rintro x w5 ⟨rfl, b5⟩; replace pr2 := bel pr2 b5)
      | fail)
    first
      | exact bodyPost_ret (v := .tuple #[.int .u64 RI, .bool true]) (by simp [results, Try.results90, go_sem]) rfl ⟨rfl, pr2⟩
      | (go_region_held3 (fun x => x.cell? ⟨w.heap.size, 0, none⟩ = some (.int .i64 24) ∧ x.cell? ⟨w.heap.size, 1, none⟩ = some (.int .i64 (-149)) ∧ x.cell? ⟨w.heap.size, 2, none⟩ = some (.int .i64 104) ∧ x.cell? ⟨w.heap.size, 3, none⟩ = some (.int .i64 23)) (go_keep) (first
      | (go_at_call 43; refine (top_s _).mono ?_; rintro x w6 ⟨rfl, b5⟩; replace K2 := K2.below b5 K2.lt; replace pr2 := bel pr2 b5; clear b5; have q0 : w6.cell? ⟨w.heap.size, 0, none⟩ = some (.int .i64 24) := K2.at 0; have q1 : w6.cell? ⟨w.heap.size, 1, none⟩ = some (.int .i64 (-149)) := K2.at 1; have q2 : w6.cell? ⟨w.heap.size, 2, none⟩ = some (.int .i64 104) := K2.at 2; have q3 : w6.cell? ⟨w.heap.size, 3, none⟩ = some (.int .i64 23) := K2.at 3)
      | (go_at_call 43; refine (top_s _).mono ?_; rintro x w6 ⟨rfl, b5⟩; replace K2 := K2.below (below_undrew b5) K2.lt; replace pr2 := bel pr2 (below_undrew b5); clear b5; have q0 : w6.cell? ⟨w.heap.size, 0, none⟩ = some (.int .i64 24) := K2.at 0; have q1 : w6.cell? ⟨w.heap.size, 1, none⟩ = some (.int .i64 (-149)) := K2.at 1; have q2 : w6.cell? ⟨w.heap.size, 2, none⟩ = some (.int .i64 104) := K2.at 2; have q3 : w6.cell? ⟨w.heap.size, 3, none⟩ = some (.int .i64 23) := K2.at 3)
      | (go_at_call 50; refine (TM _).mono ?_; rintro x w7 ⟨rfl, b5⟩; replace K2 := K2.below b5 K2.lt; replace pr2 := bel pr2 b5; clear b5; have q0 : w7.cell? ⟨w.heap.size, 0, none⟩ = some (.int .i64 24) := K2.at 0; have q1 : w7.cell? ⟨w.heap.size, 1, none⟩ = some (.int .i64 (-149)) := K2.at 1; have q2 : w7.cell? ⟨w.heap.size, 2, none⟩ = some (.int .i64 104) := K2.at 2; have q3 : w7.cell? ⟨w.heap.size, 3, none⟩ = some (.int .i64 23) := K2.at 3)
      | (go_at_call 50; refine (TM _).mono ?_; rintro x w7 ⟨rfl, b5⟩; replace K2 := K2.below (below_undrew b5) K2.lt; replace pr2 := bel pr2 (below_undrew b5); clear b5; have q0 : w7.cell? ⟨w.heap.size, 0, none⟩ = some (.int .i64 24) := K2.at 0; have q1 : w7.cell? ⟨w.heap.size, 1, none⟩ = some (.int .i64 (-149)) := K2.at 1; have q2 : w7.cell? ⟨w.heap.size, 2, none⟩ = some (.int .i64 104) := K2.at 2; have q3 : w7.cell? ⟨w.heap.size, 3, none⟩ = some (.int .i64 23) := K2.at 3)
      | fail)
         go_wp2
         exact bodyPost_ret (v := .tuple #[.int .u64 RM, .bool true]) (by simp [results, Try.results90, go_sem]) rfl ⟨rfl, pr2⟩)
end Go.Proofs.Ytfpmegfdopnnpaa.L

namespace Go.Proofs.Ytfpmegfdopnnpaa.L
open Go.RowKit Tl

theorem small_len {ms : List Int} (h : Wd ms) (n : Nm ms) (hm : val ms < 9007199254740992) : ms.length ≤ 2 := by
  by_cases c : ms.length ≤ 2
  · exact c
  · have := val_low h n (by intro e; rw [e] at c; simp at c)
    have := pw_mono (show 2 ≤ ms.length - 1 by omega)
    have : pw 2 = 1152921504606846976 := by decide
    omega
set_option maxHeartbeats 3200000 in
set_option maxRecDepth 100000 in
/-- Size's laid: a carry out of the highest place. -/
theorem lays_w_top (v : Value) (ms0 : List Int) (e0' e way K Z : Int) (neg : Bool) (R : Int) (SG : ∀ w, Calls Try.prog 50 #[szW, .bool neg, .int .u64 Z] w fun e w' => e = .returned (.int .u64 R) ∧ Below w.heap.size w w') (w : World) (h : Rd w v ms0) (n0 : Nm ms0) (hv : val ms0 = 9007199254740992) (ee : e0' + 1 = e) (e0 : -1074 ≤ e) (e1 : e ≤ 971) (hK : e + 1075 = K) (hKZ : K * 4503599627370496 = Z) :
    Calls Try.prog 90 #[.agg #[.int .i64 53, .int .i64 (-1074), .int .i64 971, .int .i64 52], .bool neg, v, .int .i64 e0', .int .i64 way] w fun r w' => r = .returned (.tuple #[.int .u64 R, .bool false]) ∧ Below w.heap.size w w' := by
  have HV : Hid (val ms0 = 9007199254740992) := hv
  have hbl : bl (val ms0) = 54 := (bl_unique (L := 54) (by omega) (by rw [hv]; decide) (Or.inr (by rw [hv]; decide))).symm
  obtain ⟨LM, hLM⟩ : ∃ L : Nat, L = bl (val ms0) := ⟨_, rfl⟩
  have hb2 : (53 : Int) < LM := by omega
  have ll0 : ms0.length ≤ 2 := by
    by_cases c : ms0.length ≤ 2
    · exact c
    · have := val_low h.1 n0 (by intro e; rw [e] at c; simp at c)
      have := pw_mono (show 2 ≤ ms0.length - 1 by omega)
      have : pw 2 = 1152921504606846976 := by decide
      omega
  have K0 := Blk.new w #[.int .i64 53, .int .i64 (-1074), .int .i64 971, .int .i64 52] 31
  have pr : Below w.heap.size w (w.alloc (.cells #[.int .i64 53, .int .i64 (-1074), .int .i64 971, .int .i64 52] 31)) := (Below.refl _ _).alloc (Nat.le_refl _) _
  have hR0 := h.grow pr
  have ew : IntKind.i64.wrap (e0' + 1) = e := by rw [ee]; exact wrap_self _ (by omega) (by omega)
  have S1 : ∀ (w : World) (v : Value), Rd w v ms0 → Calls Try.prog 107 #[v, .int .i64 1] w fun e w' => ∃ r zs, e = .returned r ∧ Rd w' r zs ∧ Nm zs ∧ val zs = val ms0 / 2 ^ 1 ∧ Below w.heap.size w w' := fun w v h => Shr_any v ms0 1 w h (by omega) (by decide)
  have B1 : ∀ k, Calls Try.prog 71 #[v] ((w.alloc (.cells #[.int .i64 53, .int .i64 (-1074), .int .i64 971, .int .i64 52] 31)).drewN k) fun e w' => e = .returned (.int .i64 LM) ∧ ∃ n, w' = ((w.alloc (.cells #[.int .i64 53, .int .i64 (-1074), .int .i64 971, .int .i64 52] 31)).drewN k).drewN n := fun k => by rw [hLM]; exact Bits_q _ ms0 _ (show Rd ((w.alloc (.cells #[.int .i64 53, .int .i64 (-1074), .int .i64 971, .int .i64 52] 31)).drewN k) _ _ from hR0) n0 (by omega)
  have EE : Hid (e0' + 1 = e) := ee
  clear ee hv hbl hLM
  go_enter Try.func90, Try.ntmps90
  go_wp2_with fail
  generalize w.alloc (.cells #[.int .i64 53, .int .i64 (-1074), .int .i64 971, .int .i64 52] 31) = W at *
  have q0 : W.cell? ⟨w.heap.size, 0, none⟩ = some (.int .i64 53) := K0.at 0
  have q1 : W.cell? ⟨w.heap.size, 1, none⟩ = some (.int .i64 (-1074)) := K0.at 1
  have q2 : W.cell? ⟨w.heap.size, 2, none⟩ = some (.int .i64 971) := K0.at 2
  have q3 : W.cell? ⟨w.heap.size, 3, none⟩ = some (.int .i64 52) := K0.at 3
  go_quiet ((go_at_call 71; with_reducible exact Calls.quiet_of (B1 _)))
  have J0 : Blk (W.drewN nq) w.heap.size #[.int .i64 53, .int .i64 (-1074), .int .i64 971, .int .i64 52] 31 := K0
  have prj : Below w.heap.size w (W.drewN nq) := ⟨pr.os, pr.tape, pr.output, pr.size, pr.block⟩
  have hRj : Rd (W.drewN nq) v ms0 := hR0
  clear q0 q1 q2 q3 K0 pr hR0 B1
  generalize W.drewN nq = W1 at *
  go_wp2_with (first
    | (go_at_call 107; (refine (S1 _ _ hRj).mono ?_); (rintro x w5 ⟨u, ms, rfl, hR, n, vu, b5⟩; have vm : Hid (val ms = 4503599627370496) := (by show val ms = _; rw [vu, HV.out]; decide); clear vu; have ll : ms.length ≤ 2 := small_len hR.1 n (by rw [vm.out]; decide); have K0 := J0.below b5 J0.lt; have pr := bel prj b5; clear b5; obtain ⟨a1, c1, rfl⟩ : ∃ a1 c1, u = .slice a1 ms.length c1 := (by obtain ⟨_, a1, c1, e, _⟩ := hR; exact ⟨a1, c1, e⟩); have q0 : w5.cell? ⟨w.heap.size, 0, none⟩ = some (.int .i64 53) := K0.at 0; have q1 : w5.cell? ⟨w.heap.size, 1, none⟩ = some (.int .i64 (-1074)) := K0.at 1; have q2 : w5.cell? ⟨w.heap.size, 2, none⟩ = some (.int .i64 971) := K0.at 2; have q3 : w5.cell? ⟨w.heap.size, 3, none⟩ = some (.int .i64 52) := K0.at 3))
    | fail)
  clear S1 hRj J0 prj hb2
  have hw := hR.1
  have m1 : val ms < 9007199254740992 := by rw [vm.out]; decide
  have m0 : 4503599627370496 ≤ val ms := by rw [vm.out]; decide
  have hbl2 : bl (val ms) = 53 := bl_53 m0 m1
  obtain ⟨Z2, hZ⟩ : ∃ Z2, val ms - 4503599627370496 + K * 4503599627370496 = Z2 := ⟨_, rfl⟩
  have EZ : Z2 = Z := by rw [← hZ, vm.out]; omega
  rw [← EZ] at SG
  clear hKZ EZ
  go_loop [12, 13] (fun b i => ∃ j : Nat, j ≤ ms.length ∧ i = .int .i64 ((j : Int) - 1) ∧ b = .int .u64 (val (ms.drop j))) (fun _ i => (intOf i + 1).toNat)
  case atStart => exact ⟨ms.length, Nat.le_refl _, by go_num, by simp [val]⟩
  case round =>
    obtain ⟨j, hj, rfl, rfl⟩ := hrel
    by_cases hlt : 0 < j
    · obtain ⟨i, rfl⟩ : ∃ i, j = i + 1 := ⟨j - 1, by omega⟩
      obtain ⟨b, hb⟩ : ∃ b, b = val (ms.drop (i + 1)) := ⟨_, rfl⟩
      have R := laid_step hw (by omega) hb (by omega)
      rw [← hb]
      obtain ⟨_, _, _, e', _, _, g1⟩ := hR
      obtain ⟨b1, o1, rfl, hc⟩ := g1 (by omega)
      have cc := hc.at (i := i) (by omega)
      have bx := nth_bd hw i
      have t1 : ((i : Int) + 1 - 1) = i := by omega
      have f1 : IntKind.u64.wrap (b * 1073741824) = b * 1073741824 := by rw [IntKind.wrap_u64]; omega
      have f2 : IntKind.u64.wrap (nth ms i) = nth ms i := by rw [IntKind.wrap_u64]; omega
      have f3 := or_limb b (nth ms i) R.1 R.2.1 bx.1 bx.2
      rw [R.2.2] at f3
      clear R hb
      go_wp2
      go_round
      case rel => exact ⟨i, by omega, by go_num, rfl⟩
      case measure => simp [intOf]
    · have ej : j = 0 := by omega
      subst ej
      rw [List.drop_zero]
      have f1 : IntKind.u64.wrap (val ms - 4503599627370496) = val ms - 4503599627370496 := by rw [IntKind.wrap_u64]; omega
      have f2 : IntKind.i64.wrap (e - -1074) = e + 1074 := by rw [Int.sub_neg]; exact wrap_self _ (by omega) (by omega)
      have f3 : IntKind.i64.wrap (e + 1074 + 1) = K := by rw [show e + 1074 + 1 = K from by omega]; exact wrap_self _ (by omega) (by omega)
      have f4 : IntKind.u64.wrap K = K := by rw [IntKind.wrap_u64]; omega
      have f5 : IntKind.u64.wrap (K * 4503599627370496) = K * 4503599627370496 := by rw [IntKind.wrap_u64]; omega
      have f6 : IntKind.u64.wrap (val ms - 4503599627370496 + K * 4503599627370496) = Z2 := by rw [hZ, IntKind.wrap_u64]; omega
      have hR2 : Rd (w5) (.slice a1 ms.length c1) ms := hR
      have K2 : Blk (w5) w.heap.size #[.int .i64 53, .int .i64 (-1074), .int .i64 971, .int .i64 52] 31 := K0
      have pr2 : Below w.heap.size w (w5) := ⟨pr.os, pr.tape, pr.output, pr.size, pr.block⟩
      clear hK hZ q0 q1 q2 q3 K0 pr hR
      generalize w5 = W2 at *
      have q0 : W2.cell? ⟨w.heap.size, 0, none⟩ = some (.int .i64 53) := K2.at 0
      have q1 : W2.cell? ⟨w.heap.size, 1, none⟩ = some (.int .i64 (-1074)) := K2.at 1
      have q2 : W2.cell? ⟨w.heap.size, 2, none⟩ = some (.int .i64 971) := K2.at 2
      have q3 : W2.cell? ⟨w.heap.size, 3, none⟩ = some (.int .i64 52) := K2.at 3
      go_wp2_with fail
      go_quiet ((go_at_call 71; exact Calls.quiet_of (Bits_q _ ms _ hR2 n (by omega))))
      go_wp2_with fail
      go_quiet (fail)
      go_wp2_with (first
        | (go_at_call 50; refine (SG _).mono ?_; rintro r w1 ⟨rfl, b1⟩)
        | fail)
      exact bodyPost_ret (v := .tuple #[.int .u64 R, .bool false]) (by simp [results, Try.results90, go_sem]) rfl ⟨rfl, belN pr2 b1⟩
set_option maxHeartbeats 3200000 in
set_option maxRecDepth 100000 in
/-- Size's laid: a carry out of the highest place. -/
theorem lays_s_top (v : Value) (ms0 : List Int) (e0' e way K Z : Int) (neg : Bool) (R : Int) (SG : ∀ w, Calls Try.prog 50 #[szS, .bool neg, .int .u64 Z] w fun e w' => e = .returned (.int .u64 R) ∧ Below w.heap.size w w') (w : World) (h : Rd w v ms0) (n0 : Nm ms0) (hv : val ms0 = 16777216) (ee : e0' + 1 = e) (e0 : -149 ≤ e) (e1 : e ≤ 104) (hK : e + 150 = K) (hKZ : K * 8388608 = Z) :
    Calls Try.prog 90 #[.agg #[.int .i64 24, .int .i64 (-149), .int .i64 104, .int .i64 23], .bool neg, v, .int .i64 e0', .int .i64 way] w fun r w' => r = .returned (.tuple #[.int .u64 R, .bool false]) ∧ Below w.heap.size w w' := by
  have HV : Hid (val ms0 = 16777216) := hv
  have hbl : bl (val ms0) = 25 := (bl_unique (L := 25) (by omega) (by rw [hv]; decide) (Or.inr (by rw [hv]; decide))).symm
  obtain ⟨LM, hLM⟩ : ∃ L : Nat, L = bl (val ms0) := ⟨_, rfl⟩
  have hb2 : (24 : Int) < LM := by omega
  have ll0 : ms0.length ≤ 2 := by
    by_cases c : ms0.length ≤ 2
    · exact c
    · have := val_low h.1 n0 (by intro e; rw [e] at c; simp at c)
      have := pw_mono (show 2 ≤ ms0.length - 1 by omega)
      have : pw 2 = 1152921504606846976 := by decide
      omega
  have K0 := Blk.new w #[.int .i64 24, .int .i64 (-149), .int .i64 104, .int .i64 23] 31
  have pr : Below w.heap.size w (w.alloc (.cells #[.int .i64 24, .int .i64 (-149), .int .i64 104, .int .i64 23] 31)) := (Below.refl _ _).alloc (Nat.le_refl _) _
  have hR0 := h.grow pr
  have ew : IntKind.i64.wrap (e0' + 1) = e := by rw [ee]; exact wrap_self _ (by omega) (by omega)
  have S1 : ∀ (w : World) (v : Value), Rd w v ms0 → Calls Try.prog 107 #[v, .int .i64 1] w fun e w' => ∃ r zs, e = .returned r ∧ Rd w' r zs ∧ Nm zs ∧ val zs = val ms0 / 2 ^ 1 ∧ Below w.heap.size w w' := fun w v h => Shr_any v ms0 1 w h (by omega) (by decide)
  have B1 : ∀ k, Calls Try.prog 71 #[v] ((w.alloc (.cells #[.int .i64 24, .int .i64 (-149), .int .i64 104, .int .i64 23] 31)).drewN k) fun e w' => e = .returned (.int .i64 LM) ∧ ∃ n, w' = ((w.alloc (.cells #[.int .i64 24, .int .i64 (-149), .int .i64 104, .int .i64 23] 31)).drewN k).drewN n := fun k => by rw [hLM]; exact Bits_q _ ms0 _ (show Rd ((w.alloc (.cells #[.int .i64 24, .int .i64 (-149), .int .i64 104, .int .i64 23] 31)).drewN k) _ _ from hR0) n0 (by omega)
  have EE : Hid (e0' + 1 = e) := ee
  clear ee hv hbl hLM
  go_enter Try.func90, Try.ntmps90
  go_wp2_with fail
  generalize w.alloc (.cells #[.int .i64 24, .int .i64 (-149), .int .i64 104, .int .i64 23] 31) = W at *
  have q0 : W.cell? ⟨w.heap.size, 0, none⟩ = some (.int .i64 24) := K0.at 0
  have q1 : W.cell? ⟨w.heap.size, 1, none⟩ = some (.int .i64 (-149)) := K0.at 1
  have q2 : W.cell? ⟨w.heap.size, 2, none⟩ = some (.int .i64 104) := K0.at 2
  have q3 : W.cell? ⟨w.heap.size, 3, none⟩ = some (.int .i64 23) := K0.at 3
  go_quiet ((go_at_call 71; with_reducible exact Calls.quiet_of (B1 _)))
  have J0 : Blk (W.drewN nq) w.heap.size #[.int .i64 24, .int .i64 (-149), .int .i64 104, .int .i64 23] 31 := K0
  have prj : Below w.heap.size w (W.drewN nq) := ⟨pr.os, pr.tape, pr.output, pr.size, pr.block⟩
  have hRj : Rd (W.drewN nq) v ms0 := hR0
  clear q0 q1 q2 q3 K0 pr hR0 B1
  generalize W.drewN nq = W1 at *
  go_wp2_with (first
    | (go_at_call 107; (refine (S1 _ _ hRj).mono ?_); (rintro x w5 ⟨u, ms, rfl, hR, n, vu, b5⟩; have vm : Hid (val ms = 8388608) := (by show val ms = _; rw [vu, HV.out]; decide); clear vu; have ll : ms.length ≤ 2 := small_len hR.1 n (by rw [vm.out]; decide); have K0 := J0.below b5 J0.lt; have pr := bel prj b5; clear b5; obtain ⟨a1, c1, rfl⟩ : ∃ a1 c1, u = .slice a1 ms.length c1 := (by obtain ⟨_, a1, c1, e, _⟩ := hR; exact ⟨a1, c1, e⟩); have q0 : w5.cell? ⟨w.heap.size, 0, none⟩ = some (.int .i64 24) := K0.at 0; have q1 : w5.cell? ⟨w.heap.size, 1, none⟩ = some (.int .i64 (-149)) := K0.at 1; have q2 : w5.cell? ⟨w.heap.size, 2, none⟩ = some (.int .i64 104) := K0.at 2; have q3 : w5.cell? ⟨w.heap.size, 3, none⟩ = some (.int .i64 23) := K0.at 3))
    | fail)
  clear S1 hRj J0 prj hb2
  have hw := hR.1
  have m1 : val ms < 16777216 := by rw [vm.out]; decide
  have m0 : 8388608 ≤ val ms := by rw [vm.out]; decide
  have hbl2 : bl (val ms) = 24 := bl_24 m0 m1
  obtain ⟨Z2, hZ⟩ : ∃ Z2, val ms - 8388608 + K * 8388608 = Z2 := ⟨_, rfl⟩
  have EZ : Z2 = Z := by rw [← hZ, vm.out]; omega
  rw [← EZ] at SG
  clear hKZ EZ
  go_loop [12, 13] (fun b i => ∃ j : Nat, j ≤ ms.length ∧ i = .int .i64 ((j : Int) - 1) ∧ b = .int .u64 (val (ms.drop j))) (fun _ i => (intOf i + 1).toNat)
  case atStart => exact ⟨ms.length, Nat.le_refl _, by go_num, by simp [val]⟩
  case round =>
    obtain ⟨j, hj, rfl, rfl⟩ := hrel
    by_cases hlt : 0 < j
    · obtain ⟨i, rfl⟩ : ∃ i, j = i + 1 := ⟨j - 1, by omega⟩
      obtain ⟨b, hb⟩ : ∃ b, b = val (ms.drop (i + 1)) := ⟨_, rfl⟩
      have R := laid_step hw (by omega) hb (by omega)
      rw [← hb]
      obtain ⟨_, _, _, e', _, _, g1⟩ := hR
      obtain ⟨b1, o1, rfl, hc⟩ := g1 (by omega)
      have cc := hc.at (i := i) (by omega)
      have bx := nth_bd hw i
      have t1 : ((i : Int) + 1 - 1) = i := by omega
      have f1 : IntKind.u64.wrap (b * 1073741824) = b * 1073741824 := by rw [IntKind.wrap_u64]; omega
      have f2 : IntKind.u64.wrap (nth ms i) = nth ms i := by rw [IntKind.wrap_u64]; omega
      have f3 := or_limb b (nth ms i) R.1 R.2.1 bx.1 bx.2
      rw [R.2.2] at f3
      clear R hb
      go_wp2
      go_round
      case rel => exact ⟨i, by omega, by go_num, rfl⟩
      case measure => simp [intOf]
    · have ej : j = 0 := by omega
      subst ej
      rw [List.drop_zero]
      have f1 : IntKind.u64.wrap (val ms - 8388608) = val ms - 8388608 := by rw [IntKind.wrap_u64]; omega
      have f2 : IntKind.i64.wrap (e - -149) = e + 149 := by rw [Int.sub_neg]; exact wrap_self _ (by omega) (by omega)
      have f3 : IntKind.i64.wrap (e + 149 + 1) = K := by rw [show e + 149 + 1 = K from by omega]; exact wrap_self _ (by omega) (by omega)
      have f4 : IntKind.u64.wrap K = K := by rw [IntKind.wrap_u64]; omega
      have f5 : IntKind.u64.wrap (K * 8388608) = K * 8388608 := by rw [IntKind.wrap_u64]; omega
      have f6 : IntKind.u64.wrap (val ms - 8388608 + K * 8388608) = Z2 := by rw [hZ, IntKind.wrap_u64]; omega
      have hR2 : Rd (w5) (.slice a1 ms.length c1) ms := hR
      have K2 : Blk (w5) w.heap.size #[.int .i64 24, .int .i64 (-149), .int .i64 104, .int .i64 23] 31 := K0
      have pr2 : Below w.heap.size w (w5) := ⟨pr.os, pr.tape, pr.output, pr.size, pr.block⟩
      clear hK hZ q0 q1 q2 q3 K0 pr hR
      generalize w5 = W2 at *
      have q0 : W2.cell? ⟨w.heap.size, 0, none⟩ = some (.int .i64 24) := K2.at 0
      have q1 : W2.cell? ⟨w.heap.size, 1, none⟩ = some (.int .i64 (-149)) := K2.at 1
      have q2 : W2.cell? ⟨w.heap.size, 2, none⟩ = some (.int .i64 104) := K2.at 2
      have q3 : W2.cell? ⟨w.heap.size, 3, none⟩ = some (.int .i64 23) := K2.at 3
      go_wp2_with fail
      go_quiet ((go_at_call 71; exact Calls.quiet_of (Bits_q _ ms _ hR2 n (by omega))))
      go_wp2_with fail
      go_quiet (fail)
      go_wp2_with (first
        | (go_at_call 50; refine (SG _).mono ?_; rintro r w1 ⟨rfl, b1⟩)
        | fail)
      exact bodyPost_ret (v := .tuple #[.int .u64 R, .bool false]) (by simp [results, Try.results90, go_sem]) rfl ⟨rfl, belN pr2 b1⟩
end Go.Proofs.Ytfpmegfdopnnpaa.L
