import Derived.Test.YtlngkonmalallaaPart06
import Derived.Test.YtlngkonmalallaaPart10
import Derived.Laws.Externs

namespace Go.Proofs.Ytlngkonmalallaa.L
open Go.RowKit Tl

set_option maxHeartbeats 3200000 in
set_option maxRecDepth 100000 in
/-- Size's laid: too great: the greatest finite one .. -/
theorem lays_w_over (v : Value) (ms : List Int) (e way : Int) (neg a1 a2 a3 : Bool) (hw1 : (way == 1) = a1) (hw2 : (way == 2) = a2) (hw3 : (way == 3) = a3) (RM RI : Int)
    (TM : ∀ w, Calls Try.prog 61 #[szW, .bool neg, .int .u64 9218868437227405311] w fun e w' => e = .returned (.int .u64 RM) ∧ Below w.heap.size w w')
    (TI : ∀ w, Calls Try.prog 60 #[szW, .bool neg] w fun e w' => e = .returned (.int .u64 RI) ∧ Below w.heap.size w w')
    (w : World) (h : Rd w v ms) (n : Nm ms) (hb : bl (val ms) ≤ 53) (ll : ms.length ≤ 1000) (e1 : 971 < e) :
    Calls Try.prog 109 #[.agg #[.int .i64 53, .int .i64 (-1074), .int .i64 971, .int .i64 52], .bool neg, v, .int .i64 e, .int .i64 way] w fun r w' => r = .returned (.tuple #[.int .u64 (if (a3 || (a1 && !neg) || (a2 && neg)) = true then RM else RI), .bool true]) ∧ Below w.heap.size w w' := by
  obtain ⟨LM, hLM⟩ : ∃ L : Nat, L = bl (val ms) := ⟨_, rfl⟩
  have hb2 : ¬ (53 : Int) < LM := by omega
  have K0 := Blk.new w #[.int .i64 53, .int .i64 (-1074), .int .i64 971, .int .i64 52] 31
  have pr : Below w.heap.size w (w.alloc (.cells #[.int .i64 53, .int .i64 (-1074), .int .i64 971, .int .i64 52] 31)) := (Below.refl _ _).alloc (Nat.le_refl _) _
  have hR := h.grow pr
  have B1 : ∀ k, Calls Try.prog 82 #[v] ((w.alloc (.cells #[.int .i64 53, .int .i64 (-1074), .int .i64 971, .int .i64 52] 31)).drewN k) fun e w' => e = .returned (.int .i64 LM) ∧ ∃ n, w' = ((w.alloc (.cells #[.int .i64 53, .int .i64 (-1074), .int .i64 971, .int .i64 52] 31)).drewN k).drewN n := fun k => by rw [hLM]; exact Bits_q _ ms _ (show Rd ((w.alloc (.cells #[.int .i64 53, .int .i64 (-1074), .int .i64 971, .int .i64 52] 31)).drewN k) _ _ from hR) n (by omega)
  clear hLM hb
  have c1 : IntKind.u64.wrap 9218868437227405312 = 9218868437227405312 := by decide
  have c2 : IntKind.u64.wrap 9218868437227405311 = 9218868437227405311 := by decide
  cases neg <;> cases a1 <;> cases a2 <;> cases a3
  all_goals
    simp only [Bool.or_true, Bool.or_false, Bool.and_true, Bool.and_false, Bool.not_true, Bool.not_false, if_true, if_false, Bool.false_eq_true]
    go_enter Try.func109, Try.ntmps109
    go_wp2_with fail
    generalize w.alloc (.cells #[.int .i64 53, .int .i64 (-1074), .int .i64 971, .int .i64 52] 31) = W at *
    have q0 : W.cell? ⟨w.heap.size, 0, none⟩ = some (.int .i64 53) := K0.at 0
    have q1 : W.cell? ⟨w.heap.size, 1, none⟩ = some (.int .i64 (-1074)) := K0.at 1
    have q2 : W.cell? ⟨w.heap.size, 2, none⟩ = some (.int .i64 971) := K0.at 2
    have q3 : W.cell? ⟨w.heap.size, 3, none⟩ = some (.int .i64 52) := K0.at 3
    go_quiet ((go_at_call 82; with_reducible exact Calls.quiet_of (B1 _)))
    have K2 : Blk (W.drewN nq) w.heap.size #[.int .i64 53, .int .i64 (-1074), .int .i64 971, .int .i64 52] 31 := K0
    have pr2 : Below w.heap.size w (W.drewN nq) := ⟨pr.os, pr.tape, pr.output, pr.size, pr.block⟩
    clear q0 q1 q2 q3 K0 pr B1
    generalize W.drewN nq = W2 at *
    have q0 : W2.cell? ⟨w.heap.size, 0, none⟩ = some (.int .i64 53) := K2.at 0
    have q1 : W2.cell? ⟨w.heap.size, 1, none⟩ = some (.int .i64 (-1074)) := K2.at 1
    have q2 : W2.cell? ⟨w.heap.size, 2, none⟩ = some (.int .i64 971) := K2.at 2
    have q3 : W2.cell? ⟨w.heap.size, 3, none⟩ = some (.int .i64 52) := K2.at 3
    go_wp2_with (first
      | (go_at_call 60; refine (TI _).mono ?_; rintro x w5 ⟨rfl, b5⟩; replace pr2 := bel pr2 b5)
      | fail)
    first
      | exact bodyPost_ret (v := .tuple #[.int .u64 RI, .bool true]) (by simp [results, Try.results109, go_sem]) rfl ⟨rfl, pr2⟩
      | (go_region_held3 (fun x => x.cell? ⟨w.heap.size, 0, none⟩ = some (.int .i64 53) ∧ x.cell? ⟨w.heap.size, 1, none⟩ = some (.int .i64 (-1074)) ∧ x.cell? ⟨w.heap.size, 2, none⟩ = some (.int .i64 971) ∧ x.cell? ⟨w.heap.size, 3, none⟩ = some (.int .i64 52)) (go_keep) (first
      | (go_at_call 54; refine (top_w _).mono ?_; rintro x w6 ⟨rfl, b5⟩; replace K2 := K2.below b5 K2.lt; replace pr2 := bel pr2 b5; clear b5; have q0 : w6.cell? ⟨w.heap.size, 0, none⟩ = some (.int .i64 53) := K2.at 0; have q1 : w6.cell? ⟨w.heap.size, 1, none⟩ = some (.int .i64 (-1074)) := K2.at 1; have q2 : w6.cell? ⟨w.heap.size, 2, none⟩ = some (.int .i64 971) := K2.at 2; have q3 : w6.cell? ⟨w.heap.size, 3, none⟩ = some (.int .i64 52) := K2.at 3)
      | (go_at_call 54; refine (top_w _).mono ?_; rintro x w6 ⟨rfl, b5⟩; replace K2 := K2.below (below_undrew b5) K2.lt; replace pr2 := bel pr2 (below_undrew b5); clear b5; have q0 : w6.cell? ⟨w.heap.size, 0, none⟩ = some (.int .i64 53) := K2.at 0; have q1 : w6.cell? ⟨w.heap.size, 1, none⟩ = some (.int .i64 (-1074)) := K2.at 1; have q2 : w6.cell? ⟨w.heap.size, 2, none⟩ = some (.int .i64 971) := K2.at 2; have q3 : w6.cell? ⟨w.heap.size, 3, none⟩ = some (.int .i64 52) := K2.at 3)
      | (go_at_call 61; refine (TM _).mono ?_; rintro x w7 ⟨rfl, b5⟩; replace K2 := K2.below b5 K2.lt; replace pr2 := bel pr2 b5; clear b5; have q0 : w7.cell? ⟨w.heap.size, 0, none⟩ = some (.int .i64 53) := K2.at 0; have q1 : w7.cell? ⟨w.heap.size, 1, none⟩ = some (.int .i64 (-1074)) := K2.at 1; have q2 : w7.cell? ⟨w.heap.size, 2, none⟩ = some (.int .i64 971) := K2.at 2; have q3 : w7.cell? ⟨w.heap.size, 3, none⟩ = some (.int .i64 52) := K2.at 3)
      | (go_at_call 61; refine (TM _).mono ?_; rintro x w7 ⟨rfl, b5⟩; replace K2 := K2.below (below_undrew b5) K2.lt; replace pr2 := bel pr2 (below_undrew b5); clear b5; have q0 : w7.cell? ⟨w.heap.size, 0, none⟩ = some (.int .i64 53) := K2.at 0; have q1 : w7.cell? ⟨w.heap.size, 1, none⟩ = some (.int .i64 (-1074)) := K2.at 1; have q2 : w7.cell? ⟨w.heap.size, 2, none⟩ = some (.int .i64 971) := K2.at 2; have q3 : w7.cell? ⟨w.heap.size, 3, none⟩ = some (.int .i64 52) := K2.at 3)
      | fail)
         go_wp2
         exact bodyPost_ret (v := .tuple #[.int .u64 RM, .bool true]) (by simp [results, Try.results109, go_sem]) rfl ⟨rfl, pr2⟩)
set_option maxHeartbeats 3200000 in
set_option maxRecDepth 100000 in
/-- Size's laid: too great: the greatest finite one .. -/
theorem lays_s_over (v : Value) (ms : List Int) (e way : Int) (neg a1 a2 a3 : Bool) (hw1 : (way == 1) = a1) (hw2 : (way == 2) = a2) (hw3 : (way == 3) = a3) (RM RI : Int)
    (TM : ∀ w, Calls Try.prog 61 #[szS, .bool neg, .int .u64 2139095039] w fun e w' => e = .returned (.int .u64 RM) ∧ Below w.heap.size w w')
    (TI : ∀ w, Calls Try.prog 60 #[szS, .bool neg] w fun e w' => e = .returned (.int .u64 RI) ∧ Below w.heap.size w w')
    (w : World) (h : Rd w v ms) (n : Nm ms) (hb : bl (val ms) ≤ 24) (ll : ms.length ≤ 1000) (e1 : 104 < e) :
    Calls Try.prog 109 #[.agg #[.int .i64 24, .int .i64 (-149), .int .i64 104, .int .i64 23], .bool neg, v, .int .i64 e, .int .i64 way] w fun r w' => r = .returned (.tuple #[.int .u64 (if (a3 || (a1 && !neg) || (a2 && neg)) = true then RM else RI), .bool true]) ∧ Below w.heap.size w w' := by
  obtain ⟨LM, hLM⟩ : ∃ L : Nat, L = bl (val ms) := ⟨_, rfl⟩
  have hb2 : ¬ (24 : Int) < LM := by omega
  have K0 := Blk.new w #[.int .i64 24, .int .i64 (-149), .int .i64 104, .int .i64 23] 31
  have pr : Below w.heap.size w (w.alloc (.cells #[.int .i64 24, .int .i64 (-149), .int .i64 104, .int .i64 23] 31)) := (Below.refl _ _).alloc (Nat.le_refl _) _
  have hR := h.grow pr
  have B1 : ∀ k, Calls Try.prog 82 #[v] ((w.alloc (.cells #[.int .i64 24, .int .i64 (-149), .int .i64 104, .int .i64 23] 31)).drewN k) fun e w' => e = .returned (.int .i64 LM) ∧ ∃ n, w' = ((w.alloc (.cells #[.int .i64 24, .int .i64 (-149), .int .i64 104, .int .i64 23] 31)).drewN k).drewN n := fun k => by rw [hLM]; exact Bits_q _ ms _ (show Rd ((w.alloc (.cells #[.int .i64 24, .int .i64 (-149), .int .i64 104, .int .i64 23] 31)).drewN k) _ _ from hR) n (by omega)
  clear hLM hb
  have c1 : IntKind.u64.wrap 2139095040 = 2139095040 := by decide
  have c2 : IntKind.u64.wrap 2139095039 = 2139095039 := by decide
  cases neg <;> cases a1 <;> cases a2 <;> cases a3
  all_goals
    simp only [Bool.or_true, Bool.or_false, Bool.and_true, Bool.and_false, Bool.not_true, Bool.not_false, if_true, if_false, Bool.false_eq_true]
    go_enter Try.func109, Try.ntmps109
    go_wp2_with fail
    generalize w.alloc (.cells #[.int .i64 24, .int .i64 (-149), .int .i64 104, .int .i64 23] 31) = W at *
    have q0 : W.cell? ⟨w.heap.size, 0, none⟩ = some (.int .i64 24) := K0.at 0
    have q1 : W.cell? ⟨w.heap.size, 1, none⟩ = some (.int .i64 (-149)) := K0.at 1
    have q2 : W.cell? ⟨w.heap.size, 2, none⟩ = some (.int .i64 104) := K0.at 2
    have q3 : W.cell? ⟨w.heap.size, 3, none⟩ = some (.int .i64 23) := K0.at 3
    go_quiet ((go_at_call 82; with_reducible exact Calls.quiet_of (B1 _)))
    have K2 : Blk (W.drewN nq) w.heap.size #[.int .i64 24, .int .i64 (-149), .int .i64 104, .int .i64 23] 31 := K0
    have pr2 : Below w.heap.size w (W.drewN nq) := ⟨pr.os, pr.tape, pr.output, pr.size, pr.block⟩
    clear q0 q1 q2 q3 K0 pr B1
    generalize W.drewN nq = W2 at *
    have q0 : W2.cell? ⟨w.heap.size, 0, none⟩ = some (.int .i64 24) := K2.at 0
    have q1 : W2.cell? ⟨w.heap.size, 1, none⟩ = some (.int .i64 (-149)) := K2.at 1
    have q2 : W2.cell? ⟨w.heap.size, 2, none⟩ = some (.int .i64 104) := K2.at 2
    have q3 : W2.cell? ⟨w.heap.size, 3, none⟩ = some (.int .i64 23) := K2.at 3
    go_wp2_with (first
      | (go_at_call 60; refine (TI _).mono ?_; rintro x w5 ⟨rfl, b5⟩; replace pr2 := bel pr2 b5)
      | fail)
    first
      | exact bodyPost_ret (v := .tuple #[.int .u64 RI, .bool true]) (by simp [results, Try.results109, go_sem]) rfl ⟨rfl, pr2⟩
      | (go_region_held3 (fun x => x.cell? ⟨w.heap.size, 0, none⟩ = some (.int .i64 24) ∧ x.cell? ⟨w.heap.size, 1, none⟩ = some (.int .i64 (-149)) ∧ x.cell? ⟨w.heap.size, 2, none⟩ = some (.int .i64 104) ∧ x.cell? ⟨w.heap.size, 3, none⟩ = some (.int .i64 23)) (go_keep) (first
      | (go_at_call 54; refine (top_s _).mono ?_; rintro x w6 ⟨rfl, b5⟩; replace K2 := K2.below b5 K2.lt; replace pr2 := bel pr2 b5; clear b5; have q0 : w6.cell? ⟨w.heap.size, 0, none⟩ = some (.int .i64 24) := K2.at 0; have q1 : w6.cell? ⟨w.heap.size, 1, none⟩ = some (.int .i64 (-149)) := K2.at 1; have q2 : w6.cell? ⟨w.heap.size, 2, none⟩ = some (.int .i64 104) := K2.at 2; have q3 : w6.cell? ⟨w.heap.size, 3, none⟩ = some (.int .i64 23) := K2.at 3)
      | (go_at_call 54; refine (top_s _).mono ?_; rintro x w6 ⟨rfl, b5⟩; replace K2 := K2.below (below_undrew b5) K2.lt; replace pr2 := bel pr2 (below_undrew b5); clear b5; have q0 : w6.cell? ⟨w.heap.size, 0, none⟩ = some (.int .i64 24) := K2.at 0; have q1 : w6.cell? ⟨w.heap.size, 1, none⟩ = some (.int .i64 (-149)) := K2.at 1; have q2 : w6.cell? ⟨w.heap.size, 2, none⟩ = some (.int .i64 104) := K2.at 2; have q3 : w6.cell? ⟨w.heap.size, 3, none⟩ = some (.int .i64 23) := K2.at 3)
      | (go_at_call 61; refine (TM _).mono ?_; rintro x w7 ⟨rfl, b5⟩; replace K2 := K2.below b5 K2.lt; replace pr2 := bel pr2 b5; clear b5; have q0 : w7.cell? ⟨w.heap.size, 0, none⟩ = some (.int .i64 24) := K2.at 0; have q1 : w7.cell? ⟨w.heap.size, 1, none⟩ = some (.int .i64 (-149)) := K2.at 1; have q2 : w7.cell? ⟨w.heap.size, 2, none⟩ = some (.int .i64 104) := K2.at 2; have q3 : w7.cell? ⟨w.heap.size, 3, none⟩ = some (.int .i64 23) := K2.at 3)
      | (go_at_call 61; refine (TM _).mono ?_; rintro x w7 ⟨rfl, b5⟩; replace K2 := K2.below (below_undrew b5) K2.lt; replace pr2 := bel pr2 (below_undrew b5); clear b5; have q0 : w7.cell? ⟨w.heap.size, 0, none⟩ = some (.int .i64 24) := K2.at 0; have q1 : w7.cell? ⟨w.heap.size, 1, none⟩ = some (.int .i64 (-149)) := K2.at 1; have q2 : w7.cell? ⟨w.heap.size, 2, none⟩ = some (.int .i64 104) := K2.at 2; have q3 : w7.cell? ⟨w.heap.size, 3, none⟩ = some (.int .i64 23) := K2.at 3)
      | fail)
         go_wp2
         exact bodyPost_ret (v := .tuple #[.int .u64 RM, .bool true]) (by simp [results, Try.results109, go_sem]) rfl ⟨rfl, pr2⟩)
end Go.Proofs.Ytlngkonmalallaa.L

namespace Go.Proofs.Ytlngkonmalallaa.L
open Go.RowKit Tl

theorem small_len {ms : List Int} (h : Wd ms) (n : Nm ms) (hm : val ms < 9007199254740992) : ms.length ≤ 2 := by
  by_cases c : ms.length ≤ 2
  · exact c
  · have := val_low h n (by intro e; rw [e] at c; simp at c)
    have := pw_mono (show 2 ≤ ms.length - 1 by omega)
    have : pw 2 = 1152921504606846976 := by decide
    omega
set_option maxHeartbeats 3200000 in
set_option maxRecDepth 100000 in
/-- Size's laid: a carry out of the highest place. -/
theorem lays_w_top (v : Value) (ms0 : List Int) (e0' e way K Z : Int) (neg : Bool) (R : Int) (SG : ∀ w, Calls Try.prog 61 #[szW, .bool neg, .int .u64 Z] w fun e w' => e = .returned (.int .u64 R) ∧ Below w.heap.size w w') (w : World) (h : Rd w v ms0) (n0 : Nm ms0) (hv : val ms0 = 9007199254740992) (ee : e0' + 1 = e) (e0 : -1074 ≤ e) (e1 : e ≤ 971) (hK : e + 1075 = K) (hKZ : K * 4503599627370496 = Z) :
    Calls Try.prog 109 #[.agg #[.int .i64 53, .int .i64 (-1074), .int .i64 971, .int .i64 52], .bool neg, v, .int .i64 e0', .int .i64 way] w fun r w' => r = .returned (.tuple #[.int .u64 R, .bool false]) ∧ Below w.heap.size w w' := by
  have HV : Hid (val ms0 = 9007199254740992) := hv
  have hbl : bl (val ms0) = 54 := (bl_unique (L := 54) (by omega) (by rw [hv]; decide) (Or.inr (by rw [hv]; decide))).symm
  obtain ⟨LM, hLM⟩ : ∃ L : Nat, L = bl (val ms0) := ⟨_, rfl⟩
  have hb2 : (53 : Int) < LM := by omega
  have ll0 : ms0.length ≤ 2 := by
    by_cases c : ms0.length ≤ 2
    · exact c
    · have := val_low h.1 n0 (by intro e; rw [e] at c; simp at c)
      have := pw_mono (show 2 ≤ ms0.length - 1 by omega)
      have : pw 2 = 1152921504606846976 := by decide
      omega
  have K0 := Blk.new w #[.int .i64 53, .int .i64 (-1074), .int .i64 971, .int .i64 52] 31
  have pr : Below w.heap.size w (w.alloc (.cells #[.int .i64 53, .int .i64 (-1074), .int .i64 971, .int .i64 52] 31)) := (Below.refl _ _).alloc (Nat.le_refl _) _
  have hR0 := h.grow pr
  have ew : IntKind.i64.wrap (e0' + 1) = e := by rw [ee]; exact wrap_self _ (by omega) (by omega)
  have S1 : ∀ (w : World) (v : Value), Rd w v ms0 → Calls Try.prog 129 #[v, .int .i64 1] w fun e w' => ∃ r zs, e = .returned r ∧ Rd w' r zs ∧ Nm zs ∧ val zs = val ms0 / 2 ^ 1 ∧ Below w.heap.size w w' := fun w v h => Shr_any v ms0 1 w h (by omega) (by decide)
  have B1 : ∀ k, Calls Try.prog 82 #[v] ((w.alloc (.cells #[.int .i64 53, .int .i64 (-1074), .int .i64 971, .int .i64 52] 31)).drewN k) fun e w' => e = .returned (.int .i64 LM) ∧ ∃ n, w' = ((w.alloc (.cells #[.int .i64 53, .int .i64 (-1074), .int .i64 971, .int .i64 52] 31)).drewN k).drewN n := fun k => by rw [hLM]; exact Bits_q _ ms0 _ (show Rd ((w.alloc (.cells #[.int .i64 53, .int .i64 (-1074), .int .i64 971, .int .i64 52] 31)).drewN k) _ _ from hR0) n0 (by omega)
  have EE : Hid (e0' + 1 = e) := ee
  clear ee hv hbl hLM
  go_enter Try.func109, Try.ntmps109
  go_wp2_with fail
  generalize w.alloc (.cells #[.int .i64 53, .int .i64 (-1074), .int .i64 971, .int .i64 52] 31) = W at *
  have q0 : W.cell? ⟨w.heap.size, 0, none⟩ = some (.int .i64 53) := K0.at 0
  have q1 : W.cell? ⟨w.heap.size, 1, none⟩ = some (.int .i64 (-1074)) := K0.at 1
  have q2 : W.cell? ⟨w.heap.size, 2, none⟩ = some (.int .i64 971) := K0.at 2
  have q3 : W.cell? ⟨w.heap.size, 3, none⟩ = some (.int .i64 52) := K0.at 3
  go_quiet ((go_at_call 82; with_reducible exact Calls.quiet_of (B1 _)))
  have J0 : Blk (W.drewN nq) w.heap.size #[.int .i64 53, .int .i64 (-1074), .int .i64 971, .int .i64 52] 31 := K0
  have prj : Below w.heap.size w (W.drewN nq) := ⟨pr.os, pr.tape, pr.output, pr.size, pr.block⟩
  have hRj : Rd (W.drewN nq) v ms0 := hR0
  clear q0 q1 q2 q3 K0 pr hR0 B1
  generalize W.drewN nq = W1 at *
  go_wp2_with (first
    | (go_at_call 129; (refine (S1 _ _ hRj).mono ?_); (rintro x w5 ⟨u, ms, rfl, hR, n, vu, b5⟩; have vm : Hid (val ms = 4503599627370496) := (by show val ms = _; rw [vu, HV.out]; decide); clear vu; have ll : ms.length ≤ 2 := small_len hR.1 n (by rw [vm.out]; decide); have K0 := J0.below b5 J0.lt; have pr := bel prj b5; clear b5; obtain ⟨a1, c1, rfl⟩ : ∃ a1 c1, u = .slice a1 ms.length c1 := (by obtain ⟨_, a1, c1, e, _⟩ := hR; exact ⟨a1, c1, e⟩); have q0 : w5.cell? ⟨w.heap.size, 0, none⟩ = some (.int .i64 53) := K0.at 0; have q1 : w5.cell? ⟨w.heap.size, 1, none⟩ = some (.int .i64 (-1074)) := K0.at 1; have q2 : w5.cell? ⟨w.heap.size, 2, none⟩ = some (.int .i64 971) := K0.at 2; have q3 : w5.cell? ⟨w.heap.size, 3, none⟩ = some (.int .i64 52) := K0.at 3))
    | fail)
  clear S1 hRj J0 prj hb2
  have hw := hR.1
  have m1 : val ms < 9007199254740992 := by rw [vm.out]; decide
  have m0 : 4503599627370496 ≤ val ms := by rw [vm.out]; decide
  have hbl2 : bl (val ms) = 53 := bl_53 m0 m1
  obtain ⟨Z2, hZ⟩ : ∃ Z2, val ms - 4503599627370496 + K * 4503599627370496 = Z2 := ⟨_, rfl⟩
  have EZ : Z2 = Z := by rw [← hZ, vm.out]; omega
  rw [← EZ] at SG
  clear hKZ EZ
  go_loop [12, 13] (fun b i => ∃ j : Nat, j ≤ ms.length ∧ i = .int .i64 ((j : Int) - 1) ∧ b = .int .u64 (val (ms.drop j))) (fun _ i => (intOf i + 1).toNat)
  case atStart => exact ⟨ms.length, Nat.le_refl _, by go_num, by simp [val]⟩
  case round =>
    obtain ⟨j, hj, rfl, rfl⟩ := hrel
    by_cases hlt : 0 < j
    · obtain ⟨i, rfl⟩ : ∃ i, j = i + 1 := ⟨j - 1, by omega⟩
      obtain ⟨b, hb⟩ : ∃ b, b = val (ms.drop (i + 1)) := ⟨_, rfl⟩
      have R := laid_step hw (by omega) hb (by omega)
      rw [← hb]
      obtain ⟨_, _, _, e', _, _, g1⟩ := hR
      obtain ⟨b1, o1, rfl, hc⟩ := g1 (by omega)
      have cc := hc.at (i := i) (by omega)
      have bx := nth_bd hw i
      have t1 : ((i : Int) + 1 - 1) = i := by omega
      have f1 : IntKind.u64.wrap (b * 1073741824) = b * 1073741824 := by rw [IntKind.wrap_u64]; omega
      have f2 : IntKind.u64.wrap (nth ms i) = nth ms i := by rw [IntKind.wrap_u64]; omega
      have f3 := or_limb b (nth ms i) R.1 R.2.1 bx.1 bx.2
      rw [R.2.2] at f3
      clear R hb
      go_wp2
      go_round
      case rel => exact ⟨i, by omega, by go_num, rfl⟩
      case measure => simp [intOf]
    · have ej : j = 0 := by omega
      subst ej
      rw [List.drop_zero]
      have f1 : IntKind.u64.wrap (val ms - 4503599627370496) = val ms - 4503599627370496 := by rw [IntKind.wrap_u64]; omega
      have f2 : IntKind.i64.wrap (e - -1074) = e + 1074 := by rw [Int.sub_neg]; exact wrap_self _ (by omega) (by omega)
      have f3 : IntKind.i64.wrap (e + 1074 + 1) = K := by rw [show e + 1074 + 1 = K from by omega]; exact wrap_self _ (by omega) (by omega)
      have f4 : IntKind.u64.wrap K = K := by rw [IntKind.wrap_u64]; omega
      have f5 : IntKind.u64.wrap (K * 4503599627370496) = K * 4503599627370496 := by rw [IntKind.wrap_u64]; omega
      have f6 : IntKind.u64.wrap (val ms - 4503599627370496 + K * 4503599627370496) = Z2 := by rw [hZ, IntKind.wrap_u64]; omega
      have hR2 : Rd (w5) (.slice a1 ms.length c1) ms := hR
      have K2 : Blk (w5) w.heap.size #[.int .i64 53, .int .i64 (-1074), .int .i64 971, .int .i64 52] 31 := K0
      have pr2 : Below w.heap.size w (w5) := ⟨pr.os, pr.tape, pr.output, pr.size, pr.block⟩
      clear hK hZ q0 q1 q2 q3 K0 pr hR
      generalize w5 = W2 at *
      have q0 : W2.cell? ⟨w.heap.size, 0, none⟩ = some (.int .i64 53) := K2.at 0
      have q1 : W2.cell? ⟨w.heap.size, 1, none⟩ = some (.int .i64 (-1074)) := K2.at 1
      have q2 : W2.cell? ⟨w.heap.size, 2, none⟩ = some (.int .i64 971) := K2.at 2
      have q3 : W2.cell? ⟨w.heap.size, 3, none⟩ = some (.int .i64 52) := K2.at 3
      go_wp2_with fail
      go_quiet ((go_at_call 82; exact Calls.quiet_of (Bits_q _ ms _ hR2 n (by omega))))
      go_wp2_with fail
      go_quiet (fail)
      go_wp2_with (first
        | (go_at_call 61; refine (SG _).mono ?_; rintro r w1 ⟨rfl, b1⟩)
        | fail)
      exact bodyPost_ret (v := .tuple #[.int .u64 R, .bool false]) (by simp [results, Try.results109, go_sem]) rfl ⟨rfl, belN pr2 b1⟩
set_option maxHeartbeats 3200000 in
set_option maxRecDepth 100000 in
/-- Size's laid: a carry out of the highest place. -/
theorem lays_s_top (v : Value) (ms0 : List Int) (e0' e way K Z : Int) (neg : Bool) (R : Int) (SG : ∀ w, Calls Try.prog 61 #[szS, .bool neg, .int .u64 Z] w fun e w' => e = .returned (.int .u64 R) ∧ Below w.heap.size w w') (w : World) (h : Rd w v ms0) (n0 : Nm ms0) (hv : val ms0 = 16777216) (ee : e0' + 1 = e) (e0 : -149 ≤ e) (e1 : e ≤ 104) (hK : e + 150 = K) (hKZ : K * 8388608 = Z) :
    Calls Try.prog 109 #[.agg #[.int .i64 24, .int .i64 (-149), .int .i64 104, .int .i64 23], .bool neg, v, .int .i64 e0', .int .i64 way] w fun r w' => r = .returned (.tuple #[.int .u64 R, .bool false]) ∧ Below w.heap.size w w' := by
  have HV : Hid (val ms0 = 16777216) := hv
  have hbl : bl (val ms0) = 25 := (bl_unique (L := 25) (by omega) (by rw [hv]; decide) (Or.inr (by rw [hv]; decide))).symm
  obtain ⟨LM, hLM⟩ : ∃ L : Nat, L = bl (val ms0) := ⟨_, rfl⟩
  have hb2 : (24 : Int) < LM := by omega
  have ll0 : ms0.length ≤ 2 := by
    by_cases c : ms0.length ≤ 2
    · exact c
    · have := val_low h.1 n0 (by intro e; rw [e] at c; simp at c)
      have := pw_mono (show 2 ≤ ms0.length - 1 by omega)
      have : pw 2 = 1152921504606846976 := by decide
      omega
  have K0 := Blk.new w #[.int .i64 24, .int .i64 (-149), .int .i64 104, .int .i64 23] 31
  have pr : Below w.heap.size w (w.alloc (.cells #[.int .i64 24, .int .i64 (-149), .int .i64 104, .int .i64 23] 31)) := (Below.refl _ _).alloc (Nat.le_refl _) _
  have hR0 := h.grow pr
  have ew : IntKind.i64.wrap (e0' + 1) = e := by rw [ee]; exact wrap_self _ (by omega) (by omega)
  have S1 : ∀ (w : World) (v : Value), Rd w v ms0 → Calls Try.prog 129 #[v, .int .i64 1] w fun e w' => ∃ r zs, e = .returned r ∧ Rd w' r zs ∧ Nm zs ∧ val zs = val ms0 / 2 ^ 1 ∧ Below w.heap.size w w' := fun w v h => Shr_any v ms0 1 w h (by omega) (by decide)
  have B1 : ∀ k, Calls Try.prog 82 #[v] ((w.alloc (.cells #[.int .i64 24, .int .i64 (-149), .int .i64 104, .int .i64 23] 31)).drewN k) fun e w' => e = .returned (.int .i64 LM) ∧ ∃ n, w' = ((w.alloc (.cells #[.int .i64 24, .int .i64 (-149), .int .i64 104, .int .i64 23] 31)).drewN k).drewN n := fun k => by rw [hLM]; exact Bits_q _ ms0 _ (show Rd ((w.alloc (.cells #[.int .i64 24, .int .i64 (-149), .int .i64 104, .int .i64 23] 31)).drewN k) _ _ from hR0) n0 (by omega)
  have EE : Hid (e0' + 1 = e) := ee
  clear ee hv hbl hLM
  go_enter Try.func109, Try.ntmps109
  go_wp2_with fail
  generalize w.alloc (.cells #[.int .i64 24, .int .i64 (-149), .int .i64 104, .int .i64 23] 31) = W at *
  have q0 : W.cell? ⟨w.heap.size, 0, none⟩ = some (.int .i64 24) := K0.at 0
  have q1 : W.cell? ⟨w.heap.size, 1, none⟩ = some (.int .i64 (-149)) := K0.at 1
  have q2 : W.cell? ⟨w.heap.size, 2, none⟩ = some (.int .i64 104) := K0.at 2
  have q3 : W.cell? ⟨w.heap.size, 3, none⟩ = some (.int .i64 23) := K0.at 3
  go_quiet ((go_at_call 82; with_reducible exact Calls.quiet_of (B1 _)))
  have J0 : Blk (W.drewN nq) w.heap.size #[.int .i64 24, .int .i64 (-149), .int .i64 104, .int .i64 23] 31 := K0
  have prj : Below w.heap.size w (W.drewN nq) := ⟨pr.os, pr.tape, pr.output, pr.size, pr.block⟩
  have hRj : Rd (W.drewN nq) v ms0 := hR0
  clear q0 q1 q2 q3 K0 pr hR0 B1
  generalize W.drewN nq = W1 at *
  go_wp2_with (first
    | (go_at_call 129; (refine (S1 _ _ hRj).mono ?_); (rintro x w5 ⟨u, ms, rfl, hR, n, vu, b5⟩; have vm : Hid (val ms = 8388608) := (by show val ms = _; rw [vu, HV.out]; decide); clear vu; have ll : ms.length ≤ 2 := small_len hR.1 n (by rw [vm.out]; decide); have K0 := J0.below b5 J0.lt; have pr := bel prj b5; clear b5; obtain ⟨a1, c1, rfl⟩ : ∃ a1 c1, u = .slice a1 ms.length c1 := (by obtain ⟨_, a1, c1, e, _⟩ := hR; exact ⟨a1, c1, e⟩); have q0 : w5.cell? ⟨w.heap.size, 0, none⟩ = some (.int .i64 24) := K0.at 0; have q1 : w5.cell? ⟨w.heap.size, 1, none⟩ = some (.int .i64 (-149)) := K0.at 1; have q2 : w5.cell? ⟨w.heap.size, 2, none⟩ = some (.int .i64 104) := K0.at 2; have q3 : w5.cell? ⟨w.heap.size, 3, none⟩ = some (.int .i64 23) := K0.at 3))
    | fail)
  clear S1 hRj J0 prj hb2
  have hw := hR.1
  have m1 : val ms < 16777216 := by rw [vm.out]; decide
  have m0 : 8388608 ≤ val ms := by rw [vm.out]; decide
  have hbl2 : bl (val ms) = 24 := bl_24 m0 m1
  obtain ⟨Z2, hZ⟩ : ∃ Z2, val ms - 8388608 + K * 8388608 = Z2 := ⟨_, rfl⟩
  have EZ : Z2 = Z := by rw [← hZ, vm.out]; omega
  rw [← EZ] at SG
  clear hKZ EZ
  go_loop [12, 13] (fun b i => ∃ j : Nat, j ≤ ms.length ∧ i = .int .i64 ((j : Int) - 1) ∧ b = .int .u64 (val (ms.drop j))) (fun _ i => (intOf i + 1).toNat)
  case atStart => exact ⟨ms.length, Nat.le_refl _, by go_num, by simp [val]⟩
  case round =>
    obtain ⟨j, hj, rfl, rfl⟩ := hrel
    by_cases hlt : 0 < j
    · obtain ⟨i, rfl⟩ : ∃ i, j = i + 1 := ⟨j - 1, by omega⟩
      obtain ⟨b, hb⟩ : ∃ b, b = val (ms.drop (i + 1)) := ⟨_, rfl⟩
      have R := laid_step hw (by omega) hb (by omega)
      rw [← hb]
      obtain ⟨_, _, _, e', _, _, g1⟩ := hR
      obtain ⟨b1, o1, rfl, hc⟩ := g1 (by omega)
      have cc := hc.at (i := i) (by omega)
      have bx := nth_bd hw i
      have t1 : ((i : Int) + 1 - 1) = i := by omega
      have f1 : IntKind.u64.wrap (b * 1073741824) = b * 1073741824 := by rw [IntKind.wrap_u64]; omega
      have f2 : IntKind.u64.wrap (nth ms i) = nth ms i := by rw [IntKind.wrap_u64]; omega
      have f3 := or_limb b (nth ms i) R.1 R.2.1 bx.1 bx.2
      rw [R.2.2] at f3
      clear R hb
      go_wp2
      go_round
      case rel => exact ⟨i, by omega, by go_num, rfl⟩
      case measure => simp [intOf]
    · have ej : j = 0 := by omega
      subst ej
      rw [List.drop_zero]
      have f1 : IntKind.u64.wrap (val ms - 8388608) = val ms - 8388608 := by rw [IntKind.wrap_u64]; omega
      have f2 : IntKind.i64.wrap (e - -149) = e + 149 := by rw [Int.sub_neg]; exact wrap_self _ (by omega) (by omega)
      have f3 : IntKind.i64.wrap (e + 149 + 1) = K := by rw [show e + 149 + 1 = K from by omega]; exact wrap_self _ (by omega) (by omega)
      have f4 : IntKind.u64.wrap K = K := by rw [IntKind.wrap_u64]; omega
      have f5 : IntKind.u64.wrap (K * 8388608) = K * 8388608 := by rw [IntKind.wrap_u64]; omega
      have f6 : IntKind.u64.wrap (val ms - 8388608 + K * 8388608) = Z2 := by rw [hZ, IntKind.wrap_u64]; omega
      have hR2 : Rd (w5) (.slice a1 ms.length c1) ms := hR
      have K2 : Blk (w5) w.heap.size #[.int .i64 24, .int .i64 (-149), .int .i64 104, .int .i64 23] 31 := K0
      have pr2 : Below w.heap.size w (w5) := ⟨pr.os, pr.tape, pr.output, pr.size, pr.block⟩
      clear hK hZ q0 q1 q2 q3 K0 pr hR
      generalize w5 = W2 at *
      have q0 : W2.cell? ⟨w.heap.size, 0, none⟩ = some (.int .i64 24) := K2.at 0
      have q1 : W2.cell? ⟨w.heap.size, 1, none⟩ = some (.int .i64 (-149)) := K2.at 1
      have q2 : W2.cell? ⟨w.heap.size, 2, none⟩ = some (.int .i64 104) := K2.at 2
      have q3 : W2.cell? ⟨w.heap.size, 3, none⟩ = some (.int .i64 23) := K2.at 3
      go_wp2_with fail
      go_quiet ((go_at_call 82; exact Calls.quiet_of (Bits_q _ ms _ hR2 n (by omega))))
      go_wp2_with fail
      go_quiet (fail)
      go_wp2_with (first
        | (go_at_call 61; refine (SG _).mono ?_; rintro r w1 ⟨rfl, b1⟩)
        | fail)
      exact bodyPost_ret (v := .tuple #[.int .u64 R, .bool false]) (by simp [results, Try.results109, go_sem]) rfl ⟨rfl, belN pr2 b1⟩
end Go.Proofs.Ytlngkonmalallaa.L

namespace Go.Proofs.Ytlngkonmalallaa.L
open Go.RowKit Tl

set_option maxHeartbeats 3200000 in
set_option maxRecDepth 100000 in
/-- Size's laid: too great by the carry. -/
theorem lays_w_top_over (v : Value) (ms : List Int) (e0 e way : Int) (neg a1 a2 a3 : Bool) (hw1 : (way == 1) = a1) (hw2 : (way == 2) = a2) (hw3 : (way == 3) = a3) (RM RI : Int)
    (TM : ∀ w, Calls Try.prog 61 #[szW, .bool neg, .int .u64 9218868437227405311] w fun e w' => e = .returned (.int .u64 RM) ∧ Below w.heap.size w w')
    (TI : ∀ w, Calls Try.prog 60 #[szW, .bool neg] w fun e w' => e = .returned (.int .u64 RI) ∧ Below w.heap.size w w')
    (w : World) (h : Rd w v ms) (n : Nm ms) (hv : val ms = 9007199254740992) (e2 : e ≤ 100000) (ee : e0 + 1 = e) (e1 : 971 < e) :
    Calls Try.prog 109 #[.agg #[.int .i64 53, .int .i64 (-1074), .int .i64 971, .int .i64 52], .bool neg, v, .int .i64 e0, .int .i64 way] w fun r w' => r = .returned (.tuple #[.int .u64 (if (a3 || (a1 && !neg) || (a2 && neg)) = true then RM else RI), .bool true]) ∧ Below w.heap.size w w' := by
  obtain ⟨LM, hLM⟩ : ∃ L : Nat, L = bl (val ms) := ⟨_, rfl⟩
  have hbl : bl (val ms) = 54 := (bl_unique (L := 54) (by omega) (by rw [hv]; decide) (Or.inr (by rw [hv]; decide))).symm
  have hb2 : (53 : Int) < LM := by omega
  have ll : ms.length ≤ 2 := by
    by_cases c : ms.length ≤ 2
    · exact c
    · have := val_low h.1 n (by intro e; rw [e] at c; simp at c)
      have := pw_mono (show 2 ≤ ms.length - 1 by omega)
      have : pw 2 = 1152921504606846976 := by decide
      omega
  have ew : IntKind.i64.wrap (e0 + 1) = e := by rw [ee]; exact wrap_self _ (by omega) (by omega)
  have S1 : ∀ (w : World) (v : Value), Rd w v ms → Calls Try.prog 129 #[v, .int .i64 1] w fun e w' => ∃ r zs, e = .returned r ∧ Rd w' r zs ∧ Nm zs ∧ val zs = val ms / 2 ^ 1 ∧ Below w.heap.size w w' := fun w v h => Shr_any v ms 1 w h (by omega) (by decide)
  have K0 := Blk.new w #[.int .i64 53, .int .i64 (-1074), .int .i64 971, .int .i64 52] 31
  have pr : Below w.heap.size w (w.alloc (.cells #[.int .i64 53, .int .i64 (-1074), .int .i64 971, .int .i64 52] 31)) := (Below.refl _ _).alloc (Nat.le_refl _) _
  have hR := h.grow pr
  have B1 : ∀ k, Calls Try.prog 82 #[v] ((w.alloc (.cells #[.int .i64 53, .int .i64 (-1074), .int .i64 971, .int .i64 52] 31)).drewN k) fun e w' => e = .returned (.int .i64 LM) ∧ ∃ n, w' = ((w.alloc (.cells #[.int .i64 53, .int .i64 (-1074), .int .i64 971, .int .i64 52] 31)).drewN k).drewN n := fun k => by rw [hLM]; exact Bits_q _ ms _ (show Rd ((w.alloc (.cells #[.int .i64 53, .int .i64 (-1074), .int .i64 971, .int .i64 52] 31)).drewN k) _ _ from hR) n (by omega)
  clear hLM hbl hv ee
  have c1 : IntKind.u64.wrap 9218868437227405312 = 9218868437227405312 := by decide
  have c2 : IntKind.u64.wrap 9218868437227405311 = 9218868437227405311 := by decide
  cases neg <;> cases a1 <;> cases a2 <;> cases a3
  all_goals
    simp only [Bool.or_true, Bool.or_false, Bool.and_true, Bool.and_false, Bool.not_true, Bool.not_false, if_true, if_false, Bool.false_eq_true]
    go_enter Try.func109, Try.ntmps109
    go_wp2_with fail
    generalize w.alloc (.cells #[.int .i64 53, .int .i64 (-1074), .int .i64 971, .int .i64 52] 31) = W at *
    have q0 : W.cell? ⟨w.heap.size, 0, none⟩ = some (.int .i64 53) := K0.at 0
    have q1 : W.cell? ⟨w.heap.size, 1, none⟩ = some (.int .i64 (-1074)) := K0.at 1
    have q2 : W.cell? ⟨w.heap.size, 2, none⟩ = some (.int .i64 971) := K0.at 2
    have q3 : W.cell? ⟨w.heap.size, 3, none⟩ = some (.int .i64 52) := K0.at 3
    go_quiet ((go_at_call 82; with_reducible exact Calls.quiet_of (B1 _)))
    have K2 : Blk (W.drewN nq) w.heap.size #[.int .i64 53, .int .i64 (-1074), .int .i64 971, .int .i64 52] 31 := K0
    have pr2 : Below w.heap.size w (W.drewN nq) := ⟨pr.os, pr.tape, pr.output, pr.size, pr.block⟩
    have hRj : Rd (W.drewN nq) v ms := hR
    clear q0 q1 q2 q3 K0 pr B1 hR
    generalize W.drewN nq = W2 at *
    have q0 : W2.cell? ⟨w.heap.size, 0, none⟩ = some (.int .i64 53) := K2.at 0
    have q1 : W2.cell? ⟨w.heap.size, 1, none⟩ = some (.int .i64 (-1074)) := K2.at 1
    have q2 : W2.cell? ⟨w.heap.size, 2, none⟩ = some (.int .i64 971) := K2.at 2
    have q3 : W2.cell? ⟨w.heap.size, 3, none⟩ = some (.int .i64 52) := K2.at 3
    go_wp2_with (first
      | (go_at_call 129; (refine (S1 _ _ hRj).mono ?_); (rintro x w3 ⟨u, m2, rfl, _, _, _, b3⟩; replace K2 := K2.below b3 K2.lt; replace pr2 := bel pr2 b3; clear b3; have q0 : w3.cell? ⟨w.heap.size, 0, none⟩ = some (.int .i64 53) := K2.at 0; have q1 : w3.cell? ⟨w.heap.size, 1, none⟩ = some (.int .i64 (-1074)) := K2.at 1; have q2 : w3.cell? ⟨w.heap.size, 2, none⟩ = some (.int .i64 971) := K2.at 2; have q3 : w3.cell? ⟨w.heap.size, 3, none⟩ = some (.int .i64 52) := K2.at 3))
      | (go_at_call 60; refine (TI _).mono ?_; rintro x w5 ⟨rfl, b5⟩; replace pr2 := bel pr2 b5)
      | fail)
    first
      | exact bodyPost_ret (v := .tuple #[.int .u64 RI, .bool true]) (by simp [results, Try.results109, go_sem]) rfl ⟨rfl, pr2⟩
      | (go_region_held3 (fun x => x.cell? ⟨w.heap.size, 0, none⟩ = some (.int .i64 53) ∧ x.cell? ⟨w.heap.size, 1, none⟩ = some (.int .i64 (-1074)) ∧ x.cell? ⟨w.heap.size, 2, none⟩ = some (.int .i64 971) ∧ x.cell? ⟨w.heap.size, 3, none⟩ = some (.int .i64 52)) (go_keep) (first
      | (go_at_call 54; refine (top_w _).mono ?_; rintro x w6 ⟨rfl, b5⟩; replace K2 := K2.below b5 K2.lt; replace pr2 := bel pr2 b5; clear b5; have q0 : w6.cell? ⟨w.heap.size, 0, none⟩ = some (.int .i64 53) := K2.at 0; have q1 : w6.cell? ⟨w.heap.size, 1, none⟩ = some (.int .i64 (-1074)) := K2.at 1; have q2 : w6.cell? ⟨w.heap.size, 2, none⟩ = some (.int .i64 971) := K2.at 2; have q3 : w6.cell? ⟨w.heap.size, 3, none⟩ = some (.int .i64 52) := K2.at 3)
      | (go_at_call 54; refine (top_w _).mono ?_; rintro x w6 ⟨rfl, b5⟩; replace K2 := K2.below (below_undrew b5) K2.lt; replace pr2 := bel pr2 (below_undrew b5); clear b5; have q0 : w6.cell? ⟨w.heap.size, 0, none⟩ = some (.int .i64 53) := K2.at 0; have q1 : w6.cell? ⟨w.heap.size, 1, none⟩ = some (.int .i64 (-1074)) := K2.at 1; have q2 : w6.cell? ⟨w.heap.size, 2, none⟩ = some (.int .i64 971) := K2.at 2; have q3 : w6.cell? ⟨w.heap.size, 3, none⟩ = some (.int .i64 52) := K2.at 3)
      | (go_at_call 61; refine (TM _).mono ?_; rintro x w7 ⟨rfl, b5⟩; replace K2 := K2.below b5 K2.lt; replace pr2 := bel pr2 b5; clear b5; have q0 : w7.cell? ⟨w.heap.size, 0, none⟩ = some (.int .i64 53) := K2.at 0; have q1 : w7.cell? ⟨w.heap.size, 1, none⟩ = some (.int .i64 (-1074)) := K2.at 1; have q2 : w7.cell? ⟨w.heap.size, 2, none⟩ = some (.int .i64 971) := K2.at 2; have q3 : w7.cell? ⟨w.heap.size, 3, none⟩ = some (.int .i64 52) := K2.at 3)
      | (go_at_call 61; refine (TM _).mono ?_; rintro x w7 ⟨rfl, b5⟩; replace K2 := K2.below (below_undrew b5) K2.lt; replace pr2 := bel pr2 (below_undrew b5); clear b5; have q0 : w7.cell? ⟨w.heap.size, 0, none⟩ = some (.int .i64 53) := K2.at 0; have q1 : w7.cell? ⟨w.heap.size, 1, none⟩ = some (.int .i64 (-1074)) := K2.at 1; have q2 : w7.cell? ⟨w.heap.size, 2, none⟩ = some (.int .i64 971) := K2.at 2; have q3 : w7.cell? ⟨w.heap.size, 3, none⟩ = some (.int .i64 52) := K2.at 3)
      | fail)
         go_wp2
         exact bodyPost_ret (v := .tuple #[.int .u64 RM, .bool true]) (by simp [results, Try.results109, go_sem]) rfl ⟨rfl, pr2⟩)
set_option maxHeartbeats 3200000 in
set_option maxRecDepth 100000 in
/-- Size's laid: too great by the carry. -/
theorem lays_s_top_over (v : Value) (ms : List Int) (e0 e way : Int) (neg a1 a2 a3 : Bool) (hw1 : (way == 1) = a1) (hw2 : (way == 2) = a2) (hw3 : (way == 3) = a3) (RM RI : Int)
    (TM : ∀ w, Calls Try.prog 61 #[szS, .bool neg, .int .u64 2139095039] w fun e w' => e = .returned (.int .u64 RM) ∧ Below w.heap.size w w')
    (TI : ∀ w, Calls Try.prog 60 #[szS, .bool neg] w fun e w' => e = .returned (.int .u64 RI) ∧ Below w.heap.size w w')
    (w : World) (h : Rd w v ms) (n : Nm ms) (hv : val ms = 16777216) (e2 : e ≤ 100000) (ee : e0 + 1 = e) (e1 : 104 < e) :
    Calls Try.prog 109 #[.agg #[.int .i64 24, .int .i64 (-149), .int .i64 104, .int .i64 23], .bool neg, v, .int .i64 e0, .int .i64 way] w fun r w' => r = .returned (.tuple #[.int .u64 (if (a3 || (a1 && !neg) || (a2 && neg)) = true then RM else RI), .bool true]) ∧ Below w.heap.size w w' := by
  obtain ⟨LM, hLM⟩ : ∃ L : Nat, L = bl (val ms) := ⟨_, rfl⟩
  have hbl : bl (val ms) = 25 := (bl_unique (L := 25) (by omega) (by rw [hv]; decide) (Or.inr (by rw [hv]; decide))).symm
  have hb2 : (24 : Int) < LM := by omega
  have ll : ms.length ≤ 2 := by
    by_cases c : ms.length ≤ 2
    · exact c
    · have := val_low h.1 n (by intro e; rw [e] at c; simp at c)
      have := pw_mono (show 2 ≤ ms.length - 1 by omega)
      have : pw 2 = 1152921504606846976 := by decide
      omega
  have ew : IntKind.i64.wrap (e0 + 1) = e := by rw [ee]; exact wrap_self _ (by omega) (by omega)
  have S1 : ∀ (w : World) (v : Value), Rd w v ms → Calls Try.prog 129 #[v, .int .i64 1] w fun e w' => ∃ r zs, e = .returned r ∧ Rd w' r zs ∧ Nm zs ∧ val zs = val ms / 2 ^ 1 ∧ Below w.heap.size w w' := fun w v h => Shr_any v ms 1 w h (by omega) (by decide)
  have K0 := Blk.new w #[.int .i64 24, .int .i64 (-149), .int .i64 104, .int .i64 23] 31
  have pr : Below w.heap.size w (w.alloc (.cells #[.int .i64 24, .int .i64 (-149), .int .i64 104, .int .i64 23] 31)) := (Below.refl _ _).alloc (Nat.le_refl _) _
  have hR := h.grow pr
  have B1 : ∀ k, Calls Try.prog 82 #[v] ((w.alloc (.cells #[.int .i64 24, .int .i64 (-149), .int .i64 104, .int .i64 23] 31)).drewN k) fun e w' => e = .returned (.int .i64 LM) ∧ ∃ n, w' = ((w.alloc (.cells #[.int .i64 24, .int .i64 (-149), .int .i64 104, .int .i64 23] 31)).drewN k).drewN n := fun k => by rw [hLM]; exact Bits_q _ ms _ (show Rd ((w.alloc (.cells #[.int .i64 24, .int .i64 (-149), .int .i64 104, .int .i64 23] 31)).drewN k) _ _ from hR) n (by omega)
  clear hLM hbl hv ee
  have c1 : IntKind.u64.wrap 2139095040 = 2139095040 := by decide
  have c2 : IntKind.u64.wrap 2139095039 = 2139095039 := by decide
  cases neg <;> cases a1 <;> cases a2 <;> cases a3
  all_goals
    simp only [Bool.or_true, Bool.or_false, Bool.and_true, Bool.and_false, Bool.not_true, Bool.not_false, if_true, if_false, Bool.false_eq_true]
    go_enter Try.func109, Try.ntmps109
    go_wp2_with fail
    generalize w.alloc (.cells #[.int .i64 24, .int .i64 (-149), .int .i64 104, .int .i64 23] 31) = W at *
    have q0 : W.cell? ⟨w.heap.size, 0, none⟩ = some (.int .i64 24) := K0.at 0
    have q1 : W.cell? ⟨w.heap.size, 1, none⟩ = some (.int .i64 (-149)) := K0.at 1
    have q2 : W.cell? ⟨w.heap.size, 2, none⟩ = some (.int .i64 104) := K0.at 2
    have q3 : W.cell? ⟨w.heap.size, 3, none⟩ = some (.int .i64 23) := K0.at 3
    go_quiet ((go_at_call 82; with_reducible exact Calls.quiet_of (B1 _)))
    have K2 : Blk (W.drewN nq) w.heap.size #[.int .i64 24, .int .i64 (-149), .int .i64 104, .int .i64 23] 31 := K0
    have pr2 : Below w.heap.size w (W.drewN nq) := ⟨pr.os, pr.tape, pr.output, pr.size, pr.block⟩
    have hRj : Rd (W.drewN nq) v ms := hR
    clear q0 q1 q2 q3 K0 pr B1 hR
    generalize W.drewN nq = W2 at *
    have q0 : W2.cell? ⟨w.heap.size, 0, none⟩ = some (.int .i64 24) := K2.at 0
    have q1 : W2.cell? ⟨w.heap.size, 1, none⟩ = some (.int .i64 (-149)) := K2.at 1
    have q2 : W2.cell? ⟨w.heap.size, 2, none⟩ = some (.int .i64 104) := K2.at 2
    have q3 : W2.cell? ⟨w.heap.size, 3, none⟩ = some (.int .i64 23) := K2.at 3
    go_wp2_with (first
      | (go_at_call 129; (refine (S1 _ _ hRj).mono ?_); (rintro x w3 ⟨u, m2, rfl, _, _, _, b3⟩; replace K2 := K2.below b3 K2.lt; replace pr2 := bel pr2 b3; clear b3; have q0 : w3.cell? ⟨w.heap.size, 0, none⟩ = some (.int .i64 24) := K2.at 0; have q1 : w3.cell? ⟨w.heap.size, 1, none⟩ = some (.int .i64 (-149)) := K2.at 1; have q2 : w3.cell? ⟨w.heap.size, 2, none⟩ = some (.int .i64 104) := K2.at 2; have q3 : w3.cell? ⟨w.heap.size, 3, none⟩ = some (.int .i64 23) := K2.at 3))
      | (go_at_call 60; refine (TI _).mono ?_; rintro x w5 ⟨rfl, b5⟩; replace pr2 := bel pr2 b5)
      | fail)
    first
      | exact bodyPost_ret (v := .tuple #[.int .u64 RI, .bool true]) (by simp [results, Try.results109, go_sem]) rfl ⟨rfl, pr2⟩
      | (go_region_held3 (fun x => x.cell? ⟨w.heap.size, 0, none⟩ = some (.int .i64 24) ∧ x.cell? ⟨w.heap.size, 1, none⟩ = some (.int .i64 (-149)) ∧ x.cell? ⟨w.heap.size, 2, none⟩ = some (.int .i64 104) ∧ x.cell? ⟨w.heap.size, 3, none⟩ = some (.int .i64 23)) (go_keep) (first
      | (go_at_call 54; refine (top_s _).mono ?_; rintro x w6 ⟨rfl, b5⟩; replace K2 := K2.below b5 K2.lt; replace pr2 := bel pr2 b5; clear b5; have q0 : w6.cell? ⟨w.heap.size, 0, none⟩ = some (.int .i64 24) := K2.at 0; have q1 : w6.cell? ⟨w.heap.size, 1, none⟩ = some (.int .i64 (-149)) := K2.at 1; have q2 : w6.cell? ⟨w.heap.size, 2, none⟩ = some (.int .i64 104) := K2.at 2; have q3 : w6.cell? ⟨w.heap.size, 3, none⟩ = some (.int .i64 23) := K2.at 3)
      | (go_at_call 54; refine (top_s _).mono ?_; rintro x w6 ⟨rfl, b5⟩; replace K2 := K2.below (below_undrew b5) K2.lt; replace pr2 := bel pr2 (below_undrew b5); clear b5; have q0 : w6.cell? ⟨w.heap.size, 0, none⟩ = some (.int .i64 24) := K2.at 0; have q1 : w6.cell? ⟨w.heap.size, 1, none⟩ = some (.int .i64 (-149)) := K2.at 1; have q2 : w6.cell? ⟨w.heap.size, 2, none⟩ = some (.int .i64 104) := K2.at 2; have q3 : w6.cell? ⟨w.heap.size, 3, none⟩ = some (.int .i64 23) := K2.at 3)
      | (go_at_call 61; refine (TM _).mono ?_; rintro x w7 ⟨rfl, b5⟩; replace K2 := K2.below b5 K2.lt; replace pr2 := bel pr2 b5; clear b5; have q0 : w7.cell? ⟨w.heap.size, 0, none⟩ = some (.int .i64 24) := K2.at 0; have q1 : w7.cell? ⟨w.heap.size, 1, none⟩ = some (.int .i64 (-149)) := K2.at 1; have q2 : w7.cell? ⟨w.heap.size, 2, none⟩ = some (.int .i64 104) := K2.at 2; have q3 : w7.cell? ⟨w.heap.size, 3, none⟩ = some (.int .i64 23) := K2.at 3)
      | (go_at_call 61; refine (TM _).mono ?_; rintro x w7 ⟨rfl, b5⟩; replace K2 := K2.below (below_undrew b5) K2.lt; replace pr2 := bel pr2 (below_undrew b5); clear b5; have q0 : w7.cell? ⟨w.heap.size, 0, none⟩ = some (.int .i64 24) := K2.at 0; have q1 : w7.cell? ⟨w.heap.size, 1, none⟩ = some (.int .i64 (-149)) := K2.at 1; have q2 : w7.cell? ⟨w.heap.size, 2, none⟩ = some (.int .i64 104) := K2.at 2; have q3 : w7.cell? ⟨w.heap.size, 3, none⟩ = some (.int .i64 23) := K2.at 3)
      | fail)
         go_wp2
         exact bodyPost_ret (v := .tuple #[.int .u64 RM, .bool true]) (by simp [results, Try.results109, go_sem]) rfl ⟨rfl, pr2⟩)
end Go.Proofs.Ytlngkonmalallaa.L

namespace Go.Proofs.Ytlngkonmalallaa.L
open Go.RowKit Tl

/-- Is what is too great told by the greatest finite one? -/
def inw (neg : Bool) (way : Int) : Bool := (way == 3) || ((way == 1) && !neg) || ((way == 2) && neg)
/-- Bits with the sign. -/
def sgnW (neg : Bool) (b : Int) : Int := if neg = true then b + 9223372036854775808 else b
/-- The bits of m times 2 to the e. -/
def layW (m e : Int) : Int := if 4503599627370496 ≤ m then m - 4503599627370496 + (e + 1075) * 4503599627370496 else m
/-- What becomes of m, at most 2 to the p, times 2 to the e; is it too great? -/
def endW (neg : Bool) (m e way : Int) : Int × Bool :=
  if 971 < e then (sgnW neg (if inw neg way = true then 9218868437227405311 else 9218868437227405312), true) else (sgnW neg (layW m e), false)
def laidW (neg : Bool) (m e way : Int) : Int × Bool := if m = 9007199254740992 then endW neg 4503599627370496 (e + 1) way else endW neg m e way
theorem signed_w_any (neg : Bool) (b : Int) (b0 : 0 ≤ b) (b1 : b < 9223372036854775808) (w : World) :
    Calls Try.prog 61 #[szW, .bool neg, .int .u64 b] w fun e w' => e = .returned (.int .u64 (sgnW neg b)) ∧ Below w.heap.size w w' := by
  obtain ⟨f, rfl⟩ := Int.eq_ofNat_of_zero_le b0
  cases neg
  · exact signed_w_pos f w
  · exact signed_w_neg f _ (Tn.hsgW f (by omega)) w
theorem Infinite_w_any (neg : Bool) (w : World) :
    Calls Try.prog 60 #[szW, .bool neg] w fun e w' => e = .returned (.int .u64 (sgnW neg 9218868437227405312)) ∧ Below w.heap.size w w' := by
  cases neg
  · exact Infinite_w_pos w
  · exact Infinite_w_neg w
theorem layW_bd {m e : Int} (m0 : 0 ≤ m) (m1 : m < 9007199254740992) (e0 : -1074 ≤ e) (e1 : e ≤ 971) : 0 ≤ layW m e ∧ layW m e < 9223372036854775808 := by
  unfold layW
  split <;> omega
/-- Size's laid. -/
theorem laid_w_any (v : Value) (ms : List Int) (e way : Int) (neg : Bool) (w : World) (h : Rd w v ms) (n : Nm ms) (m1 : val ms ≤ 9007199254740992) (e0 : -1074 ≤ e) (e1 : e ≤ 50000) :
    Calls Try.prog 109 #[.agg #[.int .i64 53, .int .i64 (-1074), .int .i64 971, .int .i64 52], .bool neg, v, .int .i64 e, .int .i64 way] w fun r w' => r = .returned (.tuple #[.int .u64 (laidW neg (val ms) e way).1, .bool (laidW neg (val ms) e way).2]) ∧ Below w.heap.size w w' := by
  have TM := fun w => signed_w_any neg 9218868437227405311 (by decide) (by decide) w
  have TI := fun w => Infinite_w_any neg w
  have v0 := val_nonneg h.1
  have pick : ∀ c : Bool, (if c = true then sgnW neg 9218868437227405311 else sgnW neg 9218868437227405312) = sgnW neg (if c = true then 9218868437227405311 else 9218868437227405312) := fun c => by cases c <;> rfl
  unfold laidW
  by_cases ht : val ms = 9007199254740992
  · rw [if_pos ht]
    unfold endW
    by_cases he : 971 < e + 1
    · rw [if_pos he, ← pick]
      exact lays_w_top_over v ms e (e + 1) way neg _ _ _ rfl rfl rfl _ _ TM TI w h n ht (by omega) rfl he
    · rw [if_neg he]
      have b := layW_bd (m := 4503599627370496) (e := e + 1) (by decide) (by decide) (by omega) (by omega)
      refine lays_w_top v ms e (e + 1) way (e + 1 + 1075) _ neg _ (fun w => signed_w_any neg _ b.1 b.2 w) w h n ht rfl (by omega) (by omega) rfl ?_
      unfold layW
      rw [if_pos (by decide)]
      omega
  · rw [if_neg ht]
    unfold endW
    by_cases he : 971 < e
    · rw [if_pos he, ← pick]
      refine lays_w_over v ms e way neg _ _ _ rfl rfl rfl _ _ TM TI w h n ?_ ?_ he
      · by_cases c : 4503599627370496 ≤ val ms
        · rw [bl_53 c (by omega)]; omega
        · have := bl_52 v0 (by omega); omega
      · have := small_len h.1 n (by omega); omega
    · rw [if_neg he]
      have b := layW_bd (m := val ms) (e := e) v0 (by omega) e0 (by omega)
      by_cases c : 4503599627370496 ≤ val ms
      · refine lays_w_norm v ms e way _ _ neg _ (fun w => signed_w_any neg _ b.1 b.2 w) w h n c (by omega) e0 (by omega) rfl ?_
        unfold layW
        rw [if_pos c]
      · have el : layW (val ms) e = val ms := by unfold layW; rw [if_neg c]
        rw [el] at b ⊢
        exact lays_w_small v ms e way neg _ (fun w => signed_w_any neg _ b.1 b.2 w) w h n (by omega) (by omega)
/-- Bits with the sign. -/
def sgnS (neg : Bool) (b : Int) : Int := if neg = true then b + 2147483648 else b
/-- The bits of m times 2 to the e. -/
def layS (m e : Int) : Int := if 8388608 ≤ m then m - 8388608 + (e + 150) * 8388608 else m
/-- What becomes of m, at most 2 to the p, times 2 to the e; is it too great? -/
def endS (neg : Bool) (m e way : Int) : Int × Bool :=
  if 104 < e then (sgnS neg (if inw neg way = true then 2139095039 else 2139095040), true) else (sgnS neg (layS m e), false)
def laidS (neg : Bool) (m e way : Int) : Int × Bool := if m = 16777216 then endS neg 8388608 (e + 1) way else endS neg m e way
theorem signed_s_any (neg : Bool) (b : Int) (b0 : 0 ≤ b) (b1 : b < 2147483648) (w : World) :
    Calls Try.prog 61 #[szS, .bool neg, .int .u64 b] w fun e w' => e = .returned (.int .u64 (sgnS neg b)) ∧ Below w.heap.size w w' := by
  obtain ⟨f, rfl⟩ := Int.eq_ofNat_of_zero_le b0
  cases neg
  · exact signed_s_pos f w
  · exact signed_s_neg f _ (Tn.hsgS f (by omega)) w
theorem Infinite_s_any (neg : Bool) (w : World) :
    Calls Try.prog 60 #[szS, .bool neg] w fun e w' => e = .returned (.int .u64 (sgnS neg 2139095040)) ∧ Below w.heap.size w w' := by
  cases neg
  · exact Infinite_s_pos w
  · exact Infinite_s_neg w
theorem layS_bd {m e : Int} (m0 : 0 ≤ m) (m1 : m < 16777216) (e0 : -149 ≤ e) (e1 : e ≤ 104) : 0 ≤ layS m e ∧ layS m e < 2147483648 := by
  unfold layS
  split <;> omega
/-- Size's laid. -/
theorem laid_s_any (v : Value) (ms : List Int) (e way : Int) (neg : Bool) (w : World) (h : Rd w v ms) (n : Nm ms) (m1 : val ms ≤ 16777216) (e0 : -149 ≤ e) (e1 : e ≤ 50000) :
    Calls Try.prog 109 #[.agg #[.int .i64 24, .int .i64 (-149), .int .i64 104, .int .i64 23], .bool neg, v, .int .i64 e, .int .i64 way] w fun r w' => r = .returned (.tuple #[.int .u64 (laidS neg (val ms) e way).1, .bool (laidS neg (val ms) e way).2]) ∧ Below w.heap.size w w' := by
  have TM := fun w => signed_s_any neg 2139095039 (by decide) (by decide) w
  have TI := fun w => Infinite_s_any neg w
  have v0 := val_nonneg h.1
  have pick : ∀ c : Bool, (if c = true then sgnS neg 2139095039 else sgnS neg 2139095040) = sgnS neg (if c = true then 2139095039 else 2139095040) := fun c => by cases c <;> rfl
  unfold laidS
  by_cases ht : val ms = 16777216
  · rw [if_pos ht]
    unfold endS
    by_cases he : 104 < e + 1
    · rw [if_pos he, ← pick]
      exact lays_s_top_over v ms e (e + 1) way neg _ _ _ rfl rfl rfl _ _ TM TI w h n ht (by omega) rfl he
    · rw [if_neg he]
      have b := layS_bd (m := 8388608) (e := e + 1) (by decide) (by decide) (by omega) (by omega)
      refine lays_s_top v ms e (e + 1) way (e + 1 + 150) _ neg _ (fun w => signed_s_any neg _ b.1 b.2 w) w h n ht rfl (by omega) (by omega) rfl ?_
      unfold layS
      rw [if_pos (by decide)]
      omega
  · rw [if_neg ht]
    unfold endS
    by_cases he : 104 < e
    · rw [if_pos he, ← pick]
      refine lays_s_over v ms e way neg _ _ _ rfl rfl rfl _ _ TM TI w h n ?_ ?_ he
      · by_cases c : 8388608 ≤ val ms
        · rw [bl_24 c (by omega)]; omega
        · have := bl_23 v0 (by omega); omega
      · have := small_len h.1 n (by omega); omega
    · rw [if_neg he]
      have b := layS_bd (m := val ms) (e := e) v0 (by omega) e0 (by omega)
      by_cases c : 8388608 ≤ val ms
      · refine lays_s_norm v ms e way _ _ neg _ (fun w => signed_s_any neg _ b.1 b.2 w) w h n c (by omega) e0 (by omega) rfl ?_
        unfold layS
        rw [if_pos c]
      · have el : layS (val ms) e = val ms := by unfold layS; rw [if_neg c]
        rw [el] at b ⊢
        exact lays_s_small v ms e way neg _ (fun w => signed_s_any neg _ b.1 b.2 w) w h n (by omega) (by omega)
end Go.Proofs.Ytlngkonmalallaa.L

namespace Go.Proofs.Ytlngkonmalallaa
open Go.RowKit Tn

theorem refNW (k : Int) (g : Bool) (M : Nat) (e : Int) (h1 : M < 18446744073709551616) : ∃ N : Nat, N < 18446744073709551616 ∧ (OkW (k, g, (M : Int), e) → (N : Int) = pckW (k, g, (M : Int), e)) ∧
    ((k = 4 ∧ (N : Int) = 9221120237041090560)
      ∨ (k = 3 ∧ g = false ∧ (N : Int) = 9218868437227405312)
      ∨ (k = 3 ∧ g = true ∧ (N : Int) = 18442240474082181120)
      ∨ (k = 0 ∧ g = false ∧ (N : Int) = 0)
      ∨ (k = 0 ∧ g = true ∧ (N : Int) = 9223372036854775808)
      ∨ (k = 1 ∧ g = false ∧ (N : Int) = bits .and .u64 (M : Int) 4503599627370495)
      ∨ (k = 1 ∧ g = true ∧ (N : Int) = bits .or .u64 (bits .and .u64 (M : Int) 4503599627370495) 9223372036854775808)
      ∨ (k = 2 ∧ g = false ∧ (N : Int) = bits .or .u64 (IntKind.u64.wrap (IntKind.u64.wrap (IntKind.i64.wrap (IntKind.i64.wrap (e + 1074) + 1)) * 4503599627370496)) (bits .and .u64 (M : Int) 4503599627370495) ∧ decide (-1074 ≤ e) = true ∧ decide (e ≤ 971) = true)
      ∨ (k = 2 ∧ g = true ∧ (N : Int) = bits .or .u64 (bits .or .u64 (IntKind.u64.wrap (IntKind.u64.wrap (IntKind.i64.wrap (IntKind.i64.wrap (e + 1074) + 1)) * 4503599627370496)) (bits .and .u64 (M : Int) 4503599627370495)) 9223372036854775808 ∧ decide (-1074 ≤ e) = true ∧ decide (e ≤ 971) = true)
      ∨ (k = 2 ∧ (N : Int) = 0 ∧ decide (-1074 ≤ e) = false)
      ∨ (k = 2 ∧ (N : Int) = 0 ∧ decide (-1074 ≤ e) = true ∧ decide (e ≤ 971) = false)
      ∨ ((N : Int) = 0 ∧ (k == 4) = false ∧ (k == 3) = false ∧ (k == 0) = false ∧ (k == 1) = false ∧ (k == 2) = false)) := by
  have fb : frW M < 4503599627370496 := Nat.mod_lt _ (by decide)
  have hf := hfW M h1
  have hs := hsgW (frW M) (by omega)
  by_cases k4 : k = 4
  · subst k4
    exact ⟨9221120237041090560, by decide, by intro o; simp [OkW] at o; simp [pckW, o.1], Or.inl ⟨rfl, rfl⟩⟩
  by_cases k3 : k = 3
  · subst k3
    cases g
    · exact ⟨9218868437227405312, by decide, by intro o; simp [pckW], Or.inr (Or.inl ⟨rfl, rfl, rfl⟩)⟩
    · exact ⟨18442240474082181120, by decide, by intro o; simp [pckW], Or.inr (Or.inr (Or.inl ⟨rfl, rfl, rfl⟩))⟩
  by_cases k0 : k = 0
  · subst k0
    cases g
    · exact ⟨0, by decide, by intro o; simp [pckW], Or.inr (Or.inr (Or.inr (Or.inl ⟨rfl, rfl, rfl⟩)))⟩
    · exact ⟨9223372036854775808, by decide, by intro o; simp [pckW], Or.inr (Or.inr (Or.inr (Or.inr (Or.inl ⟨rfl, rfl, rfl⟩))))⟩
  by_cases k1 : k = 1
  · subst k1
    have o1 : ∀ g, OkW (1, g, (M : Int), e) → frW M = M := by
      intro g o
      simp [OkW] at o
      unfold frW; omega
    cases g
    · exact ⟨frW M, by omega, by intro o; simp [pckW, o1 _ o], Or.inr (Or.inr (Or.inr (Or.inr (Or.inr (Or.inl ⟨rfl, rfl, hf.symm⟩)))))⟩
    · refine ⟨frW M + 9223372036854775808, by omega, ?_, Or.inr (Or.inr (Or.inr (Or.inr (Or.inr (Or.inr (Or.inl ⟨rfl, rfl, ?_⟩))))))⟩
      · intro o
        rw [o1 _ o]; simp [pckW]
      · rw [hf, hs]; omega
  by_cases k2 : k = 2
  · subst k2
    by_cases e1 : -1074 ≤ e
    · by_cases e2 : e ≤ 971
      · obtain ⟨D, hD⟩ := Int.eq_ofNat_of_zero_le (show 0 ≤ e + 1075 by omega)
        have r : bits .or .u64 (IntKind.u64.wrap (IntKind.u64.wrap (IntKind.i64.wrap (IntKind.i64.wrap (e + 1074) + 1)) * 4503599627370496)) (bits .and .u64 (M : Int) 4503599627370495) = (D : Int) * 4503599627370496 + (frW M : Int) := by
          rw [w64 (e + 1074) (by omega) (by omega), w64 _ (by omega) (by omega), show e + 1074 + 1 = (D : Int) from by omega, wu64 (D : Int) (by omega) (by omega), wu64 _ (by omega) (by omega), hf, hpkW D _ (by omega) fb]
        have o1 : ∀ g, OkW (2, g, (M : Int), e) → (frW M : Int) = M - 4503599627370496 := by
          intro g o
          simp [OkW] at o
          unfold frW; omega
        cases g
        · refine ⟨D * 4503599627370496 + frW M, by omega, ?_, Or.inr (Or.inr (Or.inr (Or.inr (Or.inr (Or.inr (Or.inr (Or.inl ⟨rfl, rfl, ?_, decide_eq_true e1, decide_eq_true e2⟩)))))))⟩
          · intro o
            have q := o1 _ o
            simp [pckW]; omega
          · rw [r]; omega
        · refine ⟨D * 4503599627370496 + frW M + 9223372036854775808, by omega, ?_, Or.inr (Or.inr (Or.inr (Or.inr (Or.inr (Or.inr (Or.inr (Or.inr (Or.inl ⟨rfl, rfl, ?_, decide_eq_true e1, decide_eq_true e2⟩))))))))⟩
          · intro o
            have q := o1 _ o
            simp [pckW]; omega
          · rw [r]
            have s := hsgW (D * 4503599627370496 + frW M) (by omega)
            rw [show ((D * 4503599627370496 + frW M : Nat) : Int) = (D : Int) * 4503599627370496 + (frW M : Int) from by omega] at s
            rw [s]; omega
      · exact ⟨0, by decide, by intro o; simp [OkW] at o; omega, Or.inr (Or.inr (Or.inr (Or.inr (Or.inr (Or.inr (Or.inr (Or.inr (Or.inr (Or.inr (Or.inl ⟨rfl, rfl, decide_eq_true e1, decide_eq_false e2⟩))))))))))⟩
    · exact ⟨0, by decide, by intro o; simp [OkW] at o; omega, Or.inr (Or.inr (Or.inr (Or.inr (Or.inr (Or.inr (Or.inr (Or.inr (Or.inr (Or.inl ⟨rfl, rfl, decide_eq_false e1⟩)))))))))⟩
  · refine ⟨0, by decide, ?_, Or.inr (Or.inr (Or.inr (Or.inr (Or.inr (Or.inr (Or.inr (Or.inr (Or.inr (Or.inr (Or.inr ⟨rfl, by simp [k4], by simp [k3], by simp [k0], by simp [k1], by simp [k2]⟩))))))))))⟩
    intro o
    simp [OkW] at o
    omega
theorem Join_w (p : Int × Bool × Int × Int) (h0 : 0 ≤ p.2.2.1) (h1 : p.2.2.1 < 18446744073709551616) (w : World) :
    Calls Try.prog 18 #[szW, prt4 p] w fun x w' => x = .returned (.tuple #[.int .u64 (joiW p).1, .int .i64 (joiW p).2]) ∧ Below w.heap.size w w' := by
  obtain ⟨k, g, m, e⟩ := p
  simp only at h0 h1
  obtain ⟨M, rfl⟩ := Int.eq_ofNat_of_zero_le h0
  obtain ⟨N, n1, n2, HN⟩ := refNW k g M e (by omega)
  have S := Split_w N n1
  have o' := splW_ok N
  generalize hq : splW N = q at S o'
  obtain ⟨k', g', m', e'⟩ := q
  by_cases o : OkW (k, g, (M : Int), e)
  · have E : splW N = (k, g, (M : Int), e) := by
      have h := splW_pck o
      rw [← n2 o, Int.toNat_natCast] at h
      exact h
    rw [hq] at E
    simp only [Prod.mk.injEq] at E
    obtain ⟨rfl, rfl, rfl, rfl⟩ := E
    have H := Join_w_walk k' g' M e' N k' g' M e' true _ _ _ _ _ _ _ _ rfl rfl rfl rfl rfl rfl rfl rfl HN S (Or.inr (Or.inr (Or.inr (Or.inr ⟨rfl, rfl, rfl, rfl, rfl⟩)))) w
    rw [n2 o] at H
    unfold joiW
    rw [if_pos o]
    exact H
  · have ne : ¬ (k' = k ∧ g' = g ∧ m' = (M : Int) ∧ e' = e) := by
      rintro ⟨rfl, rfl, rfl, rfl⟩
      exact o o'
    unfold joiW
    rw [if_neg o]
    refine Join_w_walk k g M e N k' g' m' e' false _ _ _ _ _ _ _ _ rfl rfl rfl rfl rfl rfl rfl rfl HN S ?_ w
    by_cases a1 : k' = k
    · by_cases a2 : g' = g
      · by_cases a3 : m' = (M : Int)
        · exact Or.inr (Or.inr (Or.inr (Or.inl ⟨a1, a2, a3, by simp; exact fun h => ne ⟨a1, a2, a3, h⟩, rfl⟩)))
        · exact Or.inr (Or.inr (Or.inl ⟨a1, a2, by simp [a3], rfl⟩))
      · exact Or.inr (Or.inl ⟨a1, by simp [a2], rfl⟩)
    · exact Or.inl ⟨by simp [a1], rfl⟩
theorem refNS (k : Int) (g : Bool) (M : Nat) (e : Int) (h1 : M < 18446744073709551616) : ∃ N : Nat, N < 18446744073709551616 ∧ (OkS (k, g, (M : Int), e) → (N : Int) = pckS (k, g, (M : Int), e)) ∧
    ((k = 4 ∧ (N : Int) = 2143289344)
      ∨ (k = 3 ∧ g = false ∧ (N : Int) = 2139095040)
      ∨ (k = 3 ∧ g = true ∧ (N : Int) = 4286578688)
      ∨ (k = 0 ∧ g = false ∧ (N : Int) = 0)
      ∨ (k = 0 ∧ g = true ∧ (N : Int) = 2147483648)
      ∨ (k = 1 ∧ g = false ∧ (N : Int) = bits .and .u64 (M : Int) 8388607)
      ∨ (k = 1 ∧ g = true ∧ (N : Int) = bits .or .u64 (bits .and .u64 (M : Int) 8388607) 2147483648)
      ∨ (k = 2 ∧ g = false ∧ (N : Int) = bits .or .u64 (IntKind.u64.wrap (IntKind.u64.wrap (IntKind.i64.wrap (IntKind.i64.wrap (e + 149) + 1)) * 8388608)) (bits .and .u64 (M : Int) 8388607) ∧ decide (-149 ≤ e) = true ∧ decide (e ≤ 104) = true)
      ∨ (k = 2 ∧ g = true ∧ (N : Int) = bits .or .u64 (bits .or .u64 (IntKind.u64.wrap (IntKind.u64.wrap (IntKind.i64.wrap (IntKind.i64.wrap (e + 149) + 1)) * 8388608)) (bits .and .u64 (M : Int) 8388607)) 2147483648 ∧ decide (-149 ≤ e) = true ∧ decide (e ≤ 104) = true)
      ∨ (k = 2 ∧ (N : Int) = 0 ∧ decide (-149 ≤ e) = false)
      ∨ (k = 2 ∧ (N : Int) = 0 ∧ decide (-149 ≤ e) = true ∧ decide (e ≤ 104) = false)
      ∨ ((N : Int) = 0 ∧ (k == 4) = false ∧ (k == 3) = false ∧ (k == 0) = false ∧ (k == 1) = false ∧ (k == 2) = false)) := by
  have fb : frS M < 8388608 := Nat.mod_lt _ (by decide)
  have hf := hfS M h1
  have hs := hsgS (frS M) (by omega)
  by_cases k4 : k = 4
  · subst k4
    exact ⟨2143289344, by decide, by intro o; simp [OkS] at o; simp [pckS, o.1], Or.inl ⟨rfl, rfl⟩⟩
  by_cases k3 : k = 3
  · subst k3
    cases g
    · exact ⟨2139095040, by decide, by intro o; simp [pckS], Or.inr (Or.inl ⟨rfl, rfl, rfl⟩)⟩
    · exact ⟨4286578688, by decide, by intro o; simp [pckS], Or.inr (Or.inr (Or.inl ⟨rfl, rfl, rfl⟩))⟩
  by_cases k0 : k = 0
  · subst k0
    cases g
    · exact ⟨0, by decide, by intro o; simp [pckS], Or.inr (Or.inr (Or.inr (Or.inl ⟨rfl, rfl, rfl⟩)))⟩
    · exact ⟨2147483648, by decide, by intro o; simp [pckS], Or.inr (Or.inr (Or.inr (Or.inr (Or.inl ⟨rfl, rfl, rfl⟩))))⟩
  by_cases k1 : k = 1
  · subst k1
    have o1 : ∀ g, OkS (1, g, (M : Int), e) → frS M = M := by
      intro g o
      simp [OkS] at o
      unfold frS; omega
    cases g
    · exact ⟨frS M, by omega, by intro o; simp [pckS, o1 _ o], Or.inr (Or.inr (Or.inr (Or.inr (Or.inr (Or.inl ⟨rfl, rfl, hf.symm⟩)))))⟩
    · refine ⟨frS M + 2147483648, by omega, ?_, Or.inr (Or.inr (Or.inr (Or.inr (Or.inr (Or.inr (Or.inl ⟨rfl, rfl, ?_⟩))))))⟩
      · intro o
        rw [o1 _ o]; simp [pckS]
      · rw [hf, hs]; omega
  by_cases k2 : k = 2
  · subst k2
    by_cases e1 : -149 ≤ e
    · by_cases e2 : e ≤ 104
      · obtain ⟨D, hD⟩ := Int.eq_ofNat_of_zero_le (show 0 ≤ e + 150 by omega)
        have r : bits .or .u64 (IntKind.u64.wrap (IntKind.u64.wrap (IntKind.i64.wrap (IntKind.i64.wrap (e + 149) + 1)) * 8388608)) (bits .and .u64 (M : Int) 8388607) = (D : Int) * 8388608 + (frS M : Int) := by
          rw [w64 (e + 149) (by omega) (by omega), w64 _ (by omega) (by omega), show e + 149 + 1 = (D : Int) from by omega, wu64 (D : Int) (by omega) (by omega), wu64 _ (by omega) (by omega), hf, hpkS D _ (by omega) fb]
        have o1 : ∀ g, OkS (2, g, (M : Int), e) → (frS M : Int) = M - 8388608 := by
          intro g o
          simp [OkS] at o
          unfold frS; omega
        cases g
        · refine ⟨D * 8388608 + frS M, by omega, ?_, Or.inr (Or.inr (Or.inr (Or.inr (Or.inr (Or.inr (Or.inr (Or.inl ⟨rfl, rfl, ?_, decide_eq_true e1, decide_eq_true e2⟩)))))))⟩
          · intro o
            have q := o1 _ o
            simp [pckS]; omega
          · rw [r]; omega
        · refine ⟨D * 8388608 + frS M + 2147483648, by omega, ?_, Or.inr (Or.inr (Or.inr (Or.inr (Or.inr (Or.inr (Or.inr (Or.inr (Or.inl ⟨rfl, rfl, ?_, decide_eq_true e1, decide_eq_true e2⟩))))))))⟩
          · intro o
            have q := o1 _ o
            simp [pckS]; omega
          · rw [r]
            have s := hsgS (D * 8388608 + frS M) (by omega)
            rw [show ((D * 8388608 + frS M : Nat) : Int) = (D : Int) * 8388608 + (frS M : Int) from by omega] at s
            rw [s]; omega
      · exact ⟨0, by decide, by intro o; simp [OkS] at o; omega, Or.inr (Or.inr (Or.inr (Or.inr (Or.inr (Or.inr (Or.inr (Or.inr (Or.inr (Or.inr (Or.inl ⟨rfl, rfl, decide_eq_true e1, decide_eq_false e2⟩))))))))))⟩
    · exact ⟨0, by decide, by intro o; simp [OkS] at o; omega, Or.inr (Or.inr (Or.inr (Or.inr (Or.inr (Or.inr (Or.inr (Or.inr (Or.inr (Or.inl ⟨rfl, rfl, decide_eq_false e1⟩)))))))))⟩
  · refine ⟨0, by decide, ?_, Or.inr (Or.inr (Or.inr (Or.inr (Or.inr (Or.inr (Or.inr (Or.inr (Or.inr (Or.inr (Or.inr ⟨rfl, by simp [k4], by simp [k3], by simp [k0], by simp [k1], by simp [k2]⟩))))))))))⟩
    intro o
    simp [OkS] at o
    omega
theorem Join_s (p : Int × Bool × Int × Int) (h0 : 0 ≤ p.2.2.1) (h1 : p.2.2.1 < 18446744073709551616) (w : World) :
    Calls Try.prog 18 #[szS, prt4 p] w fun x w' => x = .returned (.tuple #[.int .u64 (joiS p).1, .int .i64 (joiS p).2]) ∧ Below w.heap.size w w' := by
  obtain ⟨k, g, m, e⟩ := p
  simp only at h0 h1
  obtain ⟨M, rfl⟩ := Int.eq_ofNat_of_zero_le h0
  obtain ⟨N, n1, n2, HN⟩ := refNS k g M e (by omega)
  have S := Split_s N n1
  have o' := splS_ok N
  generalize hq : splS N = q at S o'
  obtain ⟨k', g', m', e'⟩ := q
  by_cases o : OkS (k, g, (M : Int), e)
  · have E : splS N = (k, g, (M : Int), e) := by
      have h := splS_pck o
      rw [← n2 o, Int.toNat_natCast] at h
      exact h
    rw [hq] at E
    simp only [Prod.mk.injEq] at E
    obtain ⟨rfl, rfl, rfl, rfl⟩ := E
    have H := Join_s_walk k' g' M e' N k' g' M e' true _ _ _ _ _ _ _ _ rfl rfl rfl rfl rfl rfl rfl rfl HN S (Or.inr (Or.inr (Or.inr (Or.inr ⟨rfl, rfl, rfl, rfl, rfl⟩)))) w
    rw [n2 o] at H
    unfold joiS
    rw [if_pos o]
    exact H
  · have ne : ¬ (k' = k ∧ g' = g ∧ m' = (M : Int) ∧ e' = e) := by
      rintro ⟨rfl, rfl, rfl, rfl⟩
      exact o o'
    unfold joiS
    rw [if_neg o]
    refine Join_s_walk k g M e N k' g' m' e' false _ _ _ _ _ _ _ _ rfl rfl rfl rfl rfl rfl rfl rfl HN S ?_ w
    by_cases a1 : k' = k
    · by_cases a2 : g' = g
      · by_cases a3 : m' = (M : Int)
        · exact Or.inr (Or.inr (Or.inr (Or.inl ⟨a1, a2, a3, by simp; exact fun h => ne ⟨a1, a2, a3, h⟩, rfl⟩)))
        · exact Or.inr (Or.inr (Or.inl ⟨a1, a2, by simp [a3], rfl⟩))
      · exact Or.inr (Or.inl ⟨a1, by simp [a2], rfl⟩)
    · exact Or.inl ⟨by simp [a1], rfl⟩
end Go.Proofs.Ytlngkonmalallaa

namespace Go.Proofs.Ytlngkonmalallaa
open Go.RowKit Tn

theorem f64bits (b : Nat) (w : World) : (callFunc 53 #[.float .f64 b]).run Try.prog w = .ok (.value (.int .u64 b)) w :=
  run_callFunc_extern (e := Extern.MathFloatBits.float64bits) Try.func53 (by kernel_rfl) rfl (by kernel_rfl) (by kernel_rfl) _ w
theorem f64frombits (b : Nat) (w : World) : (callFunc 10 #[.int .u64 b]).run Try.prog w = .ok (.value (.float .f64 b)) w :=
  run_callFunc_extern (e := Extern.MathFloatBits.float64frombits) Try.func10 (by kernel_rfl) rfl (by kernel_rfl) (by kernel_rfl) _ w
theorem f32bits (b : Nat) (w : World) : (callFunc 57 #[.float .f32 b]).run Try.prog w = .ok (.value (.int .u32 b)) w :=
  run_callFunc_extern (e := Extern.MathFloatBits.float32bits) Try.func57 (by kernel_rfl) rfl (by kernel_rfl) (by kernel_rfl) _ w
theorem f32frombits (b : Nat) (w : World) : (callFunc 14 #[.int .u32 b]).run Try.prog w = .ok (.value (.float .f32 b)) w :=
  run_callFunc_extern (e := Extern.MathFloatBits.float32frombits) Try.func14 (by kernel_rfl) rfl (by kernel_rfl) (by kernel_rfl) _ w
end Go.Proofs.Ytlngkonmalallaa

namespace Go.Proofs.Ytlngkonmalallaa
open Go.RowKit Tn

/-- Whether the neighbour that is farther from nought is taken, by the way. -/
def awayF (way : Int) (neg odd : Bool) (half : Int) : Bool :=
  if way = 1 then neg else if way = 2 then !neg else if way = 4 then true else if way = 5 then decide (0 ≤ half) else if way = 6 then (decide (0 < half) || (half == 0 && odd)) else false
theorem away_cases (P : Int → Prop) (way : Int) (h1 : P 1) (h2 : P 2) (h4 : P 4) (h5 : P 5) (h6 : P 6) (h0 : way ≠ 1 → way ≠ 2 → way ≠ 4 → way ≠ 5 → way ≠ 6 → P way) : P way := by
  by_cases a : way = 1
  · rw [a]; exact h1
  by_cases b : way = 2
  · rw [b]; exact h2
  by_cases c : way = 4
  · rw [c]; exact h4
  by_cases d : way = 5
  · rw [d]; exact h5
  by_cases e : way = 6
  · rw [e]; exact h6
  exact h0 a b c d e
set_option maxRecDepth 100000 in
set_option maxHeartbeats 800000 in
/-- exact.IsAway. -/
theorem IsAway_any (neg odd : Bool) (half way : Int) (w : World) :
    Calls Try.prog 127 #[.bool neg, .bool odd, .int .i64 half, .int .i64 way] w fun e w' => e = .returned (.bool (awayF way neg odd half)) ∧ w' = w := by
  refine away_cases (fun way => Calls Try.prog 127 #[.bool neg, .bool odd, .int .i64 half, .int .i64 way] w fun e w' => e = .returned (.bool (awayF way neg odd half)) ∧ w' = w) way ?_ ?_ ?_ ?_ ?_ ?_
  · simp only [awayF]
    go_enter Try.func127, Try.ntmps127
    go_wp2
    go_ret
    exact ⟨by simp, rfl⟩
  · simp only [awayF]
    go_enter Try.func127, Try.ntmps127
    go_wp2
    go_ret
    exact ⟨by simp, rfl⟩
  · simp only [awayF]
    go_enter Try.func127, Try.ntmps127
    go_wp2
    go_ret
    exact ⟨by simp, rfl⟩
  · simp only [awayF]
    go_enter Try.func127, Try.ntmps127
    go_wp2
    go_ret
    exact ⟨by simp, rfl⟩
  · have e : awayF 6 neg odd half = (decide (0 < half) || (half == 0 && odd)) := by simp [awayF]
    rw [e]
    clear e
    by_cases h1 : 0 < half
    · have d1 : decide (half > 0) = true := decide_eq_true h1
      go_enter Try.func127, Try.ntmps127
      go_wp2
      go_ret
      exact ⟨by simp [h1], rfl⟩
    · have d1 : decide (half > 0) = false := decide_eq_false h1
      by_cases h2 : half = 0
      · subst h2
        go_enter Try.func127, Try.ntmps127
        go_wp2
        go_ret
        exact ⟨by simp, rfl⟩
      · have d2 : (half == 0) = false := by rw [beq_eq_false_iff_ne]; exact h2
        go_enter Try.func127, Try.ntmps127
        go_wp2
        go_ret
        exact ⟨by simp, rfl⟩
  · intro a b c d e
    have f1 : (way == 1) = false := by rw [beq_eq_false_iff_ne]; exact a
    have f2 : (way == 2) = false := by rw [beq_eq_false_iff_ne]; exact b
    have f4 : (way == 4) = false := by rw [beq_eq_false_iff_ne]; exact c
    have f5 : (way == 5) = false := by rw [beq_eq_false_iff_ne]; exact d
    have f6 : (way == 6) = false := by rw [beq_eq_false_iff_ne]; exact e
    have r : awayF way neg odd half = false := by simp [awayF, a, b, c, d, e]
    rw [r]
    clear a b c d e r
    go_enter Try.func127, Try.ntmps127
    go_wp2
    go_ret
    exact ⟨rfl, rfl⟩
set_option maxRecDepth 100000 in
set_option maxHeartbeats 800000 in
/-- The reference's away. -/
theorem Away_any (neg odd : Bool) (half way : Int) (w : World) :
    Calls Try.prog 106 #[.int .i64 way, .bool neg, .bool odd, .int .i64 half] w fun e w' => e = .returned (.bool (awayF way neg odd half)) ∧ w' = w := by
  refine away_cases (fun way => Calls Try.prog 106 #[.int .i64 way, .bool neg, .bool odd, .int .i64 half] w fun e w' => e = .returned (.bool (awayF way neg odd half)) ∧ w' = w) way ?_ ?_ ?_ ?_ ?_ ?_
  · simp only [awayF]
    go_enter Try.func106, Try.ntmps106
    go_wp2
    go_ret
    exact ⟨by simp, rfl⟩
  · simp only [awayF]
    go_enter Try.func106, Try.ntmps106
    go_wp2
    go_ret
    exact ⟨by simp, rfl⟩
  · simp only [awayF]
    go_enter Try.func106, Try.ntmps106
    go_wp2
    go_ret
    exact ⟨by simp, rfl⟩
  · simp only [awayF]
    go_enter Try.func106, Try.ntmps106
    go_wp2
    go_ret
    exact ⟨by simp, rfl⟩
  · have e : awayF 6 neg odd half = (decide (0 < half) || (half == 0 && odd)) := by simp [awayF]
    rw [e]
    clear e
    by_cases h1 : 0 < half
    · have d1 : decide (half > 0) = true := decide_eq_true h1
      go_enter Try.func106, Try.ntmps106
      go_wp2
      go_ret
      exact ⟨by simp [h1], rfl⟩
    · have d1 : decide (half > 0) = false := decide_eq_false h1
      by_cases h2 : half = 0
      · subst h2
        go_enter Try.func106, Try.ntmps106
        go_wp2
        go_ret
        exact ⟨by simp, rfl⟩
      · have d2 : (half == 0) = false := by rw [beq_eq_false_iff_ne]; exact h2
        go_enter Try.func106, Try.ntmps106
        go_wp2
        go_ret
        exact ⟨by simp, rfl⟩
  · intro a b c d e
    have f1 : (way == 1) = false := by rw [beq_eq_false_iff_ne]; exact a
    have f2 : (way == 2) = false := by rw [beq_eq_false_iff_ne]; exact b
    have f4 : (way == 4) = false := by rw [beq_eq_false_iff_ne]; exact c
    have f5 : (way == 5) = false := by rw [beq_eq_false_iff_ne]; exact d
    have f6 : (way == 6) = false := by rw [beq_eq_false_iff_ne]; exact e
    have r : awayF way neg odd half = false := by simp [awayF, a, b, c, d, e]
    rw [r]
    clear a b c d e r
    go_enter Try.func106, Try.ntmps106
    go_wp2
    go_ret
    exact ⟨rfl, rfl⟩
end Go.Proofs.Ytlngkonmalallaa
