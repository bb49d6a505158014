import Derived.Test.YtfpmegfdopnnpaaPart13
import Derived.Test.YtfpmegfdopnnpaaPart11

namespace Go.Proofs.Ytfpmegfdopnnpaa.L
open Go.RowKit Tl

set_option maxHeartbeats 3200000 in
set_option maxRecDepth 100000 in
/-- Size's laid: too great by the carry. -/
theorem lays_w_top_over (v : Value) (ms : List Int) (e0 e way : Int) (neg a1 a2 a3 : Bool) (hw1 : (way == 1) = a1) (hw2 : (way == 2) = a2) (hw3 : (way == 3) = a3) (RM RI : Int)
    (TM : ∀ w, Calls Try.prog 50 #[szW, .bool neg, .int .u64 9218868437227405311] w fun e w' => e = .returned (.int .u64 RM) ∧ Below w.heap.size w w')
    (TI : ∀ w, Calls Try.prog 49 #[szW, .bool neg] w fun e w' => e = .returned (.int .u64 RI) ∧ Below w.heap.size w w')
    (w : World) (h : Rd w v ms) (n : Nm ms) (hv : val ms = 9007199254740992) (e2 : e ≤ 100000) (ee : e0 + 1 = e) (e1 : 971 < e) :
    Calls Try.prog 90 #[.agg #[.int .i64 53, .int .i64 (-1074), .int .i64 971, .int .i64 52], .bool neg, v, .int .i64 e0, .int .i64 way] w fun r w' => r = .returned (.tuple #[.int .u64 (if (a3 || (a1 && !neg) || (a2 && neg)) = true then RM else RI), .bool true]) ∧ Below w.heap.size w w' := by
  obtain ⟨LM, hLM⟩ : ∃ L : Nat, L = bl (val ms) := ⟨_, rfl⟩
  have hbl : bl (val ms) = 54 := (bl_unique (L := 54) (by omega) (by rw [hv]; decide) (Or.inr (by rw [hv]; decide))).symm
  have hb2 : (53 : Int) < LM := by omega
  have ll : ms.length ≤ 2 := by
    by_cases c : ms.length ≤ 2
    · exact c
    · have := val_low h.1 n (by intro e; rw [e] at c; simp at c)
      have := pw_mono (show 2 ≤ ms.length - 1 by omega)
      have : pw 2 = 1152921504606846976 := by decide
      omega
  have ew : IntKind.i64.wrap (e0 + 1) = e := by rw [ee]; exact wrap_self _ (by omega) (by omega)
  have S1 : ∀ (w : World) (v : Value), Rd w v ms → Calls Try.prog 107 #[v, .int .i64 1] w fun e w' => ∃ r zs, e = .returned r ∧ Rd w' r zs ∧ Nm zs ∧ val zs = val ms / 2 ^ 1 ∧ Below w.heap.size w w' := fun w v h => Shr_any v ms 1 w h (by omega) (by decide)
  have K0 := Blk.new w #[.int .i64 53, .int .i64 (-1074), .int .i64 971, .int .i64 52] 31
  have pr : Below w.heap.size w (w.alloc (.cells #[.int .i64 53, .int .i64 (-1074), .int .i64 971, .int .i64 52] 31)) := (Below.refl _ _).alloc (Nat.le_refl _) _
  have hR := h.grow pr
  have B1 : ∀ k, Calls Try.prog 71 #[v] ((w.alloc (.cells #[.int .i64 53, .int .i64 (-1074), .int .i64 971, .int .i64 52] 31)).drewN k) fun e w' => e = .returned (.int .i64 LM) ∧ ∃ n, w' = ((w.alloc (.cells #[.int .i64 53, .int .i64 (-1074), .int .i64 971, .int .i64 52] 31)).drewN k).drewN n := fun k => by rw [hLM]; exact Bits_q _ ms _ (show Rd ((w.alloc (.cells #[.int .i64 53, .int .i64 (-1074), .int .i64 971, .int .i64 52] 31)).drewN k) _ _ from hR) n (by omega)
  clear hLM hbl hv ee
  have c1 : IntKind.u64.wrap 9218868437227405312 = 9218868437227405312 := by decide
  have c2 : IntKind.u64.wrap 9218868437227405311 = 9218868437227405311 := by decide
  cases neg <;> cases a1 <;> cases a2 <;> cases a3
  all_goals
    simp only [Bool.or_true, Bool.or_false, Bool.and_true, Bool.and_false, Bool.not_true, Bool.not_false, if_true, if_false, Bool.false_eq_true]
    go_enter Try.func90, Try.ntmps90
    go_wp2_with fail
    generalize w.alloc (.cells #[.int .i64 53, .int .i64 (-1074), .int .i64 971, .int .i64 52] 31) = W at *
    have q0 : W.cell? ⟨w.heap.size, 0, none⟩ = some (.int .i64 53) := K0.at 0
    have q1 : W.cell? ⟨w.heap.size, 1, none⟩ = some (.int .i64 (-1074)) := K0.at 1
    have q2 : W.cell? ⟨w.heap.size, 2, none⟩ = some (.int .i64 971) := K0.at 2
    have q3 : W.cell? ⟨w.heap.size, 3, none⟩ = some (.int .i64 52) := K0.at 3
    go_quiet ((go_at_call 71; with_reducible exact Calls.quiet_of (B1 _)))
    have K2 : Blk (W.drewN nq) w.heap.size #[.int .i64 53, .int .i64 (-1074), .int .i64 971, .int .i64 52] 31 := K0
    have pr2 : Below w.heap.size w (W.drewN nq) := ⟨pr.os, pr.tape, pr.output, pr.size, pr.block⟩
    have hRj : Rd (W.drewN nq) v ms := hR
    clear q0 q1 q2 q3 K0 pr B1 hR
    generalize W.drewN nq = W2 at *
    have q0 : W2.cell? ⟨w.heap.size, 0, none⟩ = some (.int .i64 53) := K2.at 0
    have q1 : W2.cell? ⟨w.heap.size, 1, none⟩ = some (.int .i64 (-1074)) := K2.at 1
    have q2 : W2.cell? ⟨w.heap.size, 2, none⟩ = some (.int .i64 971) := K2.at 2
    have q3 : W2.cell? ⟨w.heap.size, 3, none⟩ = some (.int .i64 52) := K2.at 3
    go_wp2_with (first
      | (go_at_call 107; (refine (S1 _ _ hRj).mono ?_); (rintro x w3 ⟨u, m2, rfl, _, _, _, b3⟩; replace K2 := K2.below b3 K2.lt; replace pr2 := bel pr2 b3; clear b3; have q0 : w3.cell? ⟨w.heap.size, 0, none⟩ = some (.int .i64 53) := K2.at 0; have q1 : w3.cell? ⟨w.heap.size, 1, none⟩ = some (.int .i64 (-1074)) := K2.at 1; have q2 : w3.cell? ⟨w.heap.size, 2, none⟩ = some (.int .i64 971) := K2.at 2; have q3 : w3.cell? ⟨w.heap.size, 3, none⟩ = some (.int .i64 52) := K2.at 3))
      | (go_at_call 49; refine (TI _).mono ?_; rintro x w5 ⟨rfl, b5⟩; replace pr2 := bel pr2 b5)
      | fail)
    first
      | exact bodyPost_ret (v := .tuple #[.int .u64 RI, .bool true]) (by simp [results, Try.results90, go_sem]) rfl ⟨rfl, pr2⟩
      | (go_region_held3 (fun x => x.cell? ⟨w.heap.size, 0, none⟩ = some (.int .i64 53) ∧ x.cell? ⟨w.heap.size, 1, none⟩ = some (.int .i64 (-1074)) ∧ x.cell? ⟨w.heap.size, 2, none⟩ = some (.int .i64 971) ∧ x.cell? ⟨w.heap.size, 3, none⟩ = some (.int .i64 52)) (go_keep) (first
      | (go_at_call 43; refine (top_w _).mono ?_; rintro x w6 ⟨rfl, b5⟩; replace K2 := K2.below b5 K2.lt; replace pr2 := bel pr2 b5; clear b5; have q0 : w6.cell? ⟨w.heap.size, 0, none⟩ = some (.int .i64 53) := K2.at 0; have q1 : w6.cell? ⟨w.heap.size, 1, none⟩ = some (.int .i64 (-1074)) := K2.at 1; have q2 : w6.cell? ⟨w.heap.size, 2, none⟩ = some (.int .i64 971) := K2.at 2; have q3 : w6.cell? ⟨w.heap.size, 3, none⟩ = some (.int .i64 52) := K2.at 3)
      | (go_at_call 43; refine (top_w _).mono ?_; rintro x w6 ⟨rfl, b5⟩; replace K2 := K2.below (below_undrew b5) K2.lt; replace pr2 := bel pr2 (below_undrew b5); clear b5; have q0 : w6.cell? ⟨w.heap.size, 0, none⟩ = some (.int .i64 53) := K2.at 0; have q1 : w6.cell? ⟨w.heap.size, 1, none⟩ = some (.int .i64 (-1074)) := K2.at 1; have q2 : w6.cell? ⟨w.heap.size, 2, none⟩ = some (.int .i64 971) := K2.at 2; have q3 : w6.cell? ⟨w.heap.size, 3, none⟩ = some (.int .i64 52) := K2.at 3)
      | (go_at_call 50; refine (TM _).mono ?_; rintro x w7 ⟨rfl, b5⟩; replace K2 := K2.below b5 K2.lt; replace pr2 := bel pr2 b5; clear b5; have q0 : w7.cell? ⟨w.heap.size, 0, none⟩ = some (.int .i64 53) := K2.at 0; have q1 : w7.cell? ⟨w.heap.size, 1, none⟩ = some (.int .i64 (-1074)) := K2.at 1; have q2 : w7.cell? ⟨w.heap.size, 2, none⟩ = some (.int .i64 971) := K2.at 2; have q3 : w7.cell? ⟨w.heap.size, 3, none⟩ = some (.int .i64 52) := K2.at 3)
      | (go_at_call 50; refine (TM _).mono ?_; rintro x w7 ⟨rfl, b5⟩; replace K2 := K2.below (below_undrew b5) K2.lt; replace pr2 := bel pr2 (below_undrew b5); clear b5; have q0 : w7.cell? ⟨w.heap.size, 0, none⟩ = some (.int .i64 53) := K2.at 0; have q1 : w7.cell? ⟨w.heap.size, 1, none⟩ = some (.int .i64 (-1074)) := K2.at 1; have q2 : w7.cell? ⟨w.heap.size, 2, none⟩ = some (.int .i64 971) := K2.at 2; have q3 : w7.cell? ⟨w.heap.size, 3, none⟩ = some (.int .i64 52) := K2.at 3)
      | fail)
         go_wp2
         exact bodyPost_ret (v := .tuple #[.int .u64 RM, .bool true]) (by simp [results, Try.results90, go_sem]) rfl ⟨rfl, pr2⟩)
set_option maxHeartbeats 3200000 in
set_option maxRecDepth 100000 in
/-- Size's laid: too great by the carry. -/
theorem lays_s_top_over (v : Value) (ms : List Int) (e0 e way : Int) (neg a1 a2 a3 : Bool) (hw1 : (way == 1) = a1) (hw2 : (way == 2) = a2) (hw3 : (way == 3) = a3) (RM RI : Int)
    (TM : ∀ w, Calls Try.prog 50 #[szS, .bool neg, .int .u64 2139095039] w fun e w' => e = .returned (.int .u64 RM) ∧ Below w.heap.size w w')
    (TI : ∀ w, Calls Try.prog 49 #[szS, .bool neg] w fun e w' => e = .returned (.int .u64 RI) ∧ Below w.heap.size w w')
    (w : World) (h : Rd w v ms) (n : Nm ms) (hv : val ms = 16777216) (e2 : e ≤ 100000) (ee : e0 + 1 = e) (e1 : 104 < e) :
    Calls Try.prog 90 #[.agg #[.int .i64 24, .int .i64 (-149), .int .i64 104, .int .i64 23], .bool neg, v, .int .i64 e0, .int .i64 way] w fun r w' => r = .returned (.tuple #[.int .u64 (if (a3 || (a1 && !neg) || (a2 && neg)) = true then RM else RI), .bool true]) ∧ Below w.heap.size w w' := by
  obtain ⟨LM, hLM⟩ : ∃ L : Nat, L = bl (val ms) := ⟨_, rfl⟩
  have hbl : bl (val ms) = 25 := (bl_unique (L := 25) (by omega) (by rw [hv]; decide) (Or.inr (by rw [hv]; decide))).symm
  have hb2 : (24 : Int) < LM := by omega
  have ll : ms.length ≤ 2 := by
    by_cases c : ms.length ≤ 2
    · exact c
    · have := val_low h.1 n (by intro e; rw [e] at c; simp at c)
      have := pw_mono (show 2 ≤ ms.length - 1 by omega)
      have : pw 2 = 1152921504606846976 := by decide
      omega
  have ew : IntKind.i64.wrap (e0 + 1) = e := by rw [ee]; exact wrap_self _ (by omega) (by omega)
  have S1 : ∀ (w : World) (v : Value), Rd w v ms → Calls Try.prog 107 #[v, .int .i64 1] w fun e w' => ∃ r zs, e = .returned r ∧ Rd w' r zs ∧ Nm zs ∧ val zs = val ms / 2 ^ 1 ∧ Below w.heap.size w w' := fun w v h => Shr_any v ms 1 w h (by omega) (by decide)
  have K0 := Blk.new w #[.int .i64 24, .int .i64 (-149), .int .i64 104, .int .i64 23] 31
  have pr : Below w.heap.size w (w.alloc (.cells #[.int .i64 24, .int .i64 (-149), .int .i64 104, .int .i64 23] 31)) := (Below.refl _ _).alloc (Nat.le_refl _) _
  have hR := h.grow pr
  have B1 : ∀ k, Calls Try.prog 71 #[v] ((w.alloc (.cells #[.int .i64 24, .int .i64 (-149), .int .i64 104, .int .i64 23] 31)).drewN k) fun e w' => e = .returned (.int .i64 LM) ∧ ∃ n, w' = ((w.alloc (.cells #[.int .i64 24, .int .i64 (-149), .int .i64 104, .int .i64 23] 31)).drewN k).drewN n := fun k => by rw [hLM]; exact Bits_q _ ms _ (show Rd ((w.alloc (.cells #[.int .i64 24, .int .i64 (-149), .int .i64 104, .int .i64 23] 31)).drewN k) _ _ from hR) n (by omega)
  clear hLM hbl hv ee
  have c1 : IntKind.u64.wrap 2139095040 = 2139095040 := by decide
  have c2 : IntKind.u64.wrap 2139095039 = 2139095039 := by decide
  cases neg <;> cases a1 <;> cases a2 <;> cases a3
  all_goals
    simp only [Bool.or_true, Bool.or_false, Bool.and_true, Bool.and_false, Bool.not_true, Bool.not_false, if_true, if_false, Bool.false_eq_true]
    go_enter Try.func90, Try.ntmps90
    go_wp2_with fail
    generalize w.alloc (.cells #[.int .i64 24, .int .i64 (-149), .int .i64 104, .int .i64 23] 31) = W at *
    have q0 : W.cell? ⟨w.heap.size, 0, none⟩ = some (.int .i64 24) := K0.at 0
    have q1 : W.cell? ⟨w.heap.size, 1, none⟩ = some (.int .i64 (-149)) := K0.at 1
    have q2 : W.cell? ⟨w.heap.size, 2, none⟩ = some (.int .i64 104) := K0.at 2
    have q3 : W.cell? ⟨w.heap.size, 3, none⟩ = some (.int .i64 23) := K0.at 3
    go_quiet ((go_at_call 71; with_reducible exact Calls.quiet_of (B1 _)))
    have K2 : Blk (W.drewN nq) w.heap.size #[.int .i64 24, .int .i64 (-149), .int .i64 104, .int .i64 23] 31 := K0
    have pr2 : Below w.heap.size w (W.drewN nq) := ⟨pr.os, pr.tape, pr.output, pr.size, pr.block⟩
    have hRj : Rd (W.drewN nq) v ms := hR
    clear q0 q1 q2 q3 K0 pr B1 hR
    generalize W.drewN nq = W2 at *
    have q0 : W2.cell? ⟨w.heap.size, 0, none⟩ = some (.int .i64 24) := K2.at 0
    have q1 : W2.cell? ⟨w.heap.size, 1, none⟩ = some (.int .i64 (-149)) := K2.at 1
    have q2 : W2.cell? ⟨w.heap.size, 2, none⟩ = some (.int .i64 104) := K2.at 2
    have q3 : W2.cell? ⟨w.heap.size, 3, none⟩ = some (.int .i64 23) := K2.at 3
    go_wp2_with (first
      | (go_at_call 107; (refine (S1 _ _ hRj).mono ?_); (rintro x w3 ⟨u, m2, rfl, _, _, _, b3⟩; replace K2 := K2.below b3 K2.lt; replace pr2 := bel pr2 b3; clear b3; have q0 : w3.cell? ⟨w.heap.size, 0, none⟩ = some (.int .i64 24) := K2.at 0; have q1 : w3.cell? ⟨w.heap.size, 1, none⟩ = some (.int .i64 (-149)) := K2.at 1; have q2 : w3.cell? ⟨w.heap.size, 2, none⟩ = some (.int .i64 104) := K2.at 2; have q3 : w3.cell? ⟨w.heap.size, 3, none⟩ = some (.int .i64 23) := K2.at 3))
      | (go_at_call 49; refine (TI _).mono ?_; rintro x w5 ⟨rfl, b5⟩; replace pr2 := bel pr2 b5)
      | fail)
    first
      | exact bodyPost_ret (v := .tuple #[.int .u64 RI, .bool true]) (by simp [results, Try.results90, go_sem]) rfl ⟨rfl, pr2⟩
      | (go_region_held3 (fun x => x.cell? ⟨w.heap.size, 0, none⟩ = some (.int .i64 24) ∧ x.cell? ⟨w.heap.size, 1, none⟩ = some (.int .i64 (-149)) ∧ x.cell? ⟨w.heap.size, 2, none⟩ = some (.int .i64 104) ∧ x.cell? ⟨w.heap.size, 3, none⟩ = some (.int .i64 23)) (go_keep) (first
      | (go_at_call 43; refine (top_s _).mono ?_; rintro x w6 ⟨rfl, b5⟩; replace K2 := K2.below b5 K2.lt; replace pr2 := bel pr2 b5; clear b5; have q0 : w6.cell? ⟨w.heap.size, 0, none⟩ = some (.int .i64 24) := K2.at 0; have q1 : w6.cell? ⟨w.heap.size, 1, none⟩ = some (.int .i64 (-149)) := K2.at 1; have q2 : w6.cell? ⟨w.heap.size, 2, none⟩ = some (.int .i64 104) := K2.at 2; have q3 : w6.cell? ⟨w.heap.size, 3, none⟩ = some (.int .i64 23) := K2.at 3)
      | (go_at_call 43; refine (top_s _).mono ?_; rintro x w6 ⟨rfl, b5⟩; replace K2 := K2.below (below_undrew b5) K2.lt; replace pr2 := bel pr2 (below_undrew b5); clear b5; have q0 : w6.cell? ⟨w.heap.size, 0, none⟩ = some (.int .i64 24) := K2.at 0; have q1 : w6.cell? ⟨w.heap.size, 1, none⟩ = some (.int .i64 (-149)) := K2.at 1; have q2 : w6.cell? ⟨w.heap.size, 2, none⟩ = some (.int .i64 104) := K2.at 2; have q3 : w6.cell? ⟨w.heap.size, 3, none⟩ = some (.int .i64 23) := K2.at 3)
      | (go_at_call 50; refine (TM _).mono ?_; rintro x w7 ⟨rfl, b5⟩; replace K2 := K2.below b5 K2.lt; replace pr2 := bel pr2 b5; clear b5; have q0 : w7.cell? ⟨w.heap.size, 0, none⟩ = some (.int .i64 24) := K2.at 0; have q1 : w7.cell? ⟨w.heap.size, 1, none⟩ = some (.int .i64 (-149)) := K2.at 1; have q2 : w7.cell? ⟨w.heap.size, 2, none⟩ = some (.int .i64 104) := K2.at 2; have q3 : w7.cell? ⟨w.heap.size, 3, none⟩ = some (.int .i64 23) := K2.at 3)
      | (go_at_call 50; refine (TM _).mono ?_; rintro x w7 ⟨rfl, b5⟩; replace K2 := K2.below (below_undrew b5) K2.lt; replace pr2 := bel pr2 (below_undrew b5); clear b5; have q0 : w7.cell? ⟨w.heap.size, 0, none⟩ = some (.int .i64 24) := K2.at 0; have q1 : w7.cell? ⟨w.heap.size, 1, none⟩ = some (.int .i64 (-149)) := K2.at 1; have q2 : w7.cell? ⟨w.heap.size, 2, none⟩ = some (.int .i64 104) := K2.at 2; have q3 : w7.cell? ⟨w.heap.size, 3, none⟩ = some (.int .i64 23) := K2.at 3)
      | fail)
         go_wp2
         exact bodyPost_ret (v := .tuple #[.int .u64 RM, .bool true]) (by simp [results, Try.results90, go_sem]) rfl ⟨rfl, pr2⟩)
end Go.Proofs.Ytfpmegfdopnnpaa.L

namespace Go.Proofs.Ytfpmegfdopnnpaa.L
open Go.RowKit Tl

/-- Is what is too great told by the greatest finite one? -/
def inw (neg : Bool) (way : Int) : Bool := (way == 3) || ((way == 1) && !neg) || ((way == 2) && neg)
/-- Bits with the sign. -/
def sgnW (neg : Bool) (b : Int) : Int := if neg = true then b + 9223372036854775808 else b
/-- The bits of m times 2 to the e. -/
def layW (m e : Int) : Int := if 4503599627370496 ≤ m then m - 4503599627370496 + (e + 1075) * 4503599627370496 else m
/-- What becomes of m, at most 2 to the p, times 2 to the e; is it too great? -/
def endW (neg : Bool) (m e way : Int) : Int × Bool :=
  if 971 < e then (sgnW neg (if inw neg way = true then 9218868437227405311 else 9218868437227405312), true) else (sgnW neg (layW m e), false)
def laidW (neg : Bool) (m e way : Int) : Int × Bool := if m = 9007199254740992 then endW neg 4503599627370496 (e + 1) way else endW neg m e way
theorem signed_w_any (neg : Bool) (b : Int) (b0 : 0 ≤ b) (b1 : b < 9223372036854775808) (w : World) :
    Calls Try.prog 50 #[szW, .bool neg, .int .u64 b] w fun e w' => e = .returned (.int .u64 (sgnW neg b)) ∧ Below w.heap.size w w' := by
  obtain ⟨f, rfl⟩ := Int.eq_ofNat_of_zero_le b0
  cases neg
  · exact signed_w_pos f w
  · exact signed_w_neg f _ (Tn.hsgW f (by omega)) w
theorem Infinite_w_any (neg : Bool) (w : World) :
    Calls Try.prog 49 #[szW, .bool neg] w fun e w' => e = .returned (.int .u64 (sgnW neg 9218868437227405312)) ∧ Below w.heap.size w w' := by
  cases neg
  · exact Infinite_w_pos w
  · exact Infinite_w_neg w
theorem layW_bd {m e : Int} (m0 : 0 ≤ m) (m1 : m < 9007199254740992) (e0 : -1074 ≤ e) (e1 : e ≤ 971) : 0 ≤ layW m e ∧ layW m e < 9223372036854775808 := by
  unfold layW
  split <;> omega
/-- Size's laid. -/
theorem laid_w_any (v : Value) (ms : List Int) (e way : Int) (neg : Bool) (w : World) (h : Rd w v ms) (n : Nm ms) (m1 : val ms ≤ 9007199254740992) (e0 : -1074 ≤ e) (e1 : e ≤ 50000) :
    Calls Try.prog 90 #[.agg #[.int .i64 53, .int .i64 (-1074), .int .i64 971, .int .i64 52], .bool neg, v, .int .i64 e, .int .i64 way] w fun r w' => r = .returned (.tuple #[.int .u64 (laidW neg (val ms) e way).1, .bool (laidW neg (val ms) e way).2]) ∧ Below w.heap.size w w' := by
  have TM := fun w => signed_w_any neg 9218868437227405311 (by decide) (by decide) w
  have TI := fun w => Infinite_w_any neg w
  have v0 := val_nonneg h.1
  have pick : ∀ c : Bool, (if c = true then sgnW neg 9218868437227405311 else sgnW neg 9218868437227405312) = sgnW neg (if c = true then 9218868437227405311 else 9218868437227405312) := fun c => by cases c <;> rfl
  unfold laidW
  by_cases ht : val ms = 9007199254740992
  · rw [if_pos ht]
    unfold endW
    by_cases he : 971 < e + 1
    · rw [if_pos he, ← pick]
      exact lays_w_top_over v ms e (e + 1) way neg _ _ _ rfl rfl rfl _ _ TM TI w h n ht (by omega) rfl he
    · rw [if_neg he]
      have b := layW_bd (m := 4503599627370496) (e := e + 1) (by decide) (by decide) (by omega) (by omega)
      refine lays_w_top v ms e (e + 1) way (e + 1 + 1075) _ neg _ (fun w => signed_w_any neg _ b.1 b.2 w) w h n ht rfl (by omega) (by omega) rfl ?_
      unfold layW
      rw [if_pos (by decide)]
      omega
  · rw [if_neg ht]
    unfold endW
    by_cases he : 971 < e
    · rw [if_pos he, ← pick]
      refine lays_w_over v ms e way neg _ _ _ rfl rfl rfl _ _ TM TI w h n ?_ ?_ he
      · by_cases c : 4503599627370496 ≤ val ms
        · rw [bl_53 c (by omega)]; omega
        · have := bl_52 v0 (by omega); omega
      · have := small_len h.1 n (by omega); omega
    · rw [if_neg he]
      have b := layW_bd (m := val ms) (e := e) v0 (by omega) e0 (by omega)
      by_cases c : 4503599627370496 ≤ val ms
      · refine lays_w_norm v ms e way _ _ neg _ (fun w => signed_w_any neg _ b.1 b.2 w) w h n c (by omega) e0 (by omega) rfl ?_
        unfold layW
        rw [if_pos c]
      · have el : layW (val ms) e = val ms := by unfold layW; rw [if_neg c]
        rw [el] at b ⊢
        exact lays_w_small v ms e way neg _ (fun w => signed_w_any neg _ b.1 b.2 w) w h n (by omega) (by omega)
/-- Bits with the sign. -/
def sgnS (neg : Bool) (b : Int) : Int := if neg = true then b + 2147483648 else b
/-- The bits of m times 2 to the e. -/
def layS (m e : Int) : Int := if 8388608 ≤ m then m - 8388608 + (e + 150) * 8388608 else m
/-- What becomes of m, at most 2 to the p, times 2 to the e; is it too great? -/
def endS (neg : Bool) (m e way : Int) : Int × Bool :=
  if 104 < e then (sgnS neg (if inw neg way = true then 2139095039 else 2139095040), true) else (sgnS neg (layS m e), false)
def laidS (neg : Bool) (m e way : Int) : Int × Bool := if m = 16777216 then endS neg 8388608 (e + 1) way else endS neg m e way
theorem signed_s_any (neg : Bool) (b : Int) (b0 : 0 ≤ b) (b1 : b < 2147483648) (w : World) :
    Calls Try.prog 50 #[szS, .bool neg, .int .u64 b] w fun e w' => e = .returned (.int .u64 (sgnS neg b)) ∧ Below w.heap.size w w' := by
  obtain ⟨f, rfl⟩ := Int.eq_ofNat_of_zero_le b0
  cases neg
  · exact signed_s_pos f w
  · exact signed_s_neg f _ (Tn.hsgS f (by omega)) w
theorem Infinite_s_any (neg : Bool) (w : World) :
    Calls Try.prog 49 #[szS, .bool neg] w fun e w' => e = .returned (.int .u64 (sgnS neg 2139095040)) ∧ Below w.heap.size w w' := by
  cases neg
  · exact Infinite_s_pos w
  · exact Infinite_s_neg w
theorem layS_bd {m e : Int} (m0 : 0 ≤ m) (m1 : m < 16777216) (e0 : -149 ≤ e) (e1 : e ≤ 104) : 0 ≤ layS m e ∧ layS m e < 2147483648 := by
  unfold layS
  split <;> omega
/-- Size's laid. -/
theorem laid_s_any (v : Value) (ms : List Int) (e way : Int) (neg : Bool) (w : World) (h : Rd w v ms) (n : Nm ms) (m1 : val ms ≤ 16777216) (e0 : -149 ≤ e) (e1 : e ≤ 50000) :
    Calls Try.prog 90 #[.agg #[.int .i64 24, .int .i64 (-149), .int .i64 104, .int .i64 23], .bool neg, v, .int .i64 e, .int .i64 way] w fun r w' => r = .returned (.tuple #[.int .u64 (laidS neg (val ms) e way).1, .bool (laidS neg (val ms) e way).2]) ∧ Below w.heap.size w w' := by
  have TM := fun w => signed_s_any neg 2139095039 (by decide) (by decide) w
  have TI := fun w => Infinite_s_any neg w
  have v0 := val_nonneg h.1
  have pick : ∀ c : Bool, (if c = true then sgnS neg 2139095039 else sgnS neg 2139095040) = sgnS neg (if c = true then 2139095039 else 2139095040) := fun c => by cases c <;> rfl
  unfold laidS
  by_cases ht : val ms = 16777216
  · rw [if_pos ht]
    unfold endS
    by_cases he : 104 < e + 1
    · rw [if_pos he, ← pick]
      exact lays_s_top_over v ms e (e + 1) way neg _ _ _ rfl rfl rfl _ _ TM TI w h n ht (by omega) rfl he
    · rw [if_neg he]
      have b := layS_bd (m := 8388608) (e := e + 1) (by decide) (by decide) (by omega) (by omega)
      refine lays_s_top v ms e (e + 1) way (e + 1 + 150) _ neg _ (fun w => signed_s_any neg _ b.1 b.2 w) w h n ht rfl (by omega) (by omega) rfl ?_
      unfold layS
      rw [if_pos (by decide)]
      omega
  · rw [if_neg ht]
    unfold endS
    by_cases he : 104 < e
    · rw [if_pos he, ← pick]
      refine lays_s_over v ms e way neg _ _ _ rfl rfl rfl _ _ TM TI w h n ?_ ?_ he
      · by_cases c : 8388608 ≤ val ms
        · rw [bl_24 c (by omega)]; omega
        · have := bl_23 v0 (by omega); omega
      · have := small_len h.1 n (by omega); omega
    · rw [if_neg he]
      have b := layS_bd (m := val ms) (e := e) v0 (by omega) e0 (by omega)
      by_cases c : 8388608 ≤ val ms
      · refine lays_s_norm v ms e way _ _ neg _ (fun w => signed_s_any neg _ b.1 b.2 w) w h n c (by omega) e0 (by omega) rfl ?_
        unfold layS
        rw [if_pos c]
      · have el : layS (val ms) e = val ms := by unfold layS; rw [if_neg c]
        rw [el] at b ⊢
        exact lays_s_small v ms e way neg _ (fun w => signed_s_any neg _ b.1 b.2 w) w h n (by omega) (by omega)
end Go.Proofs.Ytfpmegfdopnnpaa.L

namespace Go.Proofs.Ytfpmegfdopnnpaa
open Go.RowKit Tn

/-- Whether the neighbour that is farther from nought is taken, by the way. -/
def awayF (way : Int) (neg odd : Bool) (half : Int) : Bool :=
  if way = 1 then neg else if way = 2 then !neg else if way = 4 then true else if way = 5 then decide (0 ≤ half) else if way = 6 then (decide (0 < half) || (half == 0 && odd)) else false
theorem away_cases (P : Int → Prop) (way : Int) (h1 : P 1) (h2 : P 2) (h4 : P 4) (h5 : P 5) (h6 : P 6) (h0 : way ≠ 1 → way ≠ 2 → way ≠ 4 → way ≠ 5 → way ≠ 6 → P way) : P way := by
  by_cases a : way = 1
  · rw [a]; exact h1
  by_cases b : way = 2
  · rw [b]; exact h2
  by_cases c : way = 4
  · rw [c]; exact h4
  by_cases d : way = 5
  · rw [d]; exact h5
  by_cases e : way = 6
  · rw [e]; exact h6
  exact h0 a b c d e
set_option maxRecDepth 100000 in
set_option maxHeartbeats 800000 in
/-- exact.IsAway. -/
theorem IsAway_any (neg odd : Bool) (half way : Int) (w : World) :
    Calls Try.prog 105 #[.bool neg, .bool odd, .int .i64 half, .int .i64 way] w fun e w' => e = .returned (.bool (awayF way neg odd half)) ∧ w' = w := by
  refine away_cases (fun way => Calls Try.prog 105 #[.bool neg, .bool odd, .int .i64 half, .int .i64 way] w fun e w' => e = .returned (.bool (awayF way neg odd half)) ∧ w' = w) way ?_ ?_ ?_ ?_ ?_ ?_
  · simp only [awayF]
    go_enter Try.func105, Try.ntmps105
    go_wp2
    go_ret
    exact ⟨by simp, rfl⟩
  · simp only [awayF]
    go_enter Try.func105, Try.ntmps105
    go_wp2
    go_ret
    exact ⟨by simp, rfl⟩
  · simp only [awayF]
    go_enter Try.func105, Try.ntmps105
    go_wp2
    go_ret
    exact ⟨by simp, rfl⟩
  · simp only [awayF]
    go_enter Try.func105, Try.ntmps105
    go_wp2
    go_ret
    exact ⟨by simp, rfl⟩
  · have e : awayF 6 neg odd half = (decide (0 < half) || (half == 0 && odd)) := by simp [awayF]
    rw [e]
    clear e
    by_cases h1 : 0 < half
    · have d1 : decide (half > 0) = true := decide_eq_true h1
      go_enter Try.func105, Try.ntmps105
      go_wp2
      go_ret
      exact ⟨by simp [h1], rfl⟩
    · have d1 : decide (half > 0) = false := decide_eq_false h1
      by_cases h2 : half = 0
      · subst h2
        go_enter Try.func105, Try.ntmps105
        go_wp2
        go_ret
        exact ⟨by simp, rfl⟩
      · have d2 : (half == 0) = false := by rw [beq_eq_false_iff_ne]; exact h2
        go_enter Try.func105, Try.ntmps105
        go_wp2
        go_ret
        exact ⟨by simp, rfl⟩
  · intro a b c d e
    have f1 : (way == 1) = false := by rw [beq_eq_false_iff_ne]; exact a
    have f2 : (way == 2) = false := by rw [beq_eq_false_iff_ne]; exact b
    have f4 : (way == 4) = false := by rw [beq_eq_false_iff_ne]; exact c
    have f5 : (way == 5) = false := by rw [beq_eq_false_iff_ne]; exact d
    have f6 : (way == 6) = false := by rw [beq_eq_false_iff_ne]; exact e
    have r : awayF way neg odd half = false := by simp [awayF, a, b, c, d, e]
    rw [r]
    clear a b c d e r
    go_enter Try.func105, Try.ntmps105
    go_wp2
    go_ret
    exact ⟨rfl, rfl⟩
set_option maxRecDepth 100000 in
set_option maxHeartbeats 800000 in
/-- The reference's away. -/
theorem Away_any (neg odd : Bool) (half way : Int) (w : World) :
    Calls Try.prog 87 #[.int .i64 way, .bool neg, .bool odd, .int .i64 half] w fun e w' => e = .returned (.bool (awayF way neg odd half)) ∧ w' = w := by
  refine away_cases (fun way => Calls Try.prog 87 #[.int .i64 way, .bool neg, .bool odd, .int .i64 half] w fun e w' => e = .returned (.bool (awayF way neg odd half)) ∧ w' = w) way ?_ ?_ ?_ ?_ ?_ ?_
  · simp only [awayF]
    go_enter Try.func87, Try.ntmps87
    go_wp2
    go_ret
    exact ⟨by simp, rfl⟩
  · simp only [awayF]
    go_enter Try.func87, Try.ntmps87
    go_wp2
    go_ret
    exact ⟨by simp, rfl⟩
  · simp only [awayF]
    go_enter Try.func87, Try.ntmps87
    go_wp2
    go_ret
    exact ⟨by simp, rfl⟩
  · simp only [awayF]
    go_enter Try.func87, Try.ntmps87
    go_wp2
    go_ret
    exact ⟨by simp, rfl⟩
  · have e : awayF 6 neg odd half = (decide (0 < half) || (half == 0 && odd)) := by simp [awayF]
    rw [e]
    clear e
    by_cases h1 : 0 < half
    · have d1 : decide (half > 0) = true := decide_eq_true h1
      go_enter Try.func87, Try.ntmps87
      go_wp2
      go_ret
      exact ⟨by simp [h1], rfl⟩
    · have d1 : decide (half > 0) = false := decide_eq_false h1
      by_cases h2 : half = 0
      · subst h2
        go_enter Try.func87, Try.ntmps87
        go_wp2
        go_ret
        exact ⟨by simp, rfl⟩
      · have d2 : (half == 0) = false := by rw [beq_eq_false_iff_ne]; exact h2
        go_enter Try.func87, Try.ntmps87
        go_wp2
        go_ret
        exact ⟨by simp, rfl⟩
  · intro a b c d e
    have f1 : (way == 1) = false := by rw [beq_eq_false_iff_ne]; exact a
    have f2 : (way == 2) = false := by rw [beq_eq_false_iff_ne]; exact b
    have f4 : (way == 4) = false := by rw [beq_eq_false_iff_ne]; exact c
    have f5 : (way == 5) = false := by rw [beq_eq_false_iff_ne]; exact d
    have f6 : (way == 6) = false := by rw [beq_eq_false_iff_ne]; exact e
    have r : awayF way neg odd half = false := by simp [awayF, a, b, c, d, e]
    rw [r]
    clear a b c d e r
    go_enter Try.func87, Try.ntmps87
    go_wp2
    go_ret
    exact ⟨rfl, rfl⟩
end Go.Proofs.Ytfpmegfdopnnpaa
