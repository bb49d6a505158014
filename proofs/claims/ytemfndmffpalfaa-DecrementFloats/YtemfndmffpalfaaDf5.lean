import Derived.Test.YtemfndmffpalfaaDf4
namespace Go.Proofs.Ytemfndmffpalfaa.Df
open Go.RowKit Tn Go.Proofs.Ytemfndmffpalfaa.Ta
open Go.Proofs.Ytemfndmffpalfaa.Mo (Ri wrapI)

theorem ca_no {f : Int} {xss : List (List Int)} (h : ¬ (0 < xss.length ∧ xss.length ≤ 8 ∧ 0 ≤ f ∧ f ≤ 130 ∧ 0 < n0 xss ∧ f + n0 xss ≤ 131 ∧ ∀ d, d < xss.length → (xss.getD d []).length = n0 xss ∧ arB (xss.getD d []) = true)) : ca f xss = false := decide_eq_false h
/-- Check's answer. -/
def ck (f : Int) (xss : List (List Int)) : Int := if ca f xss = true then 0 else 150
theorem ck_no {f : Int} {xss : List (List Int)} (h : ¬ (0 < xss.length ∧ xss.length ≤ 8 ∧ 0 ≤ f ∧ f ≤ 130 ∧ 0 < n0 xss ∧ f + n0 xss ≤ 131 ∧ ∀ d, d < xss.length → (xss.getD d []).length = n0 xss ∧ arB (xss.getD d []) = true)) : ck f xss = 150 := by
  unfold ck; rw [ca_no h]; rfl
theorem Check_c (f : Int) (vr : Value) (xss : List (List Int)) (w : World) (hr : Rr w vr xss) : Calls Try.prog 14 #[.agg #[.int .i64 f, vr]] w fun e w' => e = .returned (.int .i64 (ck f xss)) ∧ Below w.heap.size w w' := by
  obtain ⟨ao, c, rfl, g⟩ := Rr.cell hr
  by_cases he : xss.length = 0 ∨ 8 < xss.length ∨ f < 0 ∨ 130 < f
  · rw [ck_no (by omega)]
    exact Check_early f ao c xss w he
  · obtain ⟨b, o, rfl, hc⟩ := g (by omega)
    obtain ⟨a0, cap0, c0, r0⟩ := hc 0 (by omega)
    rw [Nat.add_zero] at c0
    have LA : ∀ x, Below w.heap.size w x → Calls Try.prog 10 #[.agg #[.int .i64 f, .slice (some ⟨b, o, none⟩) xss.length c]] x fun e w' => e = .returned (.int .i64 (f + n0 xss - 1)) ∧ Below x.heap.size x w' := fun x bx => last_c f _ xss x (hr.grow bx) (by omega) (by omega) (by omega)
    by_cases z : n0 xss = 0
    · rw [ck_no (by omega)]
      exact Check_k0 f b o c xss.length (n0 xss) (fun d => (xss.getD d []).length) w (by omega) (by omega) (by omega) (by omega) rfl z ⟨a0, cap0, c0⟩
    · by_cases m : f + n0 xss - 1 > 130
      · rw [ck_no (by omega)]
        exact Check_k1 f _ b o c xss.length (n0 xss) (fun d => (xss.getD d []).length) w (by omega) (by omega) (by omega) (by omega) rfl (by omega) m ⟨a0, cap0, c0⟩ LA
      · refine Check_k2 f _ b o c xss.length (n0 xss) (fun d => (xss.getD d []).length) (fun d => arB (xss.getD d [])) w (by omega) (by omega) (by omega) (by omega) rfl (by omega) m _ ?_ LA (fun d hd => ?_)
        · show ck f xss = _
          by_cases h : ∀ d, d < xss.length → (xss.getD d []).length = n0 xss ∧ arB (xss.getD d []) = true
          · rw [if_pos h]
            have : ca f xss = true := decide_eq_true ⟨by omega, by omega, by omega, by omega, by omega, by omega, h⟩
            unfold ck; rw [this]; rfl
          · rw [if_neg h]
            exact ck_no (fun q => h q.2.2.2.2.2.2)
        · obtain ⟨a, cap, k1, k2⟩ := hc d hd
          exact ⟨a, cap, k1, fun x bx => areRates_c _ _ x (k2.grow bx)⟩
/-- What checkAge and wrong tell. -/
def ce (f : Int) (xss : List (List Int)) (age : Int) : Int := if ca f xss = true then (if age < f ∨ age > f + n0 xss - 1 then 8 else 0) else 150
theorem ca_parts {f : Int} {xss : List (List Int)} (h : ca f xss = true) : 0 < xss.length ∧ xss.length ≤ 8 ∧ 0 ≤ f ∧ f ≤ 130 ∧ 0 < n0 xss ∧ f + n0 xss ≤ 131 ∧ ∀ d, d < xss.length → (xss.getD d []).length = n0 xss ∧ arB (xss.getD d []) = true := of_decide_eq_true h
set_option maxRecDepth 100000 in
set_option maxHeartbeats 3200000 in
theorem checkAge_e (f age : Int) (vr : Value) (w : World) (CK : ∀ x, Below w.heap.size w x → Calls Try.prog 14 #[.agg #[.int .i64 f, vr]] x fun e w' => e = .returned (.int .i64 150) ∧ Below x.heap.size x w') : Calls Try.prog 7 #[.agg #[.int .i64 f, vr], .int .i64 age] w fun e w' => e = .returned (.int .i64 150) ∧ Below w.heap.size w w' := by
  have K := Blk.new w #[.int .i64 f, vr] 24
  have pr : Below w.heap.size w (w.alloc (.cells #[.int .i64 f, vr] 24)) := (Below.refl _ _).alloc (Nat.le_refl _) _
  go_enter Try.func7, Try.ntmps7
  go_wp2_with (first
    | (go_at_call 14; (refine (CK _ pr).mono ?_); (rintro e w1 ⟨rfl, b1⟩); (have p1 := bel' pr b1); (have K1 := K.below b1 K.lt); (have k01 := K1.at 0); (have k11 := K1.at 1); (simp at k01 k11))
    | fail)
  go_ret
  exact ⟨rfl, p1⟩
set_option maxRecDepth 100000 in
set_option maxHeartbeats 3200000 in
theorem checkAge_low (f age : Int) (vr : Value) (w : World) (h : age < f) (CK : ∀ x, Below w.heap.size w x → Calls Try.prog 14 #[.agg #[.int .i64 f, vr]] x fun e w' => e = .returned (.int .i64 0) ∧ Below x.heap.size x w') : Calls Try.prog 7 #[.agg #[.int .i64 f, vr], .int .i64 age] w fun e w' => e = .returned (.int .i64 8) ∧ Below w.heap.size w w' := by
  have K := Blk.new w #[.int .i64 f, vr] 24
  have pr : Below w.heap.size w (w.alloc (.cells #[.int .i64 f, vr] 24)) := (Below.refl _ _).alloc (Nat.le_refl _) _
  have d1 : decide (age < f) = true := decide_eq_true h
  go_enter Try.func7, Try.ntmps7
  go_wp2_with (first
    | (go_at_call 14; (refine (CK _ pr).mono ?_); (rintro e w1 ⟨rfl, b1⟩); (have p1 := bel' pr b1); (have K1 := K.below b1 K.lt); (have k01 := K1.at 0); (have k11 := K1.at 1); (simp at k01 k11))
    | fail)
  go_ret
  exact ⟨rfl, p1⟩
set_option maxRecDepth 100000 in
set_option maxHeartbeats 3200000 in
theorem checkAge_k (f age M R : Int) (vr : Value) (w : World) (h : ¬ age < f) (hR : R = if age > M then 8 else 0) (CK : ∀ x, Below w.heap.size w x → Calls Try.prog 14 #[.agg #[.int .i64 f, vr]] x fun e w' => e = .returned (.int .i64 0) ∧ Below x.heap.size x w') (LA : ∀ x, Below w.heap.size w x → Calls Try.prog 10 #[.agg #[.int .i64 f, vr]] x fun e w' => e = .returned (.int .i64 M) ∧ Below x.heap.size x w') : Calls Try.prog 7 #[.agg #[.int .i64 f, vr], .int .i64 age] w fun e w' => e = .returned (.int .i64 R) ∧ Below w.heap.size w w' := by
  have K := Blk.new w #[.int .i64 f, vr] 24
  have pr : Below w.heap.size w (w.alloc (.cells #[.int .i64 f, vr] 24)) := (Below.refl _ _).alloc (Nat.le_refl _) _
  have d1 : decide (age < f) = false := decide_eq_false h
  by_cases g : age > M
  · have d2 : decide (age > M) = true := decide_eq_true g
    rw [if_pos g] at hR
    subst hR
    go_enter Try.func7, Try.ntmps7
    go_wp2_with (first
      | (go_at_call 10; (have mk2 := p1); (refine (LA _ p1).mono ?_); (rintro e w2 ⟨rfl, b2⟩); (have p2 := bel' p1 b2))
      | (go_at_call 14; (refine (CK _ pr).mono ?_); (rintro e w1 ⟨rfl, b1⟩); (have p1 := bel' pr b1); (have K1 := K.below b1 K.lt); (have k01 := K1.at 0); (have k11 := K1.at 1); (simp at k01 k11))
      | fail)
    go_ret
    exact ⟨rfl, p2⟩
  · have d2 : decide (age > M) = false := decide_eq_false g
    rw [if_neg g] at hR
    subst hR
    go_enter Try.func7, Try.ntmps7
    go_wp2_with (first
      | (go_at_call 10; (have mk2 := p1); (refine (LA _ p1).mono ?_); (rintro e w2 ⟨rfl, b2⟩); (have p2 := bel' p1 b2))
      | (go_at_call 14; (refine (CK _ pr).mono ?_); (rintro e w1 ⟨rfl, b1⟩); (have p1 := bel' pr b1); (have K1 := K.below b1 K.lt); (have k01 := K1.at 0); (have k11 := K1.at 1); (simp at k01 k11))
      | fail)
    go_ret
    exact ⟨rfl, p2⟩
theorem checkAge_c (f age : Int) (vr : Value) (xss : List (List Int)) (w : World) (hr : Rr w vr xss) : Calls Try.prog 7 #[.agg #[.int .i64 f, vr], .int .i64 age] w fun e w' => e = .returned (.int .i64 (ce f xss age)) ∧ Below w.heap.size w w' := by
  have CK := fun x (bx : Below w.heap.size w x) => Check_c f vr xss x (hr.grow bx)
  unfold ce
  cases h : ca f xss with
  | false =>
    simp only [ck, h, if_neg (show ¬ (false = true) by decide)] at CK
    exact checkAge_e f age vr w CK
  | true =>
    obtain ⟨h1, h2, h3, h4, h5, h6, _⟩ := ca_parts h
    simp only [ck, h, if_true] at CK
    rw [if_pos rfl]
    by_cases g : age < f
    · rw [if_pos (Or.inl g)]
      exact checkAge_low f age vr w g CK
    · refine checkAge_k f age (f + n0 xss - 1) _ vr w g ?_ CK (fun x bx => last_c f vr xss x (hr.grow bx) h1 h3 h4)
      by_cases q : age > f + n0 xss - 1
      · rw [if_pos (Or.inr q), if_pos q]
      · rw [if_neg (by omega), if_neg q]
end Go.Proofs.Ytemfndmffpalfaa.Df
