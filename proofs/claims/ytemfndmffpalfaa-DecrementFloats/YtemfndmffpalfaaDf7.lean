import Derived.Test.YtemfndmffpalfaaDf6
namespace Go.Proofs.Ytemfndmffpalfaa.Df
open Go.RowKit Tn Go.Proofs.Ytemfndmffpalfaa.Ta
open Go.Proofs.Ytemfndmffpalfaa.Mo (Ri wrapI)

set_option maxRecDepth 100000 in
set_option maxHeartbeats 1600000 in
theorem Rlast_c (f : Int) (vr : Value) (xss : List (List Int)) (w : World) (hr : Rr w vr xss) (h0 : 0 < xss.length) (f0 : 0 ≤ f) (f1 : f ≤ 130) :
    Calls Try.prog 12 #[.agg #[.int .i64 f, vr]] w fun e w' => e = .returned (.int .i64 (f + n0 xss - 1)) ∧ Below w.heap.size w w' := by
  obtain ⟨ao, c, rfl, g⟩ := Rr.cell hr
  obtain ⟨b, o, rfl, hc⟩ := g h0
  obtain ⟨a, cap, c1, rx⟩ := hc 0 h0
  have hL := Rx.len rx
  have K := Blk.new w #[.int .i64 f, .slice (some ⟨b, o, none⟩) xss.length c] 24
  have pr : Below w.heap.size w (w.alloc (.cells #[.int .i64 f, .slice (some ⟨b, o, none⟩) xss.length c] 24)) := (Below.refl _ _).alloc (Nat.le_refl _) _
  have lb := World.block_lt_of_cell? w _ c1
  have c2 := (pr.cell (p := ⟨b, o + 0, none⟩) lb).trans c1
  unfold n0
  generalize (xss.getD 0 []).length = L at *
  obtain ⟨M, hM⟩ : ∃ M : Int, f + (L : Int) = M := ⟨_, rfl⟩
  have x1 : IntKind.i64.wrap (f + (L : Int)) = M := by rw [← hM]; exact wrapI _ (by omega) (by omega)
  have x2 : IntKind.i64.wrap (M - 1) = M - 1 := wrapI _ (by omega) (by omega)
  rw [Nat.add_zero] at c2
  have hl : (0 : Int) < (xss.length : Int) := by omega
  rw [hM]
  clear hM hL hc g
  go_enter Try.func12, Try.ntmps12
  go_wp2_with fail
  generalize w.alloc (.cells #[.int .i64 f, .slice (some ⟨b, o, none⟩) xss.length c] 24) = W at *
  have k0 := K.at 0
  have k1 := K.at 1
  simp at k0 k1
  go_region_held3 (fun x => x.cell? ⟨w.heap.size, 0, none⟩ = some (.int .i64 f) ∧ x.cell? ⟨w.heap.size, 1, none⟩ = some (.slice (some ⟨b, o, none⟩) xss.length c) ∧ x.cell? ⟨b, o, none⟩ = some (.slice a L cap)) (go_keep) (fail)
  go_wp2_with fail
  go_ret
  exact ⟨rfl, pr.drew⟩
theorem RCheck_c (f : Int) (vr : Value) (xss : List (List Int)) (w : World) (hr : Rr w vr xss) : Calls Try.prog 16 #[.agg #[.int .i64 f, vr]] w fun e w' => e = .returned (.int .i64 (ck f xss)) ∧ Below w.heap.size w w' := by
  obtain ⟨ao, c, rfl, g⟩ := Rr.cell hr
  by_cases he : xss.length = 0 ∨ 8 < xss.length ∨ f < 0 ∨ 130 < f
  · rw [ck_no (by omega)]
    exact RCheck_early f ao c xss w he
  · obtain ⟨b, o, rfl, hc⟩ := g (by omega)
    obtain ⟨a0, cap0, c0, r0⟩ := hc 0 (by omega)
    rw [Nat.add_zero] at c0
    by_cases z : n0 xss = 0
    · rw [ck_no (by omega)]
      exact RCheck_k0 f b o c xss.length (n0 xss) w (by omega) (by omega) (by omega) (by omega) z ⟨a0, cap0, c0⟩
    · by_cases m : 131 < f + n0 xss
      · rw [ck_no (by omega)]
        have := Rx.len r0
        exact RCheck_k1 f b o c xss.length (n0 xss) w (by omega) (by omega) (by omega) (by omega) (by omega) m ⟨a0, cap0, c0⟩
      · refine RCheck_k2 f b o c xss.length (fun d => xss.getD d []) w (by omega) (by omega) (by omega) (by omega) (n0 xss) rfl (by omega) (by omega) _ ?_ (fun d hd => ?_)
        · show ck f xss = _
          by_cases h : ∀ d, d < xss.length → (xss.getD d []).length = n0 xss ∧ arB (xss.getD d []) = true
          · rw [if_pos h]
            have : ca f xss = true := decide_eq_true ⟨by omega, by omega, by omega, by omega, by omega, by omega, h⟩
            unfold ck; rw [this]; rfl
          · rw [if_neg h]
            exact ck_no (fun q => h q.2.2.2.2.2.2)
        · obtain ⟨a, cap, k1, k2⟩ := hc d hd
          exact ⟨a, cap, k1, k2⟩
set_option maxRecDepth 100000 in
set_option maxHeartbeats 3200000 in
theorem wrong_e (f age : Int) (vr : Value) (w : World) (CK : ∀ x, Below w.heap.size w x → Calls Try.prog 16 #[.agg #[.int .i64 f, vr]] x fun e w' => e = .returned (.int .i64 150) ∧ Below x.heap.size x w') : Calls Try.prog 11 #[.agg #[.int .i64 f, vr], .int .i64 age] w fun e w' => e = .returned (.int .i64 150) ∧ Below w.heap.size w w' := by
  have K := Blk.new w #[.int .i64 f, vr] 24
  have pr : Below w.heap.size w (w.alloc (.cells #[.int .i64 f, vr] 24)) := (Below.refl _ _).alloc (Nat.le_refl _) _
  go_enter Try.func11, Try.ntmps11
  go_wp2_with (first
    | (go_at_call 16; (refine (CK _ pr).mono ?_); (rintro e w1 ⟨rfl, b1⟩); (have p1 := bel' pr b1); (have K1 := K.below b1 K.lt); (have k01 := K1.at 0); (have k11 := K1.at 1); (simp at k01 k11))
    | fail)
  go_ret
  exact ⟨rfl, p1⟩
set_option maxRecDepth 100000 in
set_option maxHeartbeats 3200000 in
theorem wrong_low (f age : Int) (vr : Value) (w : World) (h : age < f) (CK : ∀ x, Below w.heap.size w x → Calls Try.prog 16 #[.agg #[.int .i64 f, vr]] x fun e w' => e = .returned (.int .i64 0) ∧ Below x.heap.size x w') : Calls Try.prog 11 #[.agg #[.int .i64 f, vr], .int .i64 age] w fun e w' => e = .returned (.int .i64 8) ∧ Below w.heap.size w w' := by
  have K := Blk.new w #[.int .i64 f, vr] 24
  have pr : Below w.heap.size w (w.alloc (.cells #[.int .i64 f, vr] 24)) := (Below.refl _ _).alloc (Nat.le_refl _) _
  have d1 : decide (age < f) = true := decide_eq_true h
  go_enter Try.func11, Try.ntmps11
  go_wp2_with (first
    | (go_at_call 16; (refine (CK _ pr).mono ?_); (rintro e w1 ⟨rfl, b1⟩); (have p1 := bel' pr b1); (have K1 := K.below b1 K.lt); (have k01 := K1.at 0); (have k11 := K1.at 1); (simp at k01 k11))
    | fail)
  go_ret
  exact ⟨rfl, p1⟩
set_option maxRecDepth 100000 in
set_option maxHeartbeats 3200000 in
theorem wrong_k (f age M R : Int) (vr : Value) (w : World) (h : ¬ age < f) (hR : R = if age > M then 8 else 0) (CK : ∀ x, Below w.heap.size w x → Calls Try.prog 16 #[.agg #[.int .i64 f, vr]] x fun e w' => e = .returned (.int .i64 0) ∧ Below x.heap.size x w') (LA : ∀ x, Below w.heap.size w x → Calls Try.prog 12 #[.agg #[.int .i64 f, vr]] x fun e w' => e = .returned (.int .i64 M) ∧ Below x.heap.size x w') : Calls Try.prog 11 #[.agg #[.int .i64 f, vr], .int .i64 age] w fun e w' => e = .returned (.int .i64 R) ∧ Below w.heap.size w w' := by
  have K := Blk.new w #[.int .i64 f, vr] 24
  have pr : Below w.heap.size w (w.alloc (.cells #[.int .i64 f, vr] 24)) := (Below.refl _ _).alloc (Nat.le_refl _) _
  have d1 : decide (age < f) = false := decide_eq_false h
  by_cases g : age > M
  · have d2 : decide (age > M) = true := decide_eq_true g
    rw [if_pos g] at hR
    subst hR
    go_enter Try.func11, Try.ntmps11
    go_wp2_with (first
      | (go_at_call 12; (have mk2 := p1); (refine (LA _ p1).mono ?_); (rintro e w2 ⟨rfl, b2⟩); (have p2 := bel' p1 b2))
      | (go_at_call 16; (refine (CK _ pr).mono ?_); (rintro e w1 ⟨rfl, b1⟩); (have p1 := bel' pr b1); (have K1 := K.below b1 K.lt); (have k01 := K1.at 0); (have k11 := K1.at 1); (simp at k01 k11))
      | fail)
    go_ret
    exact ⟨rfl, p2⟩
  · have d2 : decide (age > M) = false := decide_eq_false g
    rw [if_neg g] at hR
    subst hR
    go_enter Try.func11, Try.ntmps11
    go_wp2_with (first
      | (go_at_call 12; (have mk2 := p1); (refine (LA _ p1).mono ?_); (rintro e w2 ⟨rfl, b2⟩); (have p2 := bel' p1 b2))
      | (go_at_call 16; (refine (CK _ pr).mono ?_); (rintro e w1 ⟨rfl, b1⟩); (have p1 := bel' pr b1); (have K1 := K.below b1 K.lt); (have k01 := K1.at 0); (have k11 := K1.at 1); (simp at k01 k11))
      | fail)
    go_ret
    exact ⟨rfl, p2⟩
theorem wrong_c (f age : Int) (vr : Value) (xss : List (List Int)) (w : World) (hr : Rr w vr xss) : Calls Try.prog 11 #[.agg #[.int .i64 f, vr], .int .i64 age] w fun e w' => e = .returned (.int .i64 (ce f xss age)) ∧ Below w.heap.size w w' := by
  have CK := fun x (bx : Below w.heap.size w x) => RCheck_c f vr xss x (hr.grow bx)
  unfold ce
  cases h : ca f xss with
  | false =>
    simp only [ck, h, if_neg (show ¬ (false = true) by decide)] at CK
    exact wrong_e f age vr w CK
  | true =>
    obtain ⟨h1, h2, h3, h4, h5, h6, _⟩ := ca_parts h
    simp only [ck, h, if_true] at CK
    rw [if_pos rfl]
    by_cases g : age < f
    · rw [if_pos (Or.inl g)]
      exact wrong_low f age vr w g CK
    · refine wrong_k f age (f + n0 xss - 1) _ vr w g ?_ CK (fun x bx => Rlast_c f vr xss x (hr.grow bx) h1 h3 h4)
      by_cases q : age > f + n0 xss - 1
      · rw [if_pos (Or.inr q), if_pos q]
      · rw [if_neg (by omega), if_neg q]
end Go.Proofs.Ytemfndmffpalfaa.Df
