import Derived.Test.YtejfnplhimfchaaGreatDoorPart50

namespace Go.Proofs.YtejfnplhimfchaaGreatDoor.Mo
open Go.RowKit Dc

theorem tn_tl : ∀ m : Nat, Tn.pw m ≤ Tl.pw (3 * m)
  | 0 => by decide
  | m + 1 => by
    have ih := tn_tl m
    have p := Tn.pw_pos m
    rw [show 3 * (m + 1) = 3 * m + 1 + 1 + 1 by omega]
    simp only [Tn.pw, Tl.pw]
    omega
theorem PS.qs {r : Rat} {m : Nat} (h : PS r m) : L.QS r (3 * m) := by
  have := tn_tl m
  have h1 := h.1
  have h2 := h.2
  exact ⟨by omega, by omega⟩
theorem good_code (n d : ByteArray) (hn : n.size ≤ 9223372036854775807) (hd : d.size ≤ 9223372036854775807) {E : Int} (h : goodE n d = E) (x : World) : Calls Tryz.prog 11 #[.agg #[.string n, .string d]] x fun e w' => e = .returned (.int .i64 E) ∧ Below x.heap.size x w' := by
  have := Good_any n d x hn hd
  rw [h] at this
  exact this
theorem in_ok {n d : ByteArray} (h : goodE n d = 0) (hn : n.size ≤ 9223372036854775807) (x : World) : Calls Tryz.prog 14 #[.agg #[.string n, .string d]] x (Qf (rT n d) x) := by
  have o := ok_rT h
  refine qf_of ((In_q x hn o.sg o.nm o.dn o.s1 o.s2 o.b1 o.b2).mono ?_)
  rintro e w' ⟨v, e1, q, _, b⟩
  exact ⟨v, e1, q, b⟩
theorem RTimes_any (n d : ByteArray) (p k : Int) (w : World) (hn : n.size ≤ 9223372036854775807) (hd : d.size ≤ 9223372036854775807) :
    Calls Tryz.prog 8 #[.int .i64 p, .agg #[.string n, .string d], .int .i64 k] w fun e w' => e = .returned (mT n d p k) ∧ Below w.heap.size w w' := by
  unfold mT
  cases hp : isA p with
  | false => rw [if_pos rfl]; exact RTimes_a n d p k w hp
  | true =>
    rw [if_neg (by decide)]
    by_cases hg : goodE n d = 0
    · rw [if_neg (fun h => h hg)]
      have GE := good_code n d hn hd hg
      cases hk : (decide (1 ≤ k) && decide (k ≤ 6)) with
      | false => rw [if_pos rfl]; exact RTimes_c n d p k w hp hk GE
      | true =>
        rw [if_neg (by decide)]
        have k' := hk
        simp only [Bool.and_eq_true, decide_eq_true_eq] at k'
        have hp' := isA_iff.1 hp
        obtain ⟨u, t, e⟩ := amt_two (L.rndQ k ((p : Rat) * rT n d))
        rw [e]
        have s1 : PS (p : Rat) 1 := int_ps p (by omega)
        have s2 := (ok_rT hg).ps
        have s3 := mul_ps s1 s2
        refine RTimes_d n d p k u t _ _ _ w hp hk GE (in_ok hg hn) (fun x => qf_of (L.Of_q p x (by omega) (by omega))) (fun x v1 v2 h1 h2 => qf_of (L.QMul_any v1 v2 _ _ 768 x h1 h2 (L.qs_mono s1.qs (by omega)) (L.qs_mono s2.qs (by omega)) (by omega))) (fun x v h => qf_of (L.QRound_any v _ _ k x h s3.qs (by omega))) (fun x v h => ?_)
        have := RPennies_q v _ _ x h (rnd_ps s3 k'.1 k'.2).qs (by omega)
        rw [e] at this
        exact this
    · rw [if_pos hg]
      exact RTimes_b n d p k _ w hp (by simpa using hg) (good_code n d hn hd rfl)
theorem RAmount_any (n d : ByteArray) (k : Int) (w : World) (hn : n.size ≤ 9223372036854775807) (hd : d.size ≤ 9223372036854775807) :
    Calls Tryz.prog 6 #[.agg #[.string n, .string d], .int .i64 k] w fun e w' => e = .returned (mT n d 1 k) ∧ Below w.heap.size w w' := by
  unfold mT
  rw [if_neg (by decide)]
  by_cases hg : goodE n d = 0
  · rw [if_neg (fun h => h hg)]
    have GE := good_code n d hn hd hg
    cases hk : (decide (1 ≤ k) && decide (k ≤ 6)) with
    | false => rw [if_pos rfl]; exact RAmount_c n d k w hk GE
    | true =>
      rw [if_neg (by decide)]
      have k' := hk
      simp only [Bool.and_eq_true, decide_eq_true_eq] at k'
      rw [show ((1 : Int) : Rat) * rT n d = rT n d from Rat.one_mul _]
      obtain ⟨u, t, e⟩ := amt_two (L.rndQ k (rT n d))
      rw [e]
      have s2 := (ok_rT hg).ps
      refine RAmount_d n d k u t _ _ w hk GE (in_ok hg hn) (fun x v h => qf_of (L.QRound_any v _ _ k x h s2.qs (by omega))) (fun x v h => ?_)
      have := RPennies_q v _ _ x h (rnd_ps s2 k'.1 k'.2).qs (by omega)
      rw [e] at this
      exact this
  · rw [if_pos hg]
    exact RAmount_b n d k _ w (by simpa using hg) (good_code n d hn hd rfl)
theorem RStep_any (p s k : Int) (w : World) (h1 : s ≤ 9223372036854775807) :
    Calls Tryz.prog 10 #[.int .i64 p, .int .i64 s, .int .i64 k] w fun e w' => e = .returned (mS p s k) ∧ Below w.heap.size w w' := by
  unfold mS
  cases hp : isA p with
  | false => rw [if_pos rfl]; exact RStep_a p s k w hp
  | true =>
    rw [if_neg (by decide)]
    by_cases hs : s < 1
    · rw [if_pos hs]; exact RStep_b p s k w hp hs
    · rw [if_neg hs]
      cases hk : (decide (1 ≤ k) && decide (k ≤ 6)) with
      | false => rw [if_pos rfl]; exact RStep_c p s k w hp (by omega) hk
      | true =>
        rw [if_neg (by decide)]
        have k' := hk
        simp only [Bool.and_eq_true, decide_eq_true_eq] at k'
        have hp' := isA_iff.1 hp
        obtain ⟨u, t, e⟩ := amt_two (L.rndQ k ((p : Rat) / (s : Rat)) * s)
        rw [e]
        have s0 : (s : Rat) ≠ 0 := by simp; omega
        have a1 : PS (p : Rat) 1 := int_ps p (by omega)
        have a2 : PS (s : Rat) 1 := int_ps s (by omega)
        have a3 := inv_ps a2 s0
        have a4 := mul_ps a1 a3
        have a5 := rnd_ps a4 k'.1 k'.2
        rw [← Rat.div_def] at a4 a5
        have a6 := mul_ps a5 a2
        rw [← Rat.intCast_mul] at a6
        refine RStep_d p s k u t _ ((p : Rat) / (s : Rat)) w hp (by omega) hk (fun x => qf_of (L.Of_q s x (by omega) (by omega))) (fun x => qf_of (L.Frac_q p s x (by omega) (by omega) (by omega) (by omega))) (fun x v h => qf_of (L.QRound_any v _ _ k x h a4.qs (by omega))) (fun x v1 v2 h1 h2 => ?_) (fun x v h => ?_)
        · rw [Rat.intCast_mul, Rat.mul_comm]
          exact qf_of (L.QMul_any v1 v2 _ _ 9 x h1 h2 (L.qs_mono a2.qs (by omega)) (L.qs_mono a5.qs (by omega)) (by omega))
        · have := RPennies_q v _ _ x h a6.qs (by omega)
          rw [e] at this
          exact this
end Go.Proofs.YtejfnplhimfchaaGreatDoor.Mo

namespace Go.Proofs.YtejfnplhimfchaaGreatDoor.Mo
open Go.RowKit Dc

set_option maxRecDepth 100000 in
theorem names6 (w : World) : Calls Tryz.prog 4 #[] w fun e w' => e = .returned (.bool true) ∧ w' = w := by
  go_enter Tryz.func4, Tryz.ntmps4
  go_wp2
  go_ret
  exact ⟨rfl, rfl⟩
set_option maxRecDepth 100000 in
set_option maxHeartbeats 1600000 in
theorem rounds_walk (n d : ByteArray) (p s k u1 t1 u2 t2 u3 t3 : Int) (w : World) (A1 : ∀ x, Calls Tryz.prog 5 #[.agg #[.string n, .string d], .int .i64 k] x fun e w' => e = .returned (.tuple #[.int .i64 u1, .int .i64 t1]) ∧ Below x.heap.size x w') (A2 : ∀ x, Calls Tryz.prog 6 #[.agg #[.string n, .string d], .int .i64 k] x fun e w' => e = .returned (.tuple #[.int .i64 u1, .int .i64 t1]) ∧ Below x.heap.size x w') (T1 : ∀ x, Calls Tryz.prog 7 #[.int .i64 p, .agg #[.string n, .string d], .int .i64 k] x fun e w' => e = .returned (.tuple #[.int .i64 u2, .int .i64 t2]) ∧ Below x.heap.size x w') (T2 : ∀ x, Calls Tryz.prog 8 #[.int .i64 p, .agg #[.string n, .string d], .int .i64 k] x fun e w' => e = .returned (.tuple #[.int .i64 u2, .int .i64 t2]) ∧ Below x.heap.size x w') (S1 : ∀ x, Calls Tryz.prog 9 #[.int .i64 p, .int .i64 s, .int .i64 k] x fun e w' => e = .returned (.tuple #[.int .i64 u3, .int .i64 t3]) ∧ Below x.heap.size x w') (S2 : ∀ x, Calls Tryz.prog 10 #[.int .i64 p, .int .i64 s, .int .i64 k] x fun e w' => e = .returned (.tuple #[.int .i64 u3, .int .i64 t3]) ∧ Below x.heap.size x w') (A0 : ∀ x, Calls Tryz.prog 5 #[.agg #[.string ⟨#[53]⟩, .string ⟨#[50]⟩], .int .i64 6] x fun e w' => e = .returned (.tuple #[.int .i64 2, .int .i64 0]) ∧ Below x.heap.size x w') :
    Calls Tryz.prog 3 #[.agg #[.string n, .string d], .int .i64 p, .agg #[.int .i64 s, .int .i64 k]] w fun e w' => e = .returned (.bool true) ∧ Below w.heap.size w w' := by
  have KR := (Blk.new w #[.string n, .string d] 23).alloc (.cells #[.int .i64 s, .int .i64 k] 25)
  have KX := Blk.new (w.alloc (.cells #[.string n, .string d] 23)) #[.int .i64 s, .int .i64 k] 25
  have pr : Below w.heap.size w ((w.alloc (.cells #[.string n, .string d] 23)).alloc (.cells #[.int .i64 s, .int .i64 k] 25)) := ((Below.refl _ _).alloc (Nat.le_refl _) _).alloc (by simp) _
  simp only [World.size_alloc] at KX
  have NM := names6
  go_enter Tryz.func3, Tryz.ntmps3
  go_wp2_with (first
    | (go_at_call 4; refine (NM _).mono ?_; rintro e w9 ⟨rfl, hw9⟩; subst w9)
    | (go_at_call 5; (have z := b6'); refine (A0 _).mono ?_; rintro e w7 ⟨rfl, b7⟩; have b7' := bel' b6' b7; have KR7 := KR.below b7' KR.lt; have KX7 := KX.below b7' KX.lt; have r70 : w7.cell? ⟨w.heap.size, 0, none⟩ = some (.string n) := KR7.at 0; have r71 : w7.cell? ⟨w.heap.size, 1, none⟩ = some (.string d) := KR7.at 1; have x70 : w7.cell? ⟨w.heap.size + 1, 0, none⟩ = some (.int .i64 s) := KX7.at 0; have x71 : w7.cell? ⟨w.heap.size + 1, 1, none⟩ = some (.int .i64 k) := KX7.at 1)
    | (go_at_call 10; (have z := b5'); refine (S2 _).mono ?_; rintro e w6 ⟨rfl, b6⟩; have b6' := bel' b5' b6; have KR6 := KR.below b6' KR.lt; have KX6 := KX.below b6' KX.lt; have r60 : w6.cell? ⟨w.heap.size, 0, none⟩ = some (.string n) := KR6.at 0; have r61 : w6.cell? ⟨w.heap.size, 1, none⟩ = some (.string d) := KR6.at 1; have x60 : w6.cell? ⟨w.heap.size + 1, 0, none⟩ = some (.int .i64 s) := KX6.at 0; have x61 : w6.cell? ⟨w.heap.size + 1, 1, none⟩ = some (.int .i64 k) := KX6.at 1)
    | (go_at_call 9; (have z := b4'); refine (S1 _).mono ?_; rintro e w5 ⟨rfl, b5⟩; have b5' := bel' b4' b5; have KR5 := KR.below b5' KR.lt; have KX5 := KX.below b5' KX.lt; have r50 : w5.cell? ⟨w.heap.size, 0, none⟩ = some (.string n) := KR5.at 0; have r51 : w5.cell? ⟨w.heap.size, 1, none⟩ = some (.string d) := KR5.at 1; have x50 : w5.cell? ⟨w.heap.size + 1, 0, none⟩ = some (.int .i64 s) := KX5.at 0; have x51 : w5.cell? ⟨w.heap.size + 1, 1, none⟩ = some (.int .i64 k) := KX5.at 1)
    | (go_at_call 8; (have z := b3'); refine (T2 _).mono ?_; rintro e w4 ⟨rfl, b4⟩; have b4' := bel' b3' b4; have KR4 := KR.below b4' KR.lt; have KX4 := KX.below b4' KX.lt; have r40 : w4.cell? ⟨w.heap.size, 0, none⟩ = some (.string n) := KR4.at 0; have r41 : w4.cell? ⟨w.heap.size, 1, none⟩ = some (.string d) := KR4.at 1; have x40 : w4.cell? ⟨w.heap.size + 1, 0, none⟩ = some (.int .i64 s) := KX4.at 0; have x41 : w4.cell? ⟨w.heap.size + 1, 1, none⟩ = some (.int .i64 k) := KX4.at 1)
    | (go_at_call 7; (have z := b2'); refine (T1 _).mono ?_; rintro e w3 ⟨rfl, b3⟩; have b3' := bel' b2' b3; have KR3 := KR.below b3' KR.lt; have KX3 := KX.below b3' KX.lt; have r30 : w3.cell? ⟨w.heap.size, 0, none⟩ = some (.string n) := KR3.at 0; have r31 : w3.cell? ⟨w.heap.size, 1, none⟩ = some (.string d) := KR3.at 1; have x30 : w3.cell? ⟨w.heap.size + 1, 0, none⟩ = some (.int .i64 s) := KX3.at 0; have x31 : w3.cell? ⟨w.heap.size + 1, 1, none⟩ = some (.int .i64 k) := KX3.at 1)
    | (go_at_call 6; (have z := b1'); refine (A2 _).mono ?_; rintro e w2 ⟨rfl, b2⟩; have b2' := bel' b1' b2; have KR2 := KR.below b2' KR.lt; have KX2 := KX.below b2' KX.lt; have r20 : w2.cell? ⟨w.heap.size, 0, none⟩ = some (.string n) := KR2.at 0; have r21 : w2.cell? ⟨w.heap.size, 1, none⟩ = some (.string d) := KR2.at 1; have x20 : w2.cell? ⟨w.heap.size + 1, 0, none⟩ = some (.int .i64 s) := KX2.at 0; have x21 : w2.cell? ⟨w.heap.size + 1, 1, none⟩ = some (.int .i64 k) := KX2.at 1)
    | (go_at_call 5; refine (A1 _).mono ?_; rintro e w1 ⟨rfl, b1⟩; have b1' := b1; have KR1 := KR.below b1' KR.lt; have KX1 := KX.below b1' KX.lt; have r10 : w1.cell? ⟨w.heap.size, 0, none⟩ = some (.string n) := KR1.at 0; have r11 : w1.cell? ⟨w.heap.size, 1, none⟩ = some (.string d) := KR1.at 1; have x10 : w1.cell? ⟨w.heap.size + 1, 0, none⟩ = some (.int .i64 s) := KX1.at 0; have x11 : w1.cell? ⟨w.heap.size + 1, 1, none⟩ = some (.int .i64 k) := KX1.at 1)
    | fail)
  go_ret
  exact ⟨rfl, bel' pr b7'⟩
theorem mT_two (n d : ByteArray) (p k : Int) : ∃ u t : Int, mT n d p k = .tuple #[.int .i64 u, .int .i64 t] := by
  unfold mT
  split
  · exact ⟨_, _, rfl⟩
  · split
    · exact ⟨_, _, rfl⟩
    · split
      · exact ⟨_, _, rfl⟩
      · exact amt_two _
theorem mS_two (p s k : Int) : ∃ u t : Int, mS p s k = .tuple #[.int .i64 u, .int .i64 t] := by
  unfold mS
  split
  · exact ⟨_, _, rfl⟩
  · split
    · exact ⟨_, _, rfl⟩
    · split
      · exact ⟨_, _, rfl⟩
      · exact amt_two _
theorem mT_half : mT ⟨#[53]⟩ ⟨#[50]⟩ 1 6 = .tuple #[.int .i64 2, .int .i64 0] := by
  have g : goodE ⟨#[53]⟩ ⟨#[50]⟩ = 0 := by decide +kernel
  have r : L.rndQ 6 (((1 : Int) : Rat) * rT ⟨#[53]⟩ ⟨#[50]⟩) = 2 := by decide +kernel
  unfold mT
  rw [if_neg (by decide), if_neg (fun h => h g), if_neg (by decide), r]
  rfl
theorem wf_max {x : Int} (h : (Lit.int .i64 x).wf = true) : x ≤ 9223372036854775807 := of_decide_eq_true (Bool.and_eq_true_iff.1 h).2
/-- The law. -/
theorem rounds_law (n d : ByteArray) (p s k : Int) (w : World) (hn : n.size ≤ 9223372036854775807) (hd : d.size ≤ 9223372036854775807) (hs : s ≤ 9223372036854775807) :
    Calls Tryz.prog 3 #[.agg #[.string n, .string d], .int .i64 p, .agg #[.int .i64 s, .int .i64 k]] w fun e w' => e = .returned (.bool true) ∧ Below w.heap.size w w' := by
  obtain ⟨u1, t1, e1⟩ := mT_two n d 1 k
  obtain ⟨u2, t2, e2⟩ := mT_two n d p k
  obtain ⟨u3, t3, e3⟩ := mS_two p s k
  have A0 := fun x => MAmount_any ⟨#[53]⟩ ⟨#[50]⟩ 6 x (by decide) (by decide)
  have A1 := fun x => MAmount_any n d k x hn hd
  have A2 := fun x => RAmount_any n d k x hn hd
  have T1 := fun x => MTimes_any n d p k x hn hd
  have T2 := fun x => RTimes_any n d p k x hn hd
  have S1 := fun x => MStep_any p s k x hs
  have S2 := fun x => RStep_any p s k x hs
  rw [e1] at A1 A2
  rw [e2] at T1 T2
  rw [e3] at S1 S2
  rw [mT_half] at A0
  exact rounds_walk n d p s k u1 t1 u2 t2 u3 t3 w A1 A2 T1 T2 S1 S2 A0
end Go.Proofs.YtejfnplhimfchaaGreatDoor.Mo
