import Derived.Test.YtiaeoknmgidehaaGreatDoorPart26
import Derived.Test.YtiaeoknmgidehaaGreatDoorPart45
import Derived.Test.YtiaeoknmgidehaaGreatDoorPart31
import Derived.Lib.SmallJoins

namespace Go.Proofs.YtiaeoknmgidehaaGreatDoor.Mo
open Go.RowKit

set_option maxRecDepth 100000 in
set_option maxHeartbeats 3200000 in
theorem guards_walk (k p q e1 : Int) (sa ta sb tb s4 t4 : ByteArray) (w : World) (C1 : ∀ x, Below w.heap.size w x → Calls Tryz.prog 18 #[.int .i64 k, .int .i64 p, .int .i64 q] x fun e w' => e = .returned (.tuple #[.agg #[.string sa, .string ta], .agg #[.string sb, .string tb], .int .i64 e1]) ∧ Below x.heap.size x w') (C2 : ∀ x, Below w.heap.size w x → Calls Tryz.prog 19 #[.int .i64 k, .int .i64 p, .int .i64 q] x fun e w' => e = .returned (.tuple #[.agg #[.string sa, .string ta], .agg #[.string sb, .string tb], .int .i64 e1]) ∧ Below x.heap.size x w') (C3 : ∀ x, Below w.heap.size w x → Calls Tryz.prog 18 #[.int .i64 0, .int .i64 1, .int .i64 1] x fun e w' => e = .returned (.tuple #[.agg #[.string ⟨#[49]⟩, .string ⟨#[50]⟩], .agg #[.string s4, .string t4], .int .i64 0]) ∧ Below x.heap.size x w') :
    Calls Tryz.prog 5 #[.int .i64 k, .int .i64 p, .int .i64 q] w fun e w' => e = .returned (.bool true) ∧ Below w.heap.size w w' := by
  go_enter Tryz.func5, Tryz.ntmps5
  go_wp2_with (first
    | (go_at_call 18; (have z3 := p2); (refine (C3 _ p2).mono ?_); (rintro e w3 ⟨rfl, b3⟩); (have bb3 := (b3.alloc b3.size (.cells #[.string ⟨#[49]⟩, .string ⟨#[50]⟩] 26)).alloc (Nat.le_trans b3.size (by simp)) (.cells #[.string s4, .string t4] 26)); (have V3 := (Blk.new w3 #[.string ⟨#[49]⟩, .string ⟨#[50]⟩] 26).alloc (.cells #[.string s4, .string t4] 26)); (have U3 := Blk.new (w3.alloc (.cells #[.string ⟨#[49]⟩, .string ⟨#[50]⟩] 26)) #[.string s4, .string t4] 26); (simp only [World.size_alloc] at U3); (have p3 := bel' p2 bb3); (replace V1 := V1.below bb3 V1.lt); (replace U1 := U1.below bb3 U1.lt); (replace V2 := V2.below bb3 V2.lt); (replace U2 := U2.below bb3 U2.lt); (have q0 := V1.at 0); (have q1 := V1.at 1); (simp at q0 q1); (have q2 := U1.at 0); (have q3 := U1.at 1); (simp at q2 q3); (have q4 := V2.at 0); (have q5 := V2.at 1); (simp at q4 q5); (have q6 := U2.at 0); (have q7 := U2.at 1); (simp at q6 q7); (have q8 := V3.at 0); (have q9 := V3.at 1); (simp at q8 q9); (have q10 := U3.at 0); (have q11 := U3.at 1); (simp at q10 q11))
    | (go_at_call 19; (have z2 := p1); (refine (C2 _ p1).mono ?_); (rintro e w2 ⟨rfl, b2⟩); (have bb2 := (b2.alloc b2.size (.cells #[.string sa, .string ta] 26)).alloc (Nat.le_trans b2.size (by simp)) (.cells #[.string sb, .string tb] 26)); (have V2 := (Blk.new w2 #[.string sa, .string ta] 26).alloc (.cells #[.string sb, .string tb] 26)); (have U2 := Blk.new (w2.alloc (.cells #[.string sa, .string ta] 26)) #[.string sb, .string tb] 26); (simp only [World.size_alloc] at U2); (have p2 := bel' p1 bb2); (replace V1 := V1.below bb2 V1.lt); (replace U1 := U1.below bb2 U1.lt))
    | (go_at_call 18; (refine (C1 _ (Below.refl _ _)).mono ?_); (rintro e w1 ⟨rfl, b1⟩); (have bb1 := (b1.alloc b1.size (.cells #[.string sa, .string ta] 26)).alloc (Nat.le_trans b1.size (by simp)) (.cells #[.string sb, .string tb] 26)); (have V1 := (Blk.new w1 #[.string sa, .string ta] 26).alloc (.cells #[.string sb, .string tb] 26)); (have U1 := Blk.new (w1.alloc (.cells #[.string sa, .string ta] 26)) #[.string sb, .string tb] 26); (simp only [World.size_alloc] at U1); (have p1 := bb1))
    | fail)
  go_ret
  exact ⟨rfl, p3⟩
end Go.Proofs.YtiaeoknmgidehaaGreatDoor.Mo

namespace Go.Proofs.YtiaeoknmgidehaaGreatDoor.Mo
open Go.RowKit Fu Go.Lib Ip

/-- What must come ahead of a payment, and behind it. -/
def ahd (k p q : Int) : Rat := gp (gr k) (-p) * ((q : Rat) * ((p + q : Int) : Rat)⁻¹)
def bhd (k p q : Int) : Rat := gp (gr k) q * ((p : Rat) * ((p + q : Int) : Rat)⁻¹)
def iA (k p q : Int) : Value := if okI k p q then .tuple #[wrt (ahd k p q), wrt (bhd k p q), .int .i64 0] else .tuple #[.agg #[.string ⟨#[]⟩, .string ⟨#[]⟩], .agg #[.string ⟨#[]⟩, .string ⟨#[]⟩], .int .i64 1]
theorem iA_form (k p q : Int) : ∃ s t s' t' e, iA k p q = .tuple #[.agg #[.string s, .string t], .agg #[.string s', .string t'], .int .i64 e] := by
  unfold iA
  split
  · exact ⟨_, _, _, _, _, rfl⟩
  · exact ⟨_, _, _, _, _, rfl⟩
theorem okI_iff {k p q : Int} (h : okI k p q = true) : okR k = true ∧ okY p = true ∧ okY q = true ∧ (1 ≤ p ∧ p ≤ 130) ∧ 1 ≤ q ∧ q ≤ 130 := by
  unfold okI at h
  simp only [Bool.and_eq_true, Bool.not_eq_true', beq_eq_false_iff_ne, ne_eq] at h
  obtain ⟨⟨⟨⟨h1, h2⟩, h3⟩, h4⟩, h5⟩ := h
  have := okY_iff h2
  have := okY_iff h3
  exact ⟨h1, h2, h3, ⟨by omega, by omega⟩, by omega, by omega⟩
theorem writeTwo_p (v1 v2 : Value) (r s : Rat) (B : Nat) (w : World) (h1 : PF w v1 r) (h2 : PF w v2 s) (b1 : Bd r B) (b2 : Bd s B) (hB : B ≤ 13606) (G : Gw w) :
    Calls Tryz.prog 50 #[v1, v2] w fun e w' => e = .returned (.tuple #[wrt r, wrt s, .int .i64 0]) ∧ Below w.heap.size w w' := by
  have c1 := fun x (b : Below w.heap.size w x) => Ratio_s v1 r B x (h1.grow b) b1 hB (G.grow b)
  have c2 := fun x (b : Below w.heap.size w x) => Ratio_s v2 s B x (h2.grow b) b2 hB (G.grow b)
  obtain ⟨a, l, c, a', l', c', rfl, _⟩ := h1
  obtain ⟨a2, l2, c2', a2', l2', c2'', rfl, _⟩ := h2
  exact writeTwo_r _ _ _ _ _ _ _ _ _ _ _ _ _ _ _ _ _ _ w c1 c2
theorem part_bd {p q : Int} (hp : 0 ≤ p ∧ p ≤ 130) (hq : 1 ≤ q ∧ q ≤ 260) : Bd ((p : Rat) * (q : Rat)⁻¹) 9 := Bd.quo (by omega) (by omega) (by omega)
theorem Immune_any (k p q : Int) (w : World) (G : Gw w) : Calls Tryz.prog 18 #[.int .i64 k, .int .i64 p, .int .i64 q] w fun e w' => e = .returned (iA k p q) ∧ Below w.heap.size w w' := by
  unfold iA
  cases h : okI k p q
  · rw [if_neg (by decide)]; exact Immune_no k p q w h
  · rw [if_pos rfl]
    obtain ⟨h1, h2, h3, h4, h5⟩ := okI_iff h
    obtain ⟨b, ps⟩ := gr_bd h1
    have g1 := Bd.gp b (pos_ne ps) (-p) (M := 130) (by omega)
    have g2 := Bd.gp b (pos_ne ps) q (M := 130) (by omega)
    have d1 := part_bd (p := q) (q := p + q) (by omega) (by omega)
    have d2 := part_bd (p := p) (q := p + q) (by omega) (by omega)
    exact Immune_yes k p q (-p) (p + q) _ _ _ _ _ _ _ _ _ _ _ w (Wt.wrapI _ (by omega) (by omega)) (Wt.wrapI _ (by omega) (by omega)) (fun x => growth_p k x h1) (fun x v h => Power_p v _ (-p) 27 x h ps b (by decide) (by omega) (by omega)) (fun x => quotient_p q (p + q) x (by omega) (by omega) (by omega) (by omega))
      (fun x v1 v2 q1 q2 => fa_of (Times_p v1 v2 _ _ 55 1 x q1 q2 (Bd.ps g1 (by decide)) (Bd.ps d1 (by decide)) (by unfold MulOK; omega))) (fun x v h => Power_p v _ q 27 x h ps b (by decide) (by omega) (by omega)) (fun x => quotient_p p (p + q) x (by omega) (by omega) (by omega) (by omega))
      (fun x v1 v2 q1 q2 => fa_of (Times_p v1 v2 _ _ 55 1 x q1 q2 (Bd.ps g2 (by decide)) (Bd.ps d2 (by decide)) (by unfold MulOK; omega))) (fun x v1 v2 b' q1 q2 => writeTwo_p v1 v2 _ _ _ x q1 q2 (g1.mul d1) (g2.mul d2) (by decide) (G.grow b')) h1 h2 h3 (by simp; omega) (by simp; omega)
theorem RImmune_any (k p q : Int) (w : World) : Calls Tryz.prog 19 #[.int .i64 k, .int .i64 p, .int .i64 q] w fun e w' => e = .returned (iA k p q) ∧ Below w.heap.size w w' := by
  unfold iA
  cases h : okI k p q
  · rw [if_neg (by decide)]; exact RImmune_no k p q w h
  · rw [if_pos rfl]
    obtain ⟨h1, h2, h3, h4, h5⟩ := okI_iff h
    obtain ⟨b, ps⟩ := gr_bd h1
    have g1 := Bd.gp b (pos_ne ps) (-p) (M := 130) (by omega)
    have g2 := Bd.gp b (pos_ne ps) q (M := 130) (by omega)
    have d1 := part_bd (p := q) (q := p + q) (by omega) (by omega)
    have d2 := part_bd (p := p) (q := p + q) (by omega) (by omega)
    have f1 := fun x => qf_of (L.Frac_q q (p + q) x (by omega) (by omega) (by omega) (by omega))
    have f2 := fun x => qf_of (L.Frac_q p (p + q) x (by omega) (by omega) (by omega) (by omega))
    rw [Rat.div_def] at f1 f2
    exact RImmune_yes k p q (-p) (p + q) _ _ _ _ _ _ _ _ _ _ w (Wt.wrapI _ (by omega) (by omega)) (Wt.wrapI _ (by omega) (by omega)) (fun x => Worth_q k (-p) x h1 (by omega) (by omega)) f1 (fun x v1 v2 q1 q2 => qf_of (L.QMul_any v1 v2 _ _ 118 x q1 q2 (Bd.qs g1 (by decide)) (Bd.qs d1 (by decide)) (by decide))) (fun x v h => Out_s v _ _ x h (g1.mul d1) (by decide))
      (fun x => Worth_q k q x h1 (by omega) (by omega)) f2 (fun x v1 v2 q1 q2 => qf_of (L.QMul_any v1 v2 _ _ 118 x q1 q2 (Bd.qs g2 (by decide)) (Bd.qs d2 (by decide)) (by decide))) (fun x v h => Out_s v _ _ x h (g2.mul d2) (by decide)) h1 h2 h3 (by omega) (by omega)
theorem immune_one : ∃ s t, iA 0 1 1 = .tuple #[.agg #[.string ⟨#[49]⟩, .string ⟨#[50]⟩], .agg #[.string s, .string t], .int .i64 0] := by
  have e : ahd 0 1 1 = mkRat 1 2 := by decide +kernel
  have s1 : sB (sg (decide ((mkRat 1 2).num < 0)) (decDigits (mkRat 1 2).num.natAbs)) = ⟨#[49]⟩ := by decide +kernel
  have s2 : sB (decDigits (mkRat 1 2).den) = ⟨#[50]⟩ := by decide +kernel
  unfold iA
  rw [if_pos (by decide), e]
  unfold wrt
  rw [s1, s2]
  exact ⟨_, _, rfl⟩
/-- The law. -/
theorem guards_law (k p q : Int) (w : World) (G : Gw w) : Calls Tryz.prog 5 #[.int .i64 k, .int .i64 p, .int .i64 q] w fun e w' => e = .returned (.bool true) ∧ Below w.heap.size w w' := by
  obtain ⟨s1, t1, s2, t2, e1, f1⟩ := iA_form k p q
  obtain ⟨s4, t4, f4⟩ := immune_one
  have c1 := fun x (b : Below w.heap.size w x) => Immune_any k p q x (G.grow b)
  have c2 := fun x (_ : Below w.heap.size w x) => RImmune_any k p q x
  have c3 := fun x (b : Below w.heap.size w x) => Immune_any 0 1 1 x (G.grow b)
  simp only [f1] at c1 c2
  rw [f4] at c3
  exact guards_walk k p q e1 s1 t1 s2 t2 s4 t4 w c1 c2 c3
end Go.Proofs.YtiaeoknmgidehaaGreatDoor.Mo

namespace Go.Proofs.YtiaeoknmgidehaaGreatDoor.Dy
open Mo
theorem gPow : Tryz.prog.globalNamed "internal/strconv.uint64pow10" = some 2 := by kernel_rfl
theorem gw_of {w : World} (h : Go.Lib.TabIs Tryz.prog w "internal/strconv.uint64pow10" .u64 Go.Lib.pow10Tab) : Gw w := fun _ b => Go.Joins.var_stays gPow h b (Nat.le_refl _)
end Go.Proofs.YtiaeoknmgidehaaGreatDoor.Dy
