import Derived.Test.YtemfndmffpalfaaDf13
namespace Go.Proofs.Ytemfndmffpalfaa.Df
open Go.RowKit Tn Go.Proofs.Ytemfndmffpalfaa.Ta
open Go.Proofs.Ytemfndmffpalfaa.Mo (Ri wrapI)

/-- Which error Floats tells. -/
def cd (f : Int) (xss : List (List Int)) (age : Int) (r : Nat) : Int := if ¬ ce f xss age = 0 then ce f xss age else if ¬ rg64 r < 9218868437227405312 then 20 else if (FloatKind.f64.format.order r 0 == some .lt) = true then 1 else 0
def nO (f : Int) (xss : List (List Int)) (age : Int) : Nat := n0 xss - (age - f).toNat + 1
def rO (f : Int) (xss : List (List Int)) (age : Int) (r : Nat) : Nat → Nat → Prop := fun i x => Rep (lo r (fun d j => L.nth (xss.getD d []) j) (age - f).toNat xss.length i) x
theorem ce_parts {f age : Int} {xss : List (List Int)} (h : ce f xss age = 0) : ca f xss = true ∧ ∃ a : Nat, 0 < xss.length ∧ xss.length ≤ 8 ∧ 0 ≤ f ∧ f ≤ 130 ∧ 0 < n0 xss ∧ f + n0 xss ≤ 131 ∧ age = f + a ∧ a < n0 xss := by
  unfold ce at h
  cases c : ca f xss with
  | false => rw [c] at h; simp at h
  | true =>
    rw [c, if_pos rfl] at h
    obtain ⟨h1, h2, h3, h4, h5, h6, _⟩ := ca_parts c
    by_cases g : age < f ∨ age > f + n0 xss - 1
    · rw [if_pos g] at h; cases h
    · exact ⟨rfl, (age - f).toNat, h1, h2, h3, h4, h5, h6, by omega, by omega⟩
theorem rows_of {w : World} {f : Int} {vr : Value} {xss : List (List Int)} (hr : Rr w vr xss) (h1 : 0 < xss.length) (hc : ca f xss = true) : ∃ b o c, vr = .slice (some ⟨b, o, none⟩) xss.length c ∧ ∀ d, d < xss.length → ∃ a cap, w.cell? ⟨b, o + d, none⟩ = some (.slice a (n0 xss) cap) ∧ ∃ b' o', a = some ⟨b', o', none⟩ ∧ ∀ j, j < n0 xss → w.cell? ⟨b', o' + j, none⟩ = some (.int .i64 (L.nth (xss.getD d []) j)) ∧ 0 ≤ L.nth (xss.getD d []) j ∧ L.nth (xss.getD d []) j ≤ 10000000 := by
  obtain ⟨_, _, _, _, p5, _, p7⟩ := ca_parts hc
  obtain ⟨ao, c, rfl, g⟩ := Rr.cell hr
  obtain ⟨b, o, rfl, hc'⟩ := g h1
  refine ⟨b, o, c, rfl, fun d hd => ?_⟩
  obtain ⟨a, cap, c0, rx⟩ := hc' d hd
  obtain ⟨e1, e2⟩ := p7 d hd
  obtain ⟨⟨hb, a9, cap9, e9, hl, hm, gg⟩, _, _⟩ := rx
  obtain ⟨b', o', e3, hC⟩ := gg (by omega)
  simp only [Value.slice.injEq] at e9
  refine ⟨a, cap, e1 ▸ c0, b', o', e9.1.trans e3, fun j hj => ?_⟩
  simp only [arB, decide_eq_true_iff] at e2
  exact ⟨hC.at (by omega), e2 j (by omega)⟩
theorem Floats_c (f age : Int) (vr : Value) (xss : List (List Int)) (r : Nat) (w : World) (hr : Rr w vr xss) (hw : r < 18446744073709551616) : Calls Try.prog 4 #[.agg #[.int .i64 f, vr], .int .i64 age, .float .f64 r] w fun e w' => (∃ v, e = .returned (.tuple #[v, .int .i64 (cd f xss age r)]) ∧ (cd f xss age r ≠ 0 → v = .slice none 0 0) ∧ (cd f xss age r = 0 → Fr w' v (nO f xss age) (rO f xss age r))) ∧ Below w.heap.size w w' := by
  have CK := fun x (bx : Below w.heap.size w x) => checkAge_c f age vr xss x (hr.grow bx)
  by_cases hz : ce f xss age = 0
  · obtain ⟨h0, a, n1, n2, n3, n4, n5, n6, rfl, hlt⟩ := ce_parts hz
    rw [hz] at CK
    by_cases fin : rg64 r < 9218868437227405312
    · have hn : nan64 r = false := by unfold nan64; rw [decide_eq_false_iff_not]; omega
      have NA : ∀ x, Calls Try.prog 8 #[.float .f64 r] x fun e w' => e = .returned (.bool false) ∧ w' = x := fun x => by have := IsNaN_any r x; rwa [hn] at this
      have IF : ∀ x, Calls Try.prog 9 #[.float .f64 r, .int .i64 0] x fun e w' => e = .returned (.bool false) ∧ w' = x := fun x => by have := IsInf_c r hw hn x; rwa [decide_eq_false (show ¬ rg64 r = 9218868437227405312 by omega)] at this
      cases hl : (FloatKind.f64.format.order r 0 == some .lt) with
      | true =>
        have hc : cd f xss (f + a) r = 1 := by unfold cd; rw [if_neg (by omega), if_neg (by omega), if_pos hl]
        exact ((Floats_low f (f + a) vr r w hl CK NA IF).mono (by rintro e w' ⟨rfl, b⟩; exact ⟨⟨_, by rw [hc], fun _ => rfl, fun z => absurd z (by rw [hc]; decide)⟩, b⟩))
      | false =>
        have hc : cd f xss (f + a) r = 0 := by unfold cd; rw [if_neg (by omega), if_neg (by omega), if_neg (by rw [hl]; decide)]
        obtain ⟨b, o, c, rfl, CL⟩ := rows_of hr n1 h0
        refine (Floats_k f (f + n0 xss - 1) a b o c xss.length (n0 xss) (n0 xss - a + 1) (fun d j => L.nth (xss.getD d []) j) r w n1 n2 n3 n4 (by omega) hlt rfl rfl hl CK NA IF (fun x bx => last_c f _ xss x (hr.grow bx) n1 n3 n4) CL).mono ?_
        rintro e w' ⟨⟨v, rfl, F⟩, bw⟩
        refine ⟨⟨v, by rw [hc], fun z => absurd hc z, fun _ => ?_⟩, bw⟩
        unfold nO rO
        rw [show (f + (a : Int) - f).toNat = a by omega]
        exact F
    · have hc : cd f xss (f + a) r = 20 := by unfold cd; rw [if_neg (by omega), if_pos fin]
      cases hn : nan64 r with
      | true =>
        exact ((Floats_nan f (f + a) vr r w CK (fun x => by have := IsNaN_any r x; rwa [hn] at this)).mono (by rintro e w' ⟨rfl, b⟩; exact ⟨⟨_, by rw [hc], fun _ => rfl, fun z => absurd z (by rw [hc]; decide)⟩, b⟩))
      | false =>
        have e : rg64 r = 9218868437227405312 := by unfold nan64 at hn; rw [decide_eq_false_iff_not] at hn; omega
        exact ((Floats_inf f (f + a) vr r w CK (fun x => by have := IsNaN_any r x; rwa [hn] at this) (fun x => by have := IsInf_c r hw hn x; rwa [decide_eq_true e] at this)).mono (by rintro e w' ⟨rfl, b⟩; exact ⟨⟨_, by rw [hc], fun _ => rfl, fun z => absurd z (by rw [hc]; decide)⟩, b⟩))
  · have hc : cd f xss age r = ce f xss age := by unfold cd; rw [if_pos hz]
    refine (Floats_e f age vr r (ce f xss age) w (by simpa using hz) CK).mono ?_
    rintro e w' ⟨rfl, b⟩
    exact ⟨⟨_, by rw [hc], fun _ => rfl, fun z => absurd (hc ▸ z) hz⟩, b⟩
theorem RFloats_c (f age : Int) (vr : Value) (xss : List (List Int)) (r : Nat) (w : World) (hr : Rr w vr xss) : Calls Try.prog 5 #[.agg #[.int .i64 f, vr], .int .i64 age, .float .f64 r] w fun e w' => (∃ v, e = .returned (.tuple #[v, .int .i64 (cd f xss age r)]) ∧ (cd f xss age r ≠ 0 → v = .slice none 0 0) ∧ (cd f xss age r = 0 → Fr w' v (nO f xss age) (rO f xss age r))) ∧ Below w.heap.size w w' := by
  have CK := fun x (bx : Below w.heap.size w x) => wrong_c f age vr xss x (hr.grow bx)
  by_cases hz : ce f xss age = 0
  · obtain ⟨h0, a, n1, n2, n3, n4, n5, n6, rfl, hlt⟩ := ce_parts hz
    rw [hz] at CK
    by_cases fin : rg64 r < 9218868437227405312
    · have hs := (sub_self r).1 fin
      cases hl : (FloatKind.f64.format.order r 0 == some .lt) with
      | true =>
        have hc : cd f xss (f + a) r = 1 := by unfold cd; rw [if_neg (by omega), if_neg (by omega), if_pos hl]
        exact ((RFloats_low f (f + a) vr r w hs hl CK).mono (by rintro e w' ⟨rfl, b⟩; exact ⟨⟨_, by rw [hc], fun _ => rfl, fun z => absurd z (by rw [hc]; decide)⟩, b⟩))
      | false =>
        have hc : cd f xss (f + a) r = 0 := by unfold cd; rw [if_neg (by omega), if_neg (by omega), if_neg (by rw [hl]; decide)]
        obtain ⟨b, o, c, rfl, CL⟩ := rows_of hr n1 h0
        refine (RFloats_k f (f + n0 xss - 1) a b o c xss.length (n0 xss) (n0 xss - a + 1) (fun d j => L.nth (xss.getD d []) j) r w n1 n2 n3 n4 (by omega) hlt rfl rfl hs hl CK (fun x bx => Rlast_c f _ xss x (hr.grow bx) n1 n3 n4) CL).mono ?_
        rintro e w' ⟨⟨v, rfl, F⟩, bw⟩
        refine ⟨⟨v, by rw [hc], fun z => absurd hc z, fun _ => ?_⟩, bw⟩
        unfold nO rO
        rw [show (f + (a : Int) - f).toNat = a by omega]
        exact F
    · have hc : cd f xss (f + a) r = 20 := by unfold cd; rw [if_neg (by omega), if_pos fin]
      exact ((RFloats_nan f (f + a) vr r w ((sub_self r).2 fin) CK).mono (by rintro e w' ⟨rfl, b⟩; exact ⟨⟨_, by rw [hc], fun _ => rfl, fun z => absurd z (by rw [hc]; decide)⟩, b⟩))
  · have hc : cd f xss age r = ce f xss age := by unfold cd; rw [if_pos hz]
    refine (RFloats_e f age vr r (ce f xss age) w (by simpa using hz) CK).mono ?_
    rintro e w' ⟨rfl, b⟩
    exact ⟨⟨_, by rw [hc], fun _ => rfl, fun z => absurd (hc ▸ z) hz⟩, b⟩
set_option maxRecDepth 100000 in
set_option maxHeartbeats 3200000 in
theorem law_walk (f age cd0 : Int) (vr : Value) (r : Nat) (w : World) (Q : World → Value → Prop) (hq : ∀ W W' v, Q W v → Below W.heap.size W W' → Q W' v)
    (A : ∀ x, Below w.heap.size w x → Calls Try.prog 4 #[.agg #[.int .i64 f, vr], .int .i64 age, .float .f64 r] x fun e w' => ∃ v, e = .returned (.tuple #[v, .int .i64 cd0]) ∧ Q w' v ∧ Below x.heap.size x w')
    (B : ∀ x, Below w.heap.size w x → Calls Try.prog 5 #[.agg #[.int .i64 f, vr], .int .i64 age, .float .f64 r] x fun e w' => ∃ v, e = .returned (.tuple #[v, .int .i64 cd0]) ∧ Q w' v ∧ Below x.heap.size x w')
    (S : ∀ x v1 v2, Q x v1 → Q x v2 → Calls Try.prog 6 #[v1, v2] x fun e w' => e = .returned (.bool true) ∧ Below x.heap.size x w') :
    Calls Try.prog 3 #[.agg #[.int .i64 f, vr], .int .i64 age, .float .f64 r] w fun e w' => e = .returned (.bool true) ∧ Below w.heap.size w w' := by
  have K := Blk.new w #[.int .i64 f, vr] 24
  have pr : Below w.heap.size w (w.alloc (.cells #[.int .i64 f, vr] 24)) := (Below.refl _ _).alloc (Nat.le_refl _) _
  go_enter Try.func3, Try.ntmps3
  go_wp2_with (first
    | (go_at_call 6; (have mk3 := p2); (refine (S _ _ _ (hq _ _ _ q1 b2) q2).mono ?_); (rintro e w3 ⟨rfl, b3⟩); (have p3 := bel' p2 b3))
    | (go_at_call 5; (have mk2 := p1); (refine (B _ p1).mono ?_); (rintro e w2 ⟨v2, rfl, q2, b2⟩); (have p2 := bel' p1 b2))
    | (go_at_call 4; (refine (A _ pr).mono ?_); (rintro e w1 ⟨v1, rfl, q1, b1⟩); (have p1 := bel' pr b1); (have K1 := K.below b1 K.lt); (have k0 := K1.at 0); (have k1 := K1.at 1); (simp at k0 k1))
    | fail)
  go_ret
  exact ⟨by simp, p3⟩
/-- The law: any causes, any age, any radix. -/
theorem floats_law (f : Int) (vr : Value) (xss : List (List Int)) (age : Int) (r : Nat) (w : World) (hr : Rr w vr xss) (hw : r < 18446744073709551616) : Calls Try.prog 3 #[.agg #[.int .i64 f, vr], .int .i64 age, .float .f64 r] w fun e w' => e = .returned (.bool true) ∧ Below w.heap.size w w' := by
  refine law_walk f age (cd f xss age r) vr r w (fun W v => (cd f xss age r ≠ 0 → v = .slice none 0 0) ∧ (cd f xss age r = 0 → Fr W v (nO f xss age) (rO f xss age r))) ?_ ?_ ?_ ?_
  · rintro W W' v ⟨h1, h2⟩ b
    exact ⟨h1, fun z => (h2 z).grow b⟩
  · intro x bx
    refine (Floats_c f age vr xss r x (hr.grow bx) hw).mono ?_
    rintro e w' ⟨⟨v, h1, h2, h3⟩, b⟩
    exact ⟨v, h1, ⟨h2, h3⟩, b⟩
  · intro x bx
    refine (RFloats_c f age vr xss r x (hr.grow bx)).mono ?_
    rintro e w' ⟨⟨v, h1, h2, h3⟩, b⟩
    exact ⟨v, h1, ⟨h2, h3⟩, b⟩
  · rintro x v1 v2 ⟨h1, h2⟩ ⟨g1, g2⟩
    by_cases z : cd f xss age r = 0
    · obtain ⟨b1, c1, rfl, l1, m1, H1⟩ := h2 z
      obtain ⟨b2, c2, rfl, l2, m2, H2⟩ := g2 z
      have hN : nO f xss age ≤ 4096 := by
        by_cases q : ce f xss age = 0
        · obtain ⟨_, a, _, _, _, _, _, h6, _, _⟩ := ce_parts q
          unfold nO; omega
        · exact absurd z (by unfold cd; rw [if_pos q]; exact q)
      refine SameFloats_c b1 b2 c1 c2 _ x hN l1 l2 (fun i hi => ?_)
      obtain ⟨y1, e1, r1⟩ := H1 i hi
      obtain ⟨y2, e2, r2⟩ := H2 i hi
      exact ⟨y1, y2, e1, e2, same_rep r1 r2⟩
    · rw [h1 z, g1 z]
      exact SameFloats_nil x
end Go.Proofs.Ytemfndmffpalfaa.Df
