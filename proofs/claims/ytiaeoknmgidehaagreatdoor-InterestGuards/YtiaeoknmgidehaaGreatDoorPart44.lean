import Derived.Test.YtiaeoknmgidehaaGreatDoorPart43
import Derived.Test.YtiaeoknmgidehaaGreatDoorPart13
import Derived.Test.YtiaeoknmgidehaaGreatDoorPart40
import Derived.Test.YtiaeoknmgidehaaGreatDoorPart42
import Derived.Test.YtiaeoknmgidehaaGreatDoorPart14
import Derived.Test.YtiaeoknmgidehaaGreatDoorPart16
import Derived.Test.YtiaeoknmgidehaaGreatDoorPart17

namespace Go.Proofs.YtiaeoknmgidehaaGreatDoor.Mo
open Go.RowKit Fu Tn Go.Lib Ip

theorem PF.putF {w : World} {n : Nat} {v : Value} {r : Rat} {x y z : Value} {g : Bool} {a1 a2 : Option Addr} {n1 c1 n2 c2 : Nat} (h : PF w v r) (R : Rb w n (.bool g) (.slice a1 n1 c1) (.slice a2 n2 c2)) : PF (((w.setCell ⟨n, 0, none⟩ x).setCell ⟨n, 1, none⟩ y).setCell ⟨n, 2, none⟩ z) v r := by
  obtain ⟨a, l, c, a', l', c', e, h1, h2⟩ := h
  exact ⟨a, l, c, a', l', c', e, h1.putF R, h2.putF R⟩
theorem Bd.ps {r : Rat} {B K : Nat} (h : Bd r B) (hB : B ≤ 64 * K) : PS r K := ⟨lt_64 h.1 hB, lt_64 h.2 hB⟩
/-- Is it a rate of interest? -/
def okR (k : Int) : Bool := decide (-10000000 < k) && decide (k ≤ 100000000)
set_option maxRecDepth 100000 in
theorem isRate_any (k : Int) (w : World) : Calls Tryz.prog 26 #[.int .i64 k] w fun e w' => e = .returned (.bool (okR k)) ∧ w' = w := by
  unfold okR
  by_cases h1 : -10000000 < k <;> by_cases h2 : k ≤ 100000000
  all_goals
    go_enter Tryz.func26, Tryz.ntmps26
    go_wp2
    go_ret
    exact ⟨by simp [h1, h2], rfl⟩
/-- Is it a number of years? -/
def okY (k : Int) : Bool := decide (0 ≤ k) && decide (k ≤ 130)
set_option maxRecDepth 100000 in
theorem isYears_any (k : Int) (w : World) : Calls Tryz.prog 27 #[.int .i64 k] w fun e w' => e = .returned (.bool (okY k)) ∧ w' = w := by
  unfold okY
  by_cases h1 : 0 ≤ k <;> by_cases h2 : k ≤ 130
  all_goals
    go_enter Tryz.func27, Tryz.ntmps27
    go_wp2
    go_ret
    exact ⟨by simp [h1, h2], rfl⟩
/-- Is it a number of times a year? -/
def okT (k : Int) : Bool := decide (1 ≤ k) && decide (k ≤ 366)
set_option maxRecDepth 100000 in
theorem isTimes_any (k : Int) (w : World) : Calls Tryz.prog 35 #[.int .i64 k] w fun e w' => e = .returned (.bool (okT k)) ∧ w' = w := by
  unfold okT
  by_cases h1 : 1 ≤ k <;> by_cases h2 : k ≤ 366
  all_goals
    go_enter Tryz.func35, Tryz.ntmps35
    go_wp2
    go_ret
    exact ⟨by simp [h1, h2], rfl⟩
set_option maxRecDepth 100000 in
set_option maxHeartbeats 1600000 in
theorem quotient_r (p q : Int) (rp rq ri rr : Rat) (w : World) (O1 : ∀ x, Calls Tryz.prog 38 #[.int .i64 p] x (Fa rp x)) (O2 : ∀ x, Calls Tryz.prog 38 #[.int .i64 q] x (Fa rq x)) (V : ∀ x v, PF x v rq → Calls Tryz.prog 60 #[v] x (Fa ri x)) (T : ∀ x v1 v2, PF x v1 rp → PF x v2 ri → Calls Tryz.prog 51 #[v1, v2] x (Fa rr x)) :
    Calls Tryz.prog 36 #[.int .i64 p, .int .i64 q] w (Fa (rr) w) := by
  have KR := Blk.new w #[.bool false, .slice none 0 0, .slice none 0 0] 59
  have pr : Below w.heap.size w (w.alloc (.cells #[.bool false, .slice none 0 0, .slice none 0 0] 59)) := (Below.refl _ _).alloc (Nat.le_refl _) _
  go_enter Tryz.func36, Tryz.ntmps36
  go_wp2_with (first
    | (go_at_call 51; (have z4 := p3); (refine (T _ _ _ t1_3 t3).mono ?_); (rintro e w4 ⟨g4, a4, l4, c4, a4', l4', c4', rfl, t4, b4⟩); (have p4 := Mo.bel' p3 b4); (have t1_4 := t1_3.grow b4); (have t2_4 := t2_3.grow b4); (have t3_4 := t3.grow b4); (have KR_4 := KR_3.below b4 KR_3.lt); (have q0 := KR_4.at 0); (have q1 := KR_4.at 1); (have q2 := KR_4.at 2); (have y0 := KR_4.free 0); (have y1 := KR_4.free 1); (have y2 := KR_4.free 2); (simp at q0 q1 q2))
    | (go_at_call 60; (have z3 := p2); (refine (V _ _ t2).mono ?_); (rintro e w3 ⟨g3, a3, l3, c3, a3', l3', c3', rfl, t3, b3⟩); (have p3 := Mo.bel' p2 b3); (have t1_3 := t1_2.grow b3); (have t2_3 := t2.grow b3); (have KR_3 := KR_2.below b3 KR_2.lt))
    | (go_at_call 38; (have z2 := p1); (refine (O2 _).mono ?_); (rintro e w2 ⟨g2, a2, l2, c2, a2', l2', c2', rfl, t2, b2⟩); (have p2 := Mo.bel' p1 b2); (have t1_2 := t1.grow b2); (have KR_2 := KR_1.below b2 KR_1.lt))
    | (go_at_call 38; (refine (O1 _).mono ?_); (rintro e w1 ⟨g1, a1, l1, c1, a1', l1', c1', rfl, t1, b1⟩); (have p1 := Mo.bel' pr b1); (have KR_1 := KR.below b1 KR.lt))
    | fail)
  have R := Rb.ofB KR_4
  obtain ⟨F0, F1, F2⟩ := R.put (.bool g4) (.slice a4 l4 c4) (.slice a4' l4' c4')
  exact bodyPost_ret (v := .agg #[.bool g4, .slice a4 l4 c4, .slice a4' l4' c4']) (by simp [results, Tryz.results36, go_sem, F0, F1, F2]) rfl ⟨g4, a4, l4, c4, a4', l4', c4', rfl, t4.putF R, bset3 p4 (Nat.le_refl _)⟩
theorem quotient_p (p q : Int) (w : World) (hp0 : -9223372036854775807 ≤ p) (hp1 : p ≤ 9223372036854775807) (hq0 : 0 < q) (hq1 : q ≤ 9223372036854775807) :
    Calls Tryz.prog 36 #[.int .i64 p, .int .i64 q] w (Fa ((p : Rat) * (q : Rat)⁻¹) w) := by
  have q0 : (q : Rat) ≠ 0 := by simpa using show q ≠ 0 by omega
  have b1 : Bd (p : Rat) 63 := Bd.int (by omega) (by decide)
  have b2 : Bd (q : Rat) 63 := Bd.int (by omega) (by decide)
  exact quotient_r p q _ _ _ _ w (fun x => fa_of (OfInt_p p x hp0 hp1)) (fun x => fa_of (OfInt_p q x (by omega) hq1)) (fun x v h => fa_of (Inverse_p v _ x h q0))
    (fun x v1 v2 h1 h2 => fa_of (Times_p v1 v2 _ _ 1 1 x h1 h2 (Bd.ps b1 (by decide)) (Bd.ps (b2.inv q0) (by decide)) (by unfold MulOK; omega)))
set_option maxRecDepth 100000 in
set_option maxHeartbeats 1600000 in
theorem growth_r (k S : Int) (rr : Rat) (w : World) (hS : IntKind.i64.wrap (10000000 + k) = S) (Q : ∀ x, Calls Tryz.prog 36 #[.int .i64 S, .int .i64 10000000] x (Fa rr x)) :
    Calls Tryz.prog 28 #[.int .i64 k] w (Fa (rr) w) := by
  have KR := Blk.new w #[.bool false, .slice none 0 0, .slice none 0 0] 59
  have pr : Below w.heap.size w (w.alloc (.cells #[.bool false, .slice none 0 0, .slice none 0 0] 59)) := (Below.refl _ _).alloc (Nat.le_refl _) _
  go_enter Tryz.func28, Tryz.ntmps28
  go_wp2_with (first
    | (go_at_call 36; (refine (Q _).mono ?_); (rintro e w1 ⟨g1, a1, l1, c1, a1', l1', c1', rfl, t1, b1⟩); (have p1 := Mo.bel' pr b1); (have KR_1 := KR.below b1 KR.lt); (have q0 := KR_1.at 0); (have q1 := KR_1.at 1); (have q2 := KR_1.at 2); (have y0 := KR_1.free 0); (have y1 := KR_1.free 1); (have y2 := KR_1.free 2); (simp at q0 q1 q2))
    | fail)
  have R := Rb.ofB KR_1
  obtain ⟨F0, F1, F2⟩ := R.put (.bool g1) (.slice a1 l1 c1) (.slice a1' l1' c1')
  exact bodyPost_ret (v := .agg #[.bool g1, .slice a1 l1 c1, .slice a1' l1' c1']) (by simp [results, Tryz.results28, go_sem, F0, F1, F2]) rfl ⟨g1, a1, l1, c1, a1', l1', c1', rfl, t1.putF R, bset3 p1 (Nat.le_refl _)⟩
theorem growth_p (k : Int) (w : World) (h : okR k = true) : Calls Tryz.prog 28 #[.int .i64 k] w (Fa (gr k) w) := by
  have h' : -10000000 < k ∧ k ≤ 100000000 := by simpa [okR] using h
  exact growth_r k (10000000 + k) _ w (Wt.wrapI _ (by omega) (by omega)) (fun x => quotient_p (10000000 + k) 10000000 x (by omega) (by omega) (by decide) (by decide))
set_option maxRecDepth 100000 in
set_option maxHeartbeats 1600000 in
theorem Grown_no (k n : Int) (w : World) (h : (okR k && okY n) = false) :
    Calls Tryz.prog 8 #[.int .i64 k, .int .i64 n] w fun e w' => e = .returned (.tuple #[.agg #[.string ⟨#[]⟩, .string ⟨#[]⟩], .int .i64 1]) ∧ Below w.heap.size w w' := by
  have pr : Below w.heap.size w (w.alloc (.cells #[.string ⟨#[]⟩, .string ⟨#[]⟩] 26)) := (Below.refl _ _).alloc (Nat.le_refl _) _
  have A1 := fun x => isRate_any k x
  have A2 := fun x => isYears_any n x
  obtain ⟨u, hu⟩ : ∃ u, okR k = u := ⟨_, rfl⟩
  obtain ⟨v, hv⟩ : ∃ v, okY n = v := ⟨_, rfl⟩
  simp only [hu, hv] at A1 A2 h
  clear hu hv
  cases u
  all_goals
    try (simp at h; subst h)
    go_enter Tryz.func8, Tryz.ntmps8
    go_wp2_with (first
      | (go_at_call 26; refine (A1 _).mono ?_; rintro e w1 ⟨rfl, hw⟩; subst w1)
      | (go_at_call 27; refine (A2 _).mono ?_; rintro e w1 ⟨rfl, hw⟩; subst w1)
      | fail)
    exact bodyPost_ret (v := .tuple #[.agg #[.string ⟨#[]⟩, .string ⟨#[]⟩], .int .i64 1]) (by simp [results, Tryz.results8, go_sem]) rfl ⟨rfl, pr⟩
set_option maxRecDepth 100000 in
set_option maxHeartbeats 1600000 in
theorem Discounted_no (k n : Int) (w : World) (h : (okR k && okY n) = false) :
    Calls Tryz.prog 10 #[.int .i64 k, .int .i64 n] w fun e w' => e = .returned (.tuple #[.agg #[.string ⟨#[]⟩, .string ⟨#[]⟩], .int .i64 1]) ∧ Below w.heap.size w w' := by
  have pr : Below w.heap.size w (w.alloc (.cells #[.string ⟨#[]⟩, .string ⟨#[]⟩] 26)) := (Below.refl _ _).alloc (Nat.le_refl _) _
  have A1 := fun x => isRate_any k x
  have A2 := fun x => isYears_any n x
  obtain ⟨u, hu⟩ : ∃ u, okR k = u := ⟨_, rfl⟩
  obtain ⟨v, hv⟩ : ∃ v, okY n = v := ⟨_, rfl⟩
  simp only [hu, hv] at A1 A2 h
  clear hu hv
  cases u
  all_goals
    try (simp at h; subst h)
    go_enter Tryz.func10, Tryz.ntmps10
    go_wp2_with (first
      | (go_at_call 26; refine (A1 _).mono ?_; rintro e w1 ⟨rfl, hw⟩; subst w1)
      | (go_at_call 27; refine (A2 _).mono ?_; rintro e w1 ⟨rfl, hw⟩; subst w1)
      | fail)
    exact bodyPost_ret (v := .tuple #[.agg #[.string ⟨#[]⟩, .string ⟨#[]⟩], .int .i64 1]) (by simp [results, Tryz.results10, go_sem]) rfl ⟨rfl, pr⟩
set_option maxRecDepth 100000 in
set_option maxHeartbeats 1600000 in
theorem Effective_no (k n : Int) (w : World) (h : (okR k && okT n) = false) :
    Calls Tryz.prog 12 #[.int .i64 k, .int .i64 n] w fun e w' => e = .returned (.tuple #[.agg #[.string ⟨#[]⟩, .string ⟨#[]⟩], .int .i64 1]) ∧ Below w.heap.size w w' := by
  have pr : Below w.heap.size w (w.alloc (.cells #[.string ⟨#[]⟩, .string ⟨#[]⟩] 26)) := (Below.refl _ _).alloc (Nat.le_refl _) _
  have A1 := fun x => isRate_any k x
  have A2 := fun x => isTimes_any n x
  obtain ⟨u, hu⟩ : ∃ u, okR k = u := ⟨_, rfl⟩
  obtain ⟨v, hv⟩ : ∃ v, okT n = v := ⟨_, rfl⟩
  simp only [hu, hv] at A1 A2 h
  clear hu hv
  cases u
  all_goals
    try (simp at h; subst h)
    go_enter Tryz.func12, Tryz.ntmps12
    go_wp2_with (first
      | (go_at_call 26; refine (A1 _).mono ?_; rintro e w1 ⟨rfl, hw⟩; subst w1)
      | (go_at_call 35; refine (A2 _).mono ?_; rintro e w1 ⟨rfl, hw⟩; subst w1)
      | fail)
    exact bodyPost_ret (v := .tuple #[.agg #[.string ⟨#[]⟩, .string ⟨#[]⟩], .int .i64 1]) (by simp [results, Tryz.results12, go_sem]) rfl ⟨rfl, pr⟩
set_option maxRecDepth 100000 in
set_option maxHeartbeats 1600000 in
theorem Grown_yes (k n : Int) (rg rp : Rat) (s t : ByteArray) (er : Int) (w : World) (GR : ∀ x, Calls Tryz.prog 28 #[.int .i64 k] x (Fa rg x)) (PR : ∀ x v, PF x v rg → Calls Tryz.prog 29 #[v, .int .i64 n] x (Fa rp x)) (RR : ∀ x v, Below w.heap.size w x → PF x v rp → Calls Tryz.prog 30 #[v] x fun e w' => e = .returned (.tuple #[.agg #[.string s, .string t], .int .i64 er]) ∧ Below x.heap.size x w') (I1 : okR k = true) (I2 : okY n = true) :
    Calls Tryz.prog 8 #[.int .i64 k, .int .i64 n] w fun e w' => e = .returned (.tuple #[.agg #[.string s, .string t], .int .i64 er]) ∧ Below w.heap.size w w' := by
  have KR := Blk.new w #[.string ⟨#[]⟩, .string ⟨#[]⟩] 26
  have pr : Below w.heap.size w (w.alloc (.cells #[.string ⟨#[]⟩, .string ⟨#[]⟩] 26)) := (Below.refl _ _).alloc (Nat.le_refl _) _
  have A1 := fun x => isRate_any k x
  have A2 := fun x => isYears_any n x
  simp only [I1, I2] at A1 A2
  go_enter Tryz.func8, Tryz.ntmps8
  go_wp2_with (first
    | (go_at_call 30; (have z5 := p4); (refine (RR _ _ p4 t4).mono ?_); (rintro e w5 ⟨rfl, b5⟩); (have p5 := Mo.bel' p4 b5); (have t3_5 := t3_4.grow b5); (have t4_5 := t4.grow b5); (have KR_5 := KR_4.below b5 KR_4.lt); (have q0 := KR_5.at 0); (have q1 := KR_5.at 1); (have y0 := KR_5.free 0); (have y1 := KR_5.free 1); (simp at q0 q1))
    | (go_at_call 29; (have z4 := p3); (refine (PR _ _ t3).mono ?_); (rintro e w4 ⟨g4, a4, l4, c4, a4', l4', c4', rfl, t4, b4⟩); (have p4 := Mo.bel' p3 b4); (have t3_4 := t3.grow b4); (have KR_4 := KR_3.below b4 KR_3.lt))
    | (go_at_call 28; (have z3 := m2); (refine (GR _).mono ?_); (rintro e w3 ⟨g3, a3, l3, c3, a3', l3', c3', rfl, t3, b3⟩); (have p3 := Mo.bel' pr b3); (have KR_3 := KR.below b3 KR.lt))
    | (go_at_call 27; (have z2 := m1); (refine (A2 _).mono ?_); (rintro e w2 ⟨rfl, hw2⟩); (subst w2); (have m2 := True.intro))
    | (go_at_call 26; (refine (A1 _).mono ?_); (rintro e w1 ⟨rfl, hw1⟩); (subst w1); (have m1 := True.intro))
    | fail)
  have KE := bput (bput KR_5 0 (.string s)) 1 (.string t)
  have bE := (p5.setCell (p := ⟨w.heap.size, 0, none⟩) (Nat.le_refl _) (.string s)).setCell (p := ⟨w.heap.size, 1, none⟩) (Nat.le_refl _) (.string t)
  generalize (World.setCell (World.setCell _ ⟨w.heap.size, 0, none⟩ (.string s)) ⟨w.heap.size, 1, none⟩ (.string t)) = WE at *
  have z0 := KE.at 0
  have z1 := KE.at 1
  simp at z0 z1
  exact bodyPost_ret (v := .tuple #[.agg #[.string s, .string t], .int .i64 er]) (by simp [results, Tryz.results8, go_sem, z0, z1]) rfl ⟨rfl, bE⟩
set_option maxRecDepth 100000 in
set_option maxHeartbeats 1600000 in
theorem Discounted_yes (k n m : Int) (rg rp : Rat) (s t : ByteArray) (er : Int) (w : World) (hm : IntKind.i64.wrap (-n) = m) (GR : ∀ x, Calls Tryz.prog 28 #[.int .i64 k] x (Fa rg x)) (PR : ∀ x v, PF x v rg → Calls Tryz.prog 29 #[v, .int .i64 m] x (Fa rp x)) (RR : ∀ x v, Below w.heap.size w x → PF x v rp → Calls Tryz.prog 30 #[v] x fun e w' => e = .returned (.tuple #[.agg #[.string s, .string t], .int .i64 er]) ∧ Below x.heap.size x w') (I1 : okR k = true) (I2 : okY n = true) :
    Calls Tryz.prog 10 #[.int .i64 k, .int .i64 n] w fun e w' => e = .returned (.tuple #[.agg #[.string s, .string t], .int .i64 er]) ∧ Below w.heap.size w w' := by
  have KR := Blk.new w #[.string ⟨#[]⟩, .string ⟨#[]⟩] 26
  have pr : Below w.heap.size w (w.alloc (.cells #[.string ⟨#[]⟩, .string ⟨#[]⟩] 26)) := (Below.refl _ _).alloc (Nat.le_refl _) _
  have A1 := fun x => isRate_any k x
  have A2 := fun x => isYears_any n x
  simp only [I1, I2] at A1 A2
  go_enter Tryz.func10, Tryz.ntmps10
  go_wp2_with (first
    | (go_at_call 30; (have z5 := p4); (refine (RR _ _ p4 t4).mono ?_); (rintro e w5 ⟨rfl, b5⟩); (have p5 := Mo.bel' p4 b5); (have t3_5 := t3_4.grow b5); (have t4_5 := t4.grow b5); (have KR_5 := KR_4.below b5 KR_4.lt); (have q0 := KR_5.at 0); (have q1 := KR_5.at 1); (have y0 := KR_5.free 0); (have y1 := KR_5.free 1); (simp at q0 q1))
    | (go_at_call 29; (have z4 := p3); (refine (PR _ _ t3).mono ?_); (rintro e w4 ⟨g4, a4, l4, c4, a4', l4', c4', rfl, t4, b4⟩); (have p4 := Mo.bel' p3 b4); (have t3_4 := t3.grow b4); (have KR_4 := KR_3.below b4 KR_3.lt))
    | (go_at_call 28; (have z3 := m2); (refine (GR _).mono ?_); (rintro e w3 ⟨g3, a3, l3, c3, a3', l3', c3', rfl, t3, b3⟩); (have p3 := Mo.bel' pr b3); (have KR_3 := KR.below b3 KR.lt))
    | (go_at_call 27; (have z2 := m1); (refine (A2 _).mono ?_); (rintro e w2 ⟨rfl, hw2⟩); (subst w2); (have m2 := True.intro))
    | (go_at_call 26; (refine (A1 _).mono ?_); (rintro e w1 ⟨rfl, hw1⟩); (subst w1); (have m1 := True.intro))
    | fail)
  have KE := bput (bput KR_5 0 (.string s)) 1 (.string t)
  have bE := (p5.setCell (p := ⟨w.heap.size, 0, none⟩) (Nat.le_refl _) (.string s)).setCell (p := ⟨w.heap.size, 1, none⟩) (Nat.le_refl _) (.string t)
  generalize (World.setCell (World.setCell _ ⟨w.heap.size, 0, none⟩ (.string s)) ⟨w.heap.size, 1, none⟩ (.string t)) = WE at *
  have z0 := KE.at 0
  have z1 := KE.at 1
  simp at z0 z1
  exact bodyPost_ret (v := .tuple #[.agg #[.string s, .string t], .int .i64 er]) (by simp [results, Tryz.results10, go_sem, z0, z1]) rfl ⟨rfl, bE⟩
set_option maxRecDepth 100000 in
set_option maxHeartbeats 1600000 in
theorem Effective_yes (k n S T : Int) (rq rp ro rs : Rat) (s t : ByteArray) (er : Int) (w : World) (h1 : IntKind.i64.wrap (n * 10000000) = S) (h2 : IntKind.i64.wrap (S + k) = T) (QU : ∀ x, Calls Tryz.prog 36 #[.int .i64 T, .int .i64 S] x (Fa rq x)) (PR : ∀ x v, PF x v rq → Calls Tryz.prog 29 #[v, .int .i64 n] x (Fa rp x)) (O1 : ∀ x, Calls Tryz.prog 38 #[.int .i64 (-1)] x (Fa ro x)) (PS : ∀ x v1 v2, PF x v1 rp → PF x v2 ro → Calls Tryz.prog 37 #[v1, v2] x (Fa rs x)) (RR : ∀ x v, Below w.heap.size w x → PF x v rs → Calls Tryz.prog 30 #[v] x fun e w' => e = .returned (.tuple #[.agg #[.string s, .string t], .int .i64 er]) ∧ Below x.heap.size x w') (I1 : okR k = true) (I2 : okT n = true) :
    Calls Tryz.prog 12 #[.int .i64 k, .int .i64 n] w fun e w' => e = .returned (.tuple #[.agg #[.string s, .string t], .int .i64 er]) ∧ Below w.heap.size w w' := by
  have KR := Blk.new w #[.string ⟨#[]⟩, .string ⟨#[]⟩] 26
  have pr : Below w.heap.size w (w.alloc (.cells #[.string ⟨#[]⟩, .string ⟨#[]⟩] 26)) := (Below.refl _ _).alloc (Nat.le_refl _) _
  have A1 := fun x => isRate_any k x
  have A2 := fun x => isTimes_any n x
  simp only [I1, I2] at A1 A2
  go_enter Tryz.func12, Tryz.ntmps12
  go_wp2_with (first
    | (go_at_call 30; (have z7 := p6); (refine (RR _ _ p6 t6).mono ?_); (rintro e w7 ⟨rfl, b7⟩); (have p7 := Mo.bel' p6 b7); (have t3_7 := t3_6.grow b7); (have t4_7 := t4_6.grow b7); (have t5_7 := t5_6.grow b7); (have t6_7 := t6.grow b7); (have KR_7 := KR_6.below b7 KR_6.lt); (have q0 := KR_7.at 0); (have q1 := KR_7.at 1); (have y0 := KR_7.free 0); (have y1 := KR_7.free 1); (simp at q0 q1))
    | (go_at_call 37; (have z6 := p5); (refine (PS _ _ _ t4_5 t5).mono ?_); (rintro e w6 ⟨g6, a6, l6, c6, a6', l6', c6', rfl, t6, b6⟩); (have p6 := Mo.bel' p5 b6); (have t3_6 := t3_5.grow b6); (have t4_6 := t4_5.grow b6); (have t5_6 := t5.grow b6); (have KR_6 := KR_5.below b6 KR_5.lt))
    | (go_at_call 38; (have z5 := p4); (refine (O1 _).mono ?_); (rintro e w5 ⟨g5, a5, l5, c5, a5', l5', c5', rfl, t5, b5⟩); (have p5 := Mo.bel' p4 b5); (have t3_5 := t3_4.grow b5); (have t4_5 := t4.grow b5); (have KR_5 := KR_4.below b5 KR_4.lt))
    | (go_at_call 29; (have z4 := p3); (refine (PR _ _ t3_3).mono ?_); (rintro e w4 ⟨g4, a4, l4, c4, a4', l4', c4', rfl, t4, b4⟩); (have p4 := Mo.bel' p3 b4); (have t3_4 := t3_3.grow b4); (have KR_4 := KR_3.below b4 KR_3.lt))
    | (go_at_call 36; (have z3 := m2); (refine (QU _).mono ?_); (rintro e w3 ⟨g3, a3, l3, c3, a3', l3', c3', rfl, t3, b3⟩); (have al3 := (Below.refl w3.heap.size w3).alloc (Nat.le_refl _) (.cells #[.bool g3, .slice a3 l3 c3, .slice a3' l3' c3'] 59)); (have KV3 := Rb.new w3 (.bool g3) (.slice a3 l3 c3) (.slice a3' l3' c3') 59); (have bb3 := Mo.bel' b3 al3); (have p3 := Mo.bel' pr bb3); (have t3_3 := t3.grow al3); (have KR_3 := KR.below bb3 KR.lt))
    | (go_at_call 35; (have z2 := m1); (refine (A2 _).mono ?_); (rintro e w2 ⟨rfl, hw2⟩); (subst w2); (have m2 := True.intro))
    | (go_at_call 26; (refine (A1 _).mono ?_); (rintro e w1 ⟨rfl, hw1⟩); (subst w1); (have m1 := True.intro))
    | fail)
  have KE := bput (bput KR_7 0 (.string s)) 1 (.string t)
  have bE := (p7.setCell (p := ⟨w.heap.size, 0, none⟩) (Nat.le_refl _) (.string s)).setCell (p := ⟨w.heap.size, 1, none⟩) (Nat.le_refl _) (.string t)
  generalize (World.setCell (World.setCell _ ⟨w.heap.size, 0, none⟩ (.string s)) ⟨w.heap.size, 1, none⟩ (.string t)) = WE at *
  have z0 := KE.at 0
  have z1 := KE.at 1
  simp at z0 z1
  exact bodyPost_ret (v := .tuple #[.agg #[.string s, .string t], .int .i64 er]) (by simp [results, Tryz.results12, go_sem, z0, z1]) rfl ⟨rfl, bE⟩
end Go.Proofs.YtiaeoknmgidehaaGreatDoor.Mo

namespace Go.Proofs.YtiaeoknmgidehaaGreatDoor.Mo
open Go.RowKit Ip

theorem Bd.qs {r : Rat} {B K : Nat} (h : Bd r B) (hB : B ≤ 30 * K) : L.QS r K := ⟨lt_30 h.1 hB, lt_30 h.2 hB⟩
set_option maxRecDepth 100000 in
theorem IsRate_any (k : Int) (w : World) : Calls Tryz.prog 31 #[.int .i64 k] w fun e w' => e = .returned (.bool (okR k)) ∧ w' = w := by
  unfold okR
  by_cases h1 : -10000000 < k <;> by_cases h2 : k ≤ 100000000
  all_goals
    go_enter Tryz.func31, Tryz.ntmps31
    go_wp2
    go_ret
    exact ⟨by simp [h1, h2], rfl⟩
set_option maxRecDepth 100000 in
theorem IsYears_any (k : Int) (w : World) : Calls Tryz.prog 32 #[.int .i64 k] w fun e w' => e = .returned (.bool (okY k)) ∧ w' = w := by
  unfold okY
  by_cases h1 : 0 ≤ k <;> by_cases h2 : k ≤ 130
  all_goals
    go_enter Tryz.func32, Tryz.ntmps32
    go_wp2
    go_ret
    exact ⟨by simp [h1, h2], rfl⟩
set_option maxRecDepth 100000 in
set_option maxHeartbeats 1600000 in
theorem Rate_r (k : Int) (r : Rat) (w : World) (F : ∀ x, Calls Tryz.prog 53 #[.int .i64 k, .int .i64 10000000] x (Qf r x)) :
    Calls Tryz.prog 39 #[.int .i64 k] w (Qf (r) w) := by
  have KR := Blk.new w #[.bool false, .slice none 0 0, .slice none 0 0] 64
  have pr : Below w.heap.size w (w.alloc (.cells #[.bool false, .slice none 0 0, .slice none 0 0] 64)) := (Below.refl _ _).alloc (Nat.le_refl _) _
  go_enter Tryz.func39, Tryz.ntmps39
  go_wp2_with (first
    | (go_at_call 53; (refine (F _).mono ?_); (rintro e w1 ⟨g1, a1, l1, c1, a1', l1', c1', rfl, t1, b1⟩); (have p1 := Mo.bel' pr b1); (have KR_1 := KR.below b1 KR.lt); (have q0 := KR_1.at 0); (have q1 := KR_1.at 1); (have q2 := KR_1.at 2); (have y0 := KR_1.free 0); (have y1 := KR_1.free 1); (have y2 := KR_1.free 2); (simp at q0 q1 q2))
    | fail)
  have R := Rb.ofB KR_1
  obtain ⟨F0, F1, F2⟩ := R.put (.bool g1) (.slice a1 l1 c1) (.slice a1' l1' c1')
  exact bodyPost_ret (v := .agg #[.bool g1, .slice a1 l1 c1, .slice a1' l1' c1']) (by simp [results, Tryz.results39, go_sem, F0, F1, F2]) rfl ⟨g1, a1, l1, c1, a1', l1', c1', rfl, qput t1 R, bset3 p1 (Nat.le_refl _)⟩
set_option maxRecDepth 100000 in
set_option maxHeartbeats 1600000 in
theorem One_r (k : Int) (r1 rk r : Rat) (w : World) (O : ∀ x, Calls Tryz.prog 41 #[.int .i64 1] x (Qf r1 x)) (F : ∀ x, Calls Tryz.prog 39 #[.int .i64 k] x (Qf rk x)) (AD : ∀ x v1 v2, L.IsQ x v1 r1 → L.IsQ x v2 rk → Calls Tryz.prog 42 #[v1, v2] x (Qf r x)) :
    Calls Tryz.prog 63 #[.int .i64 k] w (Qf (r) w) := by
  have KR := Blk.new w #[.bool false, .slice none 0 0, .slice none 0 0] 64
  have pr : Below w.heap.size w (w.alloc (.cells #[.bool false, .slice none 0 0, .slice none 0 0] 64)) := (Below.refl _ _).alloc (Nat.le_refl _) _
  go_enter Tryz.func63, Tryz.ntmps63
  go_wp2_with (first
    | (go_at_call 42; (have z3 := p2); (refine (AD _ _ _ t1_2 t2).mono ?_); (rintro e w3 ⟨g3, a3, l3, c3, a3', l3', c3', rfl, t3, b3⟩); (have p3 := Mo.bel' p2 b3); (have t1_3 := t1_2.grow b3); (have t2_3 := t2.grow b3); (have KR_3 := KR_2.below b3 KR_2.lt); (have q0 := KR_3.at 0); (have q1 := KR_3.at 1); (have q2 := KR_3.at 2); (have y0 := KR_3.free 0); (have y1 := KR_3.free 1); (have y2 := KR_3.free 2); (simp at q0 q1 q2))
    | (go_at_call 39; (have z2 := p1); (refine (F _).mono ?_); (rintro e w2 ⟨g2, a2, l2, c2, a2', l2', c2', rfl, t2, b2⟩); (have p2 := Mo.bel' p1 b2); (have t1_2 := t1.grow b2); (have KR_2 := KR_1.below b2 KR_1.lt))
    | (go_at_call 41; (refine (O _).mono ?_); (rintro e w1 ⟨g1, a1, l1, c1, a1', l1', c1', rfl, t1, b1⟩); (have p1 := Mo.bel' pr b1); (have KR_1 := KR.below b1 KR.lt))
    | fail)
  have R := Rb.ofB KR_3
  obtain ⟨F0, F1, F2⟩ := R.put (.bool g3) (.slice a3 l3 c3) (.slice a3' l3' c3')
  exact bodyPost_ret (v := .agg #[.bool g3, .slice a3 l3 c3, .slice a3' l3' c3']) (by simp [results, Tryz.results63, go_sem, F0, F1, F2]) rfl ⟨g3, a3, l3, c3, a3', l3', c3', rfl, qput t3 R, bset3 p3 (Nat.le_refl _)⟩
set_option maxRecDepth 100000 in
set_option maxHeartbeats 1600000 in
theorem Worth_up (k n : Int) (r1 r : Rat) (w : World) (hn : n ≥ 0) (O : ∀ x, Calls Tryz.prog 63 #[.int .i64 k] x (Qf r1 x)) (P : ∀ x v, L.IsQ x v r1 → Calls Tryz.prog 43 #[v, .int .i64 n] x (Qf r x)) :
    Calls Tryz.prog 33 #[.int .i64 k, .int .i64 n] w (Qf (r) w) := by
  have KR := Blk.new w #[.bool false, .slice none 0 0, .slice none 0 0] 64
  have pr : Below w.heap.size w (w.alloc (.cells #[.bool false, .slice none 0 0, .slice none 0 0] 64)) := (Below.refl _ _).alloc (Nat.le_refl _) _
  go_enter Tryz.func33, Tryz.ntmps33
  go_wp2_with (first
    | (go_at_call 43; (have z2 := p1); (refine (P _ _ t1).mono ?_); (rintro e w2 ⟨g2, a2, l2, c2, a2', l2', c2', rfl, t2, b2⟩); (have p2 := Mo.bel' p1 b2); (have t1_2 := t1.grow b2); (have KR_2 := KR_1.below b2 KR_1.lt); (have q0 := KR_2.at 0); (have q1 := KR_2.at 1); (have q2 := KR_2.at 2); (have y0 := KR_2.free 0); (have y1 := KR_2.free 1); (have y2 := KR_2.free 2); (simp at q0 q1 q2))
    | (go_at_call 63; (refine (O _).mono ?_); (rintro e w1 ⟨g1, a1, l1, c1, a1', l1', c1', rfl, t1, b1⟩); (have p1 := Mo.bel' pr b1); (have KR_1 := KR.below b1 KR.lt))
    | fail)
  have R := Rb.ofB KR_2
  obtain ⟨F0, F1, F2⟩ := R.put (.bool g2) (.slice a2 l2 c2) (.slice a2' l2' c2')
  exact bodyPost_ret (v := .agg #[.bool g2, .slice a2 l2 c2, .slice a2' l2' c2']) (by simp [results, Tryz.results33, go_sem, F0, F1, F2]) rfl ⟨g2, a2, l2, c2, a2', l2', c2', rfl, qput t2 R, bset3 p2 (Nat.le_refl _)⟩
set_option maxRecDepth 100000 in
set_option maxHeartbeats 1600000 in
theorem Worth_down (k n m : Int) (r0 r1 rp r : Rat) (w : World) (hn : ¬ n ≥ 0) (hm : IntKind.i64.wrap (-n) = m) (O0 : ∀ x, Calls Tryz.prog 41 #[.int .i64 1] x (Qf r0 x)) (O : ∀ x, Calls Tryz.prog 63 #[.int .i64 k] x (Qf r1 x)) (P : ∀ x v, L.IsQ x v r1 → Calls Tryz.prog 43 #[v, .int .i64 m] x (Qf rp x)) (D : ∀ x v1 v2, L.IsQ x v1 r0 → L.IsQ x v2 rp → Calls Tryz.prog 40 #[v1, v2] x (Qf r x)) :
    Calls Tryz.prog 33 #[.int .i64 k, .int .i64 n] w (Qf (r) w) := by
  have KR := Blk.new w #[.bool false, .slice none 0 0, .slice none 0 0] 64
  have pr : Below w.heap.size w (w.alloc (.cells #[.bool false, .slice none 0 0, .slice none 0 0] 64)) := (Below.refl _ _).alloc (Nat.le_refl _) _
  go_enter Tryz.func33, Tryz.ntmps33
  go_wp2_with (first
    | (go_at_call 40; (have z4 := p3); (refine (D _ _ _ t1_3 t3).mono ?_); (rintro e w4 ⟨g4, a4, l4, c4, a4', l4', c4', rfl, t4, b4⟩); (have p4 := Mo.bel' p3 b4); (have t1_4 := t1_3.grow b4); (have t2_4 := t2_3.grow b4); (have t3_4 := t3.grow b4); (have KR_4 := KR_3.below b4 KR_3.lt); (have q0 := KR_4.at 0); (have q1 := KR_4.at 1); (have q2 := KR_4.at 2); (have y0 := KR_4.free 0); (have y1 := KR_4.free 1); (have y2 := KR_4.free 2); (simp at q0 q1 q2))
    | (go_at_call 43; (have z3 := p2); (refine (P _ _ t2).mono ?_); (rintro e w3 ⟨g3, a3, l3, c3, a3', l3', c3', rfl, t3, b3⟩); (have p3 := Mo.bel' p2 b3); (have t1_3 := t1_2.grow b3); (have t2_3 := t2.grow b3); (have KR_3 := KR_2.below b3 KR_2.lt))
    | (go_at_call 63; (have z2 := p1); (refine (O _).mono ?_); (rintro e w2 ⟨g2, a2, l2, c2, a2', l2', c2', rfl, t2, b2⟩); (have p2 := Mo.bel' p1 b2); (have t1_2 := t1.grow b2); (have KR_2 := KR_1.below b2 KR_1.lt))
    | (go_at_call 41; (refine (O0 _).mono ?_); (rintro e w1 ⟨g1, a1, l1, c1, a1', l1', c1', rfl, t1, b1⟩); (have p1 := Mo.bel' pr b1); (have KR_1 := KR.below b1 KR.lt))
    | fail)
  have R := Rb.ofB KR_4
  obtain ⟨F0, F1, F2⟩ := R.put (.bool g4) (.slice a4 l4 c4) (.slice a4' l4' c4')
  exact bodyPost_ret (v := .agg #[.bool g4, .slice a4 l4 c4, .slice a4' l4' c4']) (by simp [results, Tryz.results33, go_sem, F0, F1, F2]) rfl ⟨g4, a4, l4, c4, a4', l4', c4', rfl, qput t4 R, bset3 p4 (Nat.le_refl _)⟩
set_option maxRecDepth 100000 in
set_option maxHeartbeats 1600000 in
theorem RGrown_yes (k n : Int) (r : Rat) (s t : ByteArray) (er : Int) (w : World) (W : ∀ x, Calls Tryz.prog 33 #[.int .i64 k, .int .i64 n] x (Qf r x)) (U : ∀ x v, L.IsQ x v r → Calls Tryz.prog 34 #[v] x fun e w' => e = .returned (.tuple #[.agg #[.string s, .string t], .int .i64 er]) ∧ Below x.heap.size x w') (I1 : okR k = true) (I2 : okY n = true) :
    Calls Tryz.prog 9 #[.int .i64 k, .int .i64 n] w fun e w' => e = .returned (.tuple #[.agg #[.string s, .string t], .int .i64 er]) ∧ Below w.heap.size w w' := by
  have KR := Blk.new w #[.string ⟨#[]⟩, .string ⟨#[]⟩] 26
  have pr : Below w.heap.size w (w.alloc (.cells #[.string ⟨#[]⟩, .string ⟨#[]⟩] 26)) := (Below.refl _ _).alloc (Nat.le_refl _) _
  have A1 := fun x => IsRate_any k x
  have A2 := fun x => IsYears_any n x
  simp only [I1, I2] at A1 A2
  go_enter Tryz.func9, Tryz.ntmps9
  go_wp2_with (first
    | (go_at_call 34; (have z4 := p3); (refine (U _ _ t3).mono ?_); (rintro e w4 ⟨rfl, b4⟩); (have p4 := Mo.bel' p3 b4); (have t3_4 := t3.grow b4); (have KR_4 := KR_3.below b4 KR_3.lt); (have q0 := KR_4.at 0); (have q1 := KR_4.at 1); (have y0 := KR_4.free 0); (have y1 := KR_4.free 1); (simp at q0 q1))
    | (go_at_call 33; (have z3 := m2); (refine (W _).mono ?_); (rintro e w3 ⟨g3, a3, l3, c3, a3', l3', c3', rfl, t3, b3⟩); (have p3 := Mo.bel' pr b3); (have KR_3 := KR.below b3 KR.lt))
    | (go_at_call 32; (have z2 := m1); (refine (A2 _).mono ?_); (rintro e w2 ⟨rfl, hw2⟩); (subst w2); (have m2 := True.intro))
    | (go_at_call 31; (refine (A1 _).mono ?_); (rintro e w1 ⟨rfl, hw1⟩); (subst w1); (have m1 := True.intro))
    | fail)
  have KE := bput (bput KR_4 0 (.string s)) 1 (.string t)
  have bE := (p4.setCell (p := ⟨w.heap.size, 0, none⟩) (Nat.le_refl _) (.string s)).setCell (p := ⟨w.heap.size, 1, none⟩) (Nat.le_refl _) (.string t)
  generalize (World.setCell (World.setCell _ ⟨w.heap.size, 0, none⟩ (.string s)) ⟨w.heap.size, 1, none⟩ (.string t)) = WE at *
  have z0 := KE.at 0
  have z1 := KE.at 1
  simp at z0 z1
  exact bodyPost_ret (v := .tuple #[.agg #[.string s, .string t], .int .i64 er]) (by simp [results, Tryz.results9, go_sem, z0, z1]) rfl ⟨rfl, bE⟩
set_option maxRecDepth 100000 in
set_option maxHeartbeats 1600000 in
theorem RDiscounted_yes (k n m : Int) (r : Rat) (s t : ByteArray) (er : Int) (w : World) (hm : IntKind.i64.wrap (-n) = m) (W : ∀ x, Calls Tryz.prog 33 #[.int .i64 k, .int .i64 m] x (Qf r x)) (U : ∀ x v, L.IsQ x v r → Calls Tryz.prog 34 #[v] x fun e w' => e = .returned (.tuple #[.agg #[.string s, .string t], .int .i64 er]) ∧ Below x.heap.size x w') (I1 : okR k = true) (I2 : okY n = true) :
    Calls Tryz.prog 11 #[.int .i64 k, .int .i64 n] w fun e w' => e = .returned (.tuple #[.agg #[.string s, .string t], .int .i64 er]) ∧ Below w.heap.size w w' := by
  have KR := Blk.new w #[.string ⟨#[]⟩, .string ⟨#[]⟩] 26
  have pr : Below w.heap.size w (w.alloc (.cells #[.string ⟨#[]⟩, .string ⟨#[]⟩] 26)) := (Below.refl _ _).alloc (Nat.le_refl _) _
  have A1 := fun x => IsRate_any k x
  have A2 := fun x => IsYears_any n x
  simp only [I1, I2] at A1 A2
  go_enter Tryz.func11, Tryz.ntmps11
  go_wp2_with (first
    | (go_at_call 34; (have z4 := p3); (refine (U _ _ t3).mono ?_); (rintro e w4 ⟨rfl, b4⟩); (have p4 := Mo.bel' p3 b4); (have t3_4 := t3.grow b4); (have KR_4 := KR_3.below b4 KR_3.lt); (have q0 := KR_4.at 0); (have q1 := KR_4.at 1); (have y0 := KR_4.free 0); (have y1 := KR_4.free 1); (simp at q0 q1))
    | (go_at_call 33; (have z3 := m2); (refine (W _).mono ?_); (rintro e w3 ⟨g3, a3, l3, c3, a3', l3', c3', rfl, t3, b3⟩); (have p3 := Mo.bel' pr b3); (have KR_3 := KR.below b3 KR.lt))
    | (go_at_call 32; (have z2 := m1); (refine (A2 _).mono ?_); (rintro e w2 ⟨rfl, hw2⟩); (subst w2); (have m2 := True.intro))
    | (go_at_call 31; (refine (A1 _).mono ?_); (rintro e w1 ⟨rfl, hw1⟩); (subst w1); (have m1 := True.intro))
    | fail)
  have KE := bput (bput KR_4 0 (.string s)) 1 (.string t)
  have bE := (p4.setCell (p := ⟨w.heap.size, 0, none⟩) (Nat.le_refl _) (.string s)).setCell (p := ⟨w.heap.size, 1, none⟩) (Nat.le_refl _) (.string t)
  generalize (World.setCell (World.setCell _ ⟨w.heap.size, 0, none⟩ (.string s)) ⟨w.heap.size, 1, none⟩ (.string t)) = WE at *
  have z0 := KE.at 0
  have z1 := KE.at 1
  simp at z0 z1
  exact bodyPost_ret (v := .tuple #[.agg #[.string s, .string t], .int .i64 er]) (by simp [results, Tryz.results11, go_sem, z0, z1]) rfl ⟨rfl, bE⟩
set_option maxRecDepth 100000 in
set_option maxHeartbeats 1600000 in
theorem RGrown_no (k n : Int) (w : World) (h : (okR k && okY n) = false) :
    Calls Tryz.prog 9 #[.int .i64 k, .int .i64 n] w fun e w' => e = .returned (.tuple #[.agg #[.string ⟨#[]⟩, .string ⟨#[]⟩], .int .i64 1]) ∧ Below w.heap.size w w' := by
  have pr : Below w.heap.size w (w.alloc (.cells #[.string ⟨#[]⟩, .string ⟨#[]⟩] 26)) := (Below.refl _ _).alloc (Nat.le_refl _) _
  have A1 := fun x => IsRate_any k x
  have A2 := fun x => IsYears_any n x
  obtain ⟨u, hu⟩ : ∃ u, okR k = u := ⟨_, rfl⟩
  obtain ⟨v, hv⟩ : ∃ v, okY n = v := ⟨_, rfl⟩
  simp only [hu, hv] at A1 A2 h
  clear hu hv
  cases u
  all_goals
    try (simp at h; subst h)
    go_enter Tryz.func9, Tryz.ntmps9
    go_wp2_with (first
      | (go_at_call 31; refine (A1 _).mono ?_; rintro e w1 ⟨rfl, hw⟩; subst w1)
      | (go_at_call 32; refine (A2 _).mono ?_; rintro e w1 ⟨rfl, hw⟩; subst w1)
      | fail)
    exact bodyPost_ret (v := .tuple #[.agg #[.string ⟨#[]⟩, .string ⟨#[]⟩], .int .i64 1]) (by simp [results, Tryz.results9, go_sem]) rfl ⟨rfl, pr⟩
set_option maxRecDepth 100000 in
set_option maxHeartbeats 1600000 in
theorem RDiscounted_no (k n : Int) (w : World) (h : (okR k && okY n) = false) :
    Calls Tryz.prog 11 #[.int .i64 k, .int .i64 n] w fun e w' => e = .returned (.tuple #[.agg #[.string ⟨#[]⟩, .string ⟨#[]⟩], .int .i64 1]) ∧ Below w.heap.size w w' := by
  have pr : Below w.heap.size w (w.alloc (.cells #[.string ⟨#[]⟩, .string ⟨#[]⟩] 26)) := (Below.refl _ _).alloc (Nat.le_refl _) _
  have A1 := fun x => IsRate_any k x
  have A2 := fun x => IsYears_any n x
  obtain ⟨u, hu⟩ : ∃ u, okR k = u := ⟨_, rfl⟩
  obtain ⟨v, hv⟩ : ∃ v, okY n = v := ⟨_, rfl⟩
  simp only [hu, hv] at A1 A2 h
  clear hu hv
  cases u
  all_goals
    try (simp at h; subst h)
    go_enter Tryz.func11, Tryz.ntmps11
    go_wp2_with (first
      | (go_at_call 31; refine (A1 _).mono ?_; rintro e w1 ⟨rfl, hw⟩; subst w1)
      | (go_at_call 32; refine (A2 _).mono ?_; rintro e w1 ⟨rfl, hw⟩; subst w1)
      | fail)
    exact bodyPost_ret (v := .tuple #[.agg #[.string ⟨#[]⟩, .string ⟨#[]⟩], .int .i64 1]) (by simp [results, Tryz.results11, go_sem]) rfl ⟨rfl, pr⟩
set_option maxRecDepth 100000 in
set_option maxHeartbeats 1600000 in
theorem REffective_no (k n : Int) (w : World) (h : (okR k && okT n) = false) :
    Calls Tryz.prog 13 #[.int .i64 k, .int .i64 n] w fun e w' => e = .returned (.tuple #[.agg #[.string ⟨#[]⟩, .string ⟨#[]⟩], .int .i64 1]) ∧ Below w.heap.size w w' := by
  have pr : Below w.heap.size w (w.alloc (.cells #[.string ⟨#[]⟩, .string ⟨#[]⟩] 26)) := (Below.refl _ _).alloc (Nat.le_refl _) _
  have A1 := fun x => IsRate_any k x
  obtain ⟨u, hu⟩ : ∃ u, okR k = u := ⟨_, rfl⟩
  simp only [hu] at A1 h
  clear hu
  have h' : u = true → n < 1 ∨ (¬ n < 1 ∧ n > 366) := fun e => by subst e; simp [okT] at h; omega
  clear h
  rcases (show u = false ∨ u = true ∧ n < 1 ∨ u = true ∧ (¬ n < 1 ∧ n > 366) by cases u; exact Or.inl rfl; exact Or.inr ((h' rfl).imp (fun h => ⟨rfl, h⟩) (fun h => ⟨rfl, h⟩))) with rfl | ⟨rfl, h⟩ | ⟨rfl, h, h2⟩
  all_goals
    clear h'
    go_enter Tryz.func13, Tryz.ntmps13
    go_wp2_with (first
      | (go_at_call 31; refine (A1 _).mono ?_; rintro e w1 ⟨rfl, hw⟩; subst w1)
      | fail)
    exact bodyPost_ret (v := .tuple #[.agg #[.string ⟨#[]⟩, .string ⟨#[]⟩], .int .i64 1]) (by simp [results, Tryz.results13, go_sem]) rfl ⟨rfl, pr⟩
set_option maxRecDepth 100000 in
set_option maxHeartbeats 1600000 in
theorem REffective_yes (k n : Int) (r2 r3 r4 r5 r6 r7 r9 : Rat) (s t : ByteArray) (er : Int) (w : World) (F : ∀ x, Calls Tryz.prog 39 #[.int .i64 k] x (Qf r2 x)) (O1 : ∀ x, Calls Tryz.prog 41 #[.int .i64 n] x (Qf r3 x)) (D : ∀ x v1 v2, L.IsQ x v1 r2 → L.IsQ x v2 r3 → Calls Tryz.prog 40 #[v1, v2] x (Qf r4 x)) (O2 : ∀ x, Calls Tryz.prog 41 #[.int .i64 1] x (Qf r5 x)) (AD : ∀ x v1 v2, L.IsQ x v1 r5 → L.IsQ x v2 r4 → Calls Tryz.prog 42 #[v1, v2] x (Qf r6 x)) (P : ∀ x v, L.IsQ x v r6 → Calls Tryz.prog 43 #[v, .int .i64 n] x (Qf r7 x)) (SB : ∀ x v1 v2, L.IsQ x v1 r7 → L.IsQ x v2 r5 → Calls Tryz.prog 44 #[v1, v2] x (Qf r9 x)) (U : ∀ x v, L.IsQ x v r9 → Calls Tryz.prog 34 #[v] x fun e w' => e = .returned (.tuple #[.agg #[.string s, .string t], .int .i64 er]) ∧ Below x.heap.size x w') (I1 : okR k = true) (I2 : ¬ n < 1) (I3 : ¬ n > 366) :
    Calls Tryz.prog 13 #[.int .i64 k, .int .i64 n] w fun e w' => e = .returned (.tuple #[.agg #[.string s, .string t], .int .i64 er]) ∧ Below w.heap.size w w' := by
  have KR := Blk.new w #[.string ⟨#[]⟩, .string ⟨#[]⟩] 26
  have pr : Below w.heap.size w (w.alloc (.cells #[.string ⟨#[]⟩, .string ⟨#[]⟩] 26)) := (Below.refl _ _).alloc (Nat.le_refl _) _
  have A1 := fun x => IsRate_any k x
  simp only [I1] at A1
  go_enter Tryz.func13, Tryz.ntmps13
  go_wp2_with (first
    | (go_at_call 40; (have z4 := p3); (refine (D _ _ _ t2_3 t3).mono ?_); (rintro e w4 ⟨g4, a4, l4, c4, a4', l4', c4', rfl, t4, b4⟩); (have al4 := (Below.refl w4.heap.size w4).alloc (Nat.le_refl _) (.cells #[.bool g4, .slice a4 l4 c4, .slice a4' l4' c4'] 64)); (have KV4 := Blk.new w4 #[.bool g4, .slice a4 l4 c4, .slice a4' l4' c4'] 64); (have bb4 := Mo.bel' b4 al4); (have p4 := Mo.bel' p3 bb4); (have t2_4 := t2_3.grow bb4); (have t3_4 := t3.grow bb4); (have t4_4 := t4.grow al4); (have KR_4 := KR_3.below bb4 KR_3.lt))
    | (go_at_call 41; (have z3 := p2); (refine (O1 _).mono ?_); (rintro e w3 ⟨g3, a3, l3, c3, a3', l3', c3', rfl, t3, b3⟩); (have p3 := Mo.bel' p2 b3); (have t2_3 := t2.grow b3); (have KR_3 := KR_2.below b3 KR_2.lt))
    | (go_at_call 39; (have z2 := m1); (refine (F _).mono ?_); (rintro e w2 ⟨g2, a2, l2, c2, a2', l2', c2', rfl, t2, b2⟩); (have p2 := Mo.bel' pr b2); (have KR_2 := KR.below b2 KR.lt))
    | (go_at_call 31; (refine (A1 _).mono ?_); (rintro e w1 ⟨rfl, hw1⟩); (subst w1); (have m1 := True.intro))
    | fail)
  have K := Rb.ofB KV4
  have tv := t4_4
  have KW := KR_4
  have hF : w.heap.size + 1 ≤ w4.heap.size := by have s2 := b2.size; have s3 := b3.size; have s4 := b4.size; simp at s2; omega
  generalize w4.heap.size = F at *
  have o1 : w.heap.size ≠ F := by omega
  have o2 : F ≠ w.heap.size := by omega
  clear hF
  generalize w4.alloc _ = W at *
  have k0 := K.c0
  have k1 := K.c1
  have k2 := K.c2
  go_region_held3 (fun x => x.cell? ⟨F, 0, none⟩ = some (.bool g4) ∧ x.cell? ⟨F, 1, none⟩ = some (.slice a4 l4 c4) ∧ x.cell? ⟨F, 2, none⟩ = some (.slice a4' l4' c4')) (go_keep) (first
    | (go_at_call 34; (have z10 := d9); (refine (U _ _ t9).mono ?_); (rintro e w10 ⟨rfl, b10⟩); (have d10 := Mo.bel' d9 b10); (have x10_0 := (K.grow d10).c0); (have x10_1 := (K.grow d10).c1); (have x10_2 := (K.grow d10).c2); (have KX := KW.below d10 KW.lt); (have q0 := KX.at 0); (have q1 := KX.at 1); (have y0 := KX.free 0); (have y1 := KX.free 1); (simp at q0 q1))
    | (go_at_call 44; (have z9 := d8); (refine (SB _ _ _ (t7.grow b8) t8).mono ?_); (rintro e w9 ⟨g9, a9, l9, c9, a9', l9', c9', rfl, t9, b9⟩); (have d9 := Mo.bel' d8 b9); (have x9_0 := (K.grow d9).c0); (have x9_1 := (K.grow d9).c1); (have x9_2 := (K.grow d9).c2))
    | (go_at_call 41; (have z8 := d7); (refine (O2 _).mono ?_); (rintro e w8 ⟨g8, a8, l8, c8, a8', l8', c8', rfl, t8, b8⟩); (have d8 := Mo.bel' d7 b8); (have x8_0 := (K.grow d8).c0); (have x8_1 := (K.grow d8).c1); (have x8_2 := (K.grow d8).c2))
    | (go_at_call 43; (have z7 := d6); (refine (P _ _ t6).mono ?_); (rintro e w7 ⟨g7, a7, l7, c7, a7', l7', c7', rfl, t7, b7⟩); (have d7 := Mo.bel' d6 b7); (have x7_0 := (K.grow d7).c0); (have x7_1 := (K.grow d7).c1); (have x7_2 := (K.grow d7).c2))
    | (go_at_call 42; (have z6 := d5); (refine (AD _ _ _ t5 (tv.grow d5)).mono ?_); (rintro e w6 ⟨g6, a6, l6, c6, a6', l6', c6', rfl, t6, b6⟩); (have d6 := Mo.bel' d5 b6); (have x6_0 := (K.grow d6).c0); (have x6_1 := (K.grow d6).c1); (have x6_2 := (K.grow d6).c2))
    | (go_at_call 41; (refine (O2 _).mono ?_); (rintro e w5 ⟨g5, a5, l5, c5, a5', l5', c5', rfl, t5, b5⟩); (have d5 := Mo.undrew b5); (have x5_0 := (K.grow d5).c0); (have x5_1 := (K.grow d5).c1); (have x5_2 := (K.grow d5).c2))
    | fail)
  go_wp2_with fail
  have pX := bel' p4 d10
  have KE := bput (bput KX 0 (.string s)) 1 (.string t)
  have bE := (pX.setCell (p := ⟨w.heap.size, 0, none⟩) (Nat.le_refl _) (.string s)).setCell (p := ⟨w.heap.size, 1, none⟩) (Nat.le_refl _) (.string t)
  generalize (World.setCell (World.setCell _ ⟨w.heap.size, 0, none⟩ (.string s)) ⟨w.heap.size, 1, none⟩ (.string t)) = WE at *
  have z0 := KE.at 0
  have z1 := KE.at 1
  simp at z0 z1
  exact bodyPost_ret (v := .tuple #[.agg #[.string s, .string t], .int .i64 er]) (by simp [results, Tryz.results13, go_sem, z0, z1]) rfl ⟨rfl, bE⟩
end Go.Proofs.YtiaeoknmgidehaaGreatDoor.Mo
