import Derived.Test.YtejfnplhimfchaaGreatDoorPart49
import Derived.Test.YtejfnplhimfchaaGreatDoorPart48

namespace Go.Proofs.YtejfnplhimfchaaGreatDoor.Mo
open Go.RowKit Dc

set_option maxRecDepth 100000 in
set_option maxHeartbeats 800000 in
theorem MStep_a (p s k : Int) (w : World) (hp : isA p = false) :
    Calls Tryz.prog 9 #[.int .i64 p, .int .i64 s, .int .i64 k] w fun e w' => e = .returned (.tuple #[.int .i64 0, .int .i64 6]) ∧ Below w.heap.size w w' := by
  have IA := fun x => isAmount_any p x
  simp only [hp] at IA
  go_enter Tryz.func9, Tryz.ntmps9
  go_wp2_with (first
    | (go_at_call 16; refine (IA _).mono ?_; rintro e w1 ⟨rfl, hw⟩; subst w1)
    | fail)
  exact bodyPost_ret (v := .tuple #[.int .i64 0, .int .i64 6]) (by simp [results, Tryz.results9, go_sem]) rfl ⟨rfl, Below.refl _ _⟩
set_option maxRecDepth 100000 in
set_option maxHeartbeats 800000 in
theorem MStep_b (p s k : Int) (w : World) (hp : isA p = true) (hs : s < 1) :
    Calls Tryz.prog 9 #[.int .i64 p, .int .i64 s, .int .i64 k] w fun e w' => e = .returned (.tuple #[.int .i64 0, .int .i64 61]) ∧ Below w.heap.size w w' := by
  have IA := fun x => isAmount_any p x
  simp only [hp] at IA
  go_enter Tryz.func9, Tryz.ntmps9
  go_wp2_with (first
    | (go_at_call 16; refine (IA _).mono ?_; rintro e w1 ⟨rfl, hw⟩; subst w1)
    | fail)
  exact bodyPost_ret (v := .tuple #[.int .i64 0, .int .i64 61]) (by simp [results, Tryz.results9, go_sem]) rfl ⟨rfl, Below.refl _ _⟩
set_option maxRecDepth 100000 in
set_option maxHeartbeats 800000 in
theorem MStep_c (p s k : Int) (w : World) (hp : isA p = true) (hs : 1 ≤ s) (hk : (decide (1 ≤ k) && decide (k ≤ 6)) = false) :
    Calls Tryz.prog 9 #[.int .i64 p, .int .i64 s, .int .i64 k] w fun e w' => e = .returned (.tuple #[.int .i64 0, .int .i64 1]) ∧ Below w.heap.size w w' := by
  have IA := fun x => isAmount_any p x
  simp only [hp] at IA
  have IW := fun x => IsWay_any k x
  simp only [hk] at IW
  go_enter Tryz.func9, Tryz.ntmps9
  go_wp2_with (first
    | (go_at_call 16; refine (IA _).mono ?_; rintro e w1 ⟨rfl, hw⟩; subst w1)
    | (go_at_call 18; refine (IW _).mono ?_; rintro e w3 ⟨rfl, hw⟩; subst w3)
    | fail)
  exact bodyPost_ret (v := .tuple #[.int .i64 0, .int .i64 1]) (by simp [results, Tryz.results9, go_sem]) rfl ⟨rfl, Below.refl _ _⟩
set_option maxRecDepth 100000 in
set_option maxHeartbeats 1600000 in
theorem MStep_d (p s k u t M : Int) (q y : Rat) (w : World) (hp : isA p = true) (hs : 1 ≤ s) (hk : (decide (1 ≤ k) && decide (k ≤ 6)) = true)
    (OS : ∀ x, Calls Tryz.prog 20 #[.int .i64 s] x (Fa (s : Rat) x)) (OI : ∀ x, Calls Tryz.prog 20 #[.int .i64 p] x (Fa (p : Rat) x))
    (IV : ∀ x v, PF x v (s : Rat) → Calls Tryz.prog 26 #[v] x (Fa y x))
    (TM : ∀ x v1 v2, PF x v1 (p : Rat) → PF x v2 y → Calls Tryz.prog 21 #[v1, v2] x (Fa q x))
    (RN : ∀ x v, PF x v q → Calls Tryz.prog 22 #[v, .int .i64 k] x (Fa (M : Rat) x))
    (TS : ∀ x v1 v2, PF x v1 (M : Rat) → PF x v2 (s : Rat) → Calls Tryz.prog 21 #[v1, v2] x (Fa ((M * s : Int) : Rat) x))
    (PN : ∀ x v, PF x v ((M * s : Int) : Rat) → Calls Tryz.prog 19 #[v] x fun e w' => e = .returned (.tuple #[.int .i64 u, .int .i64 t]) ∧ Below x.heap.size x w') :
    Calls Tryz.prog 9 #[.int .i64 p, .int .i64 s, .int .i64 k] w fun e w' => e = .returned (.tuple #[.int .i64 u, .int .i64 t]) ∧ Below w.heap.size w w' := by
  have IA := fun x => isAmount_any p x
  simp only [hp] at IA
  have IW := fun x => IsWay_any k x
  simp only [hk] at IW
  go_enter Tryz.func9, Tryz.ntmps9
  go_wp2_with (first
    | (go_at_call 16; refine (IA _).mono ?_; rintro e w1 ⟨rfl, hw⟩; subst w1)
    | (go_at_call 18; refine (IW _).mono ?_; rintro e w3 ⟨rfl, hw⟩; subst w3)
    | (go_at_call 20; refine (OS _).mono ?_; rintro e w1 ⟨g, a, l, c, a', l', c', rfl, hf, b1⟩; have p1 := b1.alloc b1.size (.cells #[.bool g, .slice a l c, .slice a' l' c'] 50); have K := Rb.new w1 (.bool g) (.slice a l c) (.slice a' l' c') 50; have hf1 := hf.grow ((Below.refl w1.heap.size w1).alloc (Nat.le_refl _) (.cells #[.bool g, .slice a l c, .slice a' l' c'] 50)))
    | fail)
  generalize w1.heap.size = F at *
  generalize w1.alloc (.cells #[.bool g, .slice a l c, .slice a' l' c'] 50) = W at *
  have k0 := K.c0
  have k1 := K.c1
  have k2 := K.c2
  go_region_held3 (fun x => x.cell? ⟨F, 0, none⟩ = some (.bool g) ∧ x.cell? ⟨F, 1, none⟩ = some (.slice a l c) ∧ x.cell? ⟨F, 2, none⟩ = some (.slice a' l' c')) (go_keep) (first
    | (go_at_call 19; (have z := t5); refine (PN _ _ t5).mono ?_; rintro e w7 ⟨rfl, d7'⟩; have d7 := bel' d6 d7'; have z0 := (K.grow d7).c0; have z1 := (K.grow d7).c1; have z2 := (K.grow d7).c2)
    | (go_at_call 21; (have z := t4); refine (TS _ _ _ t4 (hf1.grow d5)).mono ?_; rintro e w6 ⟨g6, a6, l6, c6, a6', l6', c6', rfl, t5, d6'⟩; have d6 := bel' d5 d6'; have i0 := (K.grow d6).c0; have i1 := (K.grow d6).c1; have i2 := (K.grow d6).c2)
    | (go_at_call 22; (have z := t3); refine (RN _ _ t3).mono ?_; rintro e w5 ⟨g5, a5, l5, c5, a5', l5', c5', rfl, t4, d5'⟩; have d5 := bel' d4 d5'; have y0 := (K.grow d5).c0; have y1 := (K.grow d5).c1; have y2 := (K.grow d5).c2)
    | (go_at_call 21; (have z := t2); refine (TM _ _ _ (t1.grow d3') t2).mono ?_; rintro e w4 ⟨g4, a4, l4, c4, a4', l4', c4', rfl, t3, d4'⟩; have d4 := bel' d3 d4'; have x0 := (K.grow d4).c0; have x1 := (K.grow d4).c1; have x2 := (K.grow d4).c2)
    | (go_at_call 26; (have z := t1); refine (IV _ _ (hf1.grow d2)).mono ?_; rintro e w3 ⟨g3, a3, l3, c3, a3', l3', c3', rfl, t2, d3'⟩; have d3 := bel' d2 d3'; have v0 := (K.grow d3).c0; have v1 := (K.grow d3).c1; have v2 := (K.grow d3).c2)
    | (go_at_call 20; refine (OI _).mono ?_; rintro e w2 ⟨g2, a2, l2, c2, a2', l2', c2', rfl, t1, d2'⟩; have d2 := undrew d2'; have u0 := (K.grow d2).c0; have u1 := (K.grow d2).c1; have u2 := (K.grow d2).c2)
    | fail)
  go_wp2_with fail
  exact bodyPost_ret (v := .tuple #[.int .i64 u, .int .i64 t]) (by simp [results, Tryz.results9, go_sem]) rfl ⟨rfl, bel' p1 d7⟩
/-- What Step answers. -/
def mS (p s k : Int) : Value :=
  if isA p = false then .tuple #[.int .i64 0, .int .i64 6] else if s < 1 then .tuple #[.int .i64 0, .int .i64 61] else if (decide (1 ≤ k) && decide (k ≤ 6)) = false then .tuple #[.int .i64 0, .int .i64 1] else amt (L.rndQ k ((p : Rat) / (s : Rat)) * s)
theorem MStep_any (p s k : Int) (w : World) (s1 : s ≤ 9223372036854775807) :
    Calls Tryz.prog 9 #[.int .i64 p, .int .i64 s, .int .i64 k] w fun e w' => e = .returned (mS p s k) ∧ Below w.heap.size w w' := by
  unfold mS
  cases hp : isA p with
  | false => rw [if_pos rfl]; exact MStep_a p s k w hp
  | true =>
    rw [if_neg (by decide)]
    by_cases hs : s < 1
    · rw [if_pos hs]; exact MStep_b p s k w hp hs
    · rw [if_neg hs]
      cases hk : (decide (1 ≤ k) && decide (k ≤ 6)) with
      | false => rw [if_pos rfl]; exact MStep_c p s k w hp (by omega) hk
      | true =>
        rw [if_neg (by decide)]
        have k' := hk
        simp only [Bool.and_eq_true, decide_eq_true_eq] at k'
        have hp' := isA_iff.1 hp
        obtain ⟨u, t, e⟩ := amt_two (L.rndQ k ((p : Rat) / (s : Rat)) * s)
        rw [e]
        have s0 : (s : Rat) ≠ 0 := by simp; omega
        have a1 : PS (p : Rat) 1 := int_ps p (by omega)
        have a2 : PS (s : Rat) 1 := int_ps s (by omega)
        have a3 := inv_ps a2 s0
        have a4 := mul_ps a1 a3
        have a5 := rnd_ps a4 k'.1 k'.2
        rw [← Rat.div_def] at a4 a5
        have a6 := mul_ps a5 a2
        rw [← Rat.intCast_mul] at a6
        refine MStep_d p s k u t _ ((p : Rat) / (s : Rat)) ((s : Rat)⁻¹) w hp (by omega) hk (fun x => fa_of (OfInt_p s x (by omega) (by omega))) (fun x => fa_of (OfInt_p p x (by omega) (by omega))) (fun x v h => fa_of (Inverse_p v _ x h s0)) (fun x v1 v2 h1 h2 => ?_) (fun x v h => fa_of (Round_p v _ k _ x h a4 (by omega) k'.1 k'.2)) (fun x v1 v2 h1 h2 => ?_) (fun x v h => ?_)
        · rw [Rat.div_def]
          exact fa_of (Times_p v1 v2 _ _ 1 1 x h1 h2 a1 a3 (by unfold MulOK; omega))
        · rw [Rat.intCast_mul]
          exact fa_of (Times_p v1 v2 _ _ _ 1 x h1 h2 a5 a2 (by unfold MulOK; omega))
        · have := pennies_p v _ _ x h a6 (by omega)
          rw [e] at this
          exact this
end Go.Proofs.YtejfnplhimfchaaGreatDoor.Mo

namespace Go.Proofs.YtejfnplhimfchaaGreatDoor.Mo
open Go.RowKit Dc

set_option maxRecDepth 100000 in
theorem Mode_any (k : Int) (w : World) : Calls Tryz.prog 12 #[.int .i64 k] w fun e w' => e = .returned (.bool (decide (1 ≤ k) && decide (k ≤ 6))) ∧ w' = w := by
  by_cases h1 : 1 ≤ k <;> by_cases h2 : k ≤ 6
  all_goals
    go_enter Tryz.func12, Tryz.ntmps12
    go_wp2
    go_ret
    exact ⟨by simp [h1, h2], rfl⟩
/-- A number of the reference's is answered. -/
def Qf (r : Rat) (x : World) (e : Ending) (w' : World) : Prop := ∃ g a l c a' l' c', e = .returned (.agg #[.bool g, .slice a l c, .slice a' l' c']) ∧ L.IsQ w' (.agg #[.bool g, .slice a l c, .slice a' l' c']) r ∧ Below x.heap.size x w'
theorem qf_of {P : Program} {f : Nat} {args : Array Value} {r : Rat} {x : World} (h : Calls P f args x fun e w' => ∃ v, e = .returned v ∧ L.IsQ w' v r ∧ Below x.heap.size x w') : Calls P f args x (Qf r x) := by
  refine h.mono ?_
  rintro e w' ⟨v, rfl, hq, b⟩
  obtain ⟨g, a, l, c, a', l', c', rfl, _⟩ := L.isq_form hq
  exact ⟨g, a, l, c, a', l', c', rfl, hq, b⟩
set_option maxRecDepth 100000 in
set_option maxHeartbeats 800000 in
theorem QInt_raw (g ok : Bool) (a a' : Option Addr) (l c l' c' : Nat) (U V : Int) (w : World) (hV : V = if g = true then -U else U) (hw : IntKind.i64.wrap (-U) = -U)
    (CM : ∀ x b, Below w.heap.size w x → x.cell? ⟨b, 0, none⟩ = some (.int .i64 1) → Calls Tryz.prog 31 #[.slice a' l' c', .slice (some ⟨b, 0, none⟩) 1 1] x fun e w' => e = .returned (.int .i64 0) ∧ Below x.heap.size x w')
    (NI : ∀ x, Below w.heap.size w x → Calls Tryz.prog 63 #[.slice a l c] x fun e w' => e = .returned (.tuple #[.int .i64 U, .bool ok]) ∧ w' = x) :
    Calls Tryz.prog 32 #[.agg #[.bool g, .slice a l c, .slice a' l' c']] w fun e w' => e = .returned (.tuple #[.int .i64 V, .bool ok]) ∧ Below w.heap.size w w' := by
  have K := Rb.new w (.bool g) (.slice a l c) (.slice a' l' c') 43
  have pr : Below w.heap.size w (w.alloc (.cells #[.bool g, .slice a l c, .slice a' l' c'] 43)) := (Below.refl _ _).alloc (Nat.le_refl _) _
  subst hV
  cases g
  all_goals
    go_enter Tryz.func32, Tryz.ntmps32
    go_wp2_with (first
      | (go_at_call 31; refine (CM _ _ (pr.alloc pr.size _) (by simp)).mono ?_; rintro e w1 ⟨rfl, b1⟩; have p1 := bel' (pr.alloc pr.size (.cells #[.int .i64 1] 3)) b1; have KK := (K.grow ((Below.refl _ _).alloc (Nat.le_refl _) (.cells #[.int .i64 1] 3))).grow b1; have k0 := KK.c0; have k1 := KK.c1)
      | (go_at_call 63; refine (NI _ p1).mono ?_; rintro e w3 ⟨rfl, hw3⟩; subst w3)
      | fail)
    exact bodyPost_ret (v := .tuple #[.int .i64 _, .bool ok]) (by simp [results, Tryz.results32, go_sem]) rfl ⟨rfl, p1⟩
set_option maxRecDepth 100000 in
set_option maxHeartbeats 800000 in
theorem RPennies_raw (g ok : Bool) (a a' : Option Addr) (l c l' c' : Nat) (V : Int) (w : World) (QI : ∀ x, Below w.heap.size w x → Calls Tryz.prog 32 #[.agg #[.bool g, .slice a l c, .slice a' l' c']] x fun e w' => e = .returned (.tuple #[.int .i64 V, .bool ok]) ∧ Below x.heap.size x w') :
    Calls Tryz.prog 13 #[.agg #[.bool g, .slice a l c, .slice a' l' c']] w fun e w' => e = .returned (if (ok && isA V) = true then .tuple #[.int .i64 V, .int .i64 0] else .tuple #[.int .i64 0, .int .i64 6]) ∧ Below w.heap.size w w' := by
  have K := Rb.new w (.bool g) (.slice a l c) (.slice a' l' c') 43
  have pr : Below w.heap.size w (w.alloc (.cells #[.bool g, .slice a l c, .slice a' l' c'] 43)) := (Below.refl _ _).alloc (Nat.le_refl _) _
  have IA := fun x => Is_any V x
  generalize isA V = i at *
  cases ok with
  | false =>
    rw [Bool.false_and, if_neg (by decide)]
    go_enter Tryz.func13, Tryz.ntmps13
    go_wp2_with (first
      | (go_at_call 32; refine (QI _ pr).mono ?_; rintro e w1 ⟨rfl, b1⟩; have p1 := bel' pr b1)
      | fail)
    exact bodyPost_ret (v := .tuple #[.int .i64 0, .int .i64 6]) (by simp [results, Tryz.results13, go_sem]) rfl ⟨rfl, p1⟩
  | true =>
    cases i with
    | false =>
      rw [Bool.and_false, if_neg (by decide)]
      go_enter Tryz.func13, Tryz.ntmps13
      go_wp2_with (first
        | (go_at_call 32; refine (QI _ pr).mono ?_; rintro e w1 ⟨rfl, b1⟩; have p1 := bel' pr b1)
        | (go_at_call 23; refine (IA _).mono ?_; rintro e w3 ⟨rfl, hw3⟩; subst w3)
        | fail)
      exact bodyPost_ret (v := .tuple #[.int .i64 0, .int .i64 6]) (by simp [results, Tryz.results13, go_sem]) rfl ⟨rfl, p1⟩
    | true =>
      rw [Bool.true_and, if_pos rfl]
      go_enter Tryz.func13, Tryz.ntmps13
      go_wp2_with (first
        | (go_at_call 32; refine (QI _ pr).mono ?_; rintro e w1 ⟨rfl, b1⟩; have p1 := bel' pr b1)
        | (go_at_call 23; refine (IA _).mono ?_; rintro e w3 ⟨rfl, hw3⟩; subst w3)
        | fail)
      exact bodyPost_ret (v := .tuple #[.int .i64 V, .int .i64 0]) (by simp [results, Tryz.results13, go_sem]) rfl ⟨rfl, p1⟩
set_option maxRecDepth 100000 in
theorem RPennies_q (v : Value) (n : Int) (K : Nat) (w : World) (h : L.IsQ w v (n : Rat)) (s : L.QS (n : Rat) K) (hK : K ≤ 1000000) :
    Calls Tryz.prog 13 #[v] w fun e w' => e = .returned (amt n) ∧ Below w.heap.size w w' := by
  have nM : ((n : Int) : Rat).num = n := rfl
  have dM : ((n : Int) : Rat).den = 1 := rfl
  obtain ⟨xs, ys, a, a', c, c', rfl, r1, n1, v1, r2, n2, v2⟩ := h
  rw [nM] at v1
  rw [dM] at v2
  have s1 := s.1
  rw [nM, ← v1] at s1
  have lx : xs.length ≤ K := by
    have := L.len_of_lt r1.1 n1 s1
    omega
  have ly : ys.length ≤ 1 := by
    have := L.len_of_lt (K := 1) r2.1 n2 (by rw [v2]; decide)
    omega
  have v0 := Tl.val_nonneg r1.1
  obtain ⟨U, hU⟩ : ∃ U, (if Tl.val xs < 4611686018427387904 then Tl.val xs else 0) = U := ⟨_, rfl⟩
  obtain ⟨ok, ho⟩ : ∃ ok, decide (Tl.val xs < 4611686018427387904) = ok := ⟨_, rfl⟩
  have Ub : 0 ≤ U ∧ U < 4611686018427387904 := by rw [← hU]; split <;> omega
  have hw : IntKind.i64.wrap (-U) = -U := wrapI _ (by omega) (by omega)
  have NI : ∀ x, Below w.heap.size w x → Calls Tryz.prog 63 #[.slice a xs.length c] x fun e w' => e = .returned (.tuple #[.int .i64 U, .bool ok]) ∧ w' = x := fun x b => by
    have := L.NInt_any _ xs x (r1.grow b) n1 (by omega)
    rw [hU, ho] at this
    exact this
  have CM : ∀ x b, Below w.heap.size w x → x.cell? ⟨b, 0, none⟩ = some (.int .i64 1) → Calls Tryz.prog 31 #[.slice a' ys.length c', .slice (some ⟨b, 0, none⟩) 1 1] x fun e w' => e = .returned (.int .i64 0) ∧ Below x.heap.size x w' := fun x b bb k => by
    have := L.Cmp_any _ _ ys [1] x (r2.grow bb) (L.rd_one (c := 1) k (by omega) (by omega)) n2 L.nm_one (by omega)
    rw [v2, show L.cmp3 ((1 : Nat) : Int) (Tl.val [1]) = 0 by decide] at this
    exact this
  have QI := fun x (b : Below w.heap.size w x) => QInt_raw (decide (((n : Int) : Rat).num < 0)) ok a a' xs.length c ys.length c' U (if decide (((n : Int) : Rat).num < 0) = true then -U else U) x rfl hw (fun y i bb => CM y i (bel' b bb)) (fun y bb => NI y (bel' b bb))
  refine (RPennies_raw _ ok a a' _ _ _ _ _ w QI).mono ?_
  rintro e w' ⟨rfl, b⟩
  refine ⟨?_, b⟩
  congr 1
  rw [nM]
  unfold amt isA
  by_cases k : Tl.val xs < 4611686018427387904
  · rw [if_pos k] at hU
    rw [decide_eq_true k] at ho
    subst ho
    have e : (if decide (n < 0) = true then -U else U) = n := by
      by_cases g : n < 0
      · rw [decide_eq_true g, if_pos rfl]; omega
      · rw [decide_eq_false g, if_neg (by decide)]; omega
    rw [e, Bool.true_and]
    simp only [decide_eq_true_eq]
  · rw [decide_eq_false k] at ho
    subst ho
    rw [Bool.false_and, if_neg (by decide), if_neg (by omega)]
end Go.Proofs.YtejfnplhimfchaaGreatDoor.Mo

namespace Go.Proofs.YtejfnplhimfchaaGreatDoor.Mo
open Go.RowKit Dc

set_option maxRecDepth 100000 in
set_option maxHeartbeats 1600000 in
theorem RAmount_b (n d : ByteArray) (k E : Int) (w : World) (hE : (E != 0) = true) (GE : ∀ x, Calls Tryz.prog 11 #[.agg #[.string n, .string d]] x fun e w' => e = .returned (.int .i64 E) ∧ Below x.heap.size x w') :
    Calls Tryz.prog 6 #[.agg #[.string n, .string d], .int .i64 k] w fun e w' => e = .returned (.tuple #[.int .i64 0, .int .i64 E]) ∧ Below w.heap.size w w' := by
  have K0 := Blk.new w #[.string n, .string d] 23
  have pr : Below w.heap.size w (w.alloc (.cells #[.string n, .string d] 23)) := (Below.refl _ _).alloc (Nat.le_refl _) _
  go_enter Tryz.func6, Tryz.ntmps6
  go_wp2_with (first
    | (go_at_call 11; refine (GE _).mono ?_; rintro e w1 ⟨rfl, b1⟩; have p1 := bel' pr b1; have K1 := K0.below b1 K0.lt; have k0 : w1.cell? ⟨w.heap.size, 0, none⟩ = some (.string n) := K1.at 0; have k1 : w1.cell? ⟨w.heap.size, 1, none⟩ = some (.string d) := K1.at 1)
    | fail)
  exact bodyPost_ret (v := .tuple #[.int .i64 0, .int .i64 E]) (by simp [results, Tryz.results6, go_sem]) rfl ⟨rfl, p1⟩
set_option maxRecDepth 100000 in
set_option maxHeartbeats 1600000 in
theorem RAmount_c (n d : ByteArray) (k : Int) (w : World) (hk : (decide (1 ≤ k) && decide (k ≤ 6)) = false) (GE : ∀ x, Calls Tryz.prog 11 #[.agg #[.string n, .string d]] x fun e w' => e = .returned (.int .i64 0) ∧ Below x.heap.size x w') :
    Calls Tryz.prog 6 #[.agg #[.string n, .string d], .int .i64 k] w fun e w' => e = .returned (.tuple #[.int .i64 0, .int .i64 1]) ∧ Below w.heap.size w w' := by
  have MO := fun x => Mode_any k x
  simp only [hk] at MO
  have K0 := Blk.new w #[.string n, .string d] 23
  have pr : Below w.heap.size w (w.alloc (.cells #[.string n, .string d] 23)) := (Below.refl _ _).alloc (Nat.le_refl _) _
  go_enter Tryz.func6, Tryz.ntmps6
  go_wp2_with (first
    | (go_at_call 11; refine (GE _).mono ?_; rintro e w1 ⟨rfl, b1⟩; have p1 := bel' pr b1; have K1 := K0.below b1 K0.lt; have k0 : w1.cell? ⟨w.heap.size, 0, none⟩ = some (.string n) := K1.at 0; have k1 : w1.cell? ⟨w.heap.size, 1, none⟩ = some (.string d) := K1.at 1)
    | (go_at_call 12; refine (MO _).mono ?_; rintro e w9 ⟨rfl, hw9⟩; subst w9)
    | fail)
  exact bodyPost_ret (v := .tuple #[.int .i64 0, .int .i64 1]) (by simp [results, Tryz.results6, go_sem]) rfl ⟨rfl, p1⟩
set_option maxRecDepth 100000 in
set_option maxHeartbeats 1600000 in
theorem RAmount_d (n d : ByteArray) (k u t M : Int) (q : Rat) (w : World) (hk : (decide (1 ≤ k) && decide (k ≤ 6)) = true) (GE : ∀ x, Calls Tryz.prog 11 #[.agg #[.string n, .string d]] x fun e w' => e = .returned (.int .i64 0) ∧ Below x.heap.size x w') (IN : ∀ x, Calls Tryz.prog 14 #[.agg #[.string n, .string d]] x (Qf q x)) (RN : ∀ x v, L.IsQ x v q → Calls Tryz.prog 15 #[v, .int .i64 k] x (Qf (M : Rat) x)) (PN : ∀ x v, L.IsQ x v (M : Rat) → Calls Tryz.prog 13 #[v] x fun e w' => e = .returned (.tuple #[.int .i64 u, .int .i64 t]) ∧ Below x.heap.size x w') :
    Calls Tryz.prog 6 #[.agg #[.string n, .string d], .int .i64 k] w fun e w' => e = .returned (.tuple #[.int .i64 u, .int .i64 t]) ∧ Below w.heap.size w w' := by
  have MO := fun x => Mode_any k x
  simp only [hk] at MO
  have K0 := Blk.new w #[.string n, .string d] 23
  have pr : Below w.heap.size w (w.alloc (.cells #[.string n, .string d] 23)) := (Below.refl _ _).alloc (Nat.le_refl _) _
  go_enter Tryz.func6, Tryz.ntmps6
  go_wp2_with (first
    | (go_at_call 11; refine (GE _).mono ?_; rintro e w1 ⟨rfl, b1⟩; have p1 := bel' pr b1; have K1 := K0.below b1 K0.lt; have k0 : w1.cell? ⟨w.heap.size, 0, none⟩ = some (.string n) := K1.at 0; have k1 : w1.cell? ⟨w.heap.size, 1, none⟩ = some (.string d) := K1.at 1)
    | (go_at_call 12; refine (MO _).mono ?_; rintro e w9 ⟨rfl, hw9⟩; subst w9)
    | (go_at_call 13; (have z := t2); refine (PN _ _ t2).mono ?_; rintro e w4 ⟨rfl, b4⟩; have p4 := bel' p3 b4)
    | (go_at_call 15; (have z := t1); refine (RN _ _ t1).mono ?_; rintro e w3 ⟨g3, a3, l3, c3, a3', l3', c3', rfl, t2, b3⟩; have p3 := bel' p2 b3)
    | (go_at_call 14; refine (IN _).mono ?_; rintro e w2 ⟨g2, a2, l2, c2, a2', l2', c2', rfl, t1, b2⟩; have p2 := bel' p1 b2)
    | fail)
  exact bodyPost_ret (v := .tuple #[.int .i64 u, .int .i64 t]) (by simp [results, Tryz.results6, go_sem]) rfl ⟨rfl, p4⟩
set_option maxRecDepth 100000 in
set_option maxHeartbeats 1600000 in
theorem RTimes_a (n d : ByteArray) (p k : Int) (w : World) (hp : isA p = false) :
    Calls Tryz.prog 8 #[.int .i64 p, .agg #[.string n, .string d], .int .i64 k] w fun e w' => e = .returned (.tuple #[.int .i64 0, .int .i64 6]) ∧ Below w.heap.size w w' := by
  have IA := fun x => Is_any p x
  simp only [hp] at IA
  have pr : Below w.heap.size w (w.alloc (.cells #[.string n, .string d] 23)) := (Below.refl _ _).alloc (Nat.le_refl _) _
  go_enter Tryz.func8, Tryz.ntmps8
  go_wp2_with (first
    | (go_at_call 23; refine (IA _).mono ?_; rintro e w8 ⟨rfl, hw8⟩; subst w8)
    | fail)
  exact bodyPost_ret (v := .tuple #[.int .i64 0, .int .i64 6]) (by simp [results, Tryz.results8, go_sem]) rfl ⟨rfl, pr⟩
set_option maxRecDepth 100000 in
set_option maxHeartbeats 1600000 in
theorem RTimes_b (n d : ByteArray) (p k E : Int) (w : World) (hp : isA p = true) (hE : (E != 0) = true) (GE : ∀ x, Calls Tryz.prog 11 #[.agg #[.string n, .string d]] x fun e w' => e = .returned (.int .i64 E) ∧ Below x.heap.size x w') :
    Calls Tryz.prog 8 #[.int .i64 p, .agg #[.string n, .string d], .int .i64 k] w fun e w' => e = .returned (.tuple #[.int .i64 0, .int .i64 E]) ∧ Below w.heap.size w w' := by
  have IA := fun x => Is_any p x
  simp only [hp] at IA
  have K0 := Blk.new w #[.string n, .string d] 23
  have pr : Below w.heap.size w (w.alloc (.cells #[.string n, .string d] 23)) := (Below.refl _ _).alloc (Nat.le_refl _) _
  go_enter Tryz.func8, Tryz.ntmps8
  go_wp2_with (first
    | (go_at_call 23; refine (IA _).mono ?_; rintro e w8 ⟨rfl, hw8⟩; subst w8)
    | (go_at_call 11; refine (GE _).mono ?_; rintro e w1 ⟨rfl, b1⟩; have p1 := bel' pr b1; have K1 := K0.below b1 K0.lt; have k0 : w1.cell? ⟨w.heap.size, 0, none⟩ = some (.string n) := K1.at 0; have k1 : w1.cell? ⟨w.heap.size, 1, none⟩ = some (.string d) := K1.at 1)
    | fail)
  exact bodyPost_ret (v := .tuple #[.int .i64 0, .int .i64 E]) (by simp [results, Tryz.results8, go_sem]) rfl ⟨rfl, p1⟩
set_option maxRecDepth 100000 in
set_option maxHeartbeats 1600000 in
theorem RTimes_c (n d : ByteArray) (p k : Int) (w : World) (hp : isA p = true) (hk : (decide (1 ≤ k) && decide (k ≤ 6)) = false) (GE : ∀ x, Calls Tryz.prog 11 #[.agg #[.string n, .string d]] x fun e w' => e = .returned (.int .i64 0) ∧ Below x.heap.size x w') :
    Calls Tryz.prog 8 #[.int .i64 p, .agg #[.string n, .string d], .int .i64 k] w fun e w' => e = .returned (.tuple #[.int .i64 0, .int .i64 1]) ∧ Below w.heap.size w w' := by
  have IA := fun x => Is_any p x
  simp only [hp] at IA
  have MO := fun x => Mode_any k x
  simp only [hk] at MO
  have K0 := Blk.new w #[.string n, .string d] 23
  have pr : Below w.heap.size w (w.alloc (.cells #[.string n, .string d] 23)) := (Below.refl _ _).alloc (Nat.le_refl _) _
  go_enter Tryz.func8, Tryz.ntmps8
  go_wp2_with (first
    | (go_at_call 23; refine (IA _).mono ?_; rintro e w8 ⟨rfl, hw8⟩; subst w8)
    | (go_at_call 11; refine (GE _).mono ?_; rintro e w1 ⟨rfl, b1⟩; have p1 := bel' pr b1; have K1 := K0.below b1 K0.lt; have k0 : w1.cell? ⟨w.heap.size, 0, none⟩ = some (.string n) := K1.at 0; have k1 : w1.cell? ⟨w.heap.size, 1, none⟩ = some (.string d) := K1.at 1)
    | (go_at_call 12; refine (MO _).mono ?_; rintro e w9 ⟨rfl, hw9⟩; subst w9)
    | fail)
  exact bodyPost_ret (v := .tuple #[.int .i64 0, .int .i64 1]) (by simp [results, Tryz.results8, go_sem]) rfl ⟨rfl, p1⟩
set_option maxRecDepth 100000 in
set_option maxHeartbeats 1600000 in
theorem RTimes_d (n d : ByteArray) (p k u t M : Int) (q r : Rat) (w : World) (hp : isA p = true) (hk : (decide (1 ≤ k) && decide (k ≤ 6)) = true) (GE : ∀ x, Calls Tryz.prog 11 #[.agg #[.string n, .string d]] x fun e w' => e = .returned (.int .i64 0) ∧ Below x.heap.size x w') (IN : ∀ x, Calls Tryz.prog 14 #[.agg #[.string n, .string d]] x (Qf r x)) (OI : ∀ x, Calls Tryz.prog 24 #[.int .i64 p] x (Qf (p : Rat) x))
    (TM : ∀ x v1 v2, L.IsQ x v1 (p : Rat) → L.IsQ x v2 r → Calls Tryz.prog 25 #[v1, v2] x (Qf q x)) (RN : ∀ x v, L.IsQ x v q → Calls Tryz.prog 15 #[v, .int .i64 k] x (Qf (M : Rat) x)) (PN : ∀ x v, L.IsQ x v (M : Rat) → Calls Tryz.prog 13 #[v] x fun e w' => e = .returned (.tuple #[.int .i64 u, .int .i64 t]) ∧ Below x.heap.size x w') :
    Calls Tryz.prog 8 #[.int .i64 p, .agg #[.string n, .string d], .int .i64 k] w fun e w' => e = .returned (.tuple #[.int .i64 u, .int .i64 t]) ∧ Below w.heap.size w w' := by
  have IA := fun x => Is_any p x
  simp only [hp] at IA
  have MO := fun x => Mode_any k x
  simp only [hk] at MO
  have K0 := Blk.new w #[.string n, .string d] 23
  have pr : Below w.heap.size w (w.alloc (.cells #[.string n, .string d] 23)) := (Below.refl _ _).alloc (Nat.le_refl _) _
  go_enter Tryz.func8, Tryz.ntmps8
  go_wp2_with (first
    | (go_at_call 23; refine (IA _).mono ?_; rintro e w8 ⟨rfl, hw8⟩; subst w8)
    | (go_at_call 11; refine (GE _).mono ?_; rintro e w1 ⟨rfl, b1⟩; have p1 := bel' pr b1; have K1 := K0.below b1 K0.lt; have k0 : w1.cell? ⟨w.heap.size, 0, none⟩ = some (.string n) := K1.at 0; have k1 : w1.cell? ⟨w.heap.size, 1, none⟩ = some (.string d) := K1.at 1)
    | (go_at_call 12; refine (MO _).mono ?_; rintro e w9 ⟨rfl, hw9⟩; subst w9)
    | fail)
  go_region_held3 (fun x => x.cell? ⟨w.heap.size, 0, none⟩ = some (.string n) ∧ x.cell? ⟨w.heap.size, 1, none⟩ = some (.string d)) (go_keep) (first
    | (go_at_call 13; (have z := t4); refine (PN _ _ t4).mono ?_; rintro e w6 ⟨rfl, d6'⟩; have d6 := bel' d5 d6'; have z0 : w6.cell? ⟨w.heap.size, 0, none⟩ = some (.string n) := (K1.below d6 K1.lt).at 0; have z1 : w6.cell? ⟨w.heap.size, 1, none⟩ = some (.string d) := (K1.below d6 K1.lt).at 1)
    | (go_at_call 15; (have z := t3); refine (RN _ _ t3).mono ?_; rintro e w5 ⟨g5, a5, l5, c5, a5', l5', c5', rfl, t4, d5'⟩; have d5 := bel' d4 d5'; have y0 : w5.cell? ⟨w.heap.size, 0, none⟩ = some (.string n) := (K1.below d5 K1.lt).at 0; have y1 : w5.cell? ⟨w.heap.size, 1, none⟩ = some (.string d) := (K1.below d5 K1.lt).at 1)
    | (go_at_call 25; (have z := t2); refine (TM _ _ _ (t1.grow d3') t2).mono ?_; rintro e w4 ⟨g4, a4, l4, c4, a4', l4', c4', rfl, t3, d4'⟩; have d4 := bel' d3 d4'; have x0 : w4.cell? ⟨w.heap.size, 0, none⟩ = some (.string n) := (K1.below d4 K1.lt).at 0; have x1 : w4.cell? ⟨w.heap.size, 1, none⟩ = some (.string d) := (K1.below d4 K1.lt).at 1)
    | (go_at_call 14; (have z := t1); refine (IN _).mono ?_; rintro e w3 ⟨g3, a3, l3, c3, a3', l3', c3', rfl, t2, d3'⟩; have d3 := bel' d2 d3'; have v0 : w3.cell? ⟨w.heap.size, 0, none⟩ = some (.string n) := (K1.below d3 K1.lt).at 0; have v1 : w3.cell? ⟨w.heap.size, 1, none⟩ = some (.string d) := (K1.below d3 K1.lt).at 1)
    | (go_at_call 24; refine (OI _).mono ?_; rintro e w2 ⟨g2, a2, l2, c2, a2', l2', c2', rfl, t1, d2'⟩; have d2 := undrew d2'; have u0 : w2.cell? ⟨w.heap.size, 0, none⟩ = some (.string n) := (K1.below d2 K1.lt).at 0; have u1 : w2.cell? ⟨w.heap.size, 1, none⟩ = some (.string d) := (K1.below d2 K1.lt).at 1)
    | fail)
  go_wp2_with fail
  exact bodyPost_ret (v := .tuple #[.int .i64 u, .int .i64 t]) (by simp [results, Tryz.results8, go_sem]) rfl ⟨rfl, bel' p1 d6⟩
set_option maxRecDepth 100000 in
set_option maxHeartbeats 1600000 in
theorem RStep_a (p s k : Int) (w : World) (hp : isA p = false) :
    Calls Tryz.prog 10 #[.int .i64 p, .int .i64 s, .int .i64 k] w fun e w' => e = .returned (.tuple #[.int .i64 0, .int .i64 6]) ∧ Below w.heap.size w w' := by
  have IA := fun x => Is_any p x
  simp only [hp] at IA
  go_enter Tryz.func10, Tryz.ntmps10
  go_wp2_with (first
    | (go_at_call 23; refine (IA _).mono ?_; rintro e w8 ⟨rfl, hw8⟩; subst w8)
    | fail)
  exact bodyPost_ret (v := .tuple #[.int .i64 0, .int .i64 6]) (by simp [results, Tryz.results10, go_sem]) rfl ⟨rfl, Below.refl _ _⟩
set_option maxRecDepth 100000 in
set_option maxHeartbeats 1600000 in
theorem RStep_b (p s k : Int) (w : World) (hp : isA p = true) (hs : s < 1) :
    Calls Tryz.prog 10 #[.int .i64 p, .int .i64 s, .int .i64 k] w fun e w' => e = .returned (.tuple #[.int .i64 0, .int .i64 61]) ∧ Below w.heap.size w w' := by
  have IA := fun x => Is_any p x
  simp only [hp] at IA
  go_enter Tryz.func10, Tryz.ntmps10
  go_wp2_with (first
    | (go_at_call 23; refine (IA _).mono ?_; rintro e w8 ⟨rfl, hw8⟩; subst w8)
    | fail)
  exact bodyPost_ret (v := .tuple #[.int .i64 0, .int .i64 61]) (by simp [results, Tryz.results10, go_sem]) rfl ⟨rfl, Below.refl _ _⟩
set_option maxRecDepth 100000 in
set_option maxHeartbeats 1600000 in
theorem RStep_c (p s k : Int) (w : World) (hp : isA p = true) (hs : 1 ≤ s) (hk : (decide (1 ≤ k) && decide (k ≤ 6)) = false) :
    Calls Tryz.prog 10 #[.int .i64 p, .int .i64 s, .int .i64 k] w fun e w' => e = .returned (.tuple #[.int .i64 0, .int .i64 1]) ∧ Below w.heap.size w w' := by
  have IA := fun x => Is_any p x
  simp only [hp] at IA
  have MO := fun x => Mode_any k x
  simp only [hk] at MO
  go_enter Tryz.func10, Tryz.ntmps10
  go_wp2_with (first
    | (go_at_call 23; refine (IA _).mono ?_; rintro e w8 ⟨rfl, hw8⟩; subst w8)
    | (go_at_call 12; refine (MO _).mono ?_; rintro e w9 ⟨rfl, hw9⟩; subst w9)
    | fail)
  exact bodyPost_ret (v := .tuple #[.int .i64 0, .int .i64 1]) (by simp [results, Tryz.results10, go_sem]) rfl ⟨rfl, Below.refl _ _⟩
set_option maxRecDepth 100000 in
set_option maxHeartbeats 1600000 in
theorem RStep_d (p s k u t M : Int) (q : Rat) (w : World) (hp : isA p = true) (hs : 1 ≤ s) (hk : (decide (1 ≤ k) && decide (k ≤ 6)) = true) (OS : ∀ x, Calls Tryz.prog 24 #[.int .i64 s] x (Qf (s : Rat) x)) (FR : ∀ x, Calls Tryz.prog 27 #[.int .i64 p, .int .i64 s] x (Qf q x))
    (RN : ∀ x v, L.IsQ x v q → Calls Tryz.prog 15 #[v, .int .i64 k] x (Qf (M : Rat) x)) (TS : ∀ x v1 v2, L.IsQ x v1 (s : Rat) → L.IsQ x v2 (M : Rat) → Calls Tryz.prog 25 #[v1, v2] x (Qf ((M * s : Int) : Rat) x)) (PN : ∀ x v, L.IsQ x v ((M * s : Int) : Rat) → Calls Tryz.prog 13 #[v] x fun e w' => e = .returned (.tuple #[.int .i64 u, .int .i64 t]) ∧ Below x.heap.size x w') :
    Calls Tryz.prog 10 #[.int .i64 p, .int .i64 s, .int .i64 k] w fun e w' => e = .returned (.tuple #[.int .i64 u, .int .i64 t]) ∧ Below w.heap.size w w' := by
  have IA := fun x => Is_any p x
  simp only [hp] at IA
  have MO := fun x => Mode_any k x
  simp only [hk] at MO
  go_enter Tryz.func10, Tryz.ntmps10
  go_wp2_with (first
    | (go_at_call 23; refine (IA _).mono ?_; rintro e w8 ⟨rfl, hw8⟩; subst w8)
    | (go_at_call 12; refine (MO _).mono ?_; rintro e w9 ⟨rfl, hw9⟩; subst w9)
    | (go_at_call 13; (have z := t4); refine (PN _ _ t4).mono ?_; rintro e w6 ⟨rfl, b6⟩; have p6 := bel' p5 b6)
    | (go_at_call 25; (have z := t3); refine (TS _ _ _ ((t1.grow b3).grow b4) t3).mono ?_; rintro e w5 ⟨g5, a5, l5, c5, a5', l5', c5', rfl, t4, b5⟩; have p5 := bel' p4 b5)
    | (go_at_call 15; (have z := t2); refine (RN _ _ t2).mono ?_; rintro e w4 ⟨g4, a4, l4, c4, a4', l4', c4', rfl, t3, b4⟩; have p4 := bel' p3 b4)
    | (go_at_call 27; (have z := t1); refine (FR _).mono ?_; rintro e w3 ⟨g3, a3, l3, c3, a3', l3', c3', rfl, t2, b3⟩; have p3 := bel' p2 b3)
    | (go_at_call 24; refine (OS _).mono ?_; rintro e w2 ⟨g2, a2, l2, c2, a2', l2', c2', rfl, t1, b2⟩; have p2 := b2)
    | fail)
  exact bodyPost_ret (v := .tuple #[.int .i64 u, .int .i64 t]) (by simp [results, Tryz.results10, go_sem]) rfl ⟨rfl, p6⟩
end Go.Proofs.YtejfnplhimfchaaGreatDoor.Mo
