import Derived.Test.YtejfnplhimfchaaGreatDoorPart32
import Derived.Test.YtejfnplhimfchaaGreatDoorPart38
import Derived.Test.YtejfnplhimfchaaGreatDoorPart47
import Derived.Test.YtejfnplhimfchaaGreatDoorPart33
import Derived.Test.YtejfnplhimfchaaGreatDoorProg
import Derived.Test.YtejfnplhimfchaaGreatDoorPart02
import Derived.Deep.RegionHeld3

namespace Go.Proofs.YtejfnplhimfchaaGreatDoor.Mo
open Go.RowKit Dc

theorem nat_pos {s : ByteArray} (h : natB s = true) (h0 : is0 s = false) : 0 < Dc.num s.data.toList := by
  have hd := natB_dg h
  unfold natB at h
  simp only [Bool.and_eq_true, decide_eq_true_eq] at h
  obtain ⟨⟨_, hp⟩, hc⟩ := h
  have hsz : s.data.toList.length = s.size := by simp
  cases e : s.data.toList with
  | nil => rw [e] at hsz; simp at hsz; omega
  | cons c r =>
    rw [e] at hd hsz
    have c1 := hd c (by simp)
    unfold Dc.Dg at c1
    rw [Dc.num_cons]
    have b0 : bt s 0 = c.toNat := by
      rw [bt_in hp, Dc.at_list s 0 hp]
      simp [e]
    have p10 : 0 < 10 ^ r.length := Nat.pow_pos (by decide)
    have k : 48 < c.toNat := by
      by_cases k : c.toNat = 48
      · exfalso
        rw [b0] at hc
        simp [k] at hc
        have r0 : r = [] := by
          simp at hsz
          cases r with
          | nil => rfl
          | cons a b => simp at hsz; omega
        unfold is0 at h0
        rw [ByteArray.toList_eq, e, r0] at h0
        have : c = 48 := by apply UInt8.toNat_inj.1; simpa using k
        rw [this] at h0
        simp at h0
      · omega
    have := Nat.mul_le_mul (show 1 ≤ c.toNat - 48 by omega) (show 1 ≤ 10 ^ r.length from p10)
    omega
/-- What is right is an exact number in lowest terms. -/
theorem good_rat {n d : ByteArray} (h : goodE n d = 0) : ∃ r : Rat, decide (r.num < 0) = neg n ∧ r.num.natAbs = Dc.num (rest n).data.toList ∧ r.den = Dc.num d.data.toList ∧ (rest n).size ≤ 4096 ∧ d.size ≤ 4096 ∧ natB (rest n) = true ∧ natB d = true := by
  unfold goodE at h
  rcases hs : shB n d with _ | _
  · rw [hs] at h; simp at h
  rw [hs] at h
  simp only [Bool.true_eq_false, if_false] at h
  by_cases hl : 4096 < (rest n).size ∨ 4096 < d.size
  · rw [if_pos hl] at h; simp at h
  rw [if_neg hl] at h
  by_cases hg : Int.gcd (Dc.num (rest n).data.toList : Int) (Dc.num d.data.toList : Int) ≠ 1
  · rw [if_pos hg] at h; simp at h
  simp only [Classical.not_not] at hg
  unfold shB at hs
  rw [Bool.and_eq_true, Bool.and_eq_true, Bool.and_eq_true, Bool.not_eq_true', Bool.not_eq_true'] at hs
  obtain ⟨⟨⟨a1, a2⟩, a3⟩, a4⟩ := hs
  unfold whB at a1
  rw [Bool.and_eq_true, Bool.not_eq_true'] at a1
  have D0 := nat_pos a2 a3
  have g' : Nat.gcd (Dc.num (rest n).data.toList) (Dc.num d.data.toList) = 1 := hg
  cases hn : neg n with
  | false =>
    refine ⟨⟨(Dc.num (rest n).data.toList : Int), Dc.num d.data.toList, by omega, by simpa [Nat.Coprime] using g'⟩, ?_, by simp, rfl, by omega, by omega, a1.1, a2⟩
    simp
  | true =>
    have z := a1.2
    rw [hn, Bool.true_and] at z
    have N0 := nat_pos a1.1 z
    refine ⟨⟨-(Dc.num (rest n).data.toList : Int), Dc.num d.data.toList, by omega, by simpa [Nat.Coprime] using g'⟩, ?_, by simp, rfl, by omega, by omega, a1.1, a2⟩
    simp
    omega
theorem ml_lt {x : World} {a : Option Addr} {l c : Nat} {N : Int} (h : Ml x a l c N) : N < Tl.pw 4096 := by
  obtain ⟨xs, r, _, rfl, m⟩ := h
  have := Tl.val_lt r.1
  have := Tl.pw_mono m
  omega
theorem isq_of {x : World} {r : Rat} {a a' : Option Addr} {l c l' c' : Nat} (h1 : Ml x a l c (r.num.natAbs : Int)) (h2 : Ml x a' l' c' (r.den : Int)) : L.IsQ x (.agg #[.bool (decide (r.num < 0)), .slice a l c, .slice a' l' c']) r := by
  obtain ⟨xs, r1, n1, v1, _⟩ := h1
  obtain ⟨ys, r2, n2, v2, _⟩ := h2
  have e1 : l = xs.length := by obtain ⟨_, _, _, e, _⟩ := r1; cases e; rfl
  have e2 : l' = ys.length := by obtain ⟨_, _, _, e, _⟩ := r2; cases e; rfl
  subst e1 e2
  exact ⟨xs, ys, a, a', c, c', rfl, r1, n1, v1, r2, n2, v2⟩
/-- In of what is right. -/
theorem In_q {n d : ByteArray} {r : Rat} (w : World) (hn : n.size ≤ 9223372036854775807) (h1 : decide (r.num < 0) = neg n) (h2 : r.num.natAbs = Dc.num (rest n).data.toList) (h3 : r.den = Dc.num d.data.toList) (s1 : (rest n).size ≤ 4096) (s2 : d.size ≤ 4096) (b1 : natB (rest n) = true) (b2 : natB d = true) :
    Calls Tryz.prog 14 #[.agg #[.string n, .string d]] w fun e w' => ∃ v, e = .returned v ∧ L.IsQ w' v r ∧ L.QS r 4096 ∧ Below w.heap.size w w' := by
  have RD := BRead_m d s2 b2
  have RS := BRead_m (rest n) s1 b1
  rw [← h3] at RD
  rw [← h2] at RS
  have fin : ∀ (e : Ending) (w' : World) (g : Bool), g = neg n → (∃ a l c a' l' c', e = .returned (.agg #[.bool g, .slice a l c, .slice a' l' c']) ∧ Ml w' a l c (r.num.natAbs : Int) ∧ Ml w' a' l' c' (r.den : Int) ∧ Below w.heap.size w w') → ∃ v, e = .returned v ∧ L.IsQ w' v r ∧ L.QS r 4096 ∧ Below w.heap.size w w' := by
    rintro e w' g hg ⟨a, l, c, a', l', c', rfl, m1, m2, b⟩
    rw [hg, ← h1]
    exact ⟨_, rfl, isq_of m1 m2, ⟨ml_lt m1, ml_lt m2⟩, b⟩
  cases hg : neg n with
  | true =>
    have h0 : 0 < n.size := by
      by_cases c : 0 < n.size
      · exact c
      · exfalso
        unfold neg at hg
        rw [bt_out (by omega)] at hg
        simp at hg
    have h45 : (((n[0].toNat : Int)) == 45) = true := by
      unfold neg at hg
      rw [bt_in h0] at hg
      simp at hg ⊢
      omega
    have hr : rest n = n.extract 1 n.size := by unfold rest; rw [hg]; rfl
    rw [hr] at RS
    exact (In_neg n d _ _ _ w h0 hn rfl h45 RS RD).mono (fun e w' k => fin e w' true hg.symm k)
  | false =>
    have hr : rest n = n := by unfold rest; rw [hg]; rfl
    rw [hr] at RS b1
    have h0 : 0 < n.size := by
      unfold natB at b1
      simp only [Bool.and_eq_true, decide_eq_true_eq] at b1
      exact b1.1.2
    have h45 : (((n[0].toNat : Int)) == 45) = false := by
      unfold neg at hg
      rw [bt_in h0] at hg
      simp at hg ⊢
      omega
    exact (In_plain n d _ _ w h0 h45 RS RD).mono (fun e w' k => fin e w' false hg.symm k)
end Go.Proofs.YtejfnplhimfchaaGreatDoor.Mo

namespace Go.Proofs.YtejfnplhimfchaaGreatDoor.Mo
open Go.RowKit Dc Tn

theorem cmp_two (x y : Int) : L.cmp3 x y = cmp3 x y := rfl
theorem cmp3_vals (x y : Int) : (x < y ∧ cmp3 x y = -1) ∨ (x = y ∧ cmp3 x y = 0) ∨ (y < x ∧ cmp3 x y = 1) := by
  unfold cmp3
  by_cases h : x < y
  · exact Or.inl ⟨h, by rw [if_pos h]⟩
  · by_cases h2 : y < x
    · exact Or.inr (Or.inr ⟨h2, by rw [if_neg h, if_pos h2]⟩)
    · exact Or.inr (Or.inl ⟨by omega, by rw [if_neg h, if_neg h2]⟩)
theorem rndQ_eq (q : Rat) (k : Int) : L.rndQ k q = if q.num % (q.den : Int) = 0 then q.num / (q.den : Int) else if L.upQ k (decide (q.num < 0)) (decide (((q.num / (q.den : Int)).natAbs : Int) % 2 = 0)) (cmp3 (q.num % (q.den : Int) * 2) q.den) = true then q.num / (q.den : Int) + 1 else q.num / (q.den : Int) := by
  have d := L.den_pos' q
  have e : q.num - q.num / (q.den : Int) * q.den = q.num % (q.den : Int) := by
    have := Int.mul_ediv_add_emod q.num (q.den : Int)
    rw [Int.mul_comm] at this
    omega
  unfold L.rndQ
  rw [L.sub_rat, Rat.floor_def, e, L.cmp_mk _ _ (by omega) (by decide), Int.one_mul]
  have z : (mkRat (q.num % (q.den : Int)) q.den = 0) ↔ q.num % (q.den : Int) = 0 := Rat.mkRat_eq_zero (by omega)
  by_cases c : q.num % (q.den : Int) = 0
  · rw [if_pos c, if_pos (z.2 c)]
  · rw [if_neg c, if_neg (fun k => c (z.1 k))]
    rfl
/-- Both round alike. -/
theorem rnd_same (q : Rat) (k : Int) (k1 : 1 ≤ k) (k6 : k ≤ 6) : L.rndQ k q = if q.num < 0 then -(rndA (decide (q.num < 0)) (q.num.natAbs : Int) q.den k) else rndA (decide (q.num < 0)) (q.num.natAbs : Int) q.den k := by
  have d := L.den_pos' q
  rw [rndQ_eq]
  generalize q.num = N at *
  generalize (q.den : Int) = D at *
  by_cases c : N < 0
  · rw [if_pos c, decide_eq_true c]
    obtain ⟨X, hX⟩ : ∃ X : Int, (N.natAbs : Int) = X := ⟨_, rfl⟩
    have eN : N = -X := by omega
    rw [hX]
    have e := Int.mul_ediv_add_emod X D
    have r0 := Int.emod_nonneg X (show D ≠ 0 by omega)
    have r1 := Int.emod_lt_of_pos X d
    have q0 : 0 ≤ X / D := Int.ediv_nonneg (by omega) (by omega)
    unfold rndA
    by_cases z : X % D = 0
    · have u := (Int.ediv_emod_unique (a := N) (b := D) (r := 0) (q := -(X / D)) d).2 ⟨by rw [Int.mul_neg, eN]; omega, by omega, d⟩
      rw [u.1, u.2, if_pos rfl, if_neg (fun h => h.1 z)]
    · have u := (Int.ediv_emod_unique (a := N) (b := D) (r := D - X % D) (q := -(X / D) - 1) d).2 ⟨by rw [Int.mul_sub, Int.mul_neg, Int.mul_one, eN]; omega, by omega, by omega⟩
      rw [u.1, u.2, if_neg (by omega)]
      generalize X / D = Q at *
      generalize X % D = R at *
      have ev : decide (((-Q - 1).natAbs : Int) % 2 = 0) = decide (Q % 2 = 1) := by
        by_cases o : Q % 2 = 1
        · rw [decide_eq_true o, decide_eq_true (by omega)]
        · rw [decide_eq_false o, decide_eq_false (by omega)]
      rw [ev]
      generalize decide (Q % 2 = 1) = o
      have key : L.upQ k true o (cmp3 ((D - R) * 2) D) = !awB true o (cmp3 (R * 2) D) k := by
        unfold L.upQ awB
        rcases cmp3_vals (R * 2) D with ⟨a, b⟩ | ⟨a, b⟩ | ⟨a, b⟩ <;> rcases cmp3_vals ((D - R) * 2) D with ⟨a', b'⟩ | ⟨a', b'⟩ | ⟨a', b'⟩ <;> (try (exfalso; omega)) <;> rw [b, b'] <;> rcases (show k = 1 ∨ k = 2 ∨ k = 3 ∨ k = 4 ∨ k = 5 ∨ k = 6 by omega) with rfl | rfl | rfl | rfl | rfl | rfl <;> cases o <;> rfl
      rw [key]
      cases awB true o (cmp3 (R * 2) D) k
      · simp [z]
      · simp [z]; omega
  · rw [if_neg c, decide_eq_false c]
    rw [show (N.natAbs : Int) = N by omega]
    have r1 := Int.emod_lt_of_pos N d
    have q0 : 0 ≤ N / D := Int.ediv_nonneg (by omega) (by omega)
    unfold rndA
    by_cases z : N % D = 0
    · rw [if_pos z, if_neg (fun h => h.1 z)]
    · rw [if_neg z]
      generalize N / D = Q at *
      generalize N % D = R at *
      have ev : decide ((Q.natAbs : Int) % 2 = 0) = !decide (Q % 2 = 1) := by
        by_cases o : Q % 2 = 1
        · rw [decide_eq_true o, decide_eq_false (by omega)]; rfl
        · rw [decide_eq_false o, decide_eq_true (by omega)]; rfl
      rw [ev]
      generalize decide (Q % 2 = 1) = o
      have key : L.upQ k false (!o) (cmp3 (R * 2) D) = awB false o (cmp3 (R * 2) D) k := by
        unfold L.upQ awB
        rcases cmp3_vals (R * 2) D with ⟨a, b⟩ | ⟨a, b⟩ | ⟨a, b⟩ <;> rw [b] <;> rcases (show k = 1 ∨ k = 2 ∨ k = 3 ∨ k = 4 ∨ k = 5 ∨ k = 6 by omega) with rfl | rfl | rfl | rfl | rfl | rfl <;> cases o <;> rfl
      rw [key]
      cases awB false o (cmp3 (R * 2) D) k
      · simp [z]
      · simp [z]
theorem rndA_nonneg (g : Bool) (X Y k : Int) (h : 0 ≤ X) (hY : 0 < Y) : 0 ≤ rndA g X Y k := by
  have := Int.ediv_nonneg h (show 0 ≤ Y by omega)
  unfold rndA
  split <;> omega
/-- Fraction's Round, of exact numbers. -/
theorem Round_p (v : Value) (q : Rat) (k : Int) (m : Nat) (w : World) (h : PF w v q) (s : PS q m) (hm : m ≤ 1000000) (k1 : 1 ≤ k) (k6 : k ≤ 6) :
    Calls Tryz.prog 22 #[v, .int .i64 k] w fun e w' => ∃ v', e = .returned v' ∧ PF w' v' ((L.rndQ k q : Int) : Rat) ∧ Below w.heap.size w w' := by
  obtain ⟨a, l, c, a', l', c', rfl, ⟨xs, r1, n1, q1⟩, ⟨ys, r2, n2, q2⟩⟩ := h
  have dp := den_p q
  have lx : xs.length ≤ m := len_of r1.1 n1 (by rw [q1]; exact s.1)
  have ly : ys.length ≤ m := len_of r2.1 n2 (by rw [q2]; exact s.2)
  refine (Round_any _ _ _ xs ys k w r1 r2 n1 n2 (by omega) (by omega) (by omega) k1 k6).mono ?_
  rintro e w' ⟨r3, r4, zs, us, rfl, R1, N1, V1, R2, N2, V2, b⟩
  rw [q1, q2] at V1
  obtain ⟨p, i, j, rfl⟩ := R1.shape
  obtain ⟨p', i', j', rfl⟩ := R2.shape
  have z0 := rndA_nonneg (decide (q.num < 0)) (q.num.natAbs : Int) q.den k (by omega) dp
  have E := rnd_same q k k1 k6
  obtain ⟨M, hM⟩ : ∃ M, L.rndQ k q = M := ⟨_, rfl⟩
  rw [hM] at E ⊢
  obtain ⟨A, hA⟩ : ∃ A, rndA (decide (q.num < 0)) (q.num.natAbs : Int) q.den k = A := ⟨_, rfl⟩
  rw [hA] at E V1 z0
  have nM : ((M : Int) : Rat).num = M := rfl
  have dM : ((M : Int) : Rat).den = 1 := rfl
  refine ⟨_, rfl, ⟨p, i, j, p', i', j', ?_, ⟨zs, R1, N1, ?_⟩, ⟨us, R2, N2, by rw [V2, dM]; rfl⟩⟩, b⟩
  · rw [nM, V1]
    congr 3
    by_cases g : q.num < 0
    · rw [if_pos g] at E
      rw [decide_eq_true g, Bool.true_and]
      by_cases y : A = 0
      · rw [decide_eq_true y, decide_eq_false (by omega)]; rfl
      · rw [decide_eq_false y, decide_eq_true (by omega)]; rfl
    · rw [if_neg g] at E
      rw [decide_eq_false g, Bool.false_and, decide_eq_false (by omega)]
  · rw [V1, nM]
    by_cases g : q.num < 0
    · rw [if_pos g] at E; omega
    · rw [if_neg g] at E; omega
/-- What an amount is told as. -/
def amt (n : Int) : Value := if -1000000000000000 ≤ n ∧ n ≤ 1000000000000000 then .tuple #[.int .i64 n, .int .i64 0] else .tuple #[.int .i64 0, .int .i64 6]
theorem pennies_p (v : Value) (n : Int) (m : Nat) (w : World) (h : PF w v (n : Rat)) (s : PS (n : Rat) m) (hm : m ≤ 1000000) :
    Calls Tryz.prog 19 #[v] w fun e w' => e = .returned (amt n) ∧ Below w.heap.size w w' := by
  obtain ⟨a, l, c, a', l', c', rfl, ⟨xs, r1, n1, q1⟩, _⟩ := h
  have nM : ((n : Int) : Rat).num = n := rfl
  have lx : xs.length ≤ m := len_of r1.1 n1 (by rw [q1]; exact s.1)
  rw [nM] at q1 ⊢
  refine (pennies_any _ _ _ xs w r1 n1 (by omega) ⟨a', l', c', rfl⟩).mono ?_
  rintro e w' ⟨rfl, b⟩
  refine ⟨?_, b⟩
  congr 1
  unfold amt
  rw [q1]
  by_cases y : (n.natAbs : Int) ≤ 1000000000000000
  · rw [if_pos y]
    by_cases g : n < 0
    · rw [decide_eq_true g, if_pos rfl, if_pos (by omega)]; congr 4; omega
    · rw [decide_eq_false g, if_neg (by decide), if_pos (by omega)]; congr 4; omega
  · rw [if_neg y, if_neg (by omega)]
end Go.Proofs.YtejfnplhimfchaaGreatDoor.Mo

namespace Go.Proofs.YtejfnplhimfchaaGreatDoor.Mo
open Go.RowKit Go.Proofs.YtejfnplhimfchaaGreatDoor.L

/-- An amount: a thousand million million at most, either way. -/
def isA (p : Int) : Bool := decide (-1000000000000000 ≤ p ∧ p ≤ 1000000000000000)
theorem isA_iff {p : Int} : isA p = true ↔ -1000000000000000 ≤ p ∧ p ≤ 1000000000000000 := by simp [isA]
theorem wrapI (x : Int) (h0 : -9223372036854775808 ≤ x) (h1 : x < 9223372036854775808) : IntKind.i64.wrap x = x := by
  simp [IntKind.wrap, IntKind.bits, IntKind.signed]; omega
/-- The slice value v reads as the ints xs. -/
def Ri (w : World) (v : Value) (xs : List Int) : Prop :=
  (∀ i, -9223372036854775808 ≤ nth xs i ∧ nth xs i ≤ 9223372036854775807) ∧ ∃ a cap, v = .slice a xs.length cap ∧ xs.length ≤ cap ∧ cap ≤ maxLen ∧ (0 < xs.length → ∃ b o, a = some ⟨b, o, none⟩ ∧ Cells w b o xs)
theorem Ri.grow {w w' : World} {v : Value} {xs : List Int} (h : Ri w v xs) (k : Below w.heap.size w w') : Ri w' v xs := by
  obtain ⟨h1, a, cap, h2, h3, h4, h5⟩ := h
  exact ⟨h1, a, cap, h2, h3, h4, fun l => by obtain ⟨b, o, e, c⟩ := h5 l; exact ⟨b, o, e, c.grow k⟩⟩
theorem sum_more (xs : List Int) (k : Nat) (h : k < xs.length) : (xs.take (k + 1)).sum = (xs.take k).sum + nth xs k := by
  rw [List.take_add_one, List.sum_append]
  simp [nth, List.getD_eq_getElem?_getD, List.getElem?_eq_getElem h]
theorem sum_bd (xs : List Int) (k : Nat) (h : k ≤ xs.length) (ha : ∀ i, i < k → isA (nth xs i) = true) : -(1000000000000000 * (k : Int)) ≤ (xs.take k).sum ∧ (xs.take k).sum ≤ 1000000000000000 * (k : Int) := by
  induction k with
  | zero => simp
  | succ k ih =>
    have i := ih (by omega) (fun i hi => ha i (by omega))
    have b := isA_iff.1 (ha k (by omega))
    rw [sum_more xs k (by omega)]
    omega
/-- What a sum is, and its error. -/
def sumR (xs : List Int) : Int × Int :=
  if 4096 < xs.length then (0, 3) else if ∀ i, i < xs.length → isA (nth xs i) = true then (if isA xs.sum then (xs.sum, 0) else (0, 6)) else (0, 6)
theorem sumR_long {xs : List Int} (h : 4096 < xs.length) : sumR xs = (0, 3) := by simp [sumR, h]
theorem sumR_bad {xs : List Int} {k : Nat} (h : ¬ 4096 < xs.length) (hk : k < xs.length) (hb : isA (nth xs k) = false) : sumR xs = (0, 6) := by
  unfold sumR
  rw [if_neg h, if_neg]
  intro a
  have := a k hk
  simp [hb] at this
theorem sumR_all {xs : List Int} (h : ¬ 4096 < xs.length) (ha : ∀ i, i < xs.length → isA (nth xs i) = true) : sumR xs = if isA (xs.take xs.length).sum then ((xs.take xs.length).sum, 0) else (0, 6) := by
  unfold sumR
  rw [if_neg h, if_pos ha, List.take_length]

set_option maxHeartbeats 400000 in
theorem isAmount_any (p : Int) (w : World) : Calls Tryz.prog 16 #[.int .i64 p] w fun e w' => e = .returned (.bool (isA p)) ∧ w' = w := by
  by_cases h1 : -1000000000000000 ≤ p
  · by_cases h2 : p ≤ 1000000000000000
    · have R : Hid (isA p = true) := by show _ = _; simp [isA]; omega
      go_enter Tryz.func16, Tryz.ntmps16
      go_wp2
      go_ret
      exact ⟨by rw [R.out]; rfl, rfl⟩
    · have R : Hid (isA p = false) := by show _ = _; simp [isA]; omega
      go_enter Tryz.func16, Tryz.ntmps16
      go_wp2
      go_ret
      exact ⟨by rw [R.out]; rfl, rfl⟩
  · have R : Hid (isA p = false) := by show _ = _; simp [isA]; omega
    go_enter Tryz.func16, Tryz.ntmps16
    go_wp2
    go_ret
    exact ⟨by rw [R.out]; rfl, rfl⟩
set_option maxHeartbeats 400000 in
theorem Is_any (p : Int) (w : World) : Calls Tryz.prog 23 #[.int .i64 p] w fun e w' => e = .returned (.bool (isA p)) ∧ w' = w := by
  by_cases h1 : -1000000000000000 ≤ p
  · by_cases h2 : p ≤ 1000000000000000
    · have R : Hid (isA p = true) := by show _ = _; simp [isA]; omega
      go_enter Tryz.func23, Tryz.ntmps23
      go_wp2
      go_ret
      exact ⟨by rw [R.out]; rfl, rfl⟩
    · have R : Hid (isA p = false) := by show _ = _; simp [isA]; omega
      go_enter Tryz.func23, Tryz.ntmps23
      go_wp2
      go_ret
      exact ⟨by rw [R.out]; rfl, rfl⟩
  · have R : Hid (isA p = false) := by show _ = _; simp [isA]; omega
    go_enter Tryz.func23, Tryz.ntmps23
    go_wp2
    go_ret
    exact ⟨by rw [R.out]; rfl, rfl⟩
end Go.Proofs.YtejfnplhimfchaaGreatDoor.Mo

namespace Go.Proofs.YtejfnplhimfchaaGreatDoor.Mo
open Go.RowKit Dc

/-- A fraction is answered, as its parts. -/
def Fa (r : Rat) (x : World) (e : Ending) (w' : World) : Prop := ∃ g a l c a' l' c', e = .returned (.agg #[.bool g, .slice a l c, .slice a' l' c']) ∧ PF w' (.agg #[.bool g, .slice a l c, .slice a' l' c']) r ∧ Below x.heap.size x w'
/-- A fraction is read. -/
def Fr (r : Rat) (x : World) (e : Ending) (w' : World) : Prop := ∃ g a l c a' l' c', e = .returned (.tuple #[.agg #[.bool g, .slice a l c, .slice a' l' c'], .int .i64 0]) ∧ PF w' (.agg #[.bool g, .slice a l c, .slice a' l' c']) r ∧ Below x.heap.size x w'
theorem fa_of {P : Program} {f : Nat} {args : Array Value} {r : Rat} {x : World} (h : Calls P f args x fun e w' => ∃ v, e = .returned v ∧ PF w' v r ∧ Below x.heap.size x w') : Calls P f args x (Fa r x) := by
  refine h.mono ?_
  rintro e w' ⟨v, rfl, hp, b⟩
  obtain ⟨a, l, c, a', l', c', rfl, k1, k2⟩ := hp
  exact ⟨_, a, l, c, a', l', c', rfl, ⟨a, l, c, a', l', c', rfl, k1, k2⟩, b⟩
set_option maxRecDepth 100000 in
set_option maxHeartbeats 800000 in
theorem MTimes_a (n d : ByteArray) (p k : Int) (w : World) (hp : isA p = false) :
    Calls Tryz.prog 7 #[.int .i64 p, .agg #[.string n, .string d], .int .i64 k] w fun e w' => e = .returned (.tuple #[.int .i64 0, .int .i64 6]) ∧ Below w.heap.size w w' := by
  have IA := fun x => isAmount_any p x
  simp only [hp] at IA
  have pr : Below w.heap.size w (w.alloc (.cells #[.string n, .string d] 23)) := (Below.refl _ _).alloc (Nat.le_refl _) _
  go_enter Tryz.func7, Tryz.ntmps7
  go_wp2_with (first
    | (go_at_call 16; refine (IA _).mono ?_; rintro e w1 ⟨rfl, hw⟩; subst w1)
    | fail)
  exact bodyPost_ret (v := .tuple #[.int .i64 0, .int .i64 6]) (by simp [results, Tryz.results7, go_sem]) rfl ⟨rfl, pr⟩
set_option maxRecDepth 100000 in
set_option maxHeartbeats 800000 in
theorem MTimes_b (n d : ByteArray) (p k E : Int) (w : World) (hp : isA p = true) (hE : (E != 0) = true) (RE : ∀ x, Calls Tryz.prog 17 #[.agg #[.string n, .string d]] x fun e w' => e = .returned (.tuple #[.agg #[.bool false, .slice none 0 0, .slice none 0 0], .int .i64 E]) ∧ Below x.heap.size x w') :
    Calls Tryz.prog 7 #[.int .i64 p, .agg #[.string n, .string d], .int .i64 k] w fun e w' => e = .returned (.tuple #[.int .i64 0, .int .i64 E]) ∧ Below w.heap.size w w' := by
  have IA := fun x => isAmount_any p x
  simp only [hp] at IA
  have pr : Below w.heap.size w (w.alloc (.cells #[.string n, .string d] 23)) := (Below.refl _ _).alloc (Nat.le_refl _) _
  go_enter Tryz.func7, Tryz.ntmps7
  go_wp2_with (first
    | (go_at_call 16; refine (IA _).mono ?_; rintro e w1 ⟨rfl, hw⟩; subst w1)
    | (go_at_call 17; refine (RE _).mono ?_; rintro e w1 ⟨rfl, b1⟩; have p1 := (bel' pr b1).alloc (bel' pr b1).size (.cells #[.bool false, .slice none 0 0, .slice none 0 0] 50))
    | fail)
  exact bodyPost_ret (v := .tuple #[.int .i64 0, .int .i64 E]) (by simp [results, Tryz.results7, go_sem]) rfl ⟨rfl, p1⟩
set_option maxRecDepth 100000 in
set_option maxHeartbeats 800000 in
theorem MTimes_c (n d : ByteArray) (p k : Int) (r : Rat) (w : World) (hp : isA p = true) (hk : (decide (1 ≤ k) && decide (k ≤ 6)) = false) (RE : ∀ x, Calls Tryz.prog 17 #[.agg #[.string n, .string d]] x (Fr r x)) :
    Calls Tryz.prog 7 #[.int .i64 p, .agg #[.string n, .string d], .int .i64 k] w fun e w' => e = .returned (.tuple #[.int .i64 0, .int .i64 1]) ∧ Below w.heap.size w w' := by
  have IA := fun x => isAmount_any p x
  simp only [hp] at IA
  have IW := fun x => IsWay_any k x
  simp only [hk] at IW
  have pr : Below w.heap.size w (w.alloc (.cells #[.string n, .string d] 23)) := (Below.refl _ _).alloc (Nat.le_refl _) _
  go_enter Tryz.func7, Tryz.ntmps7
  go_wp2_with (first
    | (go_at_call 16; refine (IA _).mono ?_; rintro e w1 ⟨rfl, hw⟩; subst w1)
    | (go_at_call 18; refine (IW _).mono ?_; rintro e w3 ⟨rfl, hw⟩; subst w3)
    | (go_at_call 17; refine (RE _).mono ?_; rintro e w1 ⟨g, a, l, c, a', l', c', rfl, hf, b1⟩; have p1 := (bel' pr b1).alloc (bel' pr b1).size (.cells #[.bool g, .slice a l c, .slice a' l' c'] 50))
    | fail)
  exact bodyPost_ret (v := .tuple #[.int .i64 0, .int .i64 1]) (by simp [results, Tryz.results7, go_sem]) rfl ⟨rfl, p1⟩
set_option maxRecDepth 100000 in
set_option maxHeartbeats 1600000 in
theorem MTimes_d (n d : ByteArray) (p k u t M : Int) (r : Rat) (w : World) (hp : isA p = true) (hk : (decide (1 ≤ k) && decide (k ≤ 6)) = true) (RE : ∀ x, Calls Tryz.prog 17 #[.agg #[.string n, .string d]] x (Fr r x))
    (OI : ∀ x, Calls Tryz.prog 20 #[.int .i64 p] x (Fa (p : Rat) x)) (TM : ∀ x v1 v2, PF x v1 (p : Rat) → PF x v2 r → Calls Tryz.prog 21 #[v1, v2] x (Fa ((p : Rat) * r) x))
    (RN : ∀ x v, PF x v ((p : Rat) * r) → Calls Tryz.prog 22 #[v, .int .i64 k] x (Fa (M : Rat) x)) (PN : ∀ x v, PF x v (M : Rat) → Calls Tryz.prog 19 #[v] x fun e w' => e = .returned (.tuple #[.int .i64 u, .int .i64 t]) ∧ Below x.heap.size x w') :
    Calls Tryz.prog 7 #[.int .i64 p, .agg #[.string n, .string d], .int .i64 k] w fun e w' => e = .returned (.tuple #[.int .i64 u, .int .i64 t]) ∧ Below w.heap.size w w' := by
  have IA := fun x => isAmount_any p x
  simp only [hp] at IA
  have IW := fun x => IsWay_any k x
  simp only [hk] at IW
  have pr : Below w.heap.size w (w.alloc (.cells #[.string n, .string d] 23)) := (Below.refl _ _).alloc (Nat.le_refl _) _
  go_enter Tryz.func7, Tryz.ntmps7
  go_wp2_with (first
    | (go_at_call 16; refine (IA _).mono ?_; rintro e w1 ⟨rfl, hw⟩; subst w1)
    | (go_at_call 18; refine (IW _).mono ?_; rintro e w3 ⟨rfl, hw⟩; subst w3)
    | (go_at_call 17; refine (RE _).mono ?_; rintro e w1 ⟨g, a, l, c, a', l', c', rfl, hf, b1⟩; have p1 := (bel' pr b1).alloc (bel' pr b1).size (.cells #[.bool g, .slice a l c, .slice a' l' c'] 50); have K := Rb.new w1 (.bool g) (.slice a l c) (.slice a' l' c') 50; have hf1 := hf.grow ((Below.refl w1.heap.size w1).alloc (Nat.le_refl _) (.cells #[.bool g, .slice a l c, .slice a' l' c'] 50)))
    | fail)
  generalize w1.heap.size = F at *
  generalize w1.alloc (.cells #[.bool g, .slice a l c, .slice a' l' c'] 50) = W at *
  have k0 := K.c0
  have k1 := K.c1
  have k2 := K.c2
  go_region_held3 (fun x => x.cell? ⟨F, 0, none⟩ = some (.bool g) ∧ x.cell? ⟨F, 1, none⟩ = some (.slice a l c) ∧ x.cell? ⟨F, 2, none⟩ = some (.slice a' l' c')) (go_keep) (first
    | (go_at_call 19; (have z := t3); refine (PN _ _ t3).mono ?_; rintro e w5 ⟨rfl, d5'⟩; have d5 := bel' d4 d5'; have z0 := (K.grow d5).c0; have z1 := (K.grow d5).c1; have z2 := (K.grow d5).c2)
    | (go_at_call 22; (have z := t2); refine (RN _ _ t2).mono ?_; rintro e w4 ⟨g4, a4, l4, c4, a4', l4', c4', rfl, t3, d4'⟩; have d4 := bel' d3 d4'; have y0 := (K.grow d4).c0; have y1 := (K.grow d4).c1; have y2 := (K.grow d4).c2)
    | (go_at_call 21; (have z := t1); refine (TM _ _ _ t1 (hf1.grow d2)).mono ?_; rintro e w3 ⟨g3, a3, l3, c3, a3', l3', c3', rfl, t2, d3'⟩; have d3 := bel' d2 d3'; have x0 := (K.grow d3).c0; have x1 := (K.grow d3).c1; have x2 := (K.grow d3).c2)
    | (go_at_call 20; refine (OI _).mono ?_; rintro e w2 ⟨g2, a2, l2, c2, a2', l2', c2', rfl, t1, d2'⟩; have d2 := undrew d2'; have u0 := (K.grow d2).c0; have u1 := (K.grow d2).c1; have u2 := (K.grow d2).c2)
    | fail)
  go_wp2_with fail
  exact bodyPost_ret (v := .tuple #[.int .i64 u, .int .i64 t]) (by simp [results, Tryz.results7, go_sem]) rfl ⟨rfl, bel' p1 d5⟩
end Go.Proofs.YtejfnplhimfchaaGreatDoor.Mo

namespace Go.Proofs.YtejfnplhimfchaaGreatDoor.Mo
open Go.RowKit Dc

theorem ten_pw : ∀ j : Nat, ((10 ^ (16 * j) : Nat) : Int) ≤ Tn.pw j
  | 0 => by simp [Tn.pw]
  | j + 1 => by
    have ih := ten_pw j
    have p := Tn.pw_pos j
    have e : (10 : Nat) ^ (16 * (j + 1)) = 10 ^ (16 * j) * 10000000000000000 := by rw [Nat.mul_add, Nat.pow_add]
    rw [e]
    simp only [Tn.pw]
    generalize (10 : Nat) ^ (16 * j) = T at *
    omega
theorem num_pw' {s : ByteArray} (h : natB s = true) (j : Nat) (hs : s.size ≤ 16 * j) : (Dc.num s.data.toList : Int) < Tn.pw j := by
  have a := Dc.num_lt _ (natB_dg h)
  have l : s.data.toList.length = s.size := by simp
  have b : (10 : Nat) ^ s.data.toList.length ≤ 10 ^ (16 * j) := Nat.pow_le_pow_right (by decide) (by omega)
  have c := ten_pw j
  generalize (10 : Nat) ^ (16 * j) = T at *
  generalize (10 : Nat) ^ s.data.toList.length = U at *
  omega
theorem num_pw {s : ByteArray} (h : natB s = true) (hs : s.size ≤ 4096) : (Dc.num s.data.toList : Int) < Tn.pw 256 := num_pw' h 256 (by omega)
/-- The exact number that two texts say. -/
def rT (n d : ByteArray) : Rat := mkRat (if neg n then -(Dc.num (rest n).data.toList : Int) else (Dc.num (rest n).data.toList : Int)) (Dc.num d.data.toList)
structure Ok (n d : ByteArray) (r : Rat) : Prop where
  sg : decide (r.num < 0) = neg n
  nm : r.num.natAbs = Dc.num (rest n).data.toList
  dn : r.den = Dc.num d.data.toList
  s1 : (rest n).size ≤ 4096
  s2 : d.size ≤ 4096
  b1 : natB (rest n) = true
  b2 : natB d = true
theorem ok_rT {n d : ByteArray} (h : goodE n d = 0) : Ok n d (rT n d) := by
  obtain ⟨r, h1, h2, h3, h4, h5, h6, h7⟩ := good_rat h
  have e : r = rT n d := by
    unfold rT
    rw [← h1, ← h2, ← h3]
    have : (if decide (r.num < 0) = true then -(r.num.natAbs : Int) else (r.num.natAbs : Int)) = r.num := by
      by_cases c : r.num < 0
      · rw [decide_eq_true c, if_pos rfl]; omega
      · rw [decide_eq_false c, if_neg (by decide)]; omega
    rw [this, Rat.mkRat_self]
  rw [← e]
  exact ⟨h1, h2, h3, h4, h5, h6, h7⟩
theorem Ok.ps {n d : ByteArray} {r : Rat} (h : Ok n d r) : PS r 256 := ⟨by rw [h.nm]; exact num_pw h.b1 h.s1, by rw [h.dn]; exact num_pw h.b2 h.s2⟩
/-- What Times answers. -/
def mT (n d : ByteArray) (p k : Int) : Value :=
  if isA p = false then .tuple #[.int .i64 0, .int .i64 6] else if goodE n d ≠ 0 then .tuple #[.int .i64 0, .int .i64 (goodE n d)] else if (decide (1 ≤ k) && decide (k ≤ 6)) = false then .tuple #[.int .i64 0, .int .i64 1] else amt (L.rndQ k ((p : Rat) * rT n d))
theorem amt_two (n : Int) : ∃ u t : Int, amt n = .tuple #[.int .i64 u, .int .i64 t] := by
  unfold amt
  split
  · exact ⟨_, _, rfl⟩
  · exact ⟨_, _, rfl⟩
theorem read_ok {n d : ByteArray} (h : goodE n d = 0) (hn : n.size ≤ 9223372036854775807) (hd : d.size ≤ 9223372036854775807) (x : World) : Calls Tryz.prog 17 #[.agg #[.string n, .string d]] x (Fr (rT n d) x) := by
  refine (Read_any n d x hn hd).mono ?_
  rintro e w' ⟨b, k | k⟩
  · exact absurd h k.1
  · obtain ⟨_, v1, v2, xs, ys, rfl, r1, n1, q1, _, r2, n2, q2, _⟩ := k
    obtain ⟨a, l, c, rfl⟩ := r1.shape
    obtain ⟨a', l', c', rfl⟩ := r2.shape
    have o := ok_rT h
    rw [← o.nm] at q1
    rw [← o.dn] at q2
    exact ⟨_, a, l, c, a', l', c', rfl, ⟨a, l, c, a', l', c', by rw [o.sg], ⟨xs, r1, n1, q1⟩, ⟨ys, r2, n2, q2⟩⟩, b⟩
theorem read_no {n d : ByteArray} (h : goodE n d ≠ 0) (hn : n.size ≤ 9223372036854775807) (hd : d.size ≤ 9223372036854775807) (x : World) : Calls Tryz.prog 17 #[.agg #[.string n, .string d]] x fun e w' => e = .returned (.tuple #[.agg #[.bool false, .slice none 0 0, .slice none 0 0], .int .i64 (goodE n d)]) ∧ Below x.heap.size x w' := by
  refine (Read_any n d x hn hd).mono ?_
  rintro e w' ⟨b, k | k⟩
  · exact ⟨k.2, b⟩
  · exact absurd k.1 h
theorem rnd_ps {q : Rat} {k : Int} {m : Nat} (h : PS q m) (k1 : 1 ≤ k) (k6 : k ≤ 6) : PS ((L.rndQ k q : Int) : Rat) (m + 1) := by
  have d := den_p q
  have E := rnd_same q k k1 k6
  have nM : ((L.rndQ k q : Int) : Rat).num = L.rndQ k q := rfl
  have dM : ((L.rndQ k q : Int) : Rat).den = 1 := rfl
  have p := Tn.pw_pos m
  have e1 : Tn.pw (m + 1) = 18446744073709551616 * Tn.pw m := rfl
  have u : rndA (decide (q.num < 0)) (q.num.natAbs : Int) q.den k ≤ (q.num.natAbs : Int) + 1 := by
    have := Int.ediv_le_self (q.den : Int) (show (0 : Int) ≤ (q.num.natAbs : Int) by omega)
    unfold rndA
    split <;> omega
  have z := rndA_nonneg (decide (q.num < 0)) (q.num.natAbs : Int) q.den k (by omega) d
  have h1 := h.1
  refine ⟨?_, ?_⟩
  · rw [nM]
    by_cases g : q.num < 0
    · rw [if_pos g] at E; omega
    · rw [if_neg g] at E; omega
  · rw [dM]; omega
theorem mul_ps {r s : Rat} {m n : Nat} (h1 : PS r m) (h2 : PS s n) : PS (r * s) (m + n) := by
  obtain ⟨t1, t2, _⟩ := times_low r s _ _ rfl rfl
  have a := den_p r
  have b := den_p s
  have g1 : (0 : Int) < (Int.gcd r.num.natAbs s.den : Int) := by
    have : 0 < Int.gcd (r.num.natAbs : Int) (s.den : Int) := Int.gcd_pos_of_ne_zero_right _ (by omega)
    omega
  have g2 : (0 : Int) < (Int.gcd s.num.natAbs r.den : Int) := by
    have : 0 < Int.gcd (s.num.natAbs : Int) (r.den : Int) := Int.gcd_pos_of_ne_zero_right _ (by omega)
    omega
  have key : ∀ X Y : Int, 0 ≤ X → 0 ≤ Y → X < Tn.pw m → Y < Tn.pw n → X * Y < Tn.pw (m + n) := fun X Y x0 y0 x1 y1 => by
    rw [Tn.pw_add]
    have p1 := Tn.pw_pos m
    have := Int.mul_le_mul (show X ≤ Tn.pw m - 1 by omega) (show Y ≤ Tn.pw n by omega) y0 (by omega)
    have e : (Tn.pw m - 1) * Tn.pw n = Tn.pw m * Tn.pw n - Tn.pw n := by rw [Int.sub_mul, Int.one_mul]
    have := Tn.pw_pos n
    omega
  refine ⟨?_, ?_⟩
  · rw [t1]
    exact key _ _ (Int.ediv_nonneg (by omega) (by omega)) (Int.ediv_nonneg (by omega) (by omega)) (div_lt h1.1 (by omega) g1) (div_lt h2.1 (by omega) g2)
  · rw [t2]
    exact key _ _ (Int.ediv_nonneg (by omega) (by omega)) (Int.ediv_nonneg (by omega) (by omega)) (div_lt h1.2 (by omega) g2) (div_lt h2.2 (by omega) g1)
theorem MTimes_any (n d : ByteArray) (p k : Int) (w : World) (hn : n.size ≤ 9223372036854775807) (hd : d.size ≤ 9223372036854775807) :
    Calls Tryz.prog 7 #[.int .i64 p, .agg #[.string n, .string d], .int .i64 k] w fun e w' => e = .returned (mT n d p k) ∧ Below w.heap.size w w' := by
  unfold mT
  cases hp : isA p with
  | false => rw [if_pos rfl]; exact MTimes_a n d p k w hp
  | true =>
    rw [if_neg (by decide)]
    by_cases hg : goodE n d = 0
    · rw [if_neg (fun h => h hg)]
      have RE := read_ok hg hn hd
      cases hk : (decide (1 ≤ k) && decide (k ≤ 6)) with
      | false => rw [if_pos rfl]; exact MTimes_c n d p k _ w hp hk RE
      | true =>
        rw [if_neg (by decide)]
        have k' := hk
        simp only [Bool.and_eq_true, decide_eq_true_eq] at k'
        have hp' := isA_iff.1 hp
        obtain ⟨u, t, e⟩ := amt_two (L.rndQ k ((p : Rat) * rT n d))
        rw [e]
        have s1 : PS (p : Rat) 1 := int_ps p (by omega)
        have s2 := (ok_rT hg).ps
        have s3 := mul_ps s1 s2
        refine MTimes_d n d p k u t _ _ w hp hk RE (fun x => fa_of (OfInt_p p x (by omega) (by omega))) (fun x v1 v2 h1 h2 => fa_of (Times_p v1 v2 _ _ 1 256 x h1 h2 s1 s2 (by unfold MulOK; omega))) (fun x v h => fa_of (Round_p v _ k _ x h s3 (by omega) k'.1 k'.2)) (fun x v h => ?_)
        have := pennies_p v _ _ x h (rnd_ps s3 k'.1 k'.2) (by omega)
        rw [e] at this
        exact this
    · rw [if_pos hg]
      exact MTimes_b n d p k _ w hp (by simpa using hg) (read_no hg hn hd)
set_option maxRecDepth 100000 in
set_option maxHeartbeats 800000 in
theorem MAmount_any (n d : ByteArray) (k : Int) (w : World) (hn : n.size ≤ 9223372036854775807) (hd : d.size ≤ 9223372036854775807) :
    Calls Tryz.prog 5 #[.agg #[.string n, .string d], .int .i64 k] w fun e w' => e = .returned (mT n d 1 k) ∧ Below w.heap.size w w' := by
  obtain ⟨u, t, e⟩ : ∃ u t : Int, mT n d 1 k = .tuple #[.int .i64 u, .int .i64 t] := by
    unfold mT
    split
    · exact ⟨_, _, rfl⟩
    · split
      · exact ⟨_, _, rfl⟩
      · split
        · exact ⟨_, _, rfl⟩
        · exact amt_two _
  have T := fun x => MTimes_any n d 1 k x hn hd
  rw [e] at T ⊢
  have pr : Below w.heap.size w (w.alloc (.cells #[.string n, .string d] 23)) := (Below.refl _ _).alloc (Nat.le_refl _) _
  go_enter Tryz.func5, Tryz.ntmps5
  go_wp2_with (first
    | (go_at_call 7; refine (T _).mono ?_; rintro e w1 ⟨rfl, b1⟩; have p1 := bel' pr b1)
    | fail)
  exact bodyPost_ret (v := .tuple #[.int .i64 u, .int .i64 t]) (by simp [results, Tryz.results5, go_sem]) rfl ⟨rfl, p1⟩
end Go.Proofs.YtejfnplhimfchaaGreatDoor.Mo
