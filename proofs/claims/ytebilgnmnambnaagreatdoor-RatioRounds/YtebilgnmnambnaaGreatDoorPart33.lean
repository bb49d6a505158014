import Derived.Test.YtebilgnmnambnaaGreatDoorPart32
import Derived.Test.YtebilgnmnambnaaGreatDoorPart29
import Derived.Test.YtebilgnmnambnaaGreatDoorPart10
import Derived.Test.YtebilgnmnambnaaGreatDoorPart13
import Derived.Test.YtebilgnmnambnaaGreatDoorPart24
import Derived.Deep.RegionHeld3
import Derived.Test.YtebilgnmnambnaaGreatDoorPart14

namespace Go.Proofs.YtebilgnmnambnaaGreatDoor.Mo
open Go.RowKit Dc
theorem nat_pos {s : ByteArray} (h : natB s = true) (h0 : is0 s = false) : 0 < Dc.num s.data.toList := by
  have hd := natB_dg h
  unfold natB at h
  simp only [Bool.and_eq_true, decide_eq_true_eq] at h
  obtain ⟨⟨_, hp⟩, hc⟩ := h
  have hsz : s.data.toList.length = s.size := by simp
  cases e : s.data.toList with
  | nil => rw [e] at hsz; simp at hsz; omega
  | cons c r =>
    rw [e] at hd hsz
    have c1 := hd c (by simp)
    unfold Dc.Dg at c1
    rw [Dc.num_cons]
    have b0 : bt s 0 = c.toNat := by
      rw [bt_in hp, Dc.at_list s 0 hp]
      simp [e]
    have p10 : 0 < 10 ^ r.length := Nat.pow_pos (by decide)
    have k : 48 < c.toNat := by
      by_cases k : c.toNat = 48
      · exfalso
        rw [b0] at hc
        simp [k] at hc
        have r0 : r = [] := by
          simp at hsz
          cases r with
          | nil => rfl
          | cons a b => simp at hsz; omega
        unfold is0 at h0
        rw [ByteArray.toList_eq, e, r0] at h0
        have : c = 48 := by apply UInt8.toNat_inj.1; simpa using k
        rw [this] at h0
        simp at h0
      · omega
    have := Nat.mul_le_mul (show 1 ≤ c.toNat - 48 by omega) (show 1 ≤ 10 ^ r.length from p10)
    omega
theorem good_rat {n d : ByteArray} (h : goodE n d = 0) : ∃ r : Rat, decide (r.num < 0) = neg n ∧ r.num.natAbs = Dc.num (rest n).data.toList ∧ r.den = Dc.num d.data.toList ∧ (rest n).size ≤ 4096 ∧ d.size ≤ 4096 ∧ natB (rest n) = true ∧ natB d = true := by
  unfold goodE at h
  rcases hs : shB n d with _ | _
  · rw [hs] at h; simp at h
  rw [hs] at h
  simp only [Bool.true_eq_false, if_false] at h
  by_cases hl : 4096 < (rest n).size ∨ 4096 < d.size
  · rw [if_pos hl] at h; simp at h
  rw [if_neg hl] at h
  by_cases hg : Int.gcd (Dc.num (rest n).data.toList : Int) (Dc.num d.data.toList : Int) ≠ 1
  · rw [if_pos hg] at h; simp at h
  simp only [Classical.not_not] at hg
  unfold shB at hs
  rw [Bool.and_eq_true, Bool.and_eq_true, Bool.and_eq_true, Bool.not_eq_true', Bool.not_eq_true'] at hs
  obtain ⟨⟨⟨a1, a2⟩, a3⟩, a4⟩ := hs
  unfold whB at a1
  rw [Bool.and_eq_true, Bool.not_eq_true'] at a1
  have D0 := nat_pos a2 a3
  have g' : Nat.gcd (Dc.num (rest n).data.toList) (Dc.num d.data.toList) = 1 := hg
  cases hn : neg n with
  | false =>
    refine ⟨⟨(Dc.num (rest n).data.toList : Int), Dc.num d.data.toList, by omega, by simpa [Nat.Coprime] using g'⟩, ?_, by simp, rfl, by omega, by omega, a1.1, a2⟩
    simp
  | true =>
    have z := a1.2
    rw [hn, Bool.true_and] at z
    have N0 := nat_pos a1.1 z
    refine ⟨⟨-(Dc.num (rest n).data.toList : Int), Dc.num d.data.toList, by omega, by simpa [Nat.Coprime] using g'⟩, ?_, by simp, rfl, by omega, by omega, a1.1, a2⟩
    simp
    omega
theorem ml_lt {x : World} {a : Option Addr} {l c : Nat} {N : Int} (h : Ml x a l c N) : N < Tl.pw 4096 := by
  obtain ⟨xs, r, _, rfl, m⟩ := h
  have := Tl.val_lt r.1
  have := Tl.pw_mono m
  omega
theorem isq_of {x : World} {r : Rat} {a a' : Option Addr} {l c l' c' : Nat} (h1 : Ml x a l c (r.num.natAbs : Int)) (h2 : Ml x a' l' c' (r.den : Int)) : L.IsQ x (.agg #[.bool (decide (r.num < 0)), .slice a l c, .slice a' l' c']) r := by
  obtain ⟨xs, r1, n1, v1, _⟩ := h1
  obtain ⟨ys, r2, n2, v2, _⟩ := h2
  have e1 : l = xs.length := by obtain ⟨_, _, _, e, _⟩ := r1; cases e; rfl
  have e2 : l' = ys.length := by obtain ⟨_, _, _, e, _⟩ := r2; cases e; rfl
  subst e1 e2
  exact ⟨xs, ys, a, a', c, c', rfl, r1, n1, v1, r2, n2, v2⟩
theorem In_q {n d : ByteArray} {r : Rat} (w : World) (hn : n.size ≤ 9223372036854775807) (h1 : decide (r.num < 0) = neg n) (h2 : r.num.natAbs = Dc.num (rest n).data.toList) (h3 : r.den = Dc.num d.data.toList) (s1 : (rest n).size ≤ 4096) (s2 : d.size ≤ 4096) (b1 : natB (rest n) = true) (b2 : natB d = true) :
    Calls Tryz.prog 52 #[.agg #[.string n, .string d]] w fun e w' => ∃ v, e = .returned v ∧ L.IsQ w' v r ∧ L.QS r 4096 ∧ Below w.heap.size w w' := by
  have RD := BRead_m d s2 b2
  have RS := BRead_m (rest n) s1 b1
  rw [← h3] at RD
  rw [← h2] at RS
  have fin : ∀ (e : Ending) (w' : World) (g : Bool), g = neg n → (∃ a l c a' l' c', e = .returned (.agg #[.bool g, .slice a l c, .slice a' l' c']) ∧ Ml w' a l c (r.num.natAbs : Int) ∧ Ml w' a' l' c' (r.den : Int) ∧ Below w.heap.size w w') → ∃ v, e = .returned v ∧ L.IsQ w' v r ∧ L.QS r 4096 ∧ Below w.heap.size w w' := by
    rintro e w' g hg ⟨a, l, c, a', l', c', rfl, m1, m2, b⟩
    rw [hg, ← h1]
    exact ⟨_, rfl, isq_of m1 m2, ⟨ml_lt m1, ml_lt m2⟩, b⟩
  cases hg : neg n with
  | true =>
    have h0 : 0 < n.size := by
      by_cases c : 0 < n.size
      · exact c
      · exfalso
        unfold neg at hg
        rw [bt_out (by omega)] at hg
        simp at hg
    have h45 : (((n[0].toNat : Int)) == 45) = true := by
      unfold neg at hg
      rw [bt_in h0] at hg
      simp at hg ⊢
      omega
    have hr : rest n = n.extract 1 n.size := by unfold rest; rw [hg]; rfl
    rw [hr] at RS
    exact (In_neg n d _ _ _ w h0 hn rfl h45 RS RD).mono (fun e w' k => fin e w' true hg.symm k)
  | false =>
    have hr : rest n = n := by unfold rest; rw [hg]; rfl
    rw [hr] at RS b1
    have h0 : 0 < n.size := by
      unfold natB at b1
      simp only [Bool.and_eq_true, decide_eq_true_eq] at b1
      exact b1.1.2
    have h45 : (((n[0].toNat : Int)) == 45) = false := by
      unfold neg at hg
      rw [bt_in h0] at hg
      simp at hg ⊢
      omega
    exact (In_plain n d _ _ w h0 h45 RS RD).mono (fun e w' k => fin e w' false hg.symm k)
end Go.Proofs.YtebilgnmnambnaaGreatDoor.Mo

namespace Go.Proofs.YtebilgnmnambnaaGreatDoor.Mo
open Go.RowKit Dc
theorem ten_pw : ∀ j : Nat, ((10 ^ (16 * j) : Nat) : Int) ≤ Tn.pw j
  | 0 => by simp [Tn.pw]
  | j + 1 => by
    have ih := ten_pw j
    have p := Tn.pw_pos j
    have e : (10 : Nat) ^ (16 * (j + 1)) = 10 ^ (16 * j) * 10000000000000000 := by rw [Nat.mul_add, Nat.pow_add]
    rw [e]
    simp only [Tn.pw]
    generalize (10 : Nat) ^ (16 * j) = T at *
    omega
theorem num_pw' {s : ByteArray} (h : natB s = true) (j : Nat) (hs : s.size ≤ 16 * j) : (Dc.num s.data.toList : Int) < Tn.pw j := by
  have a := Dc.num_lt _ (natB_dg h)
  have l : s.data.toList.length = s.size := by simp
  have b : (10 : Nat) ^ s.data.toList.length ≤ 10 ^ (16 * j) := Nat.pow_le_pow_right (by decide) (by omega)
  have c := ten_pw j
  generalize (10 : Nat) ^ (16 * j) = T at *
  generalize (10 : Nat) ^ s.data.toList.length = U at *
  omega
theorem num_pw {s : ByteArray} (h : natB s = true) (hs : s.size ≤ 4096) : (Dc.num s.data.toList : Int) < Tn.pw 256 := num_pw' h 256 (by omega)
def rT (n d : ByteArray) : Rat := mkRat (if neg n then -(Dc.num (rest n).data.toList : Int) else (Dc.num (rest n).data.toList : Int)) (Dc.num d.data.toList)
structure Ok (n d : ByteArray) (r : Rat) : Prop where
  sg : decide (r.num < 0) = neg n
  nm : r.num.natAbs = Dc.num (rest n).data.toList
  dn : r.den = Dc.num d.data.toList
  s1 : (rest n).size ≤ 4096
  s2 : d.size ≤ 4096
  b1 : natB (rest n) = true
  b2 : natB d = true
theorem ok_rT {n d : ByteArray} (h : goodE n d = 0) : Ok n d (rT n d) := by
  obtain ⟨r, h1, h2, h3, h4, h5, h6, h7⟩ := good_rat h
  have e : r = rT n d := by
    unfold rT
    rw [← h1, ← h2, ← h3]
    have : (if decide (r.num < 0) = true then -(r.num.natAbs : Int) else (r.num.natAbs : Int)) = r.num := by
      by_cases c : r.num < 0
      · rw [decide_eq_true c, if_pos rfl]; omega
      · rw [decide_eq_false c, if_neg (by decide)]; omega
    rw [this, Rat.mkRat_self]
  rw [← e]
  exact ⟨h1, h2, h3, h4, h5, h6, h7⟩
theorem read_ok {n d : ByteArray} (h : goodE n d = 0) (hn : n.size ≤ 9223372036854775807) (hd : d.size ≤ 9223372036854775807) (x : World) : Calls Tryz.prog 47 #[.agg #[.string n, .string d]] x (Fr (rT n d) x) := by
  refine (Read_any n d x hn hd).mono ?_
  rintro e w' ⟨b, k | k⟩
  · exact absurd h k.1
  · obtain ⟨_, v1, v2, xs, ys, rfl, r1, n1, q1, _, r2, n2, q2, _⟩ := k
    obtain ⟨a, l, c, rfl⟩ := r1.shape
    obtain ⟨a', l', c', rfl⟩ := r2.shape
    have o := ok_rT h
    rw [← o.nm] at q1
    rw [← o.dn] at q2
    exact ⟨_, a, l, c, a', l', c', rfl, ⟨a, l, c, a', l', c', by rw [o.sg], ⟨xs, r1, n1, q1⟩, ⟨ys, r2, n2, q2⟩⟩, b⟩
theorem read_no {n d : ByteArray} (h : goodE n d ≠ 0) (hn : n.size ≤ 9223372036854775807) (hd : d.size ≤ 9223372036854775807) (x : World) : Calls Tryz.prog 47 #[.agg #[.string n, .string d]] x fun e w' => e = .returned (.tuple #[.agg #[.bool false, .slice none 0 0, .slice none 0 0], .int .i64 (goodE n d)]) ∧ Below x.heap.size x w' := by
  refine (Read_any n d x hn hd).mono ?_
  rintro e w' ⟨b, k | k⟩
  · exact ⟨k.2, b⟩
  · exact absurd k.1 h
end Go.Proofs.YtebilgnmnambnaaGreatDoor.Mo

namespace Go.Proofs.YtebilgnmnambnaaGreatDoor.Mo
open Go.RowKit Dc Tn
theorem cmp3_vals (x y : Int) : (x < y ∧ cmp3 x y = -1) ∨ (x = y ∧ cmp3 x y = 0) ∨ (y < x ∧ cmp3 x y = 1) := by
  unfold cmp3
  by_cases h : x < y
  · exact Or.inl ⟨h, by rw [if_pos h]⟩
  · by_cases h2 : y < x
    · exact Or.inr (Or.inr ⟨h2, by rw [if_neg h, if_pos h2]⟩)
    · exact Or.inr (Or.inl ⟨by omega, by rw [if_neg h, if_neg h2]⟩)
theorem rndQ_eq (q : Rat) (k : Int) : L.rndQ k q = if q.num % (q.den : Int) = 0 then q.num / (q.den : Int) else if L.upQ k (decide (q.num < 0)) (decide (((q.num / (q.den : Int)).natAbs : Int) % 2 = 0)) (cmp3 (q.num % (q.den : Int) * 2) q.den) = true then q.num / (q.den : Int) + 1 else q.num / (q.den : Int) := by
  have d := L.den_pos' q
  have e : q.num - q.num / (q.den : Int) * q.den = q.num % (q.den : Int) := by
    have := Int.mul_ediv_add_emod q.num (q.den : Int)
    rw [Int.mul_comm] at this
    omega
  unfold L.rndQ
  rw [L.sub_rat, Rat.floor_def, e, L.cmp_mk _ _ (by omega) (by decide), Int.one_mul]
  have z : (mkRat (q.num % (q.den : Int)) q.den = 0) ↔ q.num % (q.den : Int) = 0 := Rat.mkRat_eq_zero (by omega)
  by_cases c : q.num % (q.den : Int) = 0
  · rw [if_pos c, if_pos (z.2 c)]
  · rw [if_neg c, if_neg (fun k => c (z.1 k))]
    rfl
theorem rnd_same (q : Rat) (k : Int) (k1 : 1 ≤ k) (k6 : k ≤ 6) : L.rndQ k q = if q.num < 0 then -(rndA (decide (q.num < 0)) (q.num.natAbs : Int) q.den k) else rndA (decide (q.num < 0)) (q.num.natAbs : Int) q.den k := by
  have d := L.den_pos' q
  rw [rndQ_eq]
  generalize q.num = N at *
  generalize (q.den : Int) = D at *
  by_cases c : N < 0
  · rw [if_pos c, decide_eq_true c]
    obtain ⟨X, hX⟩ : ∃ X : Int, (N.natAbs : Int) = X := ⟨_, rfl⟩
    have eN : N = -X := by omega
    rw [hX]
    have e := Int.mul_ediv_add_emod X D
    have r0 := Int.emod_nonneg X (show D ≠ 0 by omega)
    have r1 := Int.emod_lt_of_pos X d
    have q0 : 0 ≤ X / D := Int.ediv_nonneg (by omega) (by omega)
    unfold rndA
    by_cases z : X % D = 0
    · have u := (Int.ediv_emod_unique (a := N) (b := D) (r := 0) (q := -(X / D)) d).2 ⟨by rw [Int.mul_neg, eN]; omega, by omega, d⟩
      rw [u.1, u.2, if_pos rfl, if_neg (fun h => h.1 z)]
    · have u := (Int.ediv_emod_unique (a := N) (b := D) (r := D - X % D) (q := -(X / D) - 1) d).2 ⟨by rw [Int.mul_sub, Int.mul_neg, Int.mul_one, eN]; omega, by omega, by omega⟩
      rw [u.1, u.2, if_neg (by omega)]
      generalize X / D = Q at *
      generalize X % D = R at *
      have ev : decide (((-Q - 1).natAbs : Int) % 2 = 0) = decide (Q % 2 = 1) := by
        by_cases o : Q % 2 = 1
        · rw [decide_eq_true o, decide_eq_true (by omega)]
        · rw [decide_eq_false o, decide_eq_false (by omega)]
      rw [ev]
      generalize decide (Q % 2 = 1) = o
      have key : L.upQ k true o (cmp3 ((D - R) * 2) D) = !awB true o (cmp3 (R * 2) D) k := by
        unfold L.upQ awB
        rcases cmp3_vals (R * 2) D with ⟨a, b⟩ | ⟨a, b⟩ | ⟨a, b⟩ <;> rcases cmp3_vals ((D - R) * 2) D with ⟨a', b'⟩ | ⟨a', b'⟩ | ⟨a', b'⟩ <;> (try (exfalso; omega)) <;> rw [b, b'] <;> rcases (show k = 1 ∨ k = 2 ∨ k = 3 ∨ k = 4 ∨ k = 5 ∨ k = 6 by omega) with rfl | rfl | rfl | rfl | rfl | rfl <;> cases o <;> rfl
      rw [key]
      cases awB true o (cmp3 (R * 2) D) k
      · simp [z]
      · simp [z]; omega
  · rw [if_neg c, decide_eq_false c]
    rw [show (N.natAbs : Int) = N by omega]
    have r1 := Int.emod_lt_of_pos N d
    have q0 : 0 ≤ N / D := Int.ediv_nonneg (by omega) (by omega)
    unfold rndA
    by_cases z : N % D = 0
    · rw [if_pos z, if_neg (fun h => h.1 z)]
    · rw [if_neg z]
      generalize N / D = Q at *
      generalize N % D = R at *
      have ev : decide ((Q.natAbs : Int) % 2 = 0) = !decide (Q % 2 = 1) := by
        by_cases o : Q % 2 = 1
        · rw [decide_eq_true o, decide_eq_false (by omega)]; rfl
        · rw [decide_eq_false o, decide_eq_true (by omega)]; rfl
      rw [ev]
      generalize decide (Q % 2 = 1) = o
      have key : L.upQ k false (!o) (cmp3 (R * 2) D) = awB false o (cmp3 (R * 2) D) k := by
        unfold L.upQ awB
        rcases cmp3_vals (R * 2) D with ⟨a, b⟩ | ⟨a, b⟩ | ⟨a, b⟩ <;> rw [b] <;> rcases (show k = 1 ∨ k = 2 ∨ k = 3 ∨ k = 4 ∨ k = 5 ∨ k = 6 by omega) with rfl | rfl | rfl | rfl | rfl | rfl <;> cases o <;> rfl
      rw [key]
      cases awB false o (cmp3 (R * 2) D) k
      · simp [z]
      · simp [z]
theorem rndA_nonneg (g : Bool) (X Y k : Int) (h : 0 ≤ X) (hY : 0 < Y) : 0 ≤ rndA g X Y k := by
  have := Int.ediv_nonneg h (show 0 ≤ Y by omega)
  unfold rndA
  split <;> omega
theorem Round_p (v : Value) (q : Rat) (k : Int) (m : Nat) (w : World) (h : PF w v q) (s : PS q m) (hm : m ≤ 1000000) (k1 : 1 ≤ k) (k6 : k ≤ 6) :
    Calls Tryz.prog 60 #[v, .int .i64 k] w fun e w' => ∃ v', e = .returned v' ∧ PF w' v' ((L.rndQ k q : Int) : Rat) ∧ Below w.heap.size w w' := by
  obtain ⟨a, l, c, a', l', c', rfl, ⟨xs, r1, n1, q1⟩, ⟨ys, r2, n2, q2⟩⟩ := h
  have dp := den_p q
  have lx : xs.length ≤ m := len_of r1.1 n1 (by rw [q1]; exact s.1)
  have ly : ys.length ≤ m := len_of r2.1 n2 (by rw [q2]; exact s.2)
  refine (Round_any _ _ _ xs ys k w r1 r2 n1 n2 (by omega) (by omega) (by omega) k1 k6).mono ?_
  rintro e w' ⟨r3, r4, zs, us, rfl, R1, N1, V1, R2, N2, V2, b⟩
  rw [q1, q2] at V1
  obtain ⟨p, i, j, rfl⟩ := R1.shape
  obtain ⟨p', i', j', rfl⟩ := R2.shape
  have z0 := rndA_nonneg (decide (q.num < 0)) (q.num.natAbs : Int) q.den k (by omega) dp
  have E := rnd_same q k k1 k6
  obtain ⟨M, hM⟩ : ∃ M, L.rndQ k q = M := ⟨_, rfl⟩
  rw [hM] at E ⊢
  obtain ⟨A, hA⟩ : ∃ A, rndA (decide (q.num < 0)) (q.num.natAbs : Int) q.den k = A := ⟨_, rfl⟩
  rw [hA] at E V1 z0
  have nM : ((M : Int) : Rat).num = M := rfl
  have dM : ((M : Int) : Rat).den = 1 := rfl
  refine ⟨_, rfl, ⟨p, i, j, p', i', j', ?_, ⟨zs, R1, N1, ?_⟩, ⟨us, R2, N2, by rw [V2, dM]; rfl⟩⟩, b⟩
  · rw [nM, V1]
    congr 3
    by_cases g : q.num < 0
    · rw [if_pos g] at E
      rw [decide_eq_true g, Bool.true_and]
      by_cases y : A = 0
      · rw [decide_eq_true y, decide_eq_false (by omega)]; rfl
      · rw [decide_eq_false y, decide_eq_true (by omega)]; rfl
    · rw [if_neg g] at E
      rw [decide_eq_false g, Bool.false_and, decide_eq_false (by omega)]
  · rw [V1, nM]
    by_cases g : q.num < 0
    · rw [if_pos g] at E; omega
    · rw [if_neg g] at E; omega
end Go.Proofs.YtebilgnmnambnaaGreatDoor.Mo

namespace Go.Proofs.YtebilgnmnambnaaGreatDoor.Mo
open Go.RowKit Dc
end Go.Proofs.YtebilgnmnambnaaGreatDoor.Mo

namespace Go.Proofs.YtebilgnmnambnaaGreatDoor.Mo
open Go.RowKit Dc
theorem rnd_ps {q : Rat} {k : Int} {m : Nat} (h : PS q m) (k1 : 1 ≤ k) (k6 : k ≤ 6) : PS ((L.rndQ k q : Int) : Rat) (m + 1) := by
  have d := den_p q
  have E := rnd_same q k k1 k6
  have nM : ((L.rndQ k q : Int) : Rat).num = L.rndQ k q := rfl
  have dM : ((L.rndQ k q : Int) : Rat).den = 1 := rfl
  have p := Tn.pw_pos m
  have e1 : Tn.pw (m + 1) = 18446744073709551616 * Tn.pw m := rfl
  have u : rndA (decide (q.num < 0)) (q.num.natAbs : Int) q.den k ≤ (q.num.natAbs : Int) + 1 := by
    have := Int.ediv_le_self (q.den : Int) (show (0 : Int) ≤ (q.num.natAbs : Int) by omega)
    unfold rndA
    split <;> omega
  have z := rndA_nonneg (decide (q.num < 0)) (q.num.natAbs : Int) q.den k (by omega) d
  have h1 := h.1
  refine ⟨?_, ?_⟩
  · rw [nM]
    by_cases g : q.num < 0
    · rw [if_pos g] at E; omega
    · rw [if_neg g] at E; omega
  · rw [dM]; omega
end Go.Proofs.YtebilgnmnambnaaGreatDoor.Mo

namespace Go.Proofs.YtebilgnmnambnaaGreatDoor.Mo
open Go.RowKit Dc
end Go.Proofs.YtebilgnmnambnaaGreatDoor.Mo

namespace Go.Proofs.YtebilgnmnambnaaGreatDoor.Mo
open Go.RowKit Dc
set_option maxRecDepth 100000 in
theorem Mode_any (k : Int) (w : World) : Calls Tryz.prog 62 #[.int .i64 k] w fun e w' => e = .returned (.bool (decide (1 ≤ k) && decide (k ≤ 6))) ∧ w' = w := by
  by_cases h1 : 1 ≤ k <;> by_cases h2 : k ≤ 6
  all_goals
    go_enter Tryz.func62, Tryz.ntmps62
    go_wp2
    go_ret
    exact ⟨by simp [h1, h2], rfl⟩
end Go.Proofs.YtebilgnmnambnaaGreatDoor.Mo

namespace Go.Proofs.YtebilgnmnambnaaGreatDoor.Mo
open Go.RowKit Tn
theorem cmp3_scale {c : Int} (hc : 0 < c) (a b : Int) : cmp3 (c * a) (c * b) = cmp3 a b := by
  rcases cmp3_vals a b with ⟨h, e⟩ | ⟨h, e⟩ | ⟨h, e⟩
  · have := Int.mul_lt_mul_of_pos_left h hc
    rcases cmp3_vals (c * a) (c * b) with ⟨k, f⟩ | ⟨k, f⟩ | ⟨k, f⟩ <;> omega
  · subst h
    rcases cmp3_vals (c * a) (c * a) with ⟨k, f⟩ | ⟨k, f⟩ | ⟨k, f⟩ <;> omega
  · have := Int.mul_lt_mul_of_pos_left h hc
    rcases cmp3_vals (c * a) (c * b) with ⟨k, f⟩ | ⟨k, f⟩ | ⟨k, f⟩ <;> omega
theorem rndA_scale (g : Bool) (c X Y k : Int) (hc : 0 < c) : rndA g (c * X) (c * Y) k = rndA g X Y k := by
  unfold rndA
  rw [Int.mul_ediv_mul_of_pos _ _ hc, Int.mul_emod_mul_of_pos _ _ hc, Int.mul_assoc, cmp3_scale hc]
  have : c * (X % Y) ≠ 0 ↔ X % Y ≠ 0 := by
    constructor
    · intro h z
      exact h (by rw [z, Int.mul_zero])
    · intro h
      exact Int.mul_ne_zero (by omega) h
  simp only [this]
theorem scale_of (r : Rat) (T : Nat) (hT : 0 < T) : ∃ c : Nat, 0 < c ∧ r.num.natAbs * T = c * (r * ((T : Int) : Rat)).num.natAbs ∧ r.den = c * (r * ((T : Int) : Rat)).den ∧ ((r * ((T : Int) : Rat)).num < 0 ↔ r.num < 0) := by
  have n1 : ((T : Int) : Rat).num = (T : Int) := rfl
  have d1 : ((T : Int) : Rat).den = 1 := rfl
  obtain ⟨q, hq⟩ : ∃ q, r * ((T : Int) : Rat) = q := ⟨_, rfl⟩
  have en : q.num = r.num * (T : Int) / (Nat.gcd (r.num * (T : Int)).natAbs (r.den * 1) : Nat) := by
    rw [← hq, Rat.num_mul, n1, d1]
  have ed : q.den = r.den * 1 / (Nat.gcd (r.num * (T : Int)).natAbs (r.den * 1)) := by
    rw [← hq, Rat.den_mul, n1, d1]
  rw [hq]
  obtain ⟨c, hc⟩ : ∃ c, Nat.gcd (r.num * (T : Int)).natAbs (r.den * 1) = c := ⟨_, rfl⟩
  have cd : c ∣ r.den * 1 := hc ▸ Nat.gcd_dvd_right _ _
  have cn : c ∣ (r.num * (T : Int)).natAbs := hc ▸ Nat.gcd_dvd_left _ _
  have cz : (c : Int) ∣ r.num * (T : Int) := Int.dvd_natAbs.1 (Int.natCast_dvd_natCast.2 cn)
  have c0 : 0 < c := Nat.pos_of_dvd_of_pos cd (by have := r.den_pos; omega)
  rw [hc] at en ed
  have m1 : (c : Int) * q.num = r.num * (T : Int) := by rw [en]; exact Int.mul_ediv_cancel' cz
  have m2 : c * q.den = r.den := by rw [ed, Nat.mul_div_cancel' cd, Nat.mul_one]
  refine ⟨c, c0, ?_, m2.symm, ?_⟩
  · have := congrArg Int.natAbs m1
    rw [Int.natAbs_mul, Int.natAbs_mul] at this
    simpa using this.symm
  · constructor
    · intro h
      have h1 : (c : Int) * q.num < 0 := Int.mul_neg_of_pos_of_neg (by omega) h
      rw [m1] at h1
      apply Int.not_le.1
      intro z
      have := Int.mul_nonneg z (show (0 : Int) ≤ (T : Int) by omega)
      omega
    · intro h
      have h1 : r.num * (T : Int) < 0 := Int.mul_neg_of_neg_of_pos h (by omega)
      rw [← m1] at h1
      apply Int.not_le.1
      intro z
      have := Int.mul_nonneg (show (0 : Int) ≤ (c : Int) by omega) z
      omega
theorem rnd_scaled (r : Rat) (T : Nat) (k : Int) (hT : 0 < T) (k1 : 1 ≤ k) (k6 : k ≤ 6) : rndA (decide (r.num < 0)) ((r.num.natAbs : Int) * (T : Int)) r.den k = ((L.rndQ k (r * ((T : Int) : Rat))).natAbs : Int) ∧ (decide (r.num < 0) && !decide (((L.rndQ k (r * ((T : Int) : Rat))).natAbs : Int) = 0)) = decide (L.rndQ k (r * ((T : Int) : Rat)) < 0) := by
  obtain ⟨c, c0, m1, m2, sg⟩ := scale_of r T hT
  obtain ⟨q, hq⟩ : ∃ q, r * ((T : Int) : Rat) = q := ⟨_, rfl⟩
  rw [hq] at m1 m2 sg ⊢
  have E := rnd_same q k k1 k6
  have e1 : (r.num.natAbs : Int) * (T : Int) = (c : Int) * (q.num.natAbs : Int) := by exact_mod_cast m1
  have e2 : (r.den : Int) = (c : Int) * (q.den : Int) := by exact_mod_cast m2
  have dp := den_p q
  rw [e1, e2, rndA_scale _ _ _ _ _ (by omega), show decide (r.num < 0) = decide (q.num < 0) from decide_eq_decide.2 sg.symm]
  have z0 := rndA_nonneg (decide (q.num < 0)) (q.num.natAbs : Int) q.den k (by omega) dp
  obtain ⟨M, hM⟩ : ∃ M, L.rndQ k q = M := ⟨_, rfl⟩
  obtain ⟨A, hA⟩ : ∃ A, rndA (decide (q.num < 0)) (q.num.natAbs : Int) q.den k = A := ⟨_, rfl⟩
  rw [hM, hA] at E
  rw [hA] at z0
  rw [hM, hA]
  by_cases g : q.num < 0
  · rw [if_pos g] at E
    refine ⟨by omega, ?_⟩
    rw [decide_eq_true g, Bool.true_and]
    by_cases y : A = 0
    · rw [decide_eq_true (by omega), decide_eq_false (by omega)]; rfl
    · rw [decide_eq_false (by omega), decide_eq_true (by omega)]; rfl
  · rw [if_neg g] at E
    refine ⟨by omega, ?_⟩
    rw [decide_eq_false g, Bool.false_and, decide_eq_false (by omega)]
def dT (p : Nat) (M : Int) : ByteArray × Int := if 4096 < (padl p (Lib.decDigits M.natAbs)).length then (⟨#[]⟩, 3) else (sB (sg (decide (M < 0)) (dott p (padl p (Lib.decDigits M.natAbs)))), 0)
end Go.Proofs.YtebilgnmnambnaaGreatDoor.Mo
