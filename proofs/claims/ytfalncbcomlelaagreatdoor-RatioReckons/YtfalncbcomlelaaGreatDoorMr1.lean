import Derived.Test.YtfalncbcomlelaaGreatDoorGd5
import Derived.Test.YtfalncbcomlelaaGreatDoorPfs
import Derived.Test.YtfalncbcomlelaaGreatDoorB22
namespace Go.Proofs.YtfalncbcomlelaaGreatDoor.Mo
open Go.RowKit Dc

theorem nat_pos {s : ByteArray} (h : natB s = true) (h0 : is0 s = false) : 0 < Dc.num s.data.toList := by
  have hd := natB_dg h
  unfold natB at h
  simp only [Bool.and_eq_true, decide_eq_true_eq] at h
  obtain ⟨⟨_, hp⟩, hc⟩ := h
  have hsz : s.data.toList.length = s.size := by simp
  cases e : s.data.toList with
  | nil => rw [e] at hsz; simp at hsz; omega
  | cons c r =>
    rw [e] at hd hsz
    have c1 := hd c (by simp)
    unfold Dc.Dg at c1
    rw [Dc.num_cons]
    have b0 : bt s 0 = c.toNat := by
      rw [bt_in hp, Dc.at_list s 0 hp]
      simp [e]
    have p10 : 0 < 10 ^ r.length := Nat.pow_pos (by decide)
    have k : 48 < c.toNat := by
      by_cases k : c.toNat = 48
      · exfalso
        rw [b0] at hc
        simp [k] at hc
        have r0 : r = [] := by
          simp at hsz
          cases r with
          | nil => rfl
          | cons a b => simp at hsz; omega
        unfold is0 at h0
        rw [ByteArray.toList_eq, e, r0] at h0
        have : c = 48 := by apply UInt8.toNat_inj.1; simpa using k
        rw [this] at h0
        simp at h0
      · omega
    have := Nat.mul_le_mul (show 1 ≤ c.toNat - 48 by omega) (show 1 ≤ 10 ^ r.length from p10)
    omega
/-- What is right is an exact number in lowest terms. -/
theorem good_rat {n d : ByteArray} (h : goodE n d = 0) : ∃ r : Rat, decide (r.num < 0) = neg n ∧ r.num.natAbs = Dc.num (rest n).data.toList ∧ r.den = Dc.num d.data.toList ∧ (rest n).size ≤ 4096 ∧ d.size ≤ 4096 ∧ natB (rest n) = true ∧ natB d = true := by
  unfold goodE at h
  rcases hs : shB n d with _ | _
  · rw [hs] at h; simp at h
  rw [hs] at h
  simp only [Bool.true_eq_false, if_false] at h
  by_cases hl : 4096 < (rest n).size ∨ 4096 < d.size
  · rw [if_pos hl] at h; simp at h
  rw [if_neg hl] at h
  by_cases hg : Int.gcd (Dc.num (rest n).data.toList : Int) (Dc.num d.data.toList : Int) ≠ 1
  · rw [if_pos hg] at h; simp at h
  simp only [Classical.not_not] at hg
  unfold shB at hs
  rw [Bool.and_eq_true, Bool.and_eq_true, Bool.and_eq_true, Bool.not_eq_true', Bool.not_eq_true'] at hs
  obtain ⟨⟨⟨a1, a2⟩, a3⟩, a4⟩ := hs
  unfold whB at a1
  rw [Bool.and_eq_true, Bool.not_eq_true'] at a1
  have D0 := nat_pos a2 a3
  have g' : Nat.gcd (Dc.num (rest n).data.toList) (Dc.num d.data.toList) = 1 := hg
  cases hn : neg n with
  | false =>
    refine ⟨⟨(Dc.num (rest n).data.toList : Int), Dc.num d.data.toList, by omega, by simpa [Nat.Coprime] using g'⟩, ?_, by simp, rfl, by omega, by omega, a1.1, a2⟩
    simp
  | true =>
    have z := a1.2
    rw [hn, Bool.true_and] at z
    have N0 := nat_pos a1.1 z
    refine ⟨⟨-(Dc.num (rest n).data.toList : Int), Dc.num d.data.toList, by omega, by simpa [Nat.Coprime] using g'⟩, ?_, by simp, rfl, by omega, by omega, a1.1, a2⟩
    simp
    omega
theorem ml_lt {x : World} {a : Option Addr} {l c : Nat} {N : Int} (h : Ml x a l c N) : N < Tl.pw 4096 := by
  obtain ⟨xs, r, _, rfl, m⟩ := h
  have := Tl.val_lt r.1
  have := Tl.pw_mono m
  omega
theorem isq_of {x : World} {r : Rat} {a a' : Option Addr} {l c l' c' : Nat} (h1 : Ml x a l c (r.num.natAbs : Int)) (h2 : Ml x a' l' c' (r.den : Int)) : L.IsQ x (.agg #[.bool (decide (r.num < 0)), .slice a l c, .slice a' l' c']) r := by
  obtain ⟨xs, r1, n1, v1, _⟩ := h1
  obtain ⟨ys, r2, n2, v2, _⟩ := h2
  have e1 : l = xs.length := by obtain ⟨_, _, _, e, _⟩ := r1; cases e; rfl
  have e2 : l' = ys.length := by obtain ⟨_, _, _, e, _⟩ := r2; cases e; rfl
  subst e1 e2
  exact ⟨xs, ys, a, a', c, c', rfl, r1, n1, v1, r2, n2, v2⟩
/-- In of what is right. -/
theorem In_q {n d : ByteArray} {r : Rat} (w : World) (hn : n.size ≤ 9223372036854775807) (h1 : decide (r.num < 0) = neg n) (h2 : r.num.natAbs = Dc.num (rest n).data.toList) (h3 : r.den = Dc.num d.data.toList) (s1 : (rest n).size ≤ 4096) (s2 : d.size ≤ 4096) (b1 : natB (rest n) = true) (b2 : natB d = true) :
    Calls Tryz.prog 27 #[.agg #[.string n, .string d]] w fun e w' => ∃ v, e = .returned v ∧ L.IsQ w' v r ∧ L.QS r 4096 ∧ Below w.heap.size w w' := by
  have RD := BRead_m d s2 b2
  have RS := BRead_m (rest n) s1 b1
  rw [← h3] at RD
  rw [← h2] at RS
  have fin : ∀ (e : Ending) (w' : World) (g : Bool), g = neg n → (∃ a l c a' l' c', e = .returned (.agg #[.bool g, .slice a l c, .slice a' l' c']) ∧ Ml w' a l c (r.num.natAbs : Int) ∧ Ml w' a' l' c' (r.den : Int) ∧ Below w.heap.size w w') → ∃ v, e = .returned v ∧ L.IsQ w' v r ∧ L.QS r 4096 ∧ Below w.heap.size w w' := by
    rintro e w' g hg ⟨a, l, c, a', l', c', rfl, m1, m2, b⟩
    rw [hg, ← h1]
    exact ⟨_, rfl, isq_of m1 m2, ⟨ml_lt m1, ml_lt m2⟩, b⟩
  cases hg : neg n with
  | true =>
    have h0 : 0 < n.size := by
      by_cases c : 0 < n.size
      · exact c
      · exfalso
        unfold neg at hg
        rw [bt_out (by omega)] at hg
        simp at hg
    have h45 : (((n[0].toNat : Int)) == 45) = true := by
      unfold neg at hg
      rw [bt_in h0] at hg
      simp at hg ⊢
      omega
    have hr : rest n = n.extract 1 n.size := by unfold rest; rw [hg]; rfl
    rw [hr] at RS
    exact (In_neg n d _ _ _ w h0 hn rfl h45 RS RD).mono (fun e w' k => fin e w' true hg.symm k)
  | false =>
    have hr : rest n = n := by unfold rest; rw [hg]; rfl
    rw [hr] at RS b1
    have h0 : 0 < n.size := by
      unfold natB at b1
      simp only [Bool.and_eq_true, decide_eq_true_eq] at b1
      exact b1.1.2
    have h45 : (((n[0].toNat : Int)) == 45) = false := by
      unfold neg at hg
      rw [bt_in h0] at hg
      simp at hg ⊢
      omega
    exact (In_plain n d _ _ w h0 h45 RS RD).mono (fun e w' k => fin e w' false hg.symm k)
end Go.Proofs.YtfalncbcomlelaaGreatDoor.Mo
