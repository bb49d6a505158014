import Derived.Test.YtebilgnmnambnaaGreatDoorPart31
import Derived.Test.YtebilgnmnambnaaGreatDoorPart29
import Derived.Test.YtebilgnmnambnaaGreatDoorPart10

namespace Go.Proofs.YtebilgnmnambnaaGreatDoor.Mo
open Go.RowKit Dc

theorem ml_lt {x : World} {a : Option Addr} {l c : Nat} {N : Int} (h : Ml x a l c N) : N < Tl.pw 4096 := by
  obtain ⟨xs, r, _, rfl, m⟩ := h
  have := Tl.val_lt r.1
  have := Tl.pw_mono m
  omega
theorem isq_of {x : World} {r : Rat} {a a' : Option Addr} {l c l' c' : Nat} (h1 : Ml x a l c (r.num.natAbs : Int)) (h2 : Ml x a' l' c' (r.den : Int)) : L.IsQ x (.agg #[.bool (decide (r.num < 0)), .slice a l c, .slice a' l' c']) r := by
  obtain ⟨xs, r1, n1, v1, _⟩ := h1
  obtain ⟨ys, r2, n2, v2, _⟩ := h2
  have e1 : l = xs.length := by obtain ⟨_, _, _, e, _⟩ := r1; cases e; rfl
  have e2 : l' = ys.length := by obtain ⟨_, _, _, e, _⟩ := r2; cases e; rfl
  subst e1 e2
  exact ⟨xs, ys, a, a', c, c', rfl, r1, n1, v1, r2, n2, v2⟩
/-- In of what is right. -/
theorem In_q {n d : ByteArray} {r : Rat} (w : World) (hn : n.size ≤ 9223372036854775807) (h1 : decide (r.num < 0) = neg n) (h2 : r.num.natAbs = Dc.num (rest n).data.toList) (h3 : r.den = Dc.num d.data.toList) (s1 : (rest n).size ≤ 4096) (s2 : d.size ≤ 4096) (b1 : natB (rest n) = true) (b2 : natB d = true) :
    Calls Tryz.prog 52 #[.agg #[.string n, .string d]] w fun e w' => ∃ v, e = .returned v ∧ L.IsQ w' v r ∧ L.QS r 4096 ∧ Below w.heap.size w w' := by
  have RD := BRead_m d s2 b2
  have RS := BRead_m (rest n) s1 b1
  rw [← h3] at RD
  rw [← h2] at RS
  have fin : ∀ (e : Ending) (w' : World) (g : Bool), g = neg n → (∃ a l c a' l' c', e = .returned (.agg #[.bool g, .slice a l c, .slice a' l' c']) ∧ Ml w' a l c (r.num.natAbs : Int) ∧ Ml w' a' l' c' (r.den : Int) ∧ Below w.heap.size w w') → ∃ v, e = .returned v ∧ L.IsQ w' v r ∧ L.QS r 4096 ∧ Below w.heap.size w w' := by
    rintro e w' g hg ⟨a, l, c, a', l', c', rfl, m1, m2, b⟩
    rw [hg, ← h1]
    exact ⟨_, rfl, isq_of m1 m2, ⟨ml_lt m1, ml_lt m2⟩, b⟩
  cases hg : neg n with
  | true =>
    have h0 : 0 < n.size := by
      by_cases c : 0 < n.size
      · exact c
      · exfalso
        unfold neg at hg
        rw [bt_out (by omega)] at hg
        simp at hg
    have h45 : (((n[0].toNat : Int)) == 45) = true := by
      unfold neg at hg
      rw [bt_in h0] at hg
      simp at hg ⊢
      omega
    have hr : rest n = n.extract 1 n.size := by unfold rest; rw [hg]; rfl
    rw [hr] at RS
    exact (In_neg n d _ _ _ w h0 hn rfl h45 RS RD).mono (fun e w' k => fin e w' true hg.symm k)
  | false =>
    have hr : rest n = n := by unfold rest; rw [hg]; rfl
    rw [hr] at RS b1
    have h0 : 0 < n.size := by
      unfold natB at b1
      simp only [Bool.and_eq_true, decide_eq_true_eq] at b1
      exact b1.1.2
    have h45 : (((n[0].toNat : Int)) == 45) = false := by
      unfold neg at hg
      rw [bt_in h0] at hg
      simp at hg ⊢
      omega
    exact (In_plain n d _ _ w h0 h45 RS RD).mono (fun e w' k => fin e w' false hg.symm k)
end Go.Proofs.YtebilgnmnambnaaGreatDoor.Mo

namespace Go.Proofs.YtebilgnmnambnaaGreatDoor.Mo
open Go.RowKit Dc

theorem ten_pw : ∀ j : Nat, ((10 ^ (16 * j) : Nat) : Int) ≤ Tn.pw j
  | 0 => by simp [Tn.pw]
  | j + 1 => by
    have ih := ten_pw j
    have p := Tn.pw_pos j
    have e : (10 : Nat) ^ (16 * (j + 1)) = 10 ^ (16 * j) * 10000000000000000 := by rw [Nat.mul_add, Nat.pow_add]
    rw [e]
    simp only [Tn.pw]
    generalize (10 : Nat) ^ (16 * j) = T at *
    omega
theorem num_pw' {s : ByteArray} (h : natB s = true) (j : Nat) (hs : s.size ≤ 16 * j) : (Dc.num s.data.toList : Int) < Tn.pw j := by
  have a := Dc.num_lt _ (natB_dg h)
  have l : s.data.toList.length = s.size := by simp
  have b : (10 : Nat) ^ s.data.toList.length ≤ 10 ^ (16 * j) := Nat.pow_le_pow_right (by decide) (by omega)
  have c := ten_pw j
  generalize (10 : Nat) ^ (16 * j) = T at *
  generalize (10 : Nat) ^ s.data.toList.length = U at *
  omega
theorem num_pw {s : ByteArray} (h : natB s = true) (hs : s.size ≤ 4096) : (Dc.num s.data.toList : Int) < Tn.pw 256 := num_pw' h 256 (by omega)
structure Ok (n d : ByteArray) (r : Rat) : Prop where
  sg : decide (r.num < 0) = neg n
  nm : r.num.natAbs = Dc.num (rest n).data.toList
  dn : r.den = Dc.num d.data.toList
  s1 : (rest n).size ≤ 4096
  s2 : d.size ≤ 4096
  b1 : natB (rest n) = true
  b2 : natB d = true
theorem Ok.ps {n d : ByteArray} {r : Rat} (h : Ok n d r) : PS r 256 := ⟨by rw [h.nm]; exact num_pw h.b1 h.s1, by rw [h.dn]; exact num_pw h.b2 h.s2⟩
theorem read_no {n d : ByteArray} (h : goodE n d ≠ 0) (hn : n.size ≤ 9223372036854775807) (hd : d.size ≤ 9223372036854775807) (x : World) : Calls Tryz.prog 47 #[.agg #[.string n, .string d]] x fun e w' => e = .returned (.tuple #[.agg #[.bool false, .slice none 0 0, .slice none 0 0], .int .i64 (goodE n d)]) ∧ Below x.heap.size x w' := by
  refine (Read_any n d x hn hd).mono ?_
  rintro e w' ⟨b, k | k⟩
  · exact ⟨k.2, b⟩
  · exact absurd k.1 h
end Go.Proofs.YtebilgnmnambnaaGreatDoor.Mo
