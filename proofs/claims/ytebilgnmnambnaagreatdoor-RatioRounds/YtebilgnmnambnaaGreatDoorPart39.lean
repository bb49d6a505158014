import Derived.Test.YtebilgnmnambnaaGreatDoorPart36
import Derived.Test.YtebilgnmnambnaaGreatDoorPart38
import Derived.Test.YtebilgnmnambnaaGreatDoorPart30
import Derived.Test.YtebilgnmnambnaaGreatDoorPart22
import Derived.Deep.RegionHeld3

namespace Go.Proofs.YtebilgnmnambnaaGreatDoor.Mo
open Go.RowKit Fu Tn Go.Lib Dc
theorem dec_of_digits (n : Nat) : ∀ l : List UInt8, l.length = n → (∀ c ∈ l, Dc.Dg c) → l ≠ [] → (l.length = 1 ∨ ∀ c, l.head? = some c → c.toNat ≠ 48) → decDigits (Dc.num l) = l := by
 induction n with
 | zero => intro l hl _ ne; exact absurd (List.length_eq_zero_iff.1 hl) ne
 | succ n ih =>
  intro l hl hd ne h0
  obtain ⟨m, c, rfl⟩ : ∃ m c, l = m ++ [c] := ⟨l.dropLast, l.getLast ne, (List.dropLast_concat_getLast ne).symm⟩
  have hc : Dc.Dg c := hd c (by simp)
  unfold Dc.Dg at hc
  have e48 : UInt8.ofNat (48 + (c.toNat - 48)) = c := by
   apply UInt8.toNat_inj.1
   rw [b48 (by omega)]; omega
  rw [List.length_append, List.length_singleton] at hl
  by_cases me : m = []
  ·subst me
   rw [List.nil_append, Dc.num_single, decDigits, dif_pos (by omega), e48]
  ·have hh : ∀ c', m.head? = some c' → c'.toNat ≠ 48 := by
    intro c' e
    rcases h0 with h0 | h0
    ·rw [List.length_append, List.length_singleton] at h0
     exact absurd (List.length_eq_zero_iff.1 (show m.length = 0 by omega)) me
    ·exact h0 c' (by rw [List.head?_append, e]; rfl)
   have i := ih m (by omega) (fun c' h => hd c' (by simp [h])) me (Or.inr hh)
   have pos : 0 < Dc.num m := by
    obtain ⟨a, t, rfl⟩ := List.exists_cons_of_ne_nil me
    have ha := hd a (by simp)
    unfold Dc.Dg at ha
    have := hh a rfl
    rw [Dc.num_cons]
    have p10 : 0 < 10 ^ t.length := Nat.pow_pos (by decide)
    have := Nat.mul_pos (show 0 < a.toNat - 48 by omega) p10
    omega
   rw [Dc.num_append, Dc.num_single, List.length_singleton, Nat.pow_one]
   rw [decDigits, dif_neg (by omega)]
   rw [show (Dc.num m * 10 + (c.toNat - 48)) / 10 = Dc.num m by omega, show (Dc.num m * 10 + (c.toNat - 48)) % 10 = c.toNat - 48 by omega, i, e48]
theorem sB_data (s : ByteArray) : sB s.data.toList = s := by
 apply ByteArray.ext
 simp [sB]
theorem nat_text {s : ByteArray} (h : natB s = true) : sB (decDigits (Dc.num s.data.toList)) = s := by
 have hd := natB_dg h
 unfold natB at h
 rw [Bool.and_eq_true, Bool.and_eq_true, decide_eq_true_iff, Bool.or_eq_true, decide_eq_true_iff] at h
 obtain ⟨⟨_, h1⟩, h2⟩ := h
 have hl : s.data.toList.length = s.size := by simp
 rw [dec_of_digits _ s.data.toList rfl hd (by intro e; rw [e] at hl; simp at hl; omega) ?_, sB_data]
 rcases h2 with h2 | h2
 ·left; omega
 ·right
  intro c e
  rw [bt_in h1] at h2
  simp only [Bool.not_eq_true', decide_eq_false_iff_not] at h2
  have : s[0] = c := by
   have q : s.data.toList[0]? = some c := by rw [← List.head?_eq_getElem?]; exact e
   rw [List.getElem?_eq_getElem (by omega)] at q
   exact Option.some.inj q
  rw [← this]; exact h2
theorem neg_rest (s : ByteArray) : sB (sg (neg s) (rest s).data.toList) = s := by
 unfold rest sg
 cases h : neg s with
 | false => simp [sB_data]
 | true =>
  unfold neg at h
  rw [decide_eq_true_iff] at h
  have h1 : 0 < s.size := by
   by_cases c : 0 < s.size
   ·exact c
   ·rw [bt_out (by omega)] at h; simp at h
  rw [bt_in h1] at h
  simp only [if_true]
  apply ByteArray.ext
  apply Array.ext'
  rw [ByteArray.data_extract]
  simp only [sB, Array.toList_extract, List.extract_eq_take_drop]
  have hl : s.data.toList.length = s.size := by simp
  have e : s.data.toList = s[0] :: s.data.toList.drop 1 := by
   rcases q : s.data.toList with _ | ⟨a, t⟩
   ·rw [q] at hl; simp at hl; omega
   ·have : s[0] = a := by
     have : s.data.toList[0]? = some a := by rw [q]; rfl
     rw [List.getElem?_eq_getElem (by omega)] at this
     exact Option.some.inj this
    simp [this]
  have e45 : s[0] = 45 := UInt8.toNat_inj.1 h
  rw [List.take_of_length_le (by rw [List.length_drop]; omega)]
  rw [e45] at e
  simpa using e.symm
theorem good_wrt {n d : ByteArray} (h : goodE n d = 0) : ∃ r : Rat, (.agg #[.string n, .string d] : Value) = wrt r ∧ (decDigits r.num.natAbs).length ≤ n.size ∧ (decDigits r.den).length = d.size ∧ (decDigits r.num.natAbs).length ≤ 4096 ∧ (decDigits r.den).length ≤ 4096 := by
 unfold goodE at h
 rcases hs : shB n d with _ | _
 ·rw [hs] at h; simp at h
 rw [hs] at h
 simp only [Bool.true_eq_false, if_false] at h
 by_cases hl : 4096 < (rest n).size ∨ 4096 < d.size
 ·rw [if_pos hl] at h; simp at h
 rw [if_neg hl] at h
 by_cases hg : Int.gcd (Dc.num (rest n).data.toList : Int) (Dc.num d.data.toList : Int) ≠ 1
 ·rw [if_pos hg] at h; simp at h
 simp only [Classical.not_not] at hg
 have hs' := hs
 unfold shB at hs'
 rw [Bool.and_eq_true, Bool.and_eq_true, Bool.and_eq_true, Bool.not_eq_true', Bool.not_eq_true'] at hs'
 obtain ⟨⟨⟨a1, a2⟩, a3⟩, a4⟩ := hs'
 have a1' := a1
 unfold whB at a1'
 rw [Bool.and_eq_true, Bool.not_eq_true'] at a1'
 have t1 := nat_text a1'.1
 have t2 := nat_text a2
 have hN := neg_rest n
 have hr := rest_size n
 obtain ⟨N, eN⟩ : ∃ N, Dc.num (rest n).data.toList = N := ⟨_, rfl⟩
 obtain ⟨D, eD⟩ : ∃ D, Dc.num d.data.toList = D := ⟨_, rfl⟩
 rw [eN] at t1 hg
 rw [eD] at t2 hg
 have l1 : (decDigits N).length = (rest n).size := by rw [← t1, sB_size]
 have l2 : (decDigits D).length = d.size := by rw [← t2, sB_size]
 have D0 : D ≠ 0 := by
  rintro rfl
  rw [← t2, dec_is0] at a3
  simp at a3
 have hco : Nat.Coprime N D := by
  unfold Nat.Coprime
  simpa [Int.gcd] using hg
 have nz : neg n = true → N ≠ 0 := by
  rintro h1 rfl
  have := a1'.2
  rw [h1, ← t1, dec_is0] at this
  simp at this
 refine ⟨⟨if neg n then -(N : Int) else N, D, D0, ?_⟩, ?_, ?_, ?_, ?_, ?_⟩
 ·split <;> simpa using hco
 ·have e1 : (if neg n = true then -(N : Int) else (N : Int)).natAbs = N := by split <;> simp
  have e2 : decide ((if neg n = true then -(N : Int) else (N : Int)) < 0) = neg n := by
   cases hn : neg n with
   | false => simp
   | true => have := nz hn; simp; omega
  unfold wrt
  simp only [e1, e2]
  rw [t2]
  have : (rest n).data.toList = decDigits N := by rw [← t1, sB_list]
  rw [← this, hN]
 all_goals
  have e1 : (if neg n = true then -(N : Int) else (N : Int)).natAbs = N := by split <;> simp
  simp only [e1]
  omega
theorem pw_two (n : Nat) : pw n = ((2 ^ (64 * n) : Nat) : Int) := by
 induction n with
 | zero => rfl
 | succ n ih =>
  have e1 : pw 1 = ((2 ^ 64 : Nat) : Int) := by decide
  rw [pw_add, ih, e1, ← Int.natCast_mul, ← Nat.pow_add, Nat.mul_add]
theorem ten_le_of_digits (N : Nat) : 0 < N → 10 ^ ((decDigits N).length - 1) ≤ N := by
 intro h
 obtain ⟨c, t, e, _, h2⟩ := dec_cons N
 have hd := dec_dg N c (by rw [e]; exact List.mem_cons_self)
 unfold Dc.Dg at hd
 have := h2 h
 have q := dec_num N
 rw [e, Dc.num_cons] at q
 rw [e, List.length_cons, Nat.add_sub_cancel]
 have := Nat.mul_le_mul_right (10 ^ t.length) (show 1 ≤ c.toNat - 48 by omega)
 omega
theorem len_of_lt' {N L k B : Nat} (h : 10 ^ (L - 1) ≤ N) (hN : N < B) (hB : B < 10 ^ k) : L ≤ k + 1 := by
 by_cases c : L ≤ k + 1
 ·exact c
 ·exact absurd (Nat.lt_of_lt_of_le (Nat.lt_trans hN hB) (Nat.le_trans (Nat.pow_le_pow_right (by decide) (show k ≤ L - 1 by omega)) h)) (Nat.lt_irrefl _)
theorem PS.mul {r s : Rat} {m n : Nat} (h : PS r m) (k : PS s n) : PS (r * s) (m + n) := by
 obtain ⟨t1, t2, _⟩ := times_low r s _ _ rfl rfl
 have d1 := den_p r
 have d2 := den_p s
 have ge0 : ∀ a : Nat, (0 : Int) ≤ (a : Int) := fun a => by omega
 have q : ∀ (a g b g' : Nat) , (a : Int) < pw m → (b : Int) < pw n → (a : Int) / (g : Int) * ((b : Int) / (g' : Int)) < pw (m + n) := fun a g b g' ha hb => by
  have x1 := Int.ediv_le_self (g : Int) (ge0 a)
  have x2 := Int.ediv_le_self (g' : Int) (ge0 b)
  have y1 : 0 ≤ (a : Int) / (g : Int) := Int.ediv_nonneg (ge0 a) (ge0 g)
  have y2 : 0 ≤ (b : Int) / (g' : Int) := Int.ediv_nonneg (ge0 b) (ge0 g')
  have z1 := Int.mul_le_mul x1 x2 y2 (ge0 a)
  rw [pw_add]
  have z2 := Int.mul_lt_mul' (Int.le_of_lt ha) hb (ge0 b) (pw_pos m)
  omega
 exact ⟨by rw [t1]; exact q _ _ _ _ h.1 k.1, by rw [t2]; exact q _ _ _ _ h.2 k.2⟩
theorem PS.inv {r : Rat} {m : Nat} (h : PS r m) (h0 : r ≠ 0) : PS r⁻¹ m := by
 obtain ⟨_, i2, i3⟩ := inv_num r h0
 unfold PS at *
 rw [i2, i3]
 exact ⟨h.2, h.1⟩
end Go.Proofs.YtebilgnmnambnaaGreatDoor.Mo

namespace Go.Proofs.YtebilgnmnambnaaGreatDoor.Mo
open Go.RowKit Tn
def psg (r : Rat) : Int := if r.num < 0 then -1 else if r.num = 0 then 0 else 1
theorem Sign_p (v : Value) (r : Rat) (w : World) (h : PF w v r) :
  Calls Tryz.prog 58 #[v] w fun e w' => e = .returned (.int .i64 (psg r)) ∧ Below w.heap.size w w' := by
 obtain ⟨a, l, c, a', l', c', rfl, ⟨xs, r1, n1, v1⟩, k2⟩ := h
 refine (sign_any _ _ _ xs w r1 n1 ⟨_, _, _, rfl⟩).mono ?_
 rintro e w' ⟨rfl, b⟩
 refine ⟨?_, b⟩
 rw [v1]
 unfold psg
 by_cases g : r.num < 0
 ·simp [g]
 ·by_cases z : r.num = 0
  ·simp [z]
  ·simp [g, z]
end Go.Proofs.YtebilgnmnambnaaGreatDoor.Mo

namespace Go.Proofs.YtebilgnmnambnaaGreatDoor.Mo
open Go.RowKit Fu Tn Go.Lib Dc
end Go.Proofs.YtebilgnmnambnaaGreatDoor.Mo

namespace Go.Proofs.YtebilgnmnambnaaGreatDoor.Mo
open Go.RowKit Fu Tn Go.Lib Dc
end Go.Proofs.YtebilgnmnambnaaGreatDoor.Mo

namespace Go.Proofs.YtebilgnmnambnaaGreatDoor.Mo
open Go.RowKit Fu Tn Go.Lib Dc
def wn (r : Rat) : ByteArray := (wA (decide (r.num < 0)) r.num.natAbs r.den).1.1
def wd (r : Rat) : ByteArray := (wA (decide (r.num < 0)) r.num.natAbs r.den).1.2
def Rdy (r : Rat) : Prop := (decDigits r.num.natAbs).length ≤ 4096 ∧ (decDigits r.den).length ≤ 4096
theorem Read_r {r : Rat} (h : Rdy r) (x : World) : Calls Tryz.prog 47 #[wrt r] x fun e w' => ∃ (a : Option Addr × Option Addr) (l c : Nat × Nat), e = .returned (.tuple #[.agg #[.bool (decide (r.num < 0)), .slice a.1 l.1 c.1, .slice a.2 l.2 c.2], .int .i64 0]) ∧ (Nn w' a.1 l.1 c.1 (r.num.natAbs : Int) ∧ Nn w' a.2 l.2 c.2 (r.den : Int)) ∧ Below x.heap.size x w' := by
 refine (Read_p r x h.1 h.2).mono ?_
 rintro e w' ⟨v, rfl, ⟨a, l, c, a', l', c', rfl, k1, k2⟩, b⟩
 exact ⟨(a, a'), (l, l'), (c, c'), rfl, ⟨k1, k2⟩, b⟩
end Go.Proofs.YtebilgnmnambnaaGreatDoor.Mo
