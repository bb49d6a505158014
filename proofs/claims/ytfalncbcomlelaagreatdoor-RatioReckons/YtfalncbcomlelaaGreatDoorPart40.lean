import Derived.Test.YtfalncbcomlelaaGreatDoorPart37
import Derived.Test.YtfalncbcomlelaaGreatDoorPart39
import Derived.Test.YtfalncbcomlelaaGreatDoorPart30
import Derived.Test.YtfalncbcomlelaaGreatDoorPart21
import Derived.Deep.RegionHeld3
import Derived.Test.YtfalncbcomlelaaGreatDoorPart26

namespace Go.Proofs.YtfalncbcomlelaaGreatDoor.Mo
open Go.RowKit Fu Tn Go.Lib Dc

/-- Digits without noughts ahead are the digits of their number. -/
theorem dec_of_digits (n : Nat) : ∀ l : List UInt8, l.length = n → (∀ c ∈ l, Dc.Dg c) → l ≠ [] → (l.length = 1 ∨ ∀ c, l.head? = some c → c.toNat ≠ 48) → decDigits (Dc.num l) = l := by
 induction n with
 | zero => intro l hl _ ne; exact absurd (List.length_eq_zero_iff.1 hl) ne
 | succ n ih =>
  intro l hl hd ne h0
  obtain ⟨m, c, rfl⟩ : ∃ m c, l = m ++ [c] := ⟨l.dropLast, l.getLast ne, (List.dropLast_concat_getLast ne).symm⟩
  have hc : Dc.Dg c := hd c (by simp)
  unfold Dc.Dg at hc
  have e48 : UInt8.ofNat (48 + (c.toNat - 48)) = c := by
   apply UInt8.toNat_inj.1
   rw [b48 (by omega)]; omega
  rw [List.length_append, List.length_singleton] at hl
  by_cases me : m = []
  ·subst me
   rw [List.nil_append, Dc.num_single, decDigits, dif_pos (by omega), e48]
  ·have hh : ∀ c', m.head? = some c' → c'.toNat ≠ 48 := by
    intro c' e
    rcases h0 with h0 | h0
    ·rw [List.length_append, List.length_singleton] at h0
     exact absurd (List.length_eq_zero_iff.1 (show m.length = 0 by omega)) me
    ·exact h0 c' (by rw [List.head?_append, e]; rfl)
   have i := ih m (by omega) (fun c' h => hd c' (by simp [h])) me (Or.inr hh)
   have pos : 0 < Dc.num m := by
    obtain ⟨a, t, rfl⟩ := List.exists_cons_of_ne_nil me
    have ha := hd a (by simp)
    unfold Dc.Dg at ha
    have := hh a rfl
    rw [Dc.num_cons]
    have p10 : 0 < 10 ^ t.length := Nat.pow_pos (by decide)
    have := Nat.mul_pos (show 0 < a.toNat - 48 by omega) p10
    omega
   rw [Dc.num_append, Dc.num_single, List.length_singleton, Nat.pow_one]
   rw [decDigits, dif_neg (by omega)]
   rw [show (Dc.num m * 10 + (c.toNat - 48)) / 10 = Dc.num m by omega, show (Dc.num m * 10 + (c.toNat - 48)) % 10 = c.toNat - 48 by omega, i, e48]
theorem sB_data (s : ByteArray) : sB s.data.toList = s := by
 apply ByteArray.ext
 simp [sB]
theorem nat_text {s : ByteArray} (h : natB s = true) : sB (decDigits (Dc.num s.data.toList)) = s := by
 have hd := natB_dg h
 unfold natB at h
 rw [Bool.and_eq_true, Bool.and_eq_true, decide_eq_true_iff, Bool.or_eq_true, decide_eq_true_iff] at h
 obtain ⟨⟨_, h1⟩, h2⟩ := h
 have hl : s.data.toList.length = s.size := by simp
 rw [dec_of_digits _ s.data.toList rfl hd (by intro e; rw [e] at hl; simp at hl; omega) ?_, sB_data]
 rcases h2 with h2 | h2
 ·left; omega
 ·right
  intro c e
  rw [bt_in h1] at h2
  simp only [Bool.not_eq_true', decide_eq_false_iff_not] at h2
  have : s[0] = c := by
   have q : s.data.toList[0]? = some c := by rw [← List.head?_eq_getElem?]; exact e
   rw [List.getElem?_eq_getElem (by omega)] at q
   exact Option.some.inj q
  rw [← this]; exact h2
theorem neg_rest (s : ByteArray) : sB (sg (neg s) (rest s).data.toList) = s := by
 unfold rest sg
 cases h : neg s with
 | false => simp [sB_data]
 | true =>
  unfold neg at h
  rw [decide_eq_true_iff] at h
  have h1 : 0 < s.size := by
   by_cases c : 0 < s.size
   ·exact c
   ·rw [bt_out (by omega)] at h; simp at h
  rw [bt_in h1] at h
  simp only [if_true]
  apply ByteArray.ext
  apply Array.ext'
  rw [ByteArray.data_extract]
  simp only [sB, Array.toList_extract, List.extract_eq_take_drop]
  have hl : s.data.toList.length = s.size := by simp
  have e : s.data.toList = s[0] :: s.data.toList.drop 1 := by
   rcases q : s.data.toList with _ | ⟨a, t⟩
   ·rw [q] at hl; simp at hl; omega
   ·have : s[0] = a := by
     have : s.data.toList[0]? = some a := by rw [q]; rfl
     rw [List.getElem?_eq_getElem (by omega)] at this
     exact Option.some.inj this
    simp [this]
  have e45 : s[0] = 45 := UInt8.toNat_inj.1 h
  rw [List.take_of_length_le (by rw [List.length_drop]; omega)]
  rw [e45] at e
  simpa using e.symm
/-- What is right is written so. -/
theorem good_wrt {n d : ByteArray} (h : goodE n d = 0) : ∃ r : Rat, (.agg #[.string n, .string d] : Value) = wrt r ∧ (decDigits r.num.natAbs).length ≤ n.size ∧ (decDigits r.den).length = d.size ∧ (decDigits r.num.natAbs).length ≤ 4096 ∧ (decDigits r.den).length ≤ 4096 := by
 unfold goodE at h
 rcases hs : shB n d with _ | _
 ·rw [hs] at h; simp at h
 rw [hs] at h
 simp only [Bool.true_eq_false, if_false] at h
 by_cases hl : 4096 < (rest n).size ∨ 4096 < d.size
 ·rw [if_pos hl] at h; simp at h
 rw [if_neg hl] at h
 by_cases hg : Int.gcd (Dc.num (rest n).data.toList : Int) (Dc.num d.data.toList : Int) ≠ 1
 ·rw [if_pos hg] at h; simp at h
 simp only [Classical.not_not] at hg
 have hs' := hs
 unfold shB at hs'
 rw [Bool.and_eq_true, Bool.and_eq_true, Bool.and_eq_true, Bool.not_eq_true', Bool.not_eq_true'] at hs'
 obtain ⟨⟨⟨a1, a2⟩, a3⟩, a4⟩ := hs'
 have a1' := a1
 unfold whB at a1'
 rw [Bool.and_eq_true, Bool.not_eq_true'] at a1'
 have t1 := nat_text a1'.1
 have t2 := nat_text a2
 have hN := neg_rest n
 have hr := rest_size n
 obtain ⟨N, eN⟩ : ∃ N, Dc.num (rest n).data.toList = N := ⟨_, rfl⟩
 obtain ⟨D, eD⟩ : ∃ D, Dc.num d.data.toList = D := ⟨_, rfl⟩
 rw [eN] at t1 hg
 rw [eD] at t2 hg
 have l1 : (decDigits N).length = (rest n).size := by rw [← t1, sB_size]
 have l2 : (decDigits D).length = d.size := by rw [← t2, sB_size]
 have D0 : D ≠ 0 := by
  rintro rfl
  rw [← t2, dec_is0] at a3
  simp at a3
 have hco : Nat.Coprime N D := by
  unfold Nat.Coprime
  simpa [Int.gcd] using hg
 have nz : neg n = true → N ≠ 0 := by
  rintro h1 rfl
  have := a1'.2
  rw [h1, ← t1, dec_is0] at this
  simp at this
 refine ⟨⟨if neg n then -(N : Int) else N, D, D0, ?_⟩, ?_, ?_, ?_, ?_, ?_⟩
 ·split <;> simpa using hco
 ·have e1 : (if neg n = true then -(N : Int) else (N : Int)).natAbs = N := by split <;> simp
  have e2 : decide ((if neg n = true then -(N : Int) else (N : Int)) < 0) = neg n := by
   cases hn : neg n with
   | false => simp
   | true => have := nz hn; simp; omega
  unfold wrt
  simp only [e1, e2]
  rw [t2]
  have : (rest n).data.toList = decDigits N := by rw [← t1, sB_list]
  rw [← this, hN]
 all_goals
  have e1 : (if neg n = true then -(N : Int) else (N : Int)).natAbs = N := by split <;> simp
  simp only [e1]
  omega
theorem pw_two (n : Nat) : pw n = ((2 ^ (64 * n) : Nat) : Int) := by
 induction n with
 | zero => rfl
 | succ n ih =>
  have e1 : pw 1 = ((2 ^ 64 : Nat) : Int) := by decide
  rw [pw_add, ih, e1, ← Int.natCast_mul, ← Nat.pow_add, Nat.mul_add]
theorem PS.mul {r s : Rat} {m n : Nat} (h : PS r m) (k : PS s n) : PS (r * s) (m + n) := by
 obtain ⟨t1, t2, _⟩ := times_low r s _ _ rfl rfl
 have d1 := den_p r
 have d2 := den_p s
 have ge0 : ∀ a : Nat, (0 : Int) ≤ (a : Int) := fun a => by omega
 have q : ∀ (a g b g' : Nat) , (a : Int) < pw m → (b : Int) < pw n → (a : Int) / (g : Int) * ((b : Int) / (g' : Int)) < pw (m + n) := fun a g b g' ha hb => by
  have x1 := Int.ediv_le_self (g : Int) (ge0 a)
  have x2 := Int.ediv_le_self (g' : Int) (ge0 b)
  have y1 : 0 ≤ (a : Int) / (g : Int) := Int.ediv_nonneg (ge0 a) (ge0 g)
  have y2 : 0 ≤ (b : Int) / (g' : Int) := Int.ediv_nonneg (ge0 b) (ge0 g')
  have z1 := Int.mul_le_mul x1 x2 y2 (ge0 a)
  rw [pw_add]
  have z2 := Int.mul_lt_mul' (Int.le_of_lt ha) hb (ge0 b) (pw_pos m)
  omega
 exact ⟨by rw [t1]; exact q _ _ _ _ h.1 k.1, by rw [t2]; exact q _ _ _ _ h.2 k.2⟩
theorem PS.add {r s : Rat} {m n : Nat} (h : PS r m) (k : PS s n) : PS (r + s) (m + n + 1) := by
 obtain ⟨G, hG⟩ : ∃ G, r.den.gcd s.den = G := ⟨_, rfl⟩
 obtain ⟨Z, hZ⟩ : ∃ Z, r.num * ((s.den : Int) / (G : Int)) + s.num * ((r.den : Int) / (G : Int)) = Z := ⟨_, rfl⟩
 obtain ⟨L, hL⟩ : ∃ L, Z.natAbs.gcd G = L := ⟨_, rfl⟩
 obtain ⟨t1, t2, _⟩ := plus_low r s Z G L hG hZ hL
 have ge0 : ∀ a : Nat, (0 : Int) ≤ (a : Int) := fun a => by omega
 have e : pw (m + n + 1) = pw (m + n) * pw 1 := pw_add _ _
 have e1 : pw 1 = 18446744073709551616 := by decide
 have pp := pw_pos (m + n)
 have x1 := Int.ediv_le_self (G : Int) (ge0 r.den)
 have x2 := Int.ediv_le_self (G : Int) (ge0 s.den)
 have x3 := Int.ediv_le_self (L : Int) (ge0 s.den)
 have y1 : 0 ≤ (r.den : Int) / (G : Int) := Int.ediv_nonneg (ge0 _) (ge0 _)
 have y2 : 0 ≤ (s.den : Int) / (G : Int) := Int.ediv_nonneg (ge0 _) (ge0 _)
 have y3 : 0 ≤ (s.den : Int) / (L : Int) := Int.ediv_nonneg (ge0 _) (ge0 _)
 have q : ∀ a b : Int, 0 ≤ a → 0 ≤ b → a < pw m → b < pw n → a * b < pw (m + n) := fun a b a0 b0 ha hb => by
  rw [pw_add]
  exact Int.mul_lt_mul' (Int.le_of_lt ha) hb b0 (pw_pos m)
 have u1 := q r.num.natAbs ((s.den : Int) / (G : Int)) (ge0 _) y2 h.1 (by have := k.2; omega)
 have u2 := q ((r.den : Int) / (G : Int)) s.num.natAbs y1 (ge0 _) (by have := h.2; omega) k.1
 have u3 := q ((r.den : Int) / (G : Int)) ((s.den : Int) / (L : Int)) y1 y3 (by have := h.2; omega) (by have := k.2; omega)
 refine ⟨?_, ?_⟩
 ·rw [t1]
  have a1 : (Z.natAbs : Int) ≤ (r.num.natAbs : Int) * ((s.den : Int) / (G : Int)) + ((r.den : Int) / (G : Int)) * (s.num.natAbs : Int) := by
   rw [← hZ]
   have b1 : ((r.num * ((s.den : Int) / (G : Int))).natAbs : Int) = (r.num.natAbs : Int) * ((s.den : Int) / (G : Int)) := by
    rw [Int.natAbs_mul, Int.natCast_mul, Int.natAbs_of_nonneg y2]
   have b2 : ((s.num * ((r.den : Int) / (G : Int))).natAbs : Int) = ((r.den : Int) / (G : Int)) * (s.num.natAbs : Int) := by
    rw [Int.natAbs_mul, Int.natCast_mul, Int.mul_comm, Int.natAbs_of_nonneg y1]
   rw [← b1, ← b2]
   omega
  have a2 := Int.ediv_le_self (L : Int) (ge0 Z.natAbs)
  rw [e, e1]
  omega
 ·rw [t2, e, e1]
  omega
theorem PS.neg {r : Rat} {m : Nat} (h : PS r m) : PS (-r) m := by
 unfold PS at *
 rw [Rat.neg_num, Rat.neg_den, Int.natAbs_neg]
 exact h
theorem PS.inv {r : Rat} {m : Nat} (h : PS r m) (h0 : r ≠ 0) : PS r⁻¹ m := by
 obtain ⟨_, i2, i3⟩ := inv_num r h0
 unfold PS at *
 rw [i2, i3]
 exact ⟨h.2, h.1⟩
end Go.Proofs.YtfalncbcomlelaaGreatDoor.Mo

namespace Go.Proofs.YtfalncbcomlelaaGreatDoor.Mo
open Go.RowKit Tn

/-- The sign of an exact number. -/
def psg (r : Rat) : Int := if r.num < 0 then -1 else if r.num = 0 then 0 else 1
theorem Sign_p (v : Value) (r : Rat) (w : World) (h : PF w v r) :
  Calls Tryz.prog 46 #[v] w fun e w' => e = .returned (.int .i64 (psg r)) ∧ Below w.heap.size w w' := by
 obtain ⟨a, l, c, a', l', c', rfl, ⟨xs, r1, n1, v1⟩, k2⟩ := h
 refine (sign_any _ _ _ xs w r1 n1 ⟨_, _, _, rfl⟩).mono ?_
 rintro e w' ⟨rfl, b⟩
 refine ⟨?_, b⟩
 rw [v1]
 unfold psg
 by_cases g : r.num < 0
 ·simp [g]
 ·by_cases z : r.num = 0
  ·simp [z]
  ·simp [g, z]
/-- Which one is the lesser. -/
def pcm (r s : Rat) : Int := if r < s then -1 else if s < r then 1 else 0
theorem pcm_eq (r s : Rat) : cmpF (decide (r.num < 0)) r.num.natAbs r.den (decide (s.num < 0)) s.num.natAbs s.den = pcm r s := by
 have d1 := den_p r
 have d2 := den_p s
 unfold pcm cmpF
 simp only [Rat.lt_iff]
 have S : ∀ {x d : Int}, 0 < d → x < 0 → x * d < 0 := fun h1 h2 => Int.mul_neg_of_neg_of_pos h2 h1
 have P : ∀ {x d : Int}, 0 < d → 0 ≤ x → 0 ≤ x * d := fun h1 h2 => Int.mul_nonneg h2 (Int.le_of_lt h1)
 by_cases g1 : r.num < 0 <;> by_cases g2 : s.num < 0
 ·simp only [g1, g2, decide_true, if_true]
  unfold cmp3
  rw [show (r.num.natAbs : Int) = -r.num by omega, show (s.num.natAbs : Int) = -s.num by omega, Int.neg_mul, Int.neg_mul]
  generalize r.num * (s.den : Int) = x
  generalize s.num * (r.den : Int) = y
  split <;> split <;> (try split) <;> (try split) <;> first | rfl | omega
 ·simp only [g1, g2, decide_true, decide_false, if_true, Bool.false_eq_true, if_false]
  have a1 := S d2 g1
  have a2 := P d1 (show 0 ≤ s.num by omega)
  rw [if_pos (by omega)]
 ·simp only [g1, g2, decide_true, decide_false, if_true, Bool.false_eq_true, if_false]
  have a1 := S d1 g2
  have a2 := P d2 (show 0 ≤ r.num by omega)
  rw [if_neg (by omega), if_pos (by omega)]
 ·simp only [g1, g2, decide_false, Bool.false_eq_true, if_false]
  unfold cmp3
  rw [show (r.num.natAbs : Int) = r.num by omega, show (s.num.natAbs : Int) = s.num by omega]
end Go.Proofs.YtfalncbcomlelaaGreatDoor.Mo

namespace Go.Proofs.YtfalncbcomlelaaGreatDoor.Mo
open Go.RowKit Tn

set_option maxRecDepth 100000 in
set_option maxHeartbeats 3200000 in
theorem fcmp_plain (p1 p2 p3 p4 : Option Addr) (m1 c1 m2 c2 m3 c3 m4 c4 : Nat) (U V k : Int) (w : World) (M1 : ∀ x, Below w.heap.size w x → Calls Tryz.prog 50 #[.agg #[.slice p1 m1 c1], .agg #[.slice p4 m4 c4]] x fun e w' => ∃ a l c, e = .returned (.agg #[.slice a l c]) ∧ Nn w' a l c U ∧ Below x.heap.size x w') (M2 : ∀ x, Below w.heap.size w x → Calls Tryz.prog 50 #[.agg #[.slice p3 m3 c3], .agg #[.slice p2 m2 c2]] x fun e w' => ∃ a l c, e = .returned (.agg #[.slice a l c]) ∧ Nn w' a l c V ∧ Below x.heap.size x w') (CM : ∀ x a l c a' l' c', Nn x a l c U → Nn x a' l' c' V → Calls Tryz.prog 61 #[.agg #[.slice a l c], .agg #[.slice a' l' c']] x fun e w' => e = .returned (.int .i64 k) ∧ Below x.heap.size x w') : Calls Tryz.prog 44 #[.agg #[.bool false, .slice p1 m1 c1, .slice p2 m2 c2], .agg #[.bool false, .slice p3 m3 c3, .slice p4 m4 c4]] w fun e w' => e = .returned (.int .i64 k) ∧ Below w.heap.size w w' := by
  have K0 := (Blk.new w #[.bool false, .slice p1 m1 c1, .slice p2 m2 c2] 58).alloc (.cells #[.bool false, .slice p3 m3 c3, .slice p4 m4 c4] 58)
  have K1 := Blk.new (w.alloc (.cells #[.bool false, .slice p1 m1 c1, .slice p2 m2 c2] 58)) #[.bool false, .slice p3 m3 c3, .slice p4 m4 c4] 58
  have pr : Below w.heap.size w ((w.alloc (.cells #[.bool false, .slice p1 m1 c1, .slice p2 m2 c2] 58)).alloc (.cells #[.bool false, .slice p3 m3 c3, .slice p4 m4 c4] 58)) := ((Below.refl _ _).alloc (Nat.le_refl _) _).alloc (by simp) _
  simp only [World.size_alloc] at K1
  go_enter Tryz.func44, Tryz.ntmps44
  go_wp2_with fail
  generalize ((w.alloc (.cells #[.bool false, .slice p1 m1 c1, .slice p2 m2 c2] 58)).alloc (.cells #[.bool false, .slice p3 m3 c3, .slice p4 m4 c4] 58)) = W at *
  have e01 := K0.at 1
  have e02 := K0.at 2
  have e11 := K1.at 1
  have e12 := K1.at 2
  simp at e01 e02 e11 e12
  have L0 := K0.lt
  have L1 := K1.lt
  have d0 : Below W.heap.size W W := Below.refl _ _
  go_region_held3 (fun x => x.cell? ⟨w.heap.size, 1, none⟩ = some (.slice p1 m1 c1) ∧ x.cell? ⟨w.heap.size, 2, none⟩ = some (.slice p2 m2 c2) ∧ x.cell? ⟨w.heap.size + 1, 1, none⟩ = some (.slice p3 m3 c3) ∧ x.cell? ⟨w.heap.size + 1, 2, none⟩ = some (.slice p4 m4 c4)) (first | exact ⟨s30, s31, s32, s33⟩ | exact ⟨s20, s21, s22, s23⟩ | exact ⟨s10, s11, s12, s13⟩ | go_keep) (first
    | (go_at_call 61; (have mk3 := d2); (refine (CM _ _ _ _ _ _ _ (n1.grow b2) n2).mono ?_); (rintro e w3 ⟨rfl, b3⟩); (have d3 := bel' d2 b3); (have s30 := (d3.cell (p := ⟨w.heap.size, 1, none⟩) L0).trans e01); (have s31 := (d3.cell (p := ⟨w.heap.size, 2, none⟩) L0).trans e02); (have s32 := (d3.cell (p := ⟨w.heap.size + 1, 1, none⟩) L1).trans e11); (have s33 := (d3.cell (p := ⟨w.heap.size + 1, 2, none⟩) L1).trans e12))
    | (go_at_call 50; (have mk2 := d1); (refine (M2 _ (bel' pr d1)).mono ?_); (rintro e w2 ⟨a2, l2, q2, rfl, n2, b2⟩); (have d2 := bel' d1 b2); (have s20 := (d2.cell (p := ⟨w.heap.size, 1, none⟩) L0).trans e01); (have s21 := (d2.cell (p := ⟨w.heap.size, 2, none⟩) L0).trans e02); (have s22 := (d2.cell (p := ⟨w.heap.size + 1, 1, none⟩) L1).trans e11); (have s23 := (d2.cell (p := ⟨w.heap.size + 1, 2, none⟩) L1).trans e12))
    | (go_at_call 50; (have mk1 := d0); (refine (M1 _ (pr.drew)).mono ?_); (rintro e w1 ⟨a1, l1, q1, rfl, n1, b1⟩); (have d1 := bel' d0 (undrew b1)); (have s10 := (d1.cell (p := ⟨w.heap.size, 1, none⟩) L0).trans e01); (have s11 := (d1.cell (p := ⟨w.heap.size, 2, none⟩) L0).trans e02); (have s12 := (d1.cell (p := ⟨w.heap.size + 1, 1, none⟩) L1).trans e11); (have s13 := (d1.cell (p := ⟨w.heap.size + 1, 2, none⟩) L1).trans e12))
    | fail)
  go_wp2_with fail
  go_ret
  exact ⟨rfl, bel' pr d3⟩
set_option maxRecDepth 100000 in
set_option maxHeartbeats 3200000 in
theorem fcmp_neg (p1 p2 p3 p4 : Option Addr) (m1 c1 m2 c2 m3 c3 m4 c4 : Nat) (U V k : Int) (w : World) (M1 : ∀ x, Below w.heap.size w x → Calls Tryz.prog 50 #[.agg #[.slice p1 m1 c1], .agg #[.slice p4 m4 c4]] x fun e w' => ∃ a l c, e = .returned (.agg #[.slice a l c]) ∧ Nn w' a l c U ∧ Below x.heap.size x w') (M2 : ∀ x, Below w.heap.size w x → Calls Tryz.prog 50 #[.agg #[.slice p3 m3 c3], .agg #[.slice p2 m2 c2]] x fun e w' => ∃ a l c, e = .returned (.agg #[.slice a l c]) ∧ Nn w' a l c V ∧ Below x.heap.size x w') (CM : ∀ x a l c a' l' c', Nn x a l c U → Nn x a' l' c' V → Calls Tryz.prog 61 #[.agg #[.slice a l c], .agg #[.slice a' l' c']] x fun e w' => e = .returned (.int .i64 k) ∧ Below x.heap.size x w') : Calls Tryz.prog 44 #[.agg #[.bool true, .slice p3 m3 c3, .slice p4 m4 c4], .agg #[.bool true, .slice p1 m1 c1, .slice p2 m2 c2]] w fun e w' => e = .returned (.int .i64 k) ∧ Below w.heap.size w w' := by
  have K0 := (Blk.new w #[.bool true, .slice p1 m1 c1, .slice p2 m2 c2] 58).alloc (.cells #[.bool true, .slice p3 m3 c3, .slice p4 m4 c4] 58)
  have K1 := Blk.new (w.alloc (.cells #[.bool true, .slice p1 m1 c1, .slice p2 m2 c2] 58)) #[.bool true, .slice p3 m3 c3, .slice p4 m4 c4] 58
  have pr : Below w.heap.size w ((w.alloc (.cells #[.bool true, .slice p1 m1 c1, .slice p2 m2 c2] 58)).alloc (.cells #[.bool true, .slice p3 m3 c3, .slice p4 m4 c4] 58)) := ((Below.refl _ _).alloc (Nat.le_refl _) _).alloc (by simp) _
  simp only [World.size_alloc] at K1
  go_enter Tryz.func44, Tryz.ntmps44
  go_wp2_with fail
  generalize ((w.alloc (.cells #[.bool true, .slice p1 m1 c1, .slice p2 m2 c2] 58)).alloc (.cells #[.bool true, .slice p3 m3 c3, .slice p4 m4 c4] 58)) = W at *
  have e01 := K0.at 1
  have e02 := K0.at 2
  have e11 := K1.at 1
  have e12 := K1.at 2
  simp at e01 e02 e11 e12
  have L0 := K0.lt
  have L1 := K1.lt
  have d0 : Below W.heap.size W W := Below.refl _ _
  go_region_held3 (fun x => x.cell? ⟨w.heap.size, 1, none⟩ = some (.slice p1 m1 c1) ∧ x.cell? ⟨w.heap.size, 2, none⟩ = some (.slice p2 m2 c2) ∧ x.cell? ⟨w.heap.size + 1, 1, none⟩ = some (.slice p3 m3 c3) ∧ x.cell? ⟨w.heap.size + 1, 2, none⟩ = some (.slice p4 m4 c4)) (first | exact ⟨s30, s31, s32, s33⟩ | exact ⟨s20, s21, s22, s23⟩ | exact ⟨s10, s11, s12, s13⟩ | go_keep) (first
    | (go_at_call 61; (have mk3 := d2); (refine (CM _ _ _ _ _ _ _ (n1.grow b2) n2).mono ?_); (rintro e w3 ⟨rfl, b3⟩); (have d3 := bel' d2 b3); (have s30 := (d3.cell (p := ⟨w.heap.size, 1, none⟩) L0).trans e01); (have s31 := (d3.cell (p := ⟨w.heap.size, 2, none⟩) L0).trans e02); (have s32 := (d3.cell (p := ⟨w.heap.size + 1, 1, none⟩) L1).trans e11); (have s33 := (d3.cell (p := ⟨w.heap.size + 1, 2, none⟩) L1).trans e12))
    | (go_at_call 50; (have mk2 := d1); (refine (M2 _ (bel' pr d1)).mono ?_); (rintro e w2 ⟨a2, l2, q2, rfl, n2, b2⟩); (have d2 := bel' d1 b2); (have s20 := (d2.cell (p := ⟨w.heap.size, 1, none⟩) L0).trans e01); (have s21 := (d2.cell (p := ⟨w.heap.size, 2, none⟩) L0).trans e02); (have s22 := (d2.cell (p := ⟨w.heap.size + 1, 1, none⟩) L1).trans e11); (have s23 := (d2.cell (p := ⟨w.heap.size + 1, 2, none⟩) L1).trans e12))
    | (go_at_call 50; (have mk1 := d0); (refine (M1 _ (pr.drew)).mono ?_); (rintro e w1 ⟨a1, l1, q1, rfl, n1, b1⟩); (have d1 := bel' d0 (undrew b1)); (have s10 := (d1.cell (p := ⟨w.heap.size, 1, none⟩) L0).trans e01); (have s11 := (d1.cell (p := ⟨w.heap.size, 2, none⟩) L0).trans e02); (have s12 := (d1.cell (p := ⟨w.heap.size + 1, 1, none⟩) L1).trans e11); (have s13 := (d1.cell (p := ⟨w.heap.size + 1, 2, none⟩) L1).trans e12))
    | fail)
  go_wp2_with fail
  go_ret
  exact ⟨rfl, bel' pr d3⟩
/-- Cmp of two fractions, of any size. -/
theorem FCmp_p (v1 v2 : Value) (r s : Rat) (m : Nat) (w : World) (h1 : PF w v1 r) (h2 : PF w v2 s) (s1 : PS r m) (s2 : PS s m) (hm : m ≤ 400000) :
    Calls Tryz.prog 44 #[v1, v2] w fun e w' => e = .returned (.int .i64 (pcm r s)) ∧ Below w.heap.size w w' := by
  obtain ⟨a1, l1, c1, a2, l2, c2, rfl, n1, n2⟩ := h1
  obtain ⟨a3, l3, c3, a4, l4, c4, rfl, n3, n4⟩ := h2
  rw [← pcm_eq]
  have ok : MulOK m m := by unfold MulOK; omega
  have CM := fun x a l c a' l' c' (U V : Int) (hU : U < pw (m + m)) (h : Nn x a l c U) (h' : Nn x a' l' c' V) => Cmp_n h h' hU (by omega)
  have lt : ∀ {A B : Int}, 0 ≤ A → A < pw m → 0 ≤ B → B < pw m → A * B < pw (m + m) := fun {A B} a0 a1 b0 b1 => by
    rw [pw_add]
    exact Int.lt_of_le_of_lt (Int.mul_le_mul_of_nonneg_left (Int.le_of_lt b1) a0) (Int.mul_lt_mul_of_pos_right a1 (by omega))
  by_cases g1 : r.num < 0
  · by_cases g2 : s.num < 0
    · rw [decide_eq_true g1, decide_eq_true g2]
      refine fcmp_neg a3 a4 a1 a2 l3 c3 l4 c4 l1 c1 l2 c2 ((s.num.natAbs : Int) * (r.den : Int)) ((r.num.natAbs : Int) * (s.den : Int)) _ w (fun x b => Mul_n (n3.grow b) (n2.grow b) s2.1 s1.2 ok) (fun x b => Mul_n (n1.grow b) (n4.grow b) s1.1 s2.2 ok) (fun x a l c a' l' c' h h' => ?_)
      exact CM x a l c a' l' c' _ _ (lt (by omega) s2.1 (by omega) s1.2) h h'
    · rw [decide_eq_true g1, decide_eq_false g2]
      exact compare_left _ _ _ _ _ _ _ _ _ _ _ _ w
  · by_cases g2 : s.num < 0
    · rw [decide_eq_false g1, decide_eq_true g2]
      exact compare_right _ _ _ _ _ _ _ _ _ _ _ _ w
    · rw [decide_eq_false g1, decide_eq_false g2]
      refine fcmp_plain a1 a2 a3 a4 l1 c1 l2 c2 l3 c3 l4 c4 ((r.num.natAbs : Int) * (s.den : Int)) ((s.num.natAbs : Int) * (r.den : Int)) _ w (fun x b => Mul_n (n1.grow b) (n4.grow b) s1.1 s2.2 ok) (fun x b => Mul_n (n3.grow b) (n2.grow b) s2.1 s1.2 ok) (fun x a l c a' l' c' h h' => ?_)
      exact CM x a l c a' l' c' _ _ (lt (by omega) s1.1 (by omega) s2.2) h h'
end Go.Proofs.YtfalncbcomlelaaGreatDoor.Mo
