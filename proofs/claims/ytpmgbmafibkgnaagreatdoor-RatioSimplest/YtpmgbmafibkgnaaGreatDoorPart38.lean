import Derived.Test.YtpmgbmafibkgnaaGreatDoorPart34
import Derived.Test.YtpmgbmafibkgnaaGreatDoorPart37
import Derived.Test.YtpmgbmafibkgnaaGreatDoorPart18
import Derived.Deep.RegionHeld3

namespace Go.Proofs.YtpmgbmafibkgnaaGreatDoor.Mo
open Go.RowKit Fu Tn Go.Lib Dc

/-- Digits without noughts ahead are the digits of their number. -/
theorem dec_of_digits (n : Nat) : ∀ l : List UInt8, l.length = n → (∀ c ∈ l, Dc.Dg c) → l ≠ [] → (l.length = 1 ∨ ∀ c, l.head? = some c → c.toNat ≠ 48) → decDigits (Dc.num l) = l := by
  induction n with
  | zero => intro l hl _ ne; exact absurd (List.length_eq_zero_iff.1 hl) ne
  | succ n ih =>
    intro l hl hd ne h0
    obtain ⟨m, c, rfl⟩ : ∃ m c, l = m ++ [c] := ⟨l.dropLast, l.getLast ne, (List.dropLast_concat_getLast ne).symm⟩
    have hc : Dc.Dg c := hd c (by simp)
    unfold Dc.Dg at hc
    have e48 : UInt8.ofNat (48 + (c.toNat - 48)) = c := by
      apply UInt8.toNat_inj.1
      rw [b48 (by omega)]; omega
    rw [List.length_append, List.length_singleton] at hl
    by_cases me : m = []
    · subst me
      rw [List.nil_append, Dc.num_single, decDigits, dif_pos (by omega), e48]
    · have hh : ∀ c', m.head? = some c' → c'.toNat ≠ 48 := by
        intro c' e
        rcases h0 with h0 | h0
        · rw [List.length_append, List.length_singleton] at h0
          exact absurd (List.length_eq_zero_iff.1 (show m.length = 0 by omega)) me
        · exact h0 c' (by rw [List.head?_append, e]; rfl)
      have i := ih m (by omega) (fun c' h => hd c' (by simp [h])) me (Or.inr hh)
      have pos : 0 < Dc.num m := by
        obtain ⟨a, t, rfl⟩ := List.exists_cons_of_ne_nil me
        have ha := hd a (by simp)
        unfold Dc.Dg at ha
        have := hh a rfl
        rw [Dc.num_cons]
        have p10 : 0 < 10 ^ t.length := Nat.pow_pos (by decide)
        have := Nat.mul_pos (show 0 < a.toNat - 48 by omega) p10
        omega
      rw [Dc.num_append, Dc.num_single, List.length_singleton, Nat.pow_one]
      rw [decDigits, dif_neg (by omega)]
      rw [show (Dc.num m * 10 + (c.toNat - 48)) / 10 = Dc.num m by omega, show (Dc.num m * 10 + (c.toNat - 48)) % 10 = c.toNat - 48 by omega, i, e48]
theorem sB_data (s : ByteArray) : sB s.data.toList = s := by
  apply ByteArray.ext
  simp [sB]
theorem nat_text {s : ByteArray} (h : natB s = true) : sB (decDigits (Dc.num s.data.toList)) = s := by
  have hd := natB_dg h
  unfold natB at h
  rw [Bool.and_eq_true, Bool.and_eq_true, decide_eq_true_iff, Bool.or_eq_true, decide_eq_true_iff] at h
  obtain ⟨⟨_, h1⟩, h2⟩ := h
  have hl : s.data.toList.length = s.size := by simp
  rw [dec_of_digits _ s.data.toList rfl hd (by intro e; rw [e] at hl; simp at hl; omega) ?_, sB_data]
  rcases h2 with h2 | h2
  · left; omega
  · right
    intro c e
    rw [bt_in h1] at h2
    simp only [Bool.not_eq_true', decide_eq_false_iff_not] at h2
    have : s[0] = c := by
      have q : s.data.toList[0]? = some c := by rw [← List.head?_eq_getElem?]; exact e
      rw [List.getElem?_eq_getElem (by omega)] at q
      exact Option.some.inj q
    rw [← this]; exact h2
theorem neg_rest (s : ByteArray) : sB (sg (neg s) (rest s).data.toList) = s := by
  unfold rest sg
  cases h : neg s with
  | false => simp [sB_data]
  | true =>
    unfold neg at h
    rw [decide_eq_true_iff] at h
    have h1 : 0 < s.size := by
      by_cases c : 0 < s.size
      · exact c
      · rw [bt_out (by omega)] at h; simp at h
    rw [bt_in h1] at h
    simp only [if_true]
    apply ByteArray.ext
    apply Array.ext'
    rw [ByteArray.data_extract]
    simp only [sB, Array.toList_extract, List.extract_eq_take_drop]
    have hl : s.data.toList.length = s.size := by simp
    have e : s.data.toList = s[0] :: s.data.toList.drop 1 := by
      rcases q : s.data.toList with _ | ⟨a, t⟩
      · rw [q] at hl; simp at hl; omega
      · have : s[0] = a := by
          have : s.data.toList[0]? = some a := by rw [q]; rfl
          rw [List.getElem?_eq_getElem (by omega)] at this
          exact Option.some.inj this
        simp [this]
    have e45 : s[0] = 45 := UInt8.toNat_inj.1 h
    rw [List.take_of_length_le (by rw [List.length_drop]; omega)]
    rw [e45] at e
    simpa using e.symm
/-- What is right is written so. -/
theorem good_wrt {n d : ByteArray} (h : goodE n d = 0) : ∃ r : Rat, (.agg #[.string n, .string d] : Value) = wrt r ∧ (decDigits r.num.natAbs).length ≤ n.size ∧ (decDigits r.den).length = d.size ∧ (decDigits r.num.natAbs).length ≤ 4096 ∧ (decDigits r.den).length ≤ 4096 := by
  unfold goodE at h
  rcases hs : shB n d with _ | _
  · rw [hs] at h; simp at h
  rw [hs] at h
  simp only [Bool.true_eq_false, if_false] at h
  by_cases hl : 4096 < (rest n).size ∨ 4096 < d.size
  · rw [if_pos hl] at h; simp at h
  rw [if_neg hl] at h
  by_cases hg : Int.gcd (Dc.num (rest n).data.toList : Int) (Dc.num d.data.toList : Int) ≠ 1
  · rw [if_pos hg] at h; simp at h
  simp only [Classical.not_not] at hg
  have hs' := hs
  unfold shB at hs'
  rw [Bool.and_eq_true, Bool.and_eq_true, Bool.and_eq_true, Bool.not_eq_true', Bool.not_eq_true'] at hs'
  obtain ⟨⟨⟨a1, a2⟩, a3⟩, a4⟩ := hs'
  have a1' := a1
  unfold whB at a1'
  rw [Bool.and_eq_true, Bool.not_eq_true'] at a1'
  have t1 := nat_text a1'.1
  have t2 := nat_text a2
  have hN := neg_rest n
  have hr := rest_size n
  obtain ⟨N, eN⟩ : ∃ N, Dc.num (rest n).data.toList = N := ⟨_, rfl⟩
  obtain ⟨D, eD⟩ : ∃ D, Dc.num d.data.toList = D := ⟨_, rfl⟩
  rw [eN] at t1 hg
  rw [eD] at t2 hg
  have l1 : (decDigits N).length = (rest n).size := by rw [← t1, sB_size]
  have l2 : (decDigits D).length = d.size := by rw [← t2, sB_size]
  have D0 : D ≠ 0 := by
    rintro rfl
    rw [← t2, dec_is0] at a3
    simp at a3
  have hco : Nat.Coprime N D := by
    unfold Nat.Coprime
    simpa [Int.gcd] using hg
  have nz : neg n = true → N ≠ 0 := by
    rintro h1 rfl
    have := a1'.2
    rw [h1, ← t1, dec_is0] at this
    simp at this
  refine ⟨⟨if neg n then -(N : Int) else N, D, D0, ?_⟩, ?_, ?_, ?_, ?_, ?_⟩
  · split <;> simpa using hco
  · have e1 : (if neg n = true then -(N : Int) else (N : Int)).natAbs = N := by split <;> simp
    have e2 : decide ((if neg n = true then -(N : Int) else (N : Int)) < 0) = neg n := by
      cases hn : neg n with
      | false => simp
      | true => have := nz hn; simp; omega
    unfold wrt
    simp only [e1, e2]
    rw [t2]
    have : (rest n).data.toList = decDigits N := by rw [← t1, sB_list]
    rw [← this, hN]
  all_goals
    have e1 : (if neg n = true then -(N : Int) else (N : Int)).natAbs = N := by split <;> simp
    simp only [e1]
    omega
theorem ten300 : (10 : Nat) ^ 300 ≤ 2 ^ (64 * 16) := by decide +kernel
theorem pw_two (n : Nat) : pw n = ((2 ^ (64 * n) : Nat) : Int) := by
  induction n with
  | zero => rfl
  | succ n ih =>
    have e1 : pw 1 = ((2 ^ 64 : Nat) : Int) := by decide
    rw [pw_add, ih, e1, ← Int.natCast_mul, ← Nat.pow_add, Nat.mul_add]
theorem lt_of_len {N L k B : Nat} (h : N < 10 ^ L) (hL : L ≤ k) (hB : 10 ^ k ≤ B) : N < B := Nat.lt_of_lt_of_le h (Nat.le_trans (Nat.pow_le_pow_right (by decide) hL) hB)
theorem few_words {N : Nat} (h : (decDigits N).length ≤ 300) : (N : Int) < pw 16 := by
  have h2 : N < 10 ^ (decDigits N).length := by
    have := Dc.num_lt (decDigits N) (dec_dg N)
    rwa [dec_num] at this
  rw [pw_two]
  exact Int.ofNat_lt.2 (lt_of_len h2 h ten300)
theorem two_ten : (2 : Nat) ^ (64 * 200) < 10 ^ 4095 := by decide +kernel
theorem ten_le_of_digits (N : Nat) : 0 < N → 10 ^ ((decDigits N).length - 1) ≤ N := by
  intro h
  obtain ⟨c, t, e, _, h2⟩ := dec_cons N
  have hd := dec_dg N c (by rw [e]; exact List.mem_cons_self)
  unfold Dc.Dg at hd
  have := h2 h
  have q := dec_num N
  rw [e, Dc.num_cons] at q
  rw [e, List.length_cons, Nat.add_sub_cancel]
  have := Nat.mul_le_mul_right (10 ^ t.length) (show 1 ≤ c.toNat - 48 by omega)
  omega
theorem len_of_lt' {N L k B : Nat} (h : 10 ^ (L - 1) ≤ N) (hN : N < B) (hB : B < 10 ^ k) : L ≤ k + 1 := by
  by_cases c : L ≤ k + 1
  · exact c
  · exact absurd (Nat.lt_of_lt_of_le (Nat.lt_trans hN hB) (Nat.le_trans (Nat.pow_le_pow_right (by decide) (show k ≤ L - 1 by omega)) h)) (Nat.lt_irrefl _)
theorem short_words {N m : Nat} (h : (N : Int) < pw m) (hm : m ≤ 200) : (decDigits N).length ≤ 4096 := by
  by_cases z : N = 0
  · subst z
    rw [decDigits]
    simp
  · have h1 := ten_le_of_digits N (by omega)
    have h3 : (N : Int) < pw 200 := Int.lt_of_lt_of_le h (pw_mono hm)
    rw [pw_two] at h3
    exact len_of_lt' h1 (Int.ofNat_lt.1 h3) two_ten
theorem PS.short {r : Rat} {m : Nat} (h : PS r m) (hm : m ≤ 200) : wrA r = (wrt r, 0) := wrA_short (short_words h.1 hm) (short_words h.2 hm)
theorem PS.mul {r s : Rat} {m n : Nat} (h : PS r m) (k : PS s n) : PS (r * s) (m + n) := by
  obtain ⟨t1, t2, _⟩ := times_low r s _ _ rfl rfl
  have d1 := den_p r
  have d2 := den_p s
  have ge0 : ∀ a : Nat, (0 : Int) ≤ (a : Int) := fun a => by omega
  have q : ∀ (a g b g' : Nat) , (a : Int) < pw m → (b : Int) < pw n → (a : Int) / (g : Int) * ((b : Int) / (g' : Int)) < pw (m + n) := fun a g b g' ha hb => by
    have x1 := Int.ediv_le_self (g : Int) (ge0 a)
    have x2 := Int.ediv_le_self (g' : Int) (ge0 b)
    have y1 : 0 ≤ (a : Int) / (g : Int) := Int.ediv_nonneg (ge0 a) (ge0 g)
    have y2 : 0 ≤ (b : Int) / (g' : Int) := Int.ediv_nonneg (ge0 b) (ge0 g')
    have z1 := Int.mul_le_mul x1 x2 y2 (ge0 a)
    rw [pw_add]
    have z2 := Int.mul_lt_mul' (Int.le_of_lt ha) hb (ge0 b) (pw_pos m)
    omega
  exact ⟨by rw [t1]; exact q _ _ _ _ h.1 k.1, by rw [t2]; exact q _ _ _ _ h.2 k.2⟩
theorem PS.add {r s : Rat} {m n : Nat} (h : PS r m) (k : PS s n) : PS (r + s) (m + n + 1) := by
  obtain ⟨G, hG⟩ : ∃ G, r.den.gcd s.den = G := ⟨_, rfl⟩
  obtain ⟨Z, hZ⟩ : ∃ Z, r.num * ((s.den : Int) / (G : Int)) + s.num * ((r.den : Int) / (G : Int)) = Z := ⟨_, rfl⟩
  obtain ⟨L, hL⟩ : ∃ L, Z.natAbs.gcd G = L := ⟨_, rfl⟩
  obtain ⟨t1, t2, _⟩ := plus_low r s Z G L hG hZ hL
  have ge0 : ∀ a : Nat, (0 : Int) ≤ (a : Int) := fun a => by omega
  have e : pw (m + n + 1) = pw (m + n) * pw 1 := pw_add _ _
  have e1 : pw 1 = 18446744073709551616 := by decide
  have pp := pw_pos (m + n)
  have x1 := Int.ediv_le_self (G : Int) (ge0 r.den)
  have x2 := Int.ediv_le_self (G : Int) (ge0 s.den)
  have x3 := Int.ediv_le_self (L : Int) (ge0 s.den)
  have y1 : 0 ≤ (r.den : Int) / (G : Int) := Int.ediv_nonneg (ge0 _) (ge0 _)
  have y2 : 0 ≤ (s.den : Int) / (G : Int) := Int.ediv_nonneg (ge0 _) (ge0 _)
  have y3 : 0 ≤ (s.den : Int) / (L : Int) := Int.ediv_nonneg (ge0 _) (ge0 _)
  have q : ∀ a b : Int, 0 ≤ a → 0 ≤ b → a < pw m → b < pw n → a * b < pw (m + n) := fun a b a0 b0 ha hb => by
    rw [pw_add]
    exact Int.mul_lt_mul' (Int.le_of_lt ha) hb b0 (pw_pos m)
  have u1 := q r.num.natAbs ((s.den : Int) / (G : Int)) (ge0 _) y2 h.1 (by have := k.2; omega)
  have u2 := q ((r.den : Int) / (G : Int)) s.num.natAbs y1 (ge0 _) (by have := h.2; omega) k.1
  have u3 := q ((r.den : Int) / (G : Int)) ((s.den : Int) / (L : Int)) y1 y3 (by have := h.2; omega) (by have := k.2; omega)
  refine ⟨?_, ?_⟩
  · rw [t1]
    have a1 : (Z.natAbs : Int) ≤ (r.num.natAbs : Int) * ((s.den : Int) / (G : Int)) + ((r.den : Int) / (G : Int)) * (s.num.natAbs : Int) := by
      rw [← hZ]
      have b1 : ((r.num * ((s.den : Int) / (G : Int))).natAbs : Int) = (r.num.natAbs : Int) * ((s.den : Int) / (G : Int)) := by
        rw [Int.natAbs_mul, Int.natCast_mul, Int.natAbs_of_nonneg y2]
      have b2 : ((s.num * ((r.den : Int) / (G : Int))).natAbs : Int) = ((r.den : Int) / (G : Int)) * (s.num.natAbs : Int) := by
        rw [Int.natAbs_mul, Int.natCast_mul, Int.mul_comm, Int.natAbs_of_nonneg y1]
      rw [← b1, ← b2]
      omega
    have a2 := Int.ediv_le_self (L : Int) (ge0 Z.natAbs)
    rw [e, e1]
    omega
  · rw [t2, e, e1]
    omega
theorem PS.neg {r : Rat} {m : Nat} (h : PS r m) : PS (-r) m := by
  unfold PS at *
  rw [Rat.neg_num, Rat.neg_den, Int.natAbs_neg]
  exact h
theorem PS.inv {r : Rat} {m : Nat} (h : PS r m) (h0 : r ≠ 0) : PS r⁻¹ m := by
  obtain ⟨_, i2, i3⟩ := inv_num r h0
  unfold PS at *
  rw [i2, i3]
  exact ⟨h.2, h.1⟩
end Go.Proofs.YtpmgbmafibkgnaaGreatDoor.Mo

namespace Go.Proofs.YtpmgbmafibkgnaaGreatDoor.Mo
open Go.RowKit Tn

/-- Three cells are written. -/
theorem putF3 {w1 : World} {b : Nat} {u0 u1 u2 : Value} (x y z : Value) (g0 : w1.cell? ⟨b, 0, none⟩ = some u0) (g1 : w1.cell? ⟨b, 1, none⟩ = some u1) (g2 : w1.cell? ⟨b, 2, none⟩ = some u2) :
    (((w1.setCell ⟨b, 0, none⟩ x).setCell ⟨b, 1, none⟩ y).setCell ⟨b, 2, none⟩ z).cell? ⟨b, 0, none⟩ = some x ∧ (((w1.setCell ⟨b, 0, none⟩ x).setCell ⟨b, 1, none⟩ y).setCell ⟨b, 2, none⟩ z).cell? ⟨b, 1, none⟩ = some y ∧ (((w1.setCell ⟨b, 0, none⟩ x).setCell ⟨b, 1, none⟩ y).setCell ⟨b, 2, none⟩ z).cell? ⟨b, 2, none⟩ = some z ∧ (∀ B w, B ≤ b → Below B w w1 → Below B w (((w1.setCell ⟨b, 0, none⟩ x).setCell ⟨b, 1, none⟩ y).setCell ⟨b, 2, none⟩ z)) := by
  have h1 : (w1.setCell ⟨b, 0, none⟩ x).cell? ⟨b, 1, none⟩ = some u1 := (World.cell?_setCell_other _ _ _ _ (by simp)).trans g1
  have h2 : ((w1.setCell ⟨b, 0, none⟩ x).setCell ⟨b, 1, none⟩ y).cell? ⟨b, 2, none⟩ = some u2 := (World.cell?_setCell_other _ _ _ _ (by simp)).trans ((World.cell?_setCell_other _ _ _ _ (by simp)).trans g2)
  refine ⟨?_, ?_, World.cell?_setCell_same _ _ _ h2, fun B w hB h => ((h.setCell (p := ⟨b, 0, none⟩) hB x).setCell (p := ⟨b, 1, none⟩) hB y).setCell (p := ⟨b, 2, none⟩) hB z⟩
  · rw [World.cell?_setCell_other _ _ _ _ (by simp), World.cell?_setCell_other _ _ _ _ (by simp), World.cell?_setCell_same _ _ _ g0]
  · rw [World.cell?_setCell_other _ _ _ _ (by simp), World.cell?_setCell_same _ _ _ h1]

set_option maxRecDepth 100000 in
set_option maxHeartbeats 800000 in
theorem FNeg_low (a1 a2 : Option Addr) (m1 c1 m2 c2 : Nat) (w : World) :
    Calls Tryz.prog 33 #[.agg #[.bool true, .slice a1 m1 c1, .slice a2 m2 c2]] w fun e w' => e = .returned (.agg #[.bool false, .slice a1 m1 c1, .slice a2 m2 c2]) ∧ Below w.heap.size w w' := by
  go_enter Tryz.func33, Tryz.ntmps33
  go_wp2_with fail
  go_region
  all_goals
    go_wp2
    refine bodyPost_ret (v := .agg #[.bool false, .slice a1 m1 c1, .slice a2 m2 c2]) (by simp [results, Tryz.results33, go_sem]) rfl ⟨rfl, ?_⟩
    exact (((Below.refl _ _).alloc (Nat.le_refl _) _).alloc (by simp) _).drew

set_option maxRecDepth 100000 in
set_option maxHeartbeats 800000 in
theorem FNeg_high (a1 a2 : Option Addr) (m1 c1 m2 c2 : Nat) (w : World) :
    Calls Tryz.prog 33 #[.agg #[.bool false, .slice a1 m1 c1, .slice a2 m2 c2]] w fun e w' => e = .returned (.agg #[.bool (!(m1 == 0)), .slice a1 m1 c1, .slice a2 m2 c2]) ∧ Below w.heap.size w w' := by
  go_enter Tryz.func33, Tryz.ntmps33
  go_wp2_with fail
  have pr : Below w.heap.size w ((w.alloc (.cells #[.bool false, .slice a1 m1 c1, .slice a2 m2 c2] 41)).alloc (.cells #[.bool false, .slice none 0 0, .slice none 0 0] 41)) := ((Below.refl _ _).alloc (Nat.le_refl _) _).alloc (by simp) _
  have K0 : Blk ((w.alloc (.cells #[.bool false, .slice a1 m1 c1, .slice a2 m2 c2] 41)).alloc (.cells #[.bool false, .slice none 0 0, .slice none 0 0] 41)) w.heap.size #[.bool false, .slice a1 m1 c1, .slice a2 m2 c2] 41 := (Blk.new _ _ _).alloc _
  have K1 := Blk.new (w.alloc (.cells #[.bool false, .slice a1 m1 c1, .slice a2 m2 c2] 41)) #[.bool false, .slice none 0 0, .slice none 0 0] 41
  simp only [World.size_alloc] at K1
  generalize (w.alloc (.cells #[.bool false, .slice a1 m1 c1, .slice a2 m2 c2] 41)).alloc (.cells #[.bool false, .slice none 0 0, .slice none 0 0] 41) = W at *
  have e0 : W.cell? ⟨w.heap.size, 0, none⟩ = some (.bool false) := K0.at 0
  have e1 : W.cell? ⟨w.heap.size, 1, none⟩ = some (.slice a1 m1 c1) := K0.at 1
  have e2 : W.cell? ⟨w.heap.size, 2, none⟩ = some (.slice a2 m2 c2) := K0.at 2
  have L0 := K0.lt; have L1 := K1.lt
  go_region_held3 (fun x => x.cell? ⟨w.heap.size, 0, none⟩ = some (.bool false) ∧ x.cell? ⟨w.heap.size, 1, none⟩ = some (.slice a1 m1 c1) ∧ x.cell? ⟨w.heap.size, 2, none⟩ = some (.slice a2 m2 c2)) (go_keep) (first
    | (go_at_call 38; refine (iszero_len a1 m1 c1 _).mono ?_; rintro e w1 ⟨rfl, b1⟩; have f0 := (b1.cell (p := ⟨w.heap.size, 0, none⟩) L0).trans e0; have f1 := (b1.cell (p := ⟨w.heap.size, 1, none⟩) L0).trans e1; have f2 := (b1.cell (p := ⟨w.heap.size, 2, none⟩) L0).trans e2; have Q1 : Blk w1 _ _ _ := Blk.below K1 (below_undrew b1) L1; have g0 : w1.cell? ⟨w.heap.size + 1, 0, none⟩ = some (.bool false) := Q1.at 0; have g1 : w1.cell? ⟨w.heap.size + 1, 1, none⟩ = some (.slice none 0 0) := Q1.at 1; have g2 : w1.cell? ⟨w.heap.size + 1, 2, none⟩ = some (.slice none 0 0) := Q1.at 2; have z0 := Q1.free 0; have z1 := Q1.free 1; have z2 := Q1.free 2)
    | fail)
  obtain ⟨F0, F1, F2, FB⟩ := putF3 (.bool (!(m1 == 0))) (.slice a1 m1 c1) (.slice a2 m2 c2) g0 g1 g2
  have ds : W.drew.heap.size = W.heap.size := rfl
  have p1 := pr.drew.trans (b1.mono (by have := pr.size; omega))
  go_wp2
  exact bodyPost_ret (v := .agg #[.bool (!(m1 == 0)), .slice a1 m1 c1, .slice a2 m2 c2]) (by simp [results, Tryz.results33, go_sem, F0, F1, F2]) rfl ⟨rfl, FB _ _ (by omega) p1⟩

theorem Nn.len {x : World} {a : Option Addr} {l c : Nat} {N : Int} (h : Nn x a l c N) : (l == 0) = decide (N = 0) := by
  obtain ⟨xs, ⟨h1, a', c', e, _⟩, n, rfl⟩ := h
  obtain ⟨rfl, rfl, rfl⟩ : a = a' ∧ l = xs.length ∧ c = c' := by injection e with e1 e2 e3; exact ⟨e1, e2, e3⟩
  rw [Bool.eq_iff_iff]; simp [val_eq_zero h1 n, List.length_eq_zero_iff]
theorem Negated_p (v : Value) (r : Rat) (w : World) (h : PF w v r) :
    Calls Tryz.prog 33 #[v] w fun e w' => ∃ v', e = .returned v' ∧ PF w' v' (-r) ∧ Below w.heap.size w w' := by
  obtain ⟨a, l, c, a', l', c', rfl, k1, k2⟩ := h
  have e1 : (-r).num = -r.num := Rat.neg_num r
  have e2 : (-r).den = r.den := Rat.neg_den r
  by_cases g : r.num < 0
  · rw [decide_eq_true g]
    refine (FNeg_low a a' l c l' c' w).mono ?_
    rintro e w' ⟨rfl, b⟩
    refine ⟨_, rfl, ⟨a, l, c, a', l', c', ?_, by rw [e1, Int.natAbs_neg]; exact k1.grow b, by rw [e2]; exact k2.grow b⟩, b⟩
    rw [e1, decide_eq_false (by omega)]
  · rw [decide_eq_false g]
    refine (FNeg_high a a' l c l' c' w).mono ?_
    rintro e w' ⟨rfl, b⟩
    refine ⟨_, rfl, ⟨a, l, c, a', l', c', ?_, by rw [e1, Int.natAbs_neg]; exact k1.grow b, by rw [e2]; exact k2.grow b⟩, b⟩
    rw [k1.len, e1]
    have : (!decide ((r.num.natAbs : Int) = 0)) = decide (-r.num < 0) := by
      clear k1 e1
      generalize r.num = x at *
      rw [Bool.eq_iff_iff]
      simp only [Bool.not_eq_true', decide_eq_false_iff_not, decide_eq_true_eq]
      omega
    rw [this]
/-- The sign of an exact number. -/
def psg (r : Rat) : Int := if r.num < 0 then -1 else if r.num = 0 then 0 else 1
theorem Sign_p (v : Value) (r : Rat) (w : World) (h : PF w v r) :
    Calls Tryz.prog 31 #[v] w fun e w' => e = .returned (.int .i64 (psg r)) ∧ Below w.heap.size w w' := by
  obtain ⟨a, l, c, a', l', c', rfl, ⟨xs, r1, n1, v1⟩, k2⟩ := h
  refine (sign_any _ _ _ xs w r1 n1 ⟨_, _, _, rfl⟩).mono ?_
  rintro e w' ⟨rfl, b⟩
  refine ⟨?_, b⟩
  rw [v1]
  unfold psg
  by_cases g : r.num < 0
  · simp [g]
  · by_cases z : r.num = 0
    · simp [z]
    · simp [g, z]
/-- Which one is the lesser. -/
def pcm (r s : Rat) : Int := if r < s then -1 else if s < r then 1 else 0
theorem pcm_eq (r s : Rat) : cmpF (decide (r.num < 0)) r.num.natAbs r.den (decide (s.num < 0)) s.num.natAbs s.den = pcm r s := by
  have d1 := den_p r
  have d2 := den_p s
  unfold pcm cmpF
  simp only [Rat.lt_iff]
  have S : ∀ {x d : Int}, 0 < d → x < 0 → x * d < 0 := fun h1 h2 => Int.mul_neg_of_neg_of_pos h2 h1
  have P : ∀ {x d : Int}, 0 < d → 0 ≤ x → 0 ≤ x * d := fun h1 h2 => Int.mul_nonneg h2 (Int.le_of_lt h1)
  by_cases g1 : r.num < 0 <;> by_cases g2 : s.num < 0
  · simp only [g1, g2, decide_true, if_true]
    unfold cmp3
    rw [show (r.num.natAbs : Int) = -r.num by omega, show (s.num.natAbs : Int) = -s.num by omega, Int.neg_mul, Int.neg_mul]
    generalize r.num * (s.den : Int) = x
    generalize s.num * (r.den : Int) = y
    split <;> split <;> (try split) <;> (try split) <;> first | rfl | omega
  · simp only [g1, g2, decide_true, decide_false, if_true, Bool.false_eq_true, if_false]
    have a1 := S d2 g1
    have a2 := P d1 (show 0 ≤ s.num by omega)
    rw [if_pos (by omega)]
  · simp only [g1, g2, decide_true, decide_false, if_true, Bool.false_eq_true, if_false]
    have a1 := S d1 g2
    have a2 := P d2 (show 0 ≤ r.num by omega)
    rw [if_neg (by omega), if_pos (by omega)]
  · simp only [g1, g2, decide_false, Bool.false_eq_true, if_false]
    unfold cmp3
    rw [show (r.num.natAbs : Int) = r.num by omega, show (s.num.natAbs : Int) = s.num by omega]
theorem Cmp_p (v1 v2 : Value) (r s : Rat) (m n : Nat) (w : World) (h1 : PF w v1 r) (h2 : PF w v2 s) (s1 : PS r m) (s2 : PS s n) (hm : m < 80) (hn : n < 80) :
    Calls Tryz.prog 14 #[v1, v2] w fun e w' => e = .returned (.int .i64 (pcm r s)) ∧ Below w.heap.size w w' := by
  obtain ⟨a1, l1, c1, a2, l2, c2, rfl, ⟨A, r1, n1, q1⟩, ⟨B, r2, n2, q2⟩⟩ := h1
  obtain ⟨a3, l3, c3, a4, l4, c4, rfl, ⟨C, r3, n3, q3⟩, ⟨D, r4, n4, q4⟩⟩ := h2
  have k1 := len_of r1.1 n1 (by rw [q1]; exact s1.1)
  have k2 := len_of r2.1 n2 (by rw [q2]; exact s1.2)
  have k3 := len_of r3.1 n3 (by rw [q3]; exact s2.1)
  have k4 := len_of r4.1 n4 (by rw [q4]; exact s2.2)
  refine (compare_any _ _ _ _ _ _ A B C D w r1 r2 r3 r4 (by omega) (by omega) (by omega) (by omega)).mono ?_
  rintro e w' ⟨rfl, b⟩
  rw [q1, q2, q3, q4, pcm_eq]
  exact ⟨rfl, b⟩
end Go.Proofs.YtpmgbmafibkgnaaGreatDoor.Mo

namespace Go.Proofs.YtpmgbmafibkgnaaGreatDoor.Mo
open Go.RowKit Fu Tn Go.Lib Dc

end Go.Proofs.YtpmgbmafibkgnaaGreatDoor.Mo

namespace Go.Proofs.YtpmgbmafibkgnaaGreatDoor.Mo
open Go.RowKit Fu Tn Go.Lib Dc

theorem c4 {W : World} {n : Nat} {a b c d : Value} {t : TypeId} (h : Blk W n #[a, b, c, d] t) : W.cell? ⟨n, 0, none⟩ = some a ∧ W.cell? ⟨n, 1, none⟩ = some b ∧ W.cell? ⟨n, 2, none⟩ = some c ∧ W.cell? ⟨n, 3, none⟩ = some d ∧ n < W.heap.size := ⟨by simpa using h.at 0, by simpa using h.at 1, by simpa using h.at 2, by simpa using h.at 3, h.lt⟩
theorem sl4 {a0 a1 a2 a3 : Option Addr} {l0 c0 l1 c1 l2 c2 l3 c3 : Nat} (i : Nat) (k : IntKind) (z : Int) : (#[.slice a0 l0 c0, .slice a1 l1 c1, .slice a2 l2 c2, .slice a3 l3 c3] : Array Value)[i]? ≠ some (.int k z) := by
  rcases (show i = 0 ∨ i = 1 ∨ i = 2 ∨ i = 3 ∨ 4 ≤ i by omega) with rfl | rfl | rfl | rfl | h
  · simp
  · simp
  · simp
  · simp
  · rw [Array.getElem?_eq_none (by simpa using h)]; simp
theorem fr3 {g : Bool} {a0 a1 : Option Addr} {l0 c0 l1 c1 : Nat} (i : Nat) (k : IntKind) (z : Int) : (#[.bool g, .slice a0 l0 c0, .slice a1 l1 c1] : Array Value)[i]? ≠ some (.int k z) := by
  rcases (show i = 0 ∨ i = 1 ∨ i = 2 ∨ 3 ≤ i by omega) with rfl | rfl | rfl | h
  · simp
  · simp
  · simp
  · rw [Array.getElem?_eq_none (by simpa using h)]; simp
set_option maxHeartbeats 3200000 in
set_option maxRecDepth 100000 in
theorem Next_n {a0 a1 a2 a3 aT : Option Addr} {l0 c0 l1 c1 l2 c2 l3 c3 lT cT : Nat} {X Y X' Y' T : Int} {w : World} (h0 : Nn w a0 l0 c0 X) (h1 : Nn w a1 l1 c1 Y) (h2 : Nn w a2 l2 c2 X') (h3 : Nn w a3 l3 c3 Y') (hT : Nn w aT lT cT T) {m : Nat} (b0 : X < pw m) (b1 : Y < pw m) (b2 : X' < pw m) (b3 : Y' < pw m) (bT : T < pw m) (hm : m < 80) :
    Calls Tryz.prog 68 #[.agg #[.slice a0 l0 c0, .slice a1 l1 c1, .slice a2 l2 c2, .slice a3 l3 c3], .agg #[.slice aT lT cT]] w fun e w' => ∃ (a : Option Addr × Option Addr) (l c : Nat × Nat), e = .returned (.agg #[.slice a.1 l.1 c.1, .slice a.2 l.2 c.2, .slice a0 l0 c0, .slice a1 l1 c1]) ∧ (Nn w' a.1 l.1 c.1 (T * X + X') ∧ Nn w' a.2 l.2 c.2 (T * Y + Y')) ∧ Below w.heap.size w w' := by
  have hk : MulOK m m := by unfold MulOK; omega
  have U1 : ∀ x, Below w.heap.size w x → Calls Tryz.prog 23 #[.agg #[.slice aT lT cT], .agg #[.slice a0 l0 c0]] x fun e w' => ∃ a l c, e = .returned (.agg #[.slice a l c]) ∧ Nn w' a l c (T * X) ∧ Below x.heap.size x w' := fun x b => Mul_n (hT.grow b) (h0.grow b) bT b0 hk
  have U3 : ∀ x, Below w.heap.size w x → Calls Tryz.prog 23 #[.agg #[.slice aT lT cT], .agg #[.slice a1 l1 c1]] x fun e w' => ∃ a l c, e = .returned (.agg #[.slice a l c]) ∧ Nn w' a l c (T * Y) ∧ Below x.heap.size x w' := fun x b => Mul_n (hT.grow b) (h1.grow b) bT b1 hk
  have tp := hT.nonneg
  have e2 : ∀ {V : Int}, V < pw m → V < pw (m + m) := fun h => by have := pw_mono (show m ≤ m + m by omega); omega
  have e3 : ∀ {V : Int}, 0 ≤ V → V < pw m → T * V < pw (m + m) := fun h0 h => by rw [pw_add]; exact Int.mul_lt_mul' (Int.le_of_lt bT) h h0 (pw_pos m)
  have U2 : ∀ x a l c, Below w.heap.size w x → Nn x a l c (T * X) → Calls Tryz.prog 54 #[.agg #[.slice a l c], .agg #[.slice a2 l2 c2]] x fun e w' => ∃ a l c, e = .returned (.agg #[.slice a l c]) ∧ Nn w' a l c (T * X + X') ∧ Below x.heap.size x w' := fun x a l c b h => Add_n h (h2.grow b) (e3 h0.nonneg b0) (e2 b2) (by omega)
  have U4 : ∀ x a l c, Below w.heap.size w x → Nn x a l c (T * Y) → Calls Tryz.prog 54 #[.agg #[.slice a l c], .agg #[.slice a3 l3 c3]] x fun e w' => ∃ a l c, e = .returned (.agg #[.slice a l c]) ∧ Nn w' a l c (T * Y + Y') ∧ Below x.heap.size x w' := fun x a l c b h => Add_n h (h3.grow b) (e3 h1.nonneg b1) (e2 b3) (by omega)
  generalize T * X + X' = R1 at *
  generalize T * Y + Y' = R2 at *
  generalize T * X = Q1 at *
  generalize T * Y = Q2 at *
  clear h0 h1 h2 h3 hT b0 b1 b2 b3 bT hm hk tp e2 e3
  have K0 := ((Blk.new w #[.slice a0 l0 c0, .slice a1 l1 c1, .slice a2 l2 c2, .slice a3 l3 c3] 98).alloc (.cells #[.slice aT lT cT] 39)).alloc (.cells #[.slice none 0 0, .slice none 0 0, .slice none 0 0, .slice none 0 0] 98)
  have KT := (Bx.new (w.alloc (.cells #[.slice a0 l0 c0, .slice a1 l1 c1, .slice a2 l2 c2, .slice a3 l3 c3] 98)) (.slice aT lT cT) 39).alloc (.cells #[.slice none 0 0, .slice none 0 0, .slice none 0 0, .slice none 0 0] 98)
  have KR := Blk.new ((w.alloc (.cells #[.slice a0 l0 c0, .slice a1 l1 c1, .slice a2 l2 c2, .slice a3 l3 c3] 98)).alloc (.cells #[.slice aT lT cT] 39)) #[.slice none 0 0, .slice none 0 0, .slice none 0 0, .slice none 0 0] 98
  have pr : Below w.heap.size w (((w.alloc (.cells #[.slice a0 l0 c0, .slice a1 l1 c1, .slice a2 l2 c2, .slice a3 l3 c3] 98)).alloc (.cells #[.slice aT lT cT] 39)).alloc (.cells #[.slice none 0 0, .slice none 0 0, .slice none 0 0, .slice none 0 0] 98)) := (((Below.refl _ _).alloc (Nat.le_refl _) _).alloc (by simp) _).alloc (by simp; omega) _
  simp only [World.size_alloc] at KT KR
  go_enter Tryz.func68, Tryz.ntmps68
  go_wp2_with fail
  generalize ((w.alloc (.cells #[.slice a0 l0 c0, .slice a1 l1 c1, .slice a2 l2 c2, .slice a3 l3 c3] 98)).alloc (.cells #[.slice aT lT cT] 39)).alloc (.cells #[.slice none 0 0, .slice none 0 0, .slice none 0 0, .slice none 0 0] 98) = W at *
  obtain ⟨k0, k1, k2, k3, kl⟩ := c4 K0
  have hne1 : w.heap.size ≠ w.heap.size + 1 + 1 := by omega
  have hne2 : w.heap.size + 1 + 1 ≠ w.heap.size := by omega
  have kt := KT.1
  go_region_held3 (fun x => x.cell? ⟨w.heap.size, 0, none⟩ = some (.slice a0 l0 c0) ∧ x.cell? ⟨w.heap.size, 1, none⟩ = some (.slice a1 l1 c1) ∧ x.cell? ⟨w.heap.size, 2, none⟩ = some (.slice a2 l2 c2) ∧ x.cell? ⟨w.heap.size, 3, none⟩ = some (.slice a3 l3 c3) ∧ x.cell? ⟨w.heap.size + 1, 0, none⟩ = some (.slice aT lT cT)) (go_keep) (first
    | (go_at_call 54; (have z := d3); refine (U4 _ p3 m3 q3 (bel' pr d3) n3).mono ?_; rintro e w4 ⟨p4, m4, q4, rfl, n4, d4'⟩; have d4 := bel' d3 d4'; obtain ⟨y0, y1, y2, y3, yl⟩ := c4 (K0.below d4 K0.lt); have yt := (KT.below d4).1; have KR4 := KR.below d4 KR.lt; obtain ⟨r0, r1, r2, r3, rl⟩ := c4 KR4; have s0 := KR4.free 0; have s1 := KR4.free 1; have s2 := KR4.free 2; have s3 := KR4.free 3; have n2 := n2.grow d4'; clear d4')
    | (go_at_call 23; (have z := d2); refine (U3 _ (bel' pr d2)).mono ?_; rintro e w3 ⟨p3, m3, q3, rfl, n3, d3⟩; have n2 := n2.grow d3; have d3 := bel' d2 d3; obtain ⟨x0, x1, x2, x3, xl⟩ := c4 (K0.below d3 K0.lt); have xt := (KT.below d3).1)
    | (go_at_call 54; (have z := d1); refine (U2 _ p1 m1 q1 (bel' pr d1) n1).mono ?_; rintro e w2 ⟨p2, m2, q2, rfl, n2, d2⟩; have d2 := bel' d1 d2; obtain ⟨v0, v1, v2, v3, vl⟩ := c4 (K0.below d2 K0.lt); have vt := (KT.below d2).1)
    | (go_at_call 23; refine (U1 _ pr.drew).mono ?_; rintro e w1 ⟨p1, m1, q1, rfl, n1, d1⟩; have d1 := undrew d1; obtain ⟨u0, u1, u2, u3, ul⟩ := c4 (K0.below d1 K0.lt); have ut := (KT.below d1).1)
    | fail)
  have f2 := n2.off KR4 sl4
  have f4 := n4.off KR4 sl4
  have N2 := (((n2.set f2 0 (.slice p2 m2 q2)).set f2 1 (.slice p4 m4 q4)).set f2 2 (.slice a0 l0 c0)).set f2 3 (.slice a1 l1 c1)
  have N4 := (((n4.set f4 0 (.slice p2 m2 q2)).set f4 1 (.slice p4 m4 q4)).set f4 2 (.slice a0 l0 c0)).set f4 3 (.slice a1 l1 c1)
  have KE : Blk ((((w4.setCell ⟨w.heap.size + 1 + 1, 0, none⟩ (.slice p2 m2 q2)).setCell ⟨w.heap.size + 1 + 1, 1, none⟩ (.slice p4 m4 q4)).setCell ⟨w.heap.size + 1 + 1, 2, none⟩ (.slice a0 l0 c0)).setCell ⟨w.heap.size + 1 + 1, 3, none⟩ (.slice a1 l1 c1)) (w.heap.size + 1 + 1) #[.slice p2 m2 q2, .slice p4 m4 q4, .slice a0 l0 c0, .slice a1 l1 c1] 98 := bput (bput (bput (bput KR4 0 _) 1 _) 2 _) 3 _
  have BE := ((((bel' pr d4).setCell (p := ⟨w.heap.size + 1 + 1, 0, none⟩) (show w.heap.size ≤ w.heap.size + 1 + 1 by omega) (.slice p2 m2 q2)).setCell (p := ⟨w.heap.size + 1 + 1, 1, none⟩) (show w.heap.size ≤ w.heap.size + 1 + 1 by omega) (.slice p4 m4 q4)).setCell (p := ⟨w.heap.size + 1 + 1, 2, none⟩) (show w.heap.size ≤ w.heap.size + 1 + 1 by omega) (.slice a0 l0 c0)).setCell (p := ⟨w.heap.size + 1 + 1, 3, none⟩) (show w.heap.size ≤ w.heap.size + 1 + 1 by omega) (.slice a1 l1 c1)
  go_wp2_with fail
  generalize (((w4.setCell ⟨w.heap.size + 1 + 1, 0, none⟩ (.slice p2 m2 q2)).setCell ⟨w.heap.size + 1 + 1, 1, none⟩ (.slice p4 m4 q4)).setCell ⟨w.heap.size + 1 + 1, 2, none⟩ (.slice a0 l0 c0)).setCell ⟨w.heap.size + 1 + 1, 3, none⟩ (.slice a1 l1 c1) = WE at *
  obtain ⟨g0, g1, g2, g3, gl⟩ := c4 KE
  exact bodyPost_ret (v := .agg #[.slice p2 m2 q2, .slice p4 m4 q4, .slice a0 l0 c0, .slice a1 l1 c1]) (by simp [results, Tryz.results68, go_sem, g0, g1, g2, g3]) rfl ⟨(p2, p4), (m2, m4), (q2, q4), rfl, ⟨N2, N4⟩, BE⟩
set_option maxRecDepth 100000 in
theorem CFrac_n (a0 a1 a2 a3 : Option Addr) (l0 c0 l1 c1 l2 c2 l3 c3 : Nat) (w : World) :
    Calls Tryz.prog 69 #[.agg #[.slice a0 l0 c0, .slice a1 l1 c1, .slice a2 l2 c2, .slice a3 l3 c3]] w fun e w' => e = .returned (.agg #[.bool false, .slice a0 l0 c0, .slice a1 l1 c1]) ∧ Below w.heap.size w w' := by
  go_enter Tryz.func69, Tryz.ntmps69
  go_wp2
  refine bodyPost_ret (v := .agg #[.bool false, .slice a0 l0 c0, .slice a1 l1 c1]) (by simp [results, Tryz.results69, go_sem]) rfl ⟨rfl, ?_⟩
  exact ((Below.refl _ _).alloc (Nat.le_refl _) _).alloc (by simp) _
theorem Of_n (X : Int) (w : World) (h0 : 0 ≤ X) (h1 : X < 18446744073709551616) :
    Calls Tryz.prog 24 #[.int .u64 X] w fun e w' => ∃ a l c, e = .returned (.agg #[.slice a l c]) ∧ Nn w' a l c X ∧ Below w.heap.size w w' := by
  refine (Of_any X w h0 h1).mono ?_
  rintro e w' ⟨r, zs, rfl, hr, hn, hv, b⟩
  obtain ⟨a, l, c, rfl⟩ := hr.shape
  exact ⟨a, l, c, rfl, ⟨zs, hr, hn, hv⟩, b⟩
theorem Nn.nil (w : World) : Nn w none 0 0 0 := ⟨[], Rd.nil w, Or.inl rfl, rfl⟩
set_option maxHeartbeats 1600000 in
set_option maxRecDepth 100000 in
theorem NewC_n (w : World) :
    Calls Tryz.prog 67 #[] w fun e w' => ∃ (a : Option Addr × Option Addr) (l c : Nat × Nat), e = .returned (.agg #[.slice a.1 l.1 c.1, .slice none 0 0, .slice none 0 0, .slice a.2 l.2 c.2]) ∧ (Nn w' a.1 l.1 c.1 1 ∧ Nn w' a.2 l.2 c.2 1) ∧ Below w.heap.size w w' := by
  have O := fun x => Of_n 1 x (by decide) (by decide)
  have KR := Blk.new w #[.slice none 0 0, .slice none 0 0, .slice none 0 0, .slice none 0 0] 98
  have pr : Below w.heap.size w (w.alloc (.cells #[.slice none 0 0, .slice none 0 0, .slice none 0 0, .slice none 0 0] 98)) := (Below.refl _ _).alloc (Nat.le_refl _) _
  go_enter Tryz.func67, Tryz.ntmps67
  go_wp2_with (first
    | (go_at_call 24; (have z := b1); refine (O _).mono ?_; rintro e w2 ⟨p2, m2, q2, rfl, n2, b2⟩; have n1 := n1.grow b2; have b2 := bel' b1 b2; have KR2 := KR.below b2 KR.lt; obtain ⟨r0, r1, r2, r3, rl⟩ := c4 KR2; have s0 := KR2.free 0; have s1 := KR2.free 1; have s2 := KR2.free 2; have s3 := KR2.free 3)
    | (go_at_call 24; refine (O _).mono ?_; rintro e w1 ⟨p1, m1, q1, rfl, n1, b1⟩)
    | fail)
  have f1 := n1.off KR2 sl4
  have f2 := n2.off KR2 sl4
  have N1 := (((n1.set f1 0 (.slice p1 m1 q1)).set f1 1 (.slice none 0 0)).set f1 2 (.slice none 0 0)).set f1 3 (.slice p2 m2 q2)
  have N2 := (((n2.set f2 0 (.slice p1 m1 q1)).set f2 1 (.slice none 0 0)).set f2 2 (.slice none 0 0)).set f2 3 (.slice p2 m2 q2)
  have KE : Blk ((((w2.setCell ⟨w.heap.size, 0, none⟩ (.slice p1 m1 q1)).setCell ⟨w.heap.size, 1, none⟩ (.slice none 0 0)).setCell ⟨w.heap.size, 2, none⟩ (.slice none 0 0)).setCell ⟨w.heap.size, 3, none⟩ (.slice p2 m2 q2)) (w.heap.size) #[.slice p1 m1 q1, .slice none 0 0, .slice none 0 0, .slice p2 m2 q2] 98 := bput (bput (bput (bput KR2 0 _) 1 _) 2 _) 3 _
  have BE := ((((bel' pr b2).setCell (p := ⟨w.heap.size, 0, none⟩) (Nat.le_refl _) (.slice p1 m1 q1)).setCell (p := ⟨w.heap.size, 1, none⟩) (Nat.le_refl _) (.slice none 0 0)).setCell (p := ⟨w.heap.size, 2, none⟩) (Nat.le_refl _) (.slice none 0 0)).setCell (p := ⟨w.heap.size, 3, none⟩) (Nat.le_refl _) (.slice p2 m2 q2)
  generalize (((w2.setCell ⟨w.heap.size, 0, none⟩ (.slice p1 m1 q1)).setCell ⟨w.heap.size, 1, none⟩ (.slice none 0 0)).setCell ⟨w.heap.size, 2, none⟩ (.slice none 0 0)).setCell ⟨w.heap.size, 3, none⟩ (.slice p2 m2 q2) = WE at *
  obtain ⟨g0, g1, g2, g3, gl⟩ := c4 KE
  exact bodyPost_ret (v := .agg #[.slice p1 m1 q1, .slice none 0 0, .slice none 0 0, .slice p2 m2 q2]) (by simp [results, Tryz.results67, go_sem, g0, g1, g2, g3]) rfl ⟨(p1, p2), (m1, m2), (q1, q2), rfl, ⟨N1, N2⟩, BE⟩
end Go.Proofs.YtpmgbmafibkgnaaGreatDoor.Mo
