import Derived.Test.YtebilgnmnambnaaGreatDoorPart31
import Derived.Deep.RegionHeld3
import Derived.Test.YtebilgnmnambnaaGreatDoorPart27
import Derived.Test.YtebilgnmnambnaaGreatDoorPart10

namespace Go.Proofs.YtebilgnmnambnaaGreatDoor.Mo
open Go.RowKit Dc
theorem BRead_m (s : ByteArray) (hs : s.size ≤ 4096) (hd : natB s = true) (x : World) :
    Calls Tryz.prog 76 #[.string s] x fun e w' => ∃ a l c, e = .returned (.slice a l c) ∧ Ml w' a l c (Dc.num s.data.toList : Int) ∧ Below x.heap.size x w' := by
  refine (L.BRead_any s x (by omega) (natB_dg hd)).mono ?_
  rintro e w' ⟨v, zs, rfl, hr, hn, hv, hl, b⟩
  obtain ⟨a, c, rfl⟩ : ∃ a c, v = .slice a zs.length c := by obtain ⟨_, a, c, e, _⟩ := hr; exact ⟨a, c, e⟩
  exact ⟨a, _, c, rfl, ⟨zs, hr, hn, hv, by omega⟩, b⟩
theorem Gcd_m {A B : Int} (x : World) (a : Option Addr) (l c : Nat) (a' : Option Addr) (l' c' : Nat) (h : Ml x a l c A) (h' : Ml x a' l' c' B) :
    Calls Tryz.prog 112 #[.slice a l c, .slice a' l' c'] x fun e w' => ∃ a l c, e = .returned (.slice a l c) ∧ Ml w' a l c (Int.gcd A B : Int) ∧ Below x.heap.size x w' := by
  obtain ⟨xs, r1, n1, rfl, m1⟩ := h
  obtain ⟨ys, r2, n2, rfl, m2⟩ := h'
  refine (L.Gcd_any _ _ xs ys 4096 x r1 r2 n1 n2 m1 m2 (by decide)).mono ?_
  rintro e w' ⟨v, zs, rfl, hr, hn, hv, hl, b⟩
  obtain ⟨a, c, rfl⟩ : ∃ a c, v = .slice a zs.length c := by obtain ⟨_, a, c, e, _⟩ := hr; exact ⟨a, c, e⟩
  exact ⟨a, _, c, rfl, ⟨zs, hr, hn, hv, hl⟩, b⟩
theorem Cmp_m {A B : Int} (x : World) (a : Option Addr) (l c : Nat) (a' : Option Addr) (l' c' : Nat) (h : Ml x a l c A) (h' : Ml x a' l' c' B) :
    Calls Tryz.prog 98 #[.slice a l c, .slice a' l' c'] x fun e w' => e = .returned (.int .i64 (L.cmp3 A B)) ∧ Below x.heap.size x w' := by
  obtain ⟨xs, r1, n1, rfl, m1⟩ := h
  obtain ⟨ys, r2, n2, rfl, m2⟩ := h'
  exact L.Cmp_any _ _ xs ys x r1 r2 n1 n2 (by omega)
theorem cmp_gcd (G : Nat) : (!(L.cmp3 (G : Int) 1 == 0)) = decide (G ≠ 1) := by
  unfold L.cmp3
  by_cases h : G = 1
  · subst h; rfl
  · by_cases h2 : (G : Int) < 1
    · rw [if_pos h2]; simp [h]
    · rw [if_neg h2, if_pos (by omega)]; simp [h]
theorem good_last (S d : ByteArray) : (if (decide (Int.gcd (Dc.num S.data.toList : Int) (Dc.num d.data.toList : Int) ≠ 1)) = true then (5 : Int) else 0) = if Int.gcd (Dc.num S.data.toList : Int) (Dc.num d.data.toList : Int) ≠ 1 then 5 else 0 := by
  simp only [decide_eq_true_eq]
theorem Good_any (n d : ByteArray) (w : World) (hn : n.size ≤ 9223372036854775807) (hd : d.size ≤ 9223372036854775807) :
    Calls Tryz.prog 51 #[.agg #[.string n, .string d]] w fun e w' => e = .returned (.int .i64 (goodE n d)) ∧ Below w.heap.size w w' := by
  have DD : ∀ (s : ByteArray) (b : Bool), s.size ≤ 9223372036854775807 → natB s = b → ∀ x, Calls Tryz.prog 75 #[.string s] x fun e w' => e = .returned (.bool b) ∧ w' = x := fun s b hs hb x => by
    have := BDigits_any s x hs
    rw [hb] at this
    exact this
  have dD := DD d
  have z0 : ∀ s : ByteArray, 0 < s.size → s.toList.isEmpty = false := fun s h => by rw [empty_iff s]; exact decide_eq_false (by omega)
  cases hg : neg n with
  | true =>
    have h0 : 0 < n.size := by
      by_cases c : 0 < n.size
      · exact c
      · exfalso
        unfold neg at hg
        rw [bt_out (by omega)] at hg
        simp at hg
    have h45 : (((n[0].toNat : Int)) == 45) = true := by
      unfold neg at hg
      rw [bt_in h0] at hg
      simp at hg ⊢
      omega
    have hr : rest n = n.extract 1 n.size := by unfold rest; rw [hg]; rfl
    have i0 : is0 n = false := by
      cases c : is0 n with
      | false => rfl
      | true =>
        exfalso
        have e1 := is0_size c
        unfold is0 at c
        have := eq_of_beq c
        rw [ByteArray.toList_eq] at this
        have q : n[0] = 48 := by
          have : n.data.toList[0]? = some 48 := by rw [this]; rfl
          rw [List.getElem?_eq_getElem (by simpa using h0)] at this
          simp at this
          exact this
        rw [q] at h45
        simp at h45
    unfold goodE shB whB
    rw [hg, i0]
    obtain ⟨S, hS⟩ : ∃ S, n.extract 1 n.size = S := ⟨_, rfl⟩
    have sz : S.size = n.size - 1 := by rw [← hS]; simp [ByteArray.size_extract]
    rw [hr, hS]
    cases c1 : natB S with
    | false =>
      simp only [Bool.false_and, if_true]
      exact Good_neg_a n d S w hn hd h0 h45 (z0 n h0) hS (DD S _ (by omega) c1)
    | true =>
      cases c2 : natB d with
      | false =>
        simp only [Bool.and_false, Bool.false_and, if_true]
        exact Good_neg_b n d S w hn hd h0 h45 (z0 n h0) hS (DD S _ (by omega) c1) (dD _ hd c2)
      | true =>
        cases c3 : is0 d with
        | true =>
          simp only [Bool.not_true, Bool.and_false, Bool.false_and, if_true]
          exact Good_neg_c n d S w hn hd h0 h45 (z0 n h0) hS (DD S _ (by omega) c1) (dD _ hd c2) c3
        | false =>
          cases c4 : is0 S with
          | true =>
            have := is0_size c4
            simp only [Bool.and_true, Bool.not_true, Bool.and_false, Bool.false_and, if_true]
            exact Good_neg_d n d S w hn hd h0 h45 (z0 n h0) hS (DD S _ (by omega) c1) (dD _ hd c2) c3 c4 (by omega)
          | false =>
            simp only [Bool.and_false, Bool.not_false, Bool.and_true, Bool.false_and, Bool.true_eq_false, if_false]
            by_cases l1 : 4096 < S.size
            · rw [if_pos (Or.inl l1)]
              exact Good_neg_f n d S w hn hd h0 h45 (z0 n h0) hS (DD S _ (by omega) c1) (dD _ hd c2) c3 c4 l1
            · by_cases l2 : 4096 < d.size
              · rw [if_pos (Or.inr l2)]
                exact Good_neg_g n d S w hn hd h0 h45 (z0 n h0) hS (DD S _ (by omega) c1) (dD _ hd c2) c3 c4 (by omega) l2
              · rw [if_neg (by omega), ← good_last S d]
                exact Good_neg_i n d S w hn hd h0 h45 (z0 n h0) hS (DD S _ (by omega) c1) (dD _ hd c2) c3 c4 (by omega) (by omega) _ _ _ _ _ (cmp_gcd _) (BRead_m S (by omega) c1) (BRead_m d (by omega) c2) Gcd_m Cmp_m
  | false =>
    have hr : rest n = n := by unfold rest; rw [hg]; rfl
    unfold goodE shB whB
    rw [hg, hr]
    cases c1 : natB n with
    | false =>
      simp only [Bool.false_and, if_true]
      refine Good_plain_a n d n w hn hd ?_ rfl (DD n _ hn c1)
      by_cases h0 : 0 < n.size
      · refine Or.inr ⟨h0, ?_, z0 n h0⟩
        unfold neg at hg
        rw [bt_in h0] at hg
        simp at hg ⊢
        omega
      · exact Or.inl ⟨by omega, by rw [empty_iff n]; exact decide_eq_true (by omega)⟩
    | true =>
      have h0 : 0 < n.size := by
        have := c1
        unfold natB at this
        simp only [Bool.and_eq_true, decide_eq_true_eq] at this
        exact this.1.2
      have h45 : (((n[0].toNat : Int)) == 45) = false := by
        unfold neg at hg
        rw [bt_in h0] at hg
        simp at hg ⊢
        omega
      cases c2 : natB d with
      | false =>
        simp only [Bool.and_false, Bool.false_and, if_true]
        exact Good_plain_b n d n w hn hd h0 h45 (z0 n h0) rfl (DD n _ hn c1) (dD _ hd c2)
      | true =>
        cases c3 : is0 d with
        | true =>
          simp only [Bool.not_true, Bool.and_false, Bool.false_and, if_true]
          exact Good_plain_c n d n w hn hd h0 h45 (z0 n h0) rfl (DD n _ hn c1) (dD _ hd c2) c3
        | false =>
          cases c4 : is0 n with
          | true =>
            have s1 := is0_size c4
            cases c5 : is1 d with
            | false =>
              simp only [Bool.not_false, Bool.and_true, Bool.not_true, Bool.and_false, if_true]
              exact Good_plain_e n d n w hn hd h0 h45 (z0 n h0) rfl (DD n _ hn c1) (dD _ hd c2) c3 c4 (by omega) (by unfold is1 at c5; rw [c5]; rfl)
            | true =>
              have d1 : d.toList = [49] := eq_of_beq c5
              have n1 : n.toList = [48] := eq_of_beq c4
              rw [ByteArray.toList_eq] at d1 n1
              have ds : d.size = 1 := by
                have := congrArg List.length d1
                simpa using this
              simp only [Bool.not_false, Bool.and_true, Bool.not_true, Bool.and_false, Bool.true_eq_false, if_false]
              rw [if_neg (by omega), d1, n1, if_neg (by decide)]
              exact Good_plain_h n d w hn hd h0 h45 (z0 n h0) (DD n _ hn c1) (dD _ hd c2) c3 c4 (by omega) (by unfold is1 at c5; rw [c5]; rfl) (by omega)
          | false =>
            simp only [Bool.false_and, Bool.not_false, Bool.and_true, Bool.true_eq_false, if_false]
            by_cases l1 : 4096 < n.size
            · rw [if_pos (Or.inl l1)]
              exact Good_plain_f n d n w hn hd h0 h45 (z0 n h0) rfl (DD n _ hn c1) (dD _ hd c2) c3 c4 l1
            · by_cases l2 : 4096 < d.size
              · rw [if_pos (Or.inr l2)]
                exact Good_plain_g n d n w hn hd h0 h45 (z0 n h0) rfl (DD n _ hn c1) (dD _ hd c2) c3 c4 (by omega) l2
              · rw [if_neg (by omega), ← good_last n d]
                exact Good_plain_i n d w hn hd h0 h45 (z0 n h0) (DD n _ hn c1) (dD _ hd c2) c3 c4 (by omega) (by omega) _ _ _ _ _ (cmp_gcd _) (BRead_m n (by omega) c1) (BRead_m d (by omega) c2) Gcd_m Cmp_m
end Go.Proofs.YtebilgnmnambnaaGreatDoor.Mo

namespace Go.Proofs.YtebilgnmnambnaaGreatDoor.Mo
open Go.RowKit Dc
theorem nat_pos {s : ByteArray} (h : natB s = true) (h0 : is0 s = false) : 0 < Dc.num s.data.toList := by
  have hd := natB_dg h
  unfold natB at h
  simp only [Bool.and_eq_true, decide_eq_true_eq] at h
  obtain ⟨⟨_, hp⟩, hc⟩ := h
  have hsz : s.data.toList.length = s.size := by simp
  cases e : s.data.toList with
  | nil => rw [e] at hsz; simp at hsz; omega
  | cons c r =>
    rw [e] at hd hsz
    have c1 := hd c (by simp)
    unfold Dc.Dg at c1
    rw [Dc.num_cons]
    have b0 : bt s 0 = c.toNat := by
      rw [bt_in hp, Dc.at_list s 0 hp]
      simp [e]
    have p10 : 0 < 10 ^ r.length := Nat.pow_pos (by decide)
    have k : 48 < c.toNat := by
      by_cases k : c.toNat = 48
      · exfalso
        rw [b0] at hc
        simp [k] at hc
        have r0 : r = [] := by
          simp at hsz
          cases r with
          | nil => rfl
          | cons a b => simp at hsz; omega
        unfold is0 at h0
        rw [ByteArray.toList_eq, e, r0] at h0
        have : c = 48 := by apply UInt8.toNat_inj.1; simpa using k
        rw [this] at h0
        simp at h0
      · omega
    have := Nat.mul_le_mul (show 1 ≤ c.toNat - 48 by omega) (show 1 ≤ 10 ^ r.length from p10)
    omega
theorem good_rat {n d : ByteArray} (h : goodE n d = 0) : ∃ r : Rat, decide (r.num < 0) = neg n ∧ r.num.natAbs = Dc.num (rest n).data.toList ∧ r.den = Dc.num d.data.toList ∧ (rest n).size ≤ 4096 ∧ d.size ≤ 4096 ∧ natB (rest n) = true ∧ natB d = true := by
  unfold goodE at h
  rcases hs : shB n d with _ | _
  · rw [hs] at h; simp at h
  rw [hs] at h
  simp only [Bool.true_eq_false, if_false] at h
  by_cases hl : 4096 < (rest n).size ∨ 4096 < d.size
  · rw [if_pos hl] at h; simp at h
  rw [if_neg hl] at h
  by_cases hg : Int.gcd (Dc.num (rest n).data.toList : Int) (Dc.num d.data.toList : Int) ≠ 1
  · rw [if_pos hg] at h; simp at h
  simp only [Classical.not_not] at hg
  unfold shB at hs
  rw [Bool.and_eq_true, Bool.and_eq_true, Bool.and_eq_true, Bool.not_eq_true', Bool.not_eq_true'] at hs
  obtain ⟨⟨⟨a1, a2⟩, a3⟩, a4⟩ := hs
  unfold whB at a1
  rw [Bool.and_eq_true, Bool.not_eq_true'] at a1
  have D0 := nat_pos a2 a3
  have g' : Nat.gcd (Dc.num (rest n).data.toList) (Dc.num d.data.toList) = 1 := hg
  cases hn : neg n with
  | false =>
    refine ⟨⟨(Dc.num (rest n).data.toList : Int), Dc.num d.data.toList, by omega, by simpa [Nat.Coprime] using g'⟩, ?_, by simp, rfl, by omega, by omega, a1.1, a2⟩
    simp
  | true =>
    have z := a1.2
    rw [hn, Bool.true_and] at z
    have N0 := nat_pos a1.1 z
    refine ⟨⟨-(Dc.num (rest n).data.toList : Int), Dc.num d.data.toList, by omega, by simpa [Nat.Coprime] using g'⟩, ?_, by simp, rfl, by omega, by omega, a1.1, a2⟩
    simp
    omega
end Go.Proofs.YtebilgnmnambnaaGreatDoor.Mo

namespace Go.Proofs.YtebilgnmnambnaaGreatDoor.Mo
open Go.RowKit Dc
theorem ten_pw : ∀ j : Nat, ((10 ^ (16 * j) : Nat) : Int) ≤ Tn.pw j
  | 0 => by simp [Tn.pw]
  | j + 1 => by
    have ih := ten_pw j
    have p := Tn.pw_pos j
    have e : (10 : Nat) ^ (16 * (j + 1)) = 10 ^ (16 * j) * 10000000000000000 := by rw [Nat.mul_add, Nat.pow_add]
    rw [e]
    simp only [Tn.pw]
    generalize (10 : Nat) ^ (16 * j) = T at *
    omega
def rT (n d : ByteArray) : Rat := mkRat (if neg n then -(Dc.num (rest n).data.toList : Int) else (Dc.num (rest n).data.toList : Int)) (Dc.num d.data.toList)
structure Ok (n d : ByteArray) (r : Rat) : Prop where
  sg : decide (r.num < 0) = neg n
  nm : r.num.natAbs = Dc.num (rest n).data.toList
  dn : r.den = Dc.num d.data.toList
  s1 : (rest n).size ≤ 4096
  s2 : d.size ≤ 4096
  b1 : natB (rest n) = true
  b2 : natB d = true
theorem ok_rT {n d : ByteArray} (h : goodE n d = 0) : Ok n d (rT n d) := by
  obtain ⟨r, h1, h2, h3, h4, h5, h6, h7⟩ := good_rat h
  have e : r = rT n d := by
    unfold rT
    rw [← h1, ← h2, ← h3]
    have : (if decide (r.num < 0) = true then -(r.num.natAbs : Int) else (r.num.natAbs : Int)) = r.num := by
      by_cases c : r.num < 0
      · rw [decide_eq_true c, if_pos rfl]; omega
      · rw [decide_eq_false c, if_neg (by decide)]; omega
    rw [this, Rat.mkRat_self]
  rw [← e]
  exact ⟨h1, h2, h3, h4, h5, h6, h7⟩
end Go.Proofs.YtebilgnmnambnaaGreatDoor.Mo
