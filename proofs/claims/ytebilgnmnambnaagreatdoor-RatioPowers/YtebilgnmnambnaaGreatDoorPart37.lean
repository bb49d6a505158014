import Derived.Test.YtebilgnmnambnaaGreatDoorPart36
import Derived.Test.YtebilgnmnambnaaGreatDoorPart29
import Derived.Test.YtebilgnmnambnaaGreatDoorPart34

namespace Go.Proofs.YtebilgnmnambnaaGreatDoor.Mo
open Go.RowKit Fu Tn Go.Lib

theorem add_num (r s : Rat) : (r + s).num = (r.num * ((s.den / r.den.gcd s.den : Nat) : Int) + s.num * ((r.den / r.den.gcd s.den : Nat) : Int)) / (((r.num * ((s.den / r.den.gcd s.den : Nat) : Int) + s.num * ((r.den / r.den.gcd s.den : Nat) : Int)).natAbs.gcd (r.den.gcd s.den) : Nat) : Int) := by
  show (Rat.add r s).num = _
  unfold Rat.add
  dsimp only
  split
  · rename_i h
    rw [h]; simp
  · unfold Rat.maybeNormalize
    split
    · rename_i h
      dsimp only
      rw [h]; simp
    · simp [Int.divExact_eq_ediv]
theorem add_den (r s : Rat) : (r + s).den = r.den / r.den.gcd s.den * s.den / ((r.num * ((s.den / r.den.gcd s.den : Nat) : Int) + s.num * ((r.den / r.den.gcd s.den : Nat) : Int)).natAbs.gcd (r.den.gcd s.den)) := by
  show (Rat.add r s).den = _
  unfold Rat.add
  dsimp only
  split
  · rename_i h
    rw [h]; simp
  · unfold Rat.maybeNormalize
    split
    · rename_i h
      dsimp only
      rw [h]; simp
    · simp [Nat.divExact_eq_div]
/-- The parts of a sum. -/
theorem plus_low (r s : Rat) (Z : Int) (G L : Nat) (hG : r.den.gcd s.den = G) (hZ : r.num * ((s.den : Int) / (G : Int)) + s.num * ((r.den : Int) / (G : Int)) = Z) (hL : Z.natAbs.gcd G = L) :
    ((r + s).num.natAbs : Int) = (Z.natAbs : Int) / (L : Int) ∧ ((r + s).den : Int) = (r.den : Int) / (G : Int) * ((s.den : Int) / (L : Int)) ∧ decide ((r + s).num < 0) = decide (Z < 0) := by
  have e1 := add_num r s
  have e2 := add_den r s
  rw [hG, Int.natCast_ediv, Int.natCast_ediv, hZ, hL] at e1 e2
  have g0 : 0 < G := hG ▸ Nat.gcd_pos_of_pos_right _ (Nat.pos_of_ne_zero s.den_nz)
  have d1 : L ∣ Z.natAbs := hL ▸ Nat.gcd_dvd_left _ _
  have d2 : L ∣ G := hL ▸ Nat.gcd_dvd_right _ _
  have d3 : G ∣ s.den := hG ▸ Nat.gcd_dvd_right _ _
  have l0 : 0 < L := Nat.pos_of_dvd_of_pos d2 g0
  refine ⟨?_, ?_, ?_⟩
  · rw [e1, abs_div d1]
  · rw [e2, Nat.mul_div_assoc _ (Nat.dvd_trans d2 d3), Int.natCast_mul, Int.natCast_ediv, Int.natCast_ediv]
  · rw [e1, decide_eq_decide]
    exact div_neg_iff d1 l0
end Go.Proofs.YtebilgnmnambnaaGreatDoor.Mo

namespace Go.Proofs.YtebilgnmnambnaaGreatDoor.Mo
open Go.RowKit Fu Tn Go.Lib

end Go.Proofs.YtebilgnmnambnaaGreatDoor.Mo

namespace Go.Proofs.YtebilgnmnambnaaGreatDoor.Mo
open Go.RowKit Fu Tn Go.Lib Dc

theorem b48 {k : Nat} (h : k < 10) : (UInt8.ofNat (48 + k)).toNat = 48 + k := by
  rw [UInt8.toNat_ofNat']; omega
theorem dec_dg (u : Nat) : ∀ c ∈ decDigits u, Dc.Dg c := by
  induction u using Nat.strongRecOn with
  | ind u ih =>
    intro c hc
    rw [decDigits] at hc
    split at hc
    · rename_i h
      rw [List.mem_singleton] at hc
      rw [hc]; unfold Dc.Dg; rw [b48 h]; omega
    · rename_i h
      rcases List.mem_append.1 hc with hc | hc
      · exact ih _ (by omega) c hc
      · rw [List.mem_singleton] at hc
        rw [hc]; unfold Dc.Dg; rw [b48 (Nat.mod_lt _ (by decide))]; omega
theorem dec_num (u : Nat) : Dc.num (decDigits u) = u := by
  induction u using Nat.strongRecOn with
  | ind u ih =>
    rw [decDigits]
    split
    · rename_i h
      simp only [Dc.num, List.foldl_cons, List.foldl_nil]
      rw [b48 h]; omega
    · rename_i h
      rw [Dc.num_append, ih _ (by omega)]
      simp only [Dc.num, List.foldl_cons, List.foldl_nil, List.length_singleton]
      rw [b48 (Nat.mod_lt _ (by decide))]; omega
theorem dec_cons (u : Nat) : ∃ c t, decDigits u = c :: t ∧ (u < 10 → t = [] ∧ c.toNat = 48 + u) ∧ (0 < u → c.toNat ≠ 48) := by
  induction u using Nat.strongRecOn with
  | ind u ih =>
    rw [decDigits]
    split
    · rename_i h
      exact ⟨_, [], rfl, fun _ => ⟨rfl, b48 h⟩, fun h' => by rw [b48 h]; omega⟩
    · rename_i h
      obtain ⟨c, t, e, h1, h2⟩ := ih (u / 10) (by omega)
      exact ⟨c, t ++ [_], by rw [e]; rfl, fun h' => absurd h' h, fun _ => h2 (by omega)⟩
theorem sB_list (l : List UInt8) : (sB l).data.toList = l := by simp [sB]
theorem sB_tl (l : List UInt8) : (sB l).toList = l := by rw [ByteArray.toList_eq, sB_list]
theorem sB_bt (c : UInt8) (t : List UInt8) : bt (sB (c :: t)) 0 = c.toNat := by
  rw [bt_in (by rw [sB_size]; simp)]; rfl
theorem dec_nat (u : Nat) : natB (sB (decDigits u)) = true := by
  unfold natB
  rw [sB_list]
  obtain ⟨c, t, e, h1, h2⟩ := dec_cons u
  have a : (decDigits u).all (fun c => decide (48 ≤ c.toNat ∧ c.toNat ≤ 57)) = true := List.all_eq_true.2 fun c h => by have := dec_dg u c h; unfold Dc.Dg at this; simpa using this
  rw [a, e, sB_bt, sB_size]
  by_cases u0 : 0 < u
  · simp [h2 u0]
  · rw [(h1 (by omega)).1]; simp
theorem dec_is {u k : Nat} (hk : k < 10) : ((sB (decDigits u)).toList == [UInt8.ofNat (48 + k)]) = decide (u = k) := by
  rw [sB_tl, Bool.eq_iff_iff, beq_iff_eq, decide_eq_true_iff]
  constructor
  · intro h
    have := congrArg Dc.num h
    rw [dec_num] at this
    rw [this]
    simp only [Dc.num, List.foldl_cons, List.foldl_nil]
    rw [b48 hk]; omega
  · rintro rfl
    exact decDigits_one hk
theorem dec_is0 (u : Nat) : is0 (sB (decDigits u)) = decide (u = 0) := dec_is (k := 0) (by decide)
theorem dec_is1 (u : Nat) : is1 (sB (decDigits u)) = decide (u = 1) := dec_is (k := 1) (by decide)
theorem sg_neg (g : Bool) (u : Nat) : neg (sB (sg g (decDigits u))) = g := by
  unfold neg sg
  obtain ⟨c, t, e, h1, h2⟩ := dec_cons u
  cases g with
  | true => simp only [if_true, List.singleton_append]; rw [sB_bt]; rfl
  | false =>
    simp only [Bool.false_eq_true, if_false, List.nil_append]
    have d := dec_dg u c (by rw [e]; exact List.mem_cons_self)
    unfold Dc.Dg at d
    rw [e, sB_bt, decide_eq_false_iff_not]; omega
theorem sg_rest (g : Bool) (u : Nat) : rest (sB (sg g (decDigits u))) = sB (decDigits u) := by
  unfold rest
  rw [sg_neg]
  cases g with
  | true =>
    simp only [if_true, sg]
    apply ByteArray.ext
    apply Array.ext'
    rw [ByteArray.data_extract]
    simp [sB, ByteArray.size, List.extract_eq_take_drop]
  | false => simp [sg]
theorem wrt_good (r : Rat) (l1 : (decDigits r.num.natAbs).length ≤ 4096) (l2 : (decDigits r.den).length ≤ 4096) : goodE (sB (sg (decide (r.num < 0)) (decDigits r.num.natAbs))) (sB (decDigits r.den)) = 0 := by
  have s : shB (sB (sg (decide (r.num < 0)) (decDigits r.num.natAbs))) (sB (decDigits r.den)) = true := by
    unfold shB whB
    rw [sg_rest, sg_neg, dec_nat, dec_nat, dec_is0, dec_is0, dec_is1]
    have := r.den_nz
    by_cases z : r.num = 0
    · have d : r.den = 1 := by
        have := r.reduced
        rw [z] at this
        simpa [Nat.Coprime] using this
      simp [z, d]
    · have e : is0 (sB (sg (decide (r.num < 0)) (decDigits r.num.natAbs))) = false := by
        by_cases g : r.num < 0
        · unfold is0 sg
          rw [sB_tl]
          simp [g]
        · simp only [g, decide_false, sg, Bool.false_eq_true, if_false, List.nil_append]
          rw [dec_is0]; simp [z]
      rw [e]
      simp [z, this]
  unfold goodE
  rw [s, sg_rest, sB_list, sB_list, dec_num, dec_num, sB_size, sB_size]
  have c : Int.gcd (r.num.natAbs : Int) (r.den : Int) = 1 := by
    have := r.reduced
    simpa [Int.gcd, Nat.Coprime] using this
  rw [c]
  simp; omega
theorem Read_p (r : Rat) (w : World) (l1 : (decDigits r.num.natAbs).length ≤ 4096) (l2 : (decDigits r.den).length ≤ 4096) :
    Calls Tryz.prog 47 #[wrt r] w fun e w' => ∃ v, e = .returned (.tuple #[v, .int .i64 0]) ∧ PF w' v r ∧ Below w.heap.size w w' := by
  have hs : (sB (sg (decide (r.num < 0)) (decDigits r.num.natAbs))).size ≤ 9223372036854775807 := by
    rw [sB_size]; unfold sg; split <;> simp <;> omega
  refine (Read_any _ _ w hs (by rw [sB_size]; omega)).mono ?_
  rintro e w' ⟨b, h | h⟩
  · exact absurd (wrt_good r l1 l2) h.1
  · obtain ⟨_, v1, v2, xs, ys, rfl, r1, n1, q1, _, r2, n2, q2, _⟩ := h
    obtain ⟨a, l, c, rfl⟩ := r1.shape
    obtain ⟨a', l', c', rfl⟩ := r2.shape
    rw [sg_rest, sB_list, dec_num] at q1
    rw [sB_list, dec_num] at q2
    exact ⟨_, rfl, ⟨a, l, c, a', l', c', by rw [sg_neg], ⟨xs, r1, n1, q1⟩, ⟨ys, r2, n2, q2⟩⟩, b⟩
end Go.Proofs.YtebilgnmnambnaaGreatDoor.Mo
