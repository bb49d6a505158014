import Derived.Test.YthadighbhdekdaaDoorTx4
namespace Go.Proofs.YthadighbhdekdaaDoor.L
open Go.RowKit Tl Go.Lib

theorem drop_more1 (xs : List Int) (k : Nat) (h : k < xs.length) : val (xs.drop k) = nth xs k + 1073741824 * val (xs.drop (k + 1)) := by
  rw [drop_getD xs k h]
  rfl
theorem drop_le (xs : List Int) (hx : Wd xs) (k : Nat) : val (xs.drop k) ≤ val xs := by
  by_cases h : k ≤ xs.length
  · have e := val_split xs k h
    have a := val_nonneg (hx.take k)
    have b := val_nonneg (hx.drop k)
    have p := pw_pos k
    have q := Int.mul_le_mul_of_nonneg_right (show 1 ≤ pw k by omega) b
    omega
  · rw [List.drop_eq_nil_of_le (by omega)]
    exact val_nonneg hx

theorem pow2_le {a b : Nat} (h : a ≤ b) : (2 : Int) ^ a ≤ 2 ^ b := by
  have := Nat.pow_le_pow_right (show 0 < 2 by decide) h
  have e : ∀ n : Nat, ((2 ^ n : Nat) : Int) = (2 : Int) ^ n := fun n => by simp
  rw [← e, ← e]
  omega
theorem bl_62 {x : Int} (h0 : 0 ≤ x) : bl x ≤ 62 ↔ x < 4611686018427387904 := by
  have e : (2 : Int) ^ 62 = 4611686018427387904 := by decide
  rw [← e]
  by_cases hx : 0 < x
  · obtain ⟨a, b, c⟩ := bl_pos hx
    constructor
    · intro h
      have : (2 : Int) ^ bl x ≤ 2 ^ 62 := pow2_le h
      omega
    · intro h
      by_cases hb : bl x ≤ 62
      · exact hb
      · have : (2 : Int) ^ 62 ≤ 2 ^ (bl x - 1) := pow2_le (by omega)
        omega
  · have : bl x = 0 := by unfold bl; rw [if_pos (by omega)]
    rw [this]
    constructor
    · intro _; rw [e]; omega
    · intro _; omega

set_option maxHeartbeats 800000 in
set_option maxRecDepth 100000 in
/-- Whole of the reference, not below nought. -/
theorem Whole_nat (n : Nat) (w : World) (hn : (n : Int) ≤ 9223372036854775807) :
    Calls Tryd.prog 45 #[.int .i64 (n : Int)] w fun e w' => e = .returned (.string ⟨(decDigits n).toArray⟩) ∧ Below w.heap.size w w' := by
  have L3 : Hid (∀ zs : List Int, Wd zs → Nm zs → val zs = (n : Int) → zs.length ≤ 3) := fun zs h1 h2 h3 => by
    refine len_of_lt h1 h2 ?_
    have p1 : pw 3 = 1237940039285380274899124224 := by decide
    omega
  go_enter Tryd.func45, Tryd.ntmps45
  go_wp2_with (first
    | (go_at_call 64; (refine (NatOf_any (n : Int) _ (by omega) (by omega)).mono ?_); rintro e w2 ⟨r2, zs2, rfl, hz2, nz2, vz2, b2⟩; have l2 : zs2.length ≤ 3 := L3.out zs2 hz2.1 nz2 vz2; have V2 : Hid (val zs2 = (n : Int)) := vz2; clear vz2)
    | (go_at_call 63; (refine (Text_any _ zs2 n _ hz2 nz2 (by omega) V2.out).mono ?_); rintro e w3 ⟨rfl, b3⟩))
  go_ret
  exact ⟨rfl, b2.trans (b3.mono b2.size)⟩
end Go.Proofs.YthadighbhdekdaaDoor.L
