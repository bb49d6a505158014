import Derived.Test.YtcjlpfglnbddjaaDoorB18
import Derived.Test.YtcjlpfglnbddjaaDoorFl3
import Derived.Test.YtcjlpfglnbddjaaDoorFlM
namespace Go.Proofs.YtcjlpfglnbddjaaDoor.L
open Go.RowKit Tl

theorem Bits_q (v : Value) (xs : List Int) (w : World) (h : Rd w v xs) (n : Nm xs) (hL : xs.length ≤ 1099511627776) :
    Calls Tryd.prog 36 #[v] w fun e w' => e = .returned (.int .i64 (bl (val xs) : Nat)) ∧ ∃ n, w' = w.drewN n := by
  refine (Bits_fn v xs w h n hL).mono ?_
  rintro e w' ⟨rfl, rfl⟩
  exact ⟨rfl, 0, rfl⟩
theorem belN {n : Nat} {w W w1 : World} (h : Below w.heap.size w W) (k : Below (W.drewN n).heap.size (W.drewN n) w1) : Below w.heap.size w w1 := h.trans (Below.mono (show Below W.heap.size W w1 from ⟨k.os, k.tape, k.output, k.size, k.block⟩) h.size)
/-- The bits of m times 2 to the e. -/
def lay52 (m e : Int) : Int := if 4503599627370496 ≤ m then m - 4503599627370496 + (e + 1075) * 4503599627370496 else m
theorem bl_53 {m : Int} (h0 : 4503599627370496 ≤ m) (h1 : m < 9007199254740992) : bl m = 53 := by
  refine (bl_unique (L := 53) (by omega) ?_ (Or.inr ?_)).symm
  · have : (2 : Int) ^ 53 = 9007199254740992 := by decide
    omega
  · have : (2 : Int) ^ (53 - 1) = 4503599627370496 := by decide
    omega
theorem bl_52 {m : Int} (h0 : 0 ≤ m) (h1 : m < 4503599627370496) : bl m ≤ 52 := by
  by_cases c : 0 < m
  · have b := bl_pos c
    by_cases d : bl m ≤ 52
    · exact d
    · have := two_pow_le (show 52 ≤ bl m - 1 by omega)
      have e : (2 : Int) ^ 52 = 4503599627370496 := by decide
      omega
  · unfold bl; rw [if_pos (by omega)]; omega
theorem or_limb (b m : Int) (b0 : 0 ≤ b) (b1 : b < 17179869184) (m0 : 0 ≤ m) (m1 : m < 1073741824) : bits .or .u64 (b * 1073741824) m = b * 1073741824 + m := by
  obtain ⟨x, rfl⟩ := Int.eq_ofNat_of_zero_le b0
  obtain ⟨y, rfl⟩ := Int.eq_ofNat_of_zero_le m0
  have e := bits_or_u64_nat (1073741824 * x) y (by omega) (by omega)
  rw [Tn.or_high x y 30 1073741824 (by decide) (by omega)] at e
  rw [show (x : Int) * 1073741824 = ((1073741824 * x : Nat) : Int) from by omega, e]
  omega
theorem laid_step {ms : List Int} {i : Nat} {b : Int} (h : Wd ms) (hi : i < ms.length) (hb : b = val (ms.drop (i + 1))) (hm : val ms < 9007199254740992) : 0 ≤ b ∧ b < 17179869184 ∧ b * 1073741824 + nth ms i = val (ms.drop i) := by
  have e := drop_getD ms i hi
  have d0 := val_nonneg (h.drop (i + 1))
  have d1 := val_nonneg (h.drop i)
  have bx := nth_bd h i
  have e2 : val (ms.drop i) = nth ms i + 1073741824 * val (ms.drop (i + 1)) := by rw [e]; rfl
  have s := val_split ms i (by omega)
  have t0 := val_nonneg (h.take i)
  have p := pw_pos i
  have := Int.mul_le_mul_of_nonneg_right (show 1 ≤ pw i by omega) d1
  omega
end Go.Proofs.YtcjlpfglnbddjaaDoor.L
