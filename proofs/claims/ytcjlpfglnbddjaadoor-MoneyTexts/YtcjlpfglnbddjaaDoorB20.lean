import Derived.Test.YtcjlpfglnbddjaaDoorGp1
import Derived.Test.YtcjlpfglnbddjaaDoorB19
namespace Go.Proofs.YtcjlpfglnbddjaaDoor.L
open Go.RowKit Tl

/-- A number with a sign. -/
def sgI (g : Bool) (x : Int) : Int := if g = true then -x else x
theorem sgI_abs (g : Bool) {x : Int} (h : 0 ≤ x) : ((sgI g x).natAbs : Int) = x := by
  unfold sgI
  split <;> omega
/-- The value v is the exact number r, in lowest terms. -/
def IsQ (w : World) (v : Value) (r : Rat) : Prop :=
  ∃ (ns ds : List Int) (a1 a2 : Option Addr) (c1 c2 : Nat), v = .agg #[.bool (decide (r.num < 0)), .slice a1 ns.length c1, .slice a2 ds.length c2] ∧ Rd w (.slice a1 ns.length c1) ns ∧ Nm ns ∧ val ns = (r.num.natAbs : Int) ∧ Rd w (.slice a2 ds.length c2) ds ∧ Nm ds ∧ val ds = (r.den : Int)
theorem IsQ.grow {w w' : World} {v : Value} {r : Rat} (h : IsQ w v r) (b : Below w.heap.size w w') : IsQ w' v r := by
  obtain ⟨ns, ds, a1, a2, c1, c2, e, h1, n1, v1, h2, n2, v2⟩ := h
  exact ⟨ns, ds, a1, a2, c1, c2, e, h1.grow b, n1, v1, h2.grow b, n2, v2⟩
theorem IsQ.drew {w : World} {v : Value} {r : Rat} (h : IsQ w v r) : IsQ w.drew v r := h.grow ((Below.refl _ _).drew)
theorem IsQ.alloc {w : World} {v : Value} {r : Rat} {ob : Obj} (h : IsQ w v r) : IsQ (w.alloc ob) v r := h.grow ((Below.refl _ _).alloc (Nat.le_refl _) _)
theorem rd_form {w : World} {v : Value} {xs : List Int} (h : Rd w v xs) : ∃ a c, v = .slice a xs.length c := by obtain ⟨_, a, c, e, _⟩ := h; exact ⟨a, c, e⟩
/-- The number of limbs, by the size. -/
theorem len_of_lt {xs : List Int} {K : Nat} (h : Wd xs) (n : Nm xs) (hv : val xs < pw K) : xs.length ≤ K := by
  by_cases c : xs.length ≤ K
  · exact c
  · have h1 := val_low h n (by intro e; rw [e] at c; simp at c)
    have h2 := pw_mono (show K ≤ xs.length - 1 by omega)
    omega
theorem gcd_eq (X Y : Int) (g : Bool) (hX : 0 ≤ X) (hY : 0 < Y) : Y.toNat.gcd (sgI g X).natAbs = Int.gcd X Y := by
  rw [Nat.gcd_comm]
  unfold Int.gcd
  have e1 : (sgI g X).natAbs = X.natAbs := by unfold sgI; split <;> omega
  have e2 : Y.toNat = Y.natAbs := by omega
  rw [e1, e2]
/-- In lowest terms. -/
theorem mk_low {X Y N D : Int} (g : Bool) (hX : 0 < X) (hY : 0 < Y) (hN : 0 ≤ N) (eN : N * (Int.gcd X Y : Int) = X) (eD : D * (Int.gcd X Y : Int) = Y) :
    decide ((mkRat (sgI g X) Y.toNat).num < 0) = g ∧ N = ((mkRat (sgI g X) Y.toNat).num.natAbs : Int) ∧ D = ((mkRat (sgI g X) Y.toNat).den : Int) := by
  have y0 : Y.toNat ≠ 0 := by omega
  have G := gcd_eq X Y g (by omega) hY
  have num : (mkRat (sgI g X) Y.toNat).num = sgI g X / (Int.gcd X Y : Int) := by
    rw [Rat.num_mkRat, if_neg y0]
    rw [show ((Y.toNat.gcd (sgI g X).natAbs : Nat) : Int) = (Int.gcd X Y : Int) from by rw [G]]
  have den : ((mkRat (sgI g X) Y.toNat).den : Int) = Y / (Int.gcd X Y : Int) := by
    rw [Rat.den_mkRat, if_neg y0, G, Int.natCast_ediv, Int.toNat_of_nonneg (by omega)]
  rw [num, den]
  generalize (Int.gcd X Y : Int) = d at *
  have d0 : d ≠ 0 := by intro e; rw [e] at eN; simp at eN; omega
  have e1 : sgI g X / d = sgI g N := by
    unfold sgI
    split
    · rw [← eN, ← Int.neg_mul, Int.mul_ediv_cancel _ d0]
    · rw [← eN, Int.mul_ediv_cancel _ d0]
  have e2 : Y / d = D := by rw [← eD, Int.mul_ediv_cancel _ d0]
  have n0 : N ≠ 0 := by intro e; rw [e] at eN; simp at eN; omega
  rw [e1, e2]
  refine ⟨?_, (sgI_abs g hN).symm, rfl⟩
  unfold sgI
  cases g
  · rw [if_neg (by simp), decide_eq_false_iff_not]; omega
  · rw [if_pos rfl, decide_eq_true_eq]; omega
theorem val_nil : val ([] : List Int) = 0 := rfl
end Go.Proofs.YtcjlpfglnbddjaaDoor.L
