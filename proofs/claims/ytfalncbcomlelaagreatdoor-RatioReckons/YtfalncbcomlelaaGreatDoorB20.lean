import Derived.Test.YtfalncbcomlelaaGreatDoorGh
import Derived.Test.YtfalncbcomlelaaGreatDoorB19
import Derived.Test.YtfalncbcomlelaaGreatDoorLn
namespace Go.Proofs.YtfalncbcomlelaaGreatDoor.L
open Go.RowKit Tl

/-- A number with a sign. -/
def sgI (g : Bool) (x : Int) : Int := if g = true then -x else x
theorem sgI_abs (g : Bool) {x : Int} (h : 0 ≤ x) : ((sgI g x).natAbs : Int) = x := by
  unfold sgI
  split <;> omega
/-- The value v is the exact number r, in lowest terms. -/
def IsQ (w : World) (v : Value) (r : Rat) : Prop :=
  ∃ (ns ds : List Int) (a1 a2 : Option Addr) (c1 c2 : Nat), v = .agg #[.bool (decide (r.num < 0)), .slice a1 ns.length c1, .slice a2 ds.length c2] ∧ Rd w (.slice a1 ns.length c1) ns ∧ Nm ns ∧ val ns = (r.num.natAbs : Int) ∧ Rd w (.slice a2 ds.length c2) ds ∧ Nm ds ∧ val ds = (r.den : Int)
theorem IsQ.grow {w w' : World} {v : Value} {r : Rat} (h : IsQ w v r) (b : Below w.heap.size w w') : IsQ w' v r := by
  obtain ⟨ns, ds, a1, a2, c1, c2, e, h1, n1, v1, h2, n2, v2⟩ := h
  exact ⟨ns, ds, a1, a2, c1, c2, e, h1.grow b, n1, v1, h2.grow b, n2, v2⟩
theorem IsQ.drew {w : World} {v : Value} {r : Rat} (h : IsQ w v r) : IsQ w.drew v r := h.grow ((Below.refl _ _).drew)
theorem IsQ.alloc {w : World} {v : Value} {r : Rat} {ob : Obj} (h : IsQ w v r) : IsQ (w.alloc ob) v r := h.grow ((Below.refl _ _).alloc (Nat.le_refl _) _)
theorem gcd_eq (X Y : Int) (g : Bool) (hX : 0 ≤ X) (hY : 0 < Y) : Y.toNat.gcd (sgI g X).natAbs = Int.gcd X Y := by
  rw [Nat.gcd_comm]
  unfold Int.gcd
  have e1 : (sgI g X).natAbs = X.natAbs := by unfold sgI; split <;> omega
  have e2 : Y.toNat = Y.natAbs := by omega
  rw [e1, e2]
/-- In lowest terms. -/
theorem mk_low {X Y N D : Int} (g : Bool) (hX : 0 < X) (hY : 0 < Y) (hN : 0 ≤ N) (eN : N * (Int.gcd X Y : Int) = X) (eD : D * (Int.gcd X Y : Int) = Y) :
    decide ((mkRat (sgI g X) Y.toNat).num < 0) = g ∧ N = ((mkRat (sgI g X) Y.toNat).num.natAbs : Int) ∧ D = ((mkRat (sgI g X) Y.toNat).den : Int) := by
  have y0 : Y.toNat ≠ 0 := by omega
  have G := gcd_eq X Y g (by omega) hY
  have num : (mkRat (sgI g X) Y.toNat).num = sgI g X / (Int.gcd X Y : Int) := by
    rw [Rat.num_mkRat, if_neg y0]
    rw [show ((Y.toNat.gcd (sgI g X).natAbs : Nat) : Int) = (Int.gcd X Y : Int) from by rw [G]]
  have den : ((mkRat (sgI g X) Y.toNat).den : Int) = Y / (Int.gcd X Y : Int) := by
    rw [Rat.den_mkRat, if_neg y0, G, Int.natCast_ediv, Int.toNat_of_nonneg (by omega)]
  rw [num, den]
  generalize (Int.gcd X Y : Int) = d at *
  have d0 : d ≠ 0 := by intro e; rw [e] at eN; simp at eN; omega
  have e1 : sgI g X / d = sgI g N := by
    unfold sgI
    split
    · rw [← eN, ← Int.neg_mul, Int.mul_ediv_cancel _ d0]
    · rw [← eN, Int.mul_ediv_cancel _ d0]
  have e2 : Y / d = D := by rw [← eD, Int.mul_ediv_cancel _ d0]
  have n0 : N ≠ 0 := by intro e; rw [e] at eN; simp at eN; omega
  rw [e1, e2]
  refine ⟨?_, (sgI_abs g hN).symm, rfl⟩
  unfold sgI
  cases g
  · rw [if_neg (by simp), decide_eq_false_iff_not]; omega
  · rw [if_pos rfl, decide_eq_true_eq]; omega
theorem val_nil : val ([] : List Int) = 0 := rfl
set_option maxHeartbeats 1600000 in
set_option maxRecDepth 100000 in
theorem make_none (neg : Bool) (a1 : Option Addr) (c1 : Nat) (v2 : Value) (w : World) :
    Calls Tryz.prog 72 #[.bool neg, .slice a1 0 c1, v2] w fun e w' => ∃ u2, e = .returned (.agg #[.bool false, .slice none 0 0, u2]) ∧ Rd w' u2 [1] ∧ Below w.heap.size w w' := by
  have ho : Rd ((w.alloc (.cells #[.bool false, .slice none 0 0, .slice (some ⟨w.heap.size + 1, 0, none⟩) 1 1] 66)).alloc (.cells #[.int .i64 1] 3)) (.slice (some ⟨w.heap.size + 1, 0, none⟩) 1 1) [1] := rd_one (cell_at (by simp)) (by decide) (by decide)
  have pr : Below w.heap.size w ((w.alloc (.cells #[.bool false, .slice none 0 0, .slice (some ⟨w.heap.size + 1, 0, none⟩) 1 1] 66)).alloc (.cells #[.int .i64 1] 3)) := ((Below.refl _ _).alloc (Nat.le_refl _) _).alloc (by simp) _
  go_enter Tryz.func72, Tryz.ntmps72
  go_wp2
  exact bodyPost_ret (v := .agg #[.bool false, .slice none 0 0, .slice (some ⟨w.heap.size + 1, 0, none⟩) 1 1]) (by simp [results, Tryz.results72, go_sem]) rfl ⟨_, rfl, ho, pr⟩
/-- Make of the reference, as an exact number. -/
theorem Make_q (neg : Bool) (v1 v2 : Value) (xs ys : List Int) (L : Nat) (w : World) (h1 : Rd w v1 xs) (h2 : Rd w v2 ys) (n1 : Nm xs) (n2 : Nm ys) (l1 : xs.length ≤ L) (l2 : ys.length ≤ L) (hL : L ≤ 274877906944) (y0 : 0 < val ys) :
    Calls Tryz.prog 72 #[.bool neg, v1, v2] w fun e w' => ∃ v, e = .returned v ∧ IsQ w' v (mkRat (sgI neg (val xs)) (val ys).toNat) ∧ Below w.heap.size w w' := by
  by_cases p1 : 0 < xs.length
  · have x0 : 0 < val xs := by
      have := val_nonneg h1.1
      by_cases c : val xs = 0
      · rw [val_eq_zero h1.1 n1] at c
        rw [c] at p1; simp at p1
      · omega
    refine (Make_any neg v1 v2 xs ys L w h1 h2 n1 n2 l1 l2 hL p1).mono ?_
    rintro e w' ⟨u1, u2, ns, ds, rfl, hn, nn, hd, nd, eN, eD, hb⟩
    obtain ⟨a, c, rfl⟩ := rd_form hn
    obtain ⟨a', c', rfl⟩ := rd_form hd
    obtain ⟨m1, m2, m3⟩ := mk_low neg x0 y0 (val_nonneg hn.1) eN eD
    exact ⟨_, rfl, ⟨ns, ds, a, a', c, c', by rw [m1], hn, nn, m2, hd, nd, m3⟩, hb⟩
  · have e0 : xs = [] := List.eq_nil_of_length_eq_zero (by omega)
    subst e0
    obtain ⟨a, c, rfl⟩ := rd_form h1
    have e : mkRat (sgI neg (val [])) (val ys).toNat = 0 := by
      rw [val_nil]
      have : sgI neg 0 = 0 := by cases neg <;> rfl
      rw [this, Rat.zero_mkRat]
    rw [e]
    refine (make_none neg a c v2 w).mono ?_
    rintro e w' ⟨u2, rfl, h, hb⟩
    obtain ⟨a', c', rfl⟩ := rd_form h
    have z : decide ((0 : Rat).num < 0) = false := by decide
    exact ⟨_, rfl, ⟨[], [1], none, a', 0, c', by rw [z]; rfl, rd_nil _, Or.inl rfl, by rw [val_nil]; rfl, h, nm_one, by rw [val_one]; rfl⟩, hb⟩
end Go.Proofs.YtfalncbcomlelaaGreatDoor.L
