import Derived.Test.YtfalncbcomlelaaGreatDoorPart16

namespace Go.Proofs.YtfalncbcomlelaaGreatDoor.L
open Go.RowKit Tl

theorem mul_lt_iff {G a b : Int} (h : 0 < G) : G * a < G * b ↔ a < b := ⟨fun k => Int.lt_of_mul_lt_mul_left k (Int.le_of_lt h), fun k => Int.mul_lt_mul_of_pos_left k h⟩
theorem cross (n : Int) {d : Nat} (hd : 0 < d) : (mkRat n d).num * (d : Int) = n * ((mkRat n d).den : Int) := by
  have h := Rat.mkRat_self (mkRat n d)
  rwa [Rat.mkRat_eq_iff (mkRat n d).den_nz (by omega)] at h
theorem lt_mk (a c : Int) {b d : Nat} (hb : 0 < b) (hd : 0 < d) : mkRat a b < mkRat c d ↔ a * d < c * b := by
  have x := cross a hb
  have y := cross c hd
  have p := den_pos' (mkRat a b)
  have q := den_pos' (mkRat c d)
  rw [Rat.lt_iff]
  generalize (mkRat a b).num = A at *
  generalize ((mkRat a b).den : Int) = B at *
  generalize (mkRat c d).num = C at *
  generalize ((mkRat c d).den : Int) = D at *
  have b0 : (0 : Int) < b := by omega
  have d0 : (0 : Int) < d := by omega
  have g1 : (0 : Int) < (b : Int) * d := Int.mul_pos b0 d0
  have g2 : (0 : Int) < B * D := Int.mul_pos p q
  rw [← mul_lt_iff g1, ← mul_lt_iff (a := a * d) g2]
  have e1 : (b : Int) * d * (A * D) = B * D * (a * d) := by
    have : (b : Int) * d * (A * D) = (A * b) * D * d := by grind
    rw [this, x]; grind
  have e2 : (b : Int) * d * (C * B) = B * D * (c * b) := by
    have : (b : Int) * d * (C * B) = (C * d) * B * b := by grind
    rw [this, y]; grind
  rw [e1, e2]
end Go.Proofs.YtfalncbcomlelaaGreatDoor.L
