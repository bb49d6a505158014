import Derived.Test.YtejfnplhimfchaaGreatDoorPart46
import Derived.Test.YtejfnplhimfchaaGreatDoorPart44

namespace Go.Proofs.YtejfnplhimfchaaGreatDoor.L
open Go.RowKit Tl

/-- Is the whole number above taken? -/
def upQ (way : Int) (neg even : Bool) (c : Int) : Bool :=
  if way = 2 then true else if way = 3 then neg else if way = 4 then !neg else if way = 5 then (decide (0 < c) || (c == 0 && !neg)) else if way = 6 then (decide (0 < c) || (c == 0 && !even)) else false
/-- An exact number, rounded to a whole one. -/
def rndQ (way : Int) (r : Rat) : Int :=
  if r - (r.floor : Rat) = 0 then r.floor else if upQ way (decide (r.num < 0)) (decide ((r.floor.natAbs : Int) % 2 = 0)) (cmpR (r - (r.floor : Rat)) (mkRat 1 2)) = true then r.floor + 1 else r.floor
theorem pw_two' (K : Nat) : pw (K + 2) = 1152921504606846976 * pw K := by
  simp only [pw]; omega
theorem floor_qs {r : Rat} {K : Nat} (h : QS r K) : QS (r.floor : Rat) (K + 2) := by
  have d := den_pos' r
  have p := pw_pos K
  have e := pw_two' K
  have h1 := h.1
  have fd : r.floor = r.num / (r.den : Int) := Rat.floor_def r
  have b : (r.floor.natAbs : Int) ≤ r.num.natAbs := by
    rw [fd]
    have ev := Int.mul_ediv_add_emod r.num (r.den : Int)
    have m0 := Int.emod_nonneg r.num (show (r.den : Int) ≠ 0 by omega)
    have m1 := Int.emod_lt_of_pos r.num d
    generalize r.num / (r.den : Int) = q at *
    by_cases c : 0 ≤ q
    · have := Int.mul_le_mul_of_nonneg_right (show 1 ≤ (r.den : Int) by omega) c
      omega
    · have := Int.mul_le_mul_of_nonneg_right (show 1 ≤ (r.den : Int) by omega) (show 0 ≤ -q - 1 by omega)
      have x : (r.den : Int) * (-q - 1) = -((r.den : Int) * q) - r.den := by grind
      omega
  refine ⟨?_, ?_⟩
  · show (r.floor.natAbs : Int) < _
    omega
  · show (1 : Int) < _
    omega
theorem mk_qs {n : Int} {d K : Nat} (h0 : 0 ≤ n) (h1 : n < d) (hK : (d : Int) < pw K) : QS (mkRat n d) K := by
  have d0 : d ≠ 0 := by omega
  have g0 : 0 < d.gcd n.natAbs := Nat.gcd_pos_of_pos_left _ (by omega)
  refine ⟨?_, ?_⟩
  · rw [Rat.num_mkRat, if_neg d0]
    have a : n / ((d.gcd n.natAbs : Nat) : Int) ≤ n := Int.ediv_le_self _ h0
    have b : 0 ≤ n / ((d.gcd n.natAbs : Nat) : Int) := Int.ediv_nonneg h0 (by omega)
    omega
  · rw [Rat.den_mkRat, if_neg d0]
    have := Nat.div_le_self d (d.gcd n.natAbs)
    omega
theorem qs_mono {r : Rat} {K L : Nat} (h : QS r K) (hl : K ≤ L) : QS r L := by
  have := pw_mono hl
  exact ⟨by have := h.1; omega, by have := h.2; omega⟩
theorem rest_qs {r : Rat} {K : Nat} (h : QS r K) : QS (r - (r.floor : Rat)) (K + 2) := by
  have d := den_pos' r
  rw [sub_rat, Rat.floor_def]
  have ev := Int.mul_ediv_add_emod r.num (r.den : Int)
  have m0 := Int.emod_nonneg r.num (show (r.den : Int) ≠ 0 by omega)
  have m1 := Int.emod_lt_of_pos r.num d
  rw [show r.num - r.num / (r.den : Int) * r.den = r.num % (r.den : Int) from by rw [Int.mul_comm] at ev; omega]
  exact qs_mono (mk_qs m0 m1 h.2) (by omega)
theorem cmpR_cases (r s : Rat) : cmpR r s = 1 ∨ cmpR r s = 0 ∨ cmpR r s = -1 := by
  unfold cmpR
  split
  · simp
  · split <;> simp
/-- Q's Round of the reference. -/
theorem QRound_any (a : Value) (r : Rat) (K : Nat) (way : Int) (w : World) (ha : IsQ w a r) (hQ : QS r K) (hK : K ≤ 100000) :
    Calls Tryz.prog 15 #[a, .int .i64 way] w fun e w' => ∃ v, e = .returned v ∧ IsQ w' v ((rndQ way r : Int) : Rat) ∧ Below w.heap.size w w' := by
  obtain ⟨g, p1, m1, c1, p2, m2, c2, rfl, G⟩ := isq_form ha
  unfold rndQ
  by_cases z : r - (r.floor : Rat) = 0
  · rw [if_pos z]
    exact qround_zero g p1 p2 m1 c1 m2 c2 r K way w ha hQ hK z
  · rw [if_neg z, ← G.out]
    obtain ⟨UP, hUP⟩ : ∃ UP, UP = upQ way g (decide ((r.floor.natAbs : Int) % 2 = 0)) (cmpR (r - (r.floor : Rat)) (mkRat 1 2)) := ⟨_, rfl⟩
    rw [← hUP]
    have fin := qround_some g p1 p2 m1 c1 m2 c2 r K way w ha hQ hK z (rest_qs hQ) (floor_qs hQ) _ rfl UP _ rfl ?_
    · refine fin.mono ?_
      rintro e w' ⟨v, he, hq, hb⟩
      refine ⟨v, he, ?_, hb⟩
      cases UP
      · exact hq
      · rw [if_pos rfl] at hq ⊢
        rw [Rat.intCast_add]
        exact hq
    · generalize decide ((r.floor.natAbs : Int) % 2 = 0) = ev at *
      unfold upQ at hUP
      have cc := cmpR_cases (r - (r.floor : Rat)) (mkRat 1 2)
      generalize cmpR (r - (r.floor : Rat)) (mkRat 1 2) = c at *
      by_cases w2 : way = 2
      · rw [if_pos w2] at hUP; exact Or.inl ⟨w2, hUP⟩
      rw [if_neg w2] at hUP
      by_cases w3 : way = 3
      · rw [if_pos w3] at hUP; exact Or.inr (Or.inl ⟨w3, hUP⟩)
      rw [if_neg w3] at hUP
      by_cases w4 : way = 4
      · rw [if_pos w4] at hUP; exact Or.inr (Or.inr (Or.inl ⟨w4, hUP⟩))
      rw [if_neg w4] at hUP
      by_cases w5 : way = 5
      · rw [if_pos w5] at hUP
        rcases cc with rfl | rfl | rfl
        · exact Or.inr (Or.inr (Or.inr (Or.inl ⟨w5, rfl, by rw [hUP]; rfl⟩)))
        · exact Or.inr (Or.inr (Or.inr (Or.inr (Or.inl ⟨w5, rfl, by rw [hUP]; simp⟩))))
        · exact Or.inr (Or.inr (Or.inr (Or.inr (Or.inr (Or.inl ⟨w5, rfl, by rw [hUP]; rfl⟩)))))
      rw [if_neg w5] at hUP
      by_cases w6 : way = 6
      · rw [if_pos w6] at hUP
        rcases cc with rfl | rfl | rfl
        · exact Or.inr (Or.inr (Or.inr (Or.inr (Or.inr (Or.inr (Or.inl ⟨w6, rfl, by rw [hUP]; rfl⟩))))))
        · exact Or.inr (Or.inr (Or.inr (Or.inr (Or.inr (Or.inr (Or.inr (Or.inl ⟨w6, rfl, by rw [hUP]; simp⟩)))))))
        · exact Or.inr (Or.inr (Or.inr (Or.inr (Or.inr (Or.inr (Or.inr (Or.inr (Or.inl ⟨w6, rfl, by rw [hUP]; rfl⟩))))))))
      rw [if_neg w6] at hUP
      exact Or.inr (Or.inr (Or.inr (Or.inr (Or.inr (Or.inr (Or.inr (Or.inr (Or.inr ⟨by rw [beq_eq_false_iff_ne]; exact w2, by rw [beq_eq_false_iff_ne]; exact w3, by rw [beq_eq_false_iff_ne]; exact w4, by rw [beq_eq_false_iff_ne]; exact w5, by rw [beq_eq_false_iff_ne]; exact w6, hUP⟩))))))))
end Go.Proofs.YtejfnplhimfchaaGreatDoor.L

namespace Go.Proofs.YtejfnplhimfchaaGreatDoor.L
open Go.RowKit Tl

theorem mul_lt_iff {G a b : Int} (h : 0 < G) : G * a < G * b ↔ a < b := ⟨fun k => Int.lt_of_mul_lt_mul_left k (Int.le_of_lt h), fun k => Int.mul_lt_mul_of_pos_left k h⟩
theorem cross (n : Int) {d : Nat} (hd : 0 < d) : (mkRat n d).num * (d : Int) = n * ((mkRat n d).den : Int) := by
  have h := Rat.mkRat_self (mkRat n d)
  rwa [Rat.mkRat_eq_iff (mkRat n d).den_nz (by omega)] at h
theorem lt_mk (a c : Int) {b d : Nat} (hb : 0 < b) (hd : 0 < d) : mkRat a b < mkRat c d ↔ a * d < c * b := by
  have x := cross a hb
  have y := cross c hd
  have p := den_pos' (mkRat a b)
  have q := den_pos' (mkRat c d)
  rw [Rat.lt_iff]
  generalize (mkRat a b).num = A at *
  generalize ((mkRat a b).den : Int) = B at *
  generalize (mkRat c d).num = C at *
  generalize ((mkRat c d).den : Int) = D at *
  have b0 : (0 : Int) < b := by omega
  have d0 : (0 : Int) < d := by omega
  have g1 : (0 : Int) < (b : Int) * d := Int.mul_pos b0 d0
  have g2 : (0 : Int) < B * D := Int.mul_pos p q
  rw [← mul_lt_iff g1, ← mul_lt_iff (a := a * d) g2]
  have e1 : (b : Int) * d * (A * D) = B * D * (a * d) := by
    have : (b : Int) * d * (A * D) = (A * b) * D * d := by grind
    rw [this, x]; grind
  have e2 : (b : Int) * d * (C * B) = B * D * (c * b) := by
    have : (b : Int) * d * (C * B) = (C * d) * B * b := by grind
    rw [this, y]; grind
  rw [e1, e2]
theorem cmp_mk (a c : Int) {b d : Nat} (hb : 0 < b) (hd : 0 < d) : cmpR (mkRat a b) (mkRat c d) = cmp3 (a * d) (c * b) := by
  unfold cmpR cmp3
  simp only [lt_mk a c hb hd, lt_mk c a hd hb]
end Go.Proofs.YtejfnplhimfchaaGreatDoor.L
