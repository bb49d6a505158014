import Derived.Test.YtfalncbcomlelaaGreatDoorPg2
namespace Go.Proofs.YtfalncbcomlelaaGreatDoor.Mo
open Go.RowKit Fu Tn Go.Lib

theorem sign_mul (x : Int) {d : Int} (h : 0 < d) : decide (x < 0) = decide (x * d < 0) := by
  rw [decide_eq_decide]
  constructor
  · intro c; exact Int.mul_neg_of_neg_of_pos c h
  · intro c
    by_cases z : x < 0
    · exact z
    · have := Int.mul_nonneg (show 0 ≤ x by omega) (show 0 ≤ d by omega)
      omega
theorem abs_mul (x : Int) {d : Int} (h : 0 < d) : (x.natAbs : Int) * d = ((x * d).natAbs : Int) := by
  rw [Int.natAbs_mul, Int.natCast_mul]
  congr 1
  omega
theorem Plus_p (v1 v2 : Value) (r s : Rat) (m n : Nat) (w : World) (h1 : PF w v1 r) (h2 : PF w v2 s) (s1 : PS r m) (s2 : PS s n) (hk : MulOK m n) (hs : m + n + 1 ≤ 1000000) :
    Calls Tryz.prog 40 #[v1, v2] w fun e w' => ∃ v, e = .returned v ∧ PF w' v (r + s) ∧ Below w.heap.size w w' := by
  obtain ⟨a1, l1, c1, a2, l2, c2, rfl, k1, k2⟩ := h1
  obtain ⟨a3, l3, c3, a4, l4, c4, rfl, k3, k4⟩ := h2
  have r0 := den_p r
  have s0 := den_p s
  obtain ⟨G, hG⟩ : ∃ G, Int.gcd (r.den : Int) (s.den : Int) = G := ⟨_, rfl⟩
  have hG' : r.den.gcd s.den = G := by rw [← hG]; simp [Int.gcd]
  have g0 : 0 < G := hG' ▸ Nat.gcd_pos_of_pos_right _ (Nat.pos_of_ne_zero s.den_nz)
  have d1 : (G : Int) ∣ (r.den : Int) := Int.natCast_dvd_natCast.2 (hG' ▸ Nat.gcd_dvd_left _ _)
  have d2 : (G : Int) ∣ (s.den : Int) := Int.natCast_dvd_natCast.2 (hG' ▸ Nat.gcd_dvd_right _ _)
  have g0' : (0 : Int) < (G : Int) := by omega
  have p1 : (0 : Int) < (r.den : Int) / (G : Int) := Int.ediv_pos_of_pos_of_dvd r0 (by omega) d1
  have p2 : (0 : Int) < (s.den : Int) / (G : Int) := Int.ediv_pos_of_pos_of_dvd s0 (by omega) d2
  obtain ⟨X, hX⟩ : ∃ X, r.num * ((s.den : Int) / (G : Int)) = X := ⟨_, rfl⟩
  obtain ⟨Y, hY⟩ : ∃ Y, s.num * ((r.den : Int) / (G : Int)) = Y := ⟨_, rfl⟩
  obtain ⟨L, hL⟩ : ∃ L, Int.gcd ((X + Y).natAbs : Int) (G : Int) = L := ⟨_, rfl⟩
  have hL' : (X + Y).natAbs.gcd G = L := by rw [← hL]; simp [Int.gcd]
  have l0 : 0 < L := hL' ▸ Nat.gcd_pos_of_pos_right _ g0
  obtain ⟨t1, t2, t3⟩ := plus_low r s (X + Y) G L hG' (by rw [hX, hY]) hL'
  have b1 : (r.den : Int) / (G : Int) < pw m := div_lt s1.2 (by omega) g0'
  have b2 : (s.den : Int) / (G : Int) < pw n := div_lt s2.2 (by omega) g0'
  have b3 : (s.den : Int) / (L : Int) < pw n := div_lt s2.2 (by omega) (by omega)
  have bG : (G : Int) < pw m := by
    have := Int.le_of_dvd r0 d1
    have := s1.2
    omega
  have eX : (r.num.natAbs : Int) * ((s.den : Int) / (G : Int)) = (X.natAbs : Int) := by rw [abs_mul _ p2, hX]
  have eY : (s.num.natAbs : Int) * ((r.den : Int) / (G : Int)) = (Y.natAbs : Int) := by rw [abs_mul _ p1, hY]
  have bX : (X.natAbs : Int) < pw (m + n) := by
    rw [← eX, pw_add]
    exact Int.mul_lt_mul' (Int.le_of_lt s1.1) b2 (by omega) (pw_pos m)
  have bY : (Y.natAbs : Int) < pw (m + n) := by
    rw [← eY, pw_add, Int.mul_comm (pw m)]
    exact Int.mul_lt_mul' (Int.le_of_lt s2.1) b1 (by omega) (pw_pos n)
  have bZ : ((X + Y).natAbs : Int) < pw (m + n + 1) := by
    have e : pw (m + n + 1) = pw (m + n) * pw 1 := pw_add _ _
    have e1 : pw 1 = 18446744073709551616 := by decide
    rw [e, e1]
    omega
  have bG' : (G : Int) < pw (m + n + 1) := by
    have := pw_mono (show m ≤ m + n + 1 by omega)
    omega
  have hm := hk.2.1
  have hn := hk.2.2
  have q1 : PS r (max m n) := s1.mono (by omega)
  have q2 : PS s (max m n) := s2.mono (by omega)
  have hk' : MulOK n m := ⟨hk.1.symm, hn, hm⟩
  refine (FPlus_raw (decide (r.num < 0)) (decide (s.num < 0)) (decide (X + Y < 0)) a1 a2 a3 a4 l1 c1 l2 c2 l3 c3 l4 c4 (G : Int) ((r.den : Int) / (G : Int)) ((s.den : Int) / (G : Int)) (X.natAbs : Int) (Y.natAbs : Int) ((X + Y).natAbs : Int) (L : Int) (((X + Y).natAbs : Int) / (L : Int)) ((s.den : Int) / (L : Int)) ((r.den : Int) / (G : Int) * ((s.den : Int) / (L : Int))) w ?_ ?_ ?_ ?_ ?_ ?_ ?_ ?_ ?_ ?_).mono ?_
  · intro x b
    have t := GCD_n (k2.grow b) (k4.grow b) q1.2 q2.2 (by omega)
    rw [hG] at t
    exact t
  · intro x a l c b h
    exact by_n (k2.grow b) h s1.2 g0' (by omega)
  · intro x a l c b h
    exact by_n (k4.grow b) h s2.2 g0' (by omega)
  · intro x a l c b h
    have t := Mul_n (k1.grow b) h s1.1 b2 hk
    rw [eX] at t
    exact t
  · intro x a l c b h
    have t := Mul_n (k3.grow b) h s2.1 b1 hk'
    rw [eY] at t
    exact t
  · intro x a l c a' l' c' h h'
    have t := PSigned_n X Y h h' bX bY (by omega)
    rw [show decide (X < 0) = decide (r.num < 0) by rw [← hX]; exact (sign_mul _ p2).symm, show decide (Y < 0) = decide (s.num < 0) by rw [← hY]; exact (sign_mul _ p1).symm] at t
    exact t
  · intro x a l c a' l' c' h h'
    have t := GCD_n h h' bZ bG' (by omega)
    rw [hL] at t
    exact t
  · intro x a l c a' l' c' h h'
    exact by_n h h' bZ (by omega) (by omega)
  · intro x a l c b h
    exact by_n (k4.grow b) h s2.2 (by omega) (by omega)
  · intro x a l c a' l' c' h h'
    exact Mul_n h h' b1 b3 hk
  · rintro e w' ⟨a, l, c, a', l', c', rfl, n1, n2, b⟩
    exact ⟨_, rfl, ⟨a, l, c, a', l', c', by rw [t3], by rw [t1]; exact n1, by rw [t2]; exact n2⟩, b⟩
end Go.Proofs.YtfalncbcomlelaaGreatDoor.Mo
