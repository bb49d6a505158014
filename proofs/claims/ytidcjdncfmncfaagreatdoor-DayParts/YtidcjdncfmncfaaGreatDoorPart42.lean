import Derived.Test.YtidcjdncfmncfaaGreatDoorPart41

namespace Go.Proofs.YtidcjdncfmncfaaGreatDoor.L
open Go.RowKit Tl

theorem sub_rat (r : Rat) (f : Int) : r - (f : Rat) = mkRat (r.num - f * r.den) r.den := by
  rw [Rat.sub_def']
  have n : (f : Rat).num = f := rfl
  have d : (f : Rat).den = 1 := rfl
  rw [n, d]
  simp
theorem isq_int {w : World} {f : Int} {g : Bool} {u u1 : Value} {X : List Int} (hg : g = decide (f < 0)) (h : Rd w u X) (n : Nm X) (v : val X = (f.natAbs : Int)) (h1 : Rd w u1 [1]) : IsQ w (.agg #[.bool g, u, u1]) (f : Rat) := by
  obtain ⟨a, c, rfl⟩ := rd_form h
  obtain ⟨a', c', rfl⟩ := rd_form h1
  exact ⟨X, [1], a, a', c, c', by rw [hg]; rfl, h, n, v, h1, nm_one, by rw [val_one]; rfl⟩
/-- Q's Floor of the reference. -/
theorem QFloor_any (a : Value) (r : Rat) (K : Nat) (w : World) (ha : IsQ w a r) (hr : QS r K) (hK : K ≤ 100000000) :
    Calls Tryz.prog 70 #[a] w fun e w' => ∃ u v, e = .returned (.tuple #[u, v]) ∧ IsQ w' u (r.floor : Rat) ∧ IsQ w' v (r - (r.floor : Rat)) ∧ Below w.heap.size w w' := by
  obtain ⟨A, B, p1, p2, c1, c2, rfl, h1, n1, v1, h2, n2, v2⟩ := ha
  have l1 : A.length ≤ K := len_of_lt h1.1 n1 (by rw [v1]; exact hr.1)
  have l2 : B.length ≤ K := len_of_lt h2.1 n2 (by rw [v2]; exact hr.2)
  have dr := den_pos' r
  have b0 : 0 < val B := by rw [v2]; exact dr
  have tn : (val B).toNat = r.den := by rw [v2]; omega
  by_cases c : r.num < 0
  · rw [decide_eq_true c]
    have ev := Int.mul_ediv_add_emod (r.num.natAbs : Int) (r.den : Int)
    have m0 := Int.emod_nonneg (r.num.natAbs : Int) (show (r.den : Int) ≠ 0 by omega)
    have m1 := Int.emod_lt_of_pos (r.num.natAbs : Int) dr
    have q0 : 0 ≤ (r.num.natAbs : Int) / (r.den : Int) := Int.ediv_nonneg (by omega) (by omega)
    by_cases z : val A % val B = 0
    · refine (qfloor_whole p1 p2 c1 c2 A B w h1 h2 n1 n2 (by omega) b0 z).mono ?_
      rintro e w' ⟨u, u1, v, X, rfl, hX, nX, vX, ho, hv, hb⟩
      rw [v1, v2] at vX z
      have fl : r.floor = -((r.num.natAbs : Int) / (r.den : Int)) := by
        rw [Rat.floor_def]
        refine (emod_of (q := -((r.num.natAbs : Int) / (r.den : Int))) (r := 0) ?_ (Int.le_refl _) dr dr).1
        rw [z] at ev
        rw [Int.neg_mul, Int.mul_comm]; omega
      have qp : 0 < (r.num.natAbs : Int) / (r.den : Int) := by
        by_cases k : (r.num.natAbs : Int) / (r.den : Int) = 0
        · rw [k, z] at ev; simp at ev; omega
        · omega
      have hg : decide (0 < X.length) = decide (r.floor < 0) := by
        have : 0 < X.length := by
          by_cases k : 0 < X.length
          · exact k
          · have : X = [] := List.eq_nil_of_length_eq_zero (by omega)
            rw [this, val_nil] at vX; omega
        rw [decide_eq_true this, decide_eq_true (by omega)]
      have rest : r - (r.floor : Rat) = 0 := by
        rw [sub_rat, fl, show r.num - -((r.num.natAbs : Int) / (r.den : Int)) * r.den = 0 from by rw [Int.neg_mul, Int.mul_comm]; omega, Rat.zero_mkRat]
      rw [rest]
      exact ⟨_, v, rfl, isq_int hg hX nX (by rw [vX, fl]; omega) ho, hv, hb⟩
    · refine (qfloor_part p1 p2 c1 c2 A B w h1 h2 n1 n2 (by omega) (by omega) b0 z).mono ?_
      rintro e w' ⟨u, u1, v, X, rfl, hX, nX, vX, ho, hv, hb⟩
      rw [v1, v2] at vX z hv
      have fl : r.floor = -((r.num.natAbs : Int) / (r.den : Int) + 1) := by
        rw [Rat.floor_def]
        refine (emod_of (q := -((r.num.natAbs : Int) / (r.den : Int) + 1)) (r := (r.den : Int) - (r.num.natAbs : Int) % (r.den : Int)) ?_ (by omega) (by omega) dr).1
        rw [Int.neg_mul, Int.add_mul, Int.one_mul, Int.mul_comm]; omega
      have rest : r - (r.floor : Rat) = mkRat ((r.den : Int) - (r.num.natAbs : Int) % (r.den : Int)) (r.den : Int).toNat := by
        rw [sub_rat, fl, show r.num - -((r.num.natAbs : Int) / (r.den : Int) + 1) * r.den = (r.den : Int) - (r.num.natAbs : Int) % (r.den : Int) from by rw [Int.neg_mul, Int.add_mul, Int.one_mul, Int.mul_comm]; omega]
        rfl
      rw [rest]
      exact ⟨_, v, rfl, isq_int (by rw [decide_eq_true (by omega)]) hX nX (by rw [vX, fl]; omega) ho, hv, hb⟩
  · rw [decide_eq_false c]
    refine (qfloor_pos p1 p2 c1 c2 A B w h1 h2 n1 n2 (by omega) (by omega) b0).mono ?_
    rintro e w' ⟨u, u1, v, X, rfl, hX, nX, vX, ho, hv, hb⟩
    rw [v1, v2, show (r.num.natAbs : Int) = r.num from by omega] at vX hv
    have fl : r.floor = r.num / (r.den : Int) := Rat.floor_def r
    have q0 : 0 ≤ r.num / (r.den : Int) := Int.ediv_nonneg (by omega) (by omega)
    have rest : r - (r.floor : Rat) = mkRat (r.num % (r.den : Int)) (r.den : Int).toNat := by
      rw [sub_rat, fl, show r.num - r.num / (r.den : Int) * r.den = r.num % (r.den : Int) from by have := Int.mul_ediv_add_emod r.num (r.den : Int); rw [Int.mul_comm] at this; omega]
      rfl
    rw [rest]
    exact ⟨_, v, rfl, isq_int (by rw [decide_eq_false (by omega)]) hX nX (by rw [vX, fl]; omega) ho, hv, hb⟩
set_option maxHeartbeats 1600000 in
set_option maxRecDepth 100000 in
theorem frac_raw (w : World) :
    Calls Tryz.prog 37 #[.int .i64 1, .int .i64 2] w fun e w' => ∃ v, e = .returned v ∧ IsQ w' v (mkRat 1 2) ∧ Below w.heap.size w w' := by
  have O1 : ∀ w, Calls Tryz.prog 34 #[.int .i64 1] w fun e w' => ∃ a1 a2 c1 c2 ns, e = .returned (.agg #[.bool false, .slice a1 ns.length c1, .slice a2 1 c2]) ∧ Rd w' (.slice a1 ns.length c1) ns ∧ Nm ns ∧ val ns = 1 ∧ Below w.heap.size w w' := fun w => (Of_pos 1 (by decide) (by decide) w).mono (fun e w' ⟨u1, u2, ns, he, h1, n1, v1, h2, b⟩ => by
    obtain ⟨a, c, rfl⟩ := rd_form h1
    obtain ⟨a', c', rfl⟩ := rd_form h2
    exact ⟨a, a', c, c', ns, he, h1, n1, v1, b⟩)
  have O2 : ∀ w, Calls Tryz.prog 34 #[.int .i64 2] w fun e w' => ∃ a1 a2 c1 c2 ns, e = .returned (.agg #[.bool false, .slice a1 ns.length c1, .slice a2 1 c2]) ∧ Rd w' (.slice a1 ns.length c1) ns ∧ Nm ns ∧ val ns = 2 ∧ Below w.heap.size w w' := fun w => (Of_pos 2 (by decide) (by decide) w).mono (fun e w' ⟨u1, u2, ns, he, h1, n1, v1, h2, b⟩ => by
    obtain ⟨a, c, rfl⟩ := rd_form h1
    obtain ⟨a', c', rfl⟩ := rd_form h2
    exact ⟨a, a', c, c', ns, he, h1, n1, v1, b⟩)
  have K0 := Blk.new w #[.bool false, .slice none 0 0, .slice none 0 0] 58
  have pr : Below w.heap.size w (w.alloc (.cells #[.bool false, .slice none 0 0, .slice none 0 0] 58)) := (Below.refl _ _).alloc (Nat.le_refl _) _
  go_enter Tryz.func37, Tryz.ntmps37
  go_wp2_with (first
    | (go_at_call 34; (with_reducible refine (O1 _).mono ?_); (rintro e w1 ⟨a1, a2, c1, c2, xs, rfl, h1, n1, v1, b1⟩; replace K0 := K0.below b1 K0.lt; replace pr := bel pr b1; have V1 : Hid (val xs = 1) := v1; have L1 : xs.length ≤ 3 := (len_of_lt (K := 3) h1.1 n1 (by rw [v1]; decide)); clear v1 b1))
    | (go_at_call 34; (with_reducible refine (O2 _).mono ?_); (rintro e w2 ⟨a3, a4, c3, c4, ys, rfl, h2, n2, v2, b2⟩; replace K0 := ((K0.below b2 K0.lt).alloc (.cells #[.bool false, .slice a1 xs.length c1, .slice a2 1 c2] 58)).alloc (.cells #[.bool false, .slice a3 ys.length c3, .slice a4 1 c4] 58); replace pr := bel_alloc (ob := (.cells #[.bool false, .slice a3 ys.length c3, .slice a4 1 c4] 58)) (bel_alloc (ob := (.cells #[.bool false, .slice a1 xs.length c1, .slice a2 1 c2] 58)) (bel pr b2)); replace h1 := rd_alloc (ob := (.cells #[.bool false, .slice a3 ys.length c3, .slice a4 1 c4] 58)) (rd_alloc (ob := (.cells #[.bool false, .slice a1 xs.length c1, .slice a2 1 c2] 58)) (h1.grow b2)); replace h2 := rd_alloc (ob := (.cells #[.bool false, .slice a3 ys.length c3, .slice a4 1 c4] 58)) (rd_alloc (ob := (.cells #[.bool false, .slice a1 xs.length c1, .slice a2 1 c2] 58)) h2); have V2 : Hid (val ys = 2) := v2; have L2 : ys.length ≤ 3 := (len_of_lt (K := 3) h2.1 n2 (by rw [v2]; decide)); clear v2 b2))
    | (go_at_call 95; ((with_reducible refine (Make_q false (.slice a1 xs.length c1) (.slice a3 ys.length c3) xs ys 3 _ h1 h2 n1 n2 L1 L2 (by decide) (by rw [V2.out]; decide)).mono ?_)); (rintro e w3 ⟨v, rfl, hv, b3⟩; rw [V1.out, V2.out, show sgI false 1 = 1 from rfl, show (2 : Int).toNat = 2 from rfl] at hv; replace K0 := K0.below b3 K0.lt; replace pr := bel pr b3; obtain ⟨N, M, p7, p8, c7, c8, rfl, hN, nN, vN', hM, nM, vM'⟩ := hv; have vN : Hid _ := vN'; have vM : Hid _ := vM'; clear vN' vM' b3; have e0 : w3.cell? ⟨w.heap.size, 0, none⟩ = some (.bool false) := K0.at 0; have e1 : w3.cell? ⟨w.heap.size, 1, none⟩ = some (.slice none 0 0) := K0.at 1; have e2 : w3.cell? ⟨w.heap.size, 2, none⟩ = some (.slice none 0 0) := K0.at 2; have z0 := K0.free 0; have z1 := K0.free 1; have z2 := K0.free 2))
    | fail)
  obtain ⟨F0, F1, F2, FB⟩ := put3 (.bool _) (.slice p7 N.length c7) (.slice p8 M.length c8) e0 e1 e2
  exact bodyPost_ret (v := .agg #[.bool _, .slice p7 N.length c7, .slice p8 M.length c8]) (by simp [results, Tryz.results37, go_sem, F0, F1, F2]) rfl ⟨_, rfl, ⟨N, M, _, _, _, _, rfl, hN.putQ K0, nN, vN.out, hM.putQ K0, nM, vM.out⟩, FB _ _ (Nat.le_refl _) pr⟩
end Go.Proofs.YtidcjdncfmncfaaGreatDoor.L
