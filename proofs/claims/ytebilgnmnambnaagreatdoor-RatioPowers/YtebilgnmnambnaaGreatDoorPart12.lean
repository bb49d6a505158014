import Derived.Test.YtebilgnmnambnaaGreatDoorPart10
import Derived.Test.YtebilgnmnambnaaGreatDoorPart09

namespace Go.Proofs.YtebilgnmnambnaaGreatDoor.L
open Go.RowKit Tl

end Go.Proofs.YtebilgnmnambnaaGreatDoor.L

namespace Go.Proofs.YtebilgnmnambnaaGreatDoor.L
open Go.RowKit Tl

end Go.Proofs.YtebilgnmnambnaaGreatDoor.L

namespace Go.Proofs.YtebilgnmnambnaaGreatDoor.L
open Go.RowKit Tl

end Go.Proofs.YtebilgnmnambnaaGreatDoor.L

namespace Go.Proofs.YtebilgnmnambnaaGreatDoor.L
open Go.RowKit Tl

end Go.Proofs.YtebilgnmnambnaaGreatDoor.L

namespace Go.Proofs.YtebilgnmnambnaaGreatDoor.L
open Go.RowKit Tl

end Go.Proofs.YtebilgnmnambnaaGreatDoor.L

namespace Go.Proofs.YtebilgnmnambnaaGreatDoor.L
open Go.RowKit Tl

end Go.Proofs.YtebilgnmnambnaaGreatDoor.L

namespace Go.Proofs.YtebilgnmnambnaaGreatDoor.L
open Go.RowKit Tl

end Go.Proofs.YtebilgnmnambnaaGreatDoor.L

namespace Go.Proofs.YtebilgnmnambnaaGreatDoor.L
open Go.RowKit Tl

end Go.Proofs.YtebilgnmnambnaaGreatDoor.L

namespace Go.Proofs.YtebilgnmnambnaaGreatDoor.L
open Go.RowKit Tl

end Go.Proofs.YtebilgnmnambnaaGreatDoor.L

namespace Go.Proofs.YtebilgnmnambnaaGreatDoor.L
open Go.RowKit Tl

set_option maxHeartbeats 1600000 in
set_option maxRecDepth 100000 in
theorem Of_pos (n : Int) (n0 : 0 ≤ n) (n1 : n < 9223372036854775808) (w : World) :
    Calls Tryz.prog 36 #[.int .i64 n] w fun e w' => ∃ u1 u2 ns, e = .returned (.agg #[.bool false, u1, u2]) ∧ Rd w' u1 ns ∧ Nm ns ∧ val ns = n ∧ Rd w' u2 [1] ∧ Below w.heap.size w w' := by
  have hz : ¬ n < 0 := by omega
  have K0 := Blk.new w #[.bool false, .slice none 0 0, .slice none 0 0] 56
  have pr : Below w.heap.size w (w.alloc (.cells #[.bool false, .slice none 0 0, .slice none 0 0] 56)) := (Below.refl _ _).alloc (Nat.le_refl _) _
  go_enter Tryz.func36, Tryz.ntmps36
  go_wp2_with (first
    | (go_at_call 100; (refine (NatOf_any (n) _ (by omega) (by omega)).mono ?_); (rintro x w1 ⟨u, ns, rfl, hu, nu, vu, b1⟩; have VU : Hid (val ns = n) := vu; clear vu; replace K0 := (K0.below b1 K0.lt).alloc (.cells #[.int .i64 1] 3); replace pr := (bel pr b1); have pr2 := pr.alloc pr.size (.cells #[.int .i64 1] 3); replace hu := hu.grow ((Below.refl _ _).alloc (Nat.le_refl _) (.cells #[.int .i64 1] 3)); have ho : Rd (w1.alloc (.cells #[.int .i64 1] 3)) (.slice (some ⟨w1.heap.size, 0, none⟩) 1 1) [1] := rd_one (by simp) (by decide) (by decide); have e0 : (w1.alloc (.cells #[.int .i64 1] 3)).cell? ⟨w.heap.size, 0, none⟩ = some (.bool false) := K0.at 0; have e1 : (w1.alloc (.cells #[.int .i64 1] 3)).cell? ⟨w.heap.size, 1, none⟩ = some (.slice none 0 0) := K0.at 1; have e2 : (w1.alloc (.cells #[.int .i64 1] 3)).cell? ⟨w.heap.size, 2, none⟩ = some (.slice none 0 0) := K0.at 2; have z0 := K0.free 0; have z1 := K0.free 1; have z2 := K0.free 2; obtain ⟨a1, c1, rfl⟩ : ∃ a c, u = .slice a ns.length c := (by obtain ⟨_, a, c, e, _⟩ := hu; exact ⟨a, c, e⟩)))
    | fail)
  obtain ⟨F0, F1, F2, FB⟩ := put3 (.bool false) (.slice a1 ns.length c1) (.slice (some ⟨w1.heap.size, 0, none⟩) 1 1) e0 e1 e2
  exact bodyPost_ret (v := .agg #[.bool false, .slice a1 ns.length c1, .slice (some ⟨w1.heap.size, 0, none⟩) 1 1]) (by simp [results, Tryz.results36, go_sem, F0, F1, F2]) rfl ⟨_, _, ns, rfl, hu.putQ K0, nu, VU.out, ho.putQ K0, FB _ _ (Nat.le_refl _) pr2⟩
set_option maxHeartbeats 1600000 in
set_option maxRecDepth 100000 in
theorem Of_neg (n : Int) (n0 : n < 0) (n1 : -9223372036854775808 ≤ n) (w : World) :
    Calls Tryz.prog 36 #[.int .i64 n] w fun e w' => ∃ u1 u2 ns, e = .returned (.agg #[.bool true, u1, u2]) ∧ Rd w' u1 ns ∧ Nm ns ∧ val ns = -n ∧ Rd w' u2 [1] ∧ Below w.heap.size w w' := by
  have c1 : IntKind.u64.wrap n = n + 18446744073709551616 := by rw [IntKind.wrap_u64]; omega
  have c2 : IntKind.u64.wrap (-(n + 18446744073709551616)) = -n := by rw [IntKind.wrap_u64]; omega
  have K0 := Blk.new w #[.bool false, .slice none 0 0, .slice none 0 0] 56
  have pr : Below w.heap.size w (w.alloc (.cells #[.bool false, .slice none 0 0, .slice none 0 0] 56)) := (Below.refl _ _).alloc (Nat.le_refl _) _
  go_enter Tryz.func36, Tryz.ntmps36
  go_wp2_with (first
    | (go_at_call 99; (refine (NatOf64_any (-n) _ (by omega) (by omega)).mono ?_); (rintro x w1 ⟨u, ns, rfl, hu, nu, vu, b1⟩; have VU : Hid (val ns = -n) := vu; clear vu; replace K0 := (K0.below b1 K0.lt).alloc (.cells #[.int .i64 1] 3); replace pr := (bel pr b1); have pr2 := pr.alloc pr.size (.cells #[.int .i64 1] 3); replace hu := hu.grow ((Below.refl _ _).alloc (Nat.le_refl _) (.cells #[.int .i64 1] 3)); have ho : Rd (w1.alloc (.cells #[.int .i64 1] 3)) (.slice (some ⟨w1.heap.size, 0, none⟩) 1 1) [1] := rd_one (by simp) (by decide) (by decide); have e0 : (w1.alloc (.cells #[.int .i64 1] 3)).cell? ⟨w.heap.size, 0, none⟩ = some (.bool false) := K0.at 0; have e1 : (w1.alloc (.cells #[.int .i64 1] 3)).cell? ⟨w.heap.size, 1, none⟩ = some (.slice none 0 0) := K0.at 1; have e2 : (w1.alloc (.cells #[.int .i64 1] 3)).cell? ⟨w.heap.size, 2, none⟩ = some (.slice none 0 0) := K0.at 2; have z0 := K0.free 0; have z1 := K0.free 1; have z2 := K0.free 2; obtain ⟨a1, c1, rfl⟩ : ∃ a c, u = .slice a ns.length c := (by obtain ⟨_, a, c, e, _⟩ := hu; exact ⟨a, c, e⟩)))
    | fail)
  obtain ⟨F0, F1, F2, FB⟩ := put3 (.bool true) (.slice a1 ns.length c1) (.slice (some ⟨w1.heap.size, 0, none⟩) 1 1) e0 e1 e2
  exact bodyPost_ret (v := .agg #[.bool true, .slice a1 ns.length c1, .slice (some ⟨w1.heap.size, 0, none⟩) 1 1]) (by simp [results, Tryz.results36, go_sem, F0, F1, F2]) rfl ⟨_, _, ns, rfl, hu.putQ K0, nu, VU.out, ho.putQ K0, FB _ _ (Nat.le_refl _) pr2⟩
end Go.Proofs.YtebilgnmnambnaaGreatDoor.L

namespace Go.Proofs.YtebilgnmnambnaaGreatDoor.L
open Go.RowKit Tl

theorem quo_le {a q b r : Int} (h : a = q * b + r) (r0 : 0 ≤ r) (q0 : 0 ≤ q) (b0 : 0 < b) : q ≤ a := le_of_quo h r0 q0 b0
/-- Of, as an exact number. -/
theorem Of_q (n : Int) (w : World) (n0 : -9223372036854775808 ≤ n) (n1 : n < 9223372036854775808) :
    Calls Tryz.prog 36 #[.int .i64 n] w fun e w' => ∃ v, e = .returned v ∧ IsQ w' v (n : Rat) ∧ Below w.heap.size w w' := by
  have num : ((n : Rat)).num = n := rfl
  have den : ((n : Rat)).den = 1 := rfl
  by_cases c : n < 0
  · refine (Of_neg n c n0 w).mono ?_
    rintro e w' ⟨u1, u2, ns, rfl, h1, m1, v1, h2, b⟩
    obtain ⟨a, c1, rfl⟩ := rd_form h1
    obtain ⟨a', c2, rfl⟩ := rd_form h2
    exact ⟨_, rfl, ⟨ns, [1], _, _, _, _, by rw [num, decide_eq_true c], h1, m1, by rw [v1, num]; omega, h2, nm_one, by rw [val_one, den]; rfl⟩, b⟩
  · refine (Of_pos n (by omega) n1 w).mono ?_
    rintro e w' ⟨u1, u2, ns, rfl, h1, m1, v1, h2, b⟩
    obtain ⟨a, c1, rfl⟩ := rd_form h1
    obtain ⟨a', c2, rfl⟩ := rd_form h2
    exact ⟨_, rfl, ⟨ns, [1], _, _, _, _, by rw [num, decide_eq_false c], h1, m1, by rw [v1, num]; omega, h2, nm_one, by rw [val_one, den]; rfl⟩, b⟩
end Go.Proofs.YtebilgnmnambnaaGreatDoor.L

namespace Go.Proofs.YtebilgnmnambnaaGreatDoor.L
open Go.RowKit Tl

end Go.Proofs.YtebilgnmnambnaaGreatDoor.L

namespace Go.Proofs.YtebilgnmnambnaaGreatDoor.L
open Go.RowKit Tl

end Go.Proofs.YtebilgnmnambnaaGreatDoor.L

namespace Go.Proofs.YtebilgnmnambnaaGreatDoor.L
open Go.RowKit Tl
set_option maxHeartbeats 800000 in
set_option maxRecDepth 100000 in
theorem frac_pos (p q : Int) (w : World) (p0 : -9223372036854775808 ≤ p) (p1 : p < 9223372036854775808) (hp : 0 ≤ p) (q0 : 0 < q) (q1 : q < 9223372036854775808) :
    Calls Tryz.prog 45 #[.int .i64 p, .int .i64 q] w fun e w' => ∃ v, e = .returned v ∧ IsQ w' v (mkRat (sgI false (p.natAbs : Int)) q.toNat) ∧ Below w.heap.size w w' := by
  have O1 : ∀ w, Calls Tryz.prog 36 #[.int .i64 p] w fun e w' => ∃ a1 a2 c1 l2 c2 ns, e = .returned (.agg #[.bool false, .slice a1 ns.length c1, .slice a2 l2 c2]) ∧ Rd w' (.slice a1 ns.length c1) ns ∧ Nm ns ∧ val ns = (p.natAbs : Int) ∧ Below w.heap.size w w' := fun w => (Of_q p w p0 p1).mono (fun e w' ⟨v, he, hq, b⟩ => by
    obtain ⟨ns, ds, a1, a2, c1, c2, rfl, h1, n1, v1, _⟩ := hq
    have e0 : decide (((p : Rat)).num < 0) = false := by rw [show ((p : Rat)).num = p from rfl]; simp; omega
    rw [e0] at he
    exact ⟨a1, a2, c1, _, c2, ns, he, h1, n1, v1, b⟩)
  have O2 : ∀ w, Calls Tryz.prog 36 #[.int .i64 q] w fun e w' => ∃ a1 a2 c1 l2 c2 ns, e = .returned (.agg #[.bool false, .slice a1 ns.length c1, .slice a2 l2 c2]) ∧ Rd w' (.slice a1 ns.length c1) ns ∧ Nm ns ∧ val ns = q ∧ Below w.heap.size w w' := fun w => (Of_q q w (by omega) q1).mono (fun e w' ⟨v, he, hq, b⟩ => by
    obtain ⟨ns, ds, a1, a2, c1, c2, rfl, h1, n1, v1, _⟩ := hq
    have e0 : decide (((q : Rat)).num < 0) = false := by rw [show ((q : Rat)).num = q from rfl]; simp; omega
    rw [e0] at he
    have v1' : val ns = q := by rw [v1, show ((q : Rat)).num = q from rfl]; omega
    exact ⟨a1, a2, c1, _, c2, ns, he, h1, n1, v1', b⟩)
  obtain ⟨A, hA⟩ : ∃ A, (p.natAbs : Int) = A := ⟨_, rfl⟩
  have hA1 : A ≤ 9223372036854775808 := by omega
  rw [hA] at O1 ⊢
  have K0 := Blk.new w #[.bool false, .slice none 0 0, .slice none 0 0] 56
  have pr : Below w.heap.size w (w.alloc (.cells #[.bool false, .slice none 0 0, .slice none 0 0] 56)) := (Below.refl _ _).alloc (Nat.le_refl _) _
  have pw3 : pw 3 = 1237940039285380274899124224 := by decide
  have Q0 : Hid (0 < q) := q0
  have Q1 : Hid (q < 9223372036854775808) := q1
  have A1 : Hid (A ≤ 9223372036854775808) := hA1
  have W3 : Hid (pw 3 = 1237940039285380274899124224) := pw3
  clear q0 q1 hA1 pw3 hA p0 p1 hp
  go_enter Tryz.func45, Tryz.ntmps45
  go_wp2_with (first
    | (go_at_call 36; have q' := V1; ((refine (O2 _).mono ?_)); (rintro e w2 ⟨a3, a4, c3, l4, c4, ys, rfl, h2, n2, v2, b2⟩; replace K0 := ((K0.below b2 K0.lt).alloc (.cells #[.bool false, .slice a1 xs.length c1, .slice a2 l2 c2] 56)).alloc (.cells #[.bool false, .slice a3 ys.length c3, .slice a4 l4 c4] 56); replace pr := bel_alloc (ob := (.cells #[.bool false, .slice a3 ys.length c3, .slice a4 l4 c4] 56)) (bel_alloc (ob := (.cells #[.bool false, .slice a1 xs.length c1, .slice a2 l2 c2] 56)) (bel pr b2)); replace h1 := rd_alloc (ob := (.cells #[.bool false, .slice a3 ys.length c3, .slice a4 l4 c4] 56)) (rd_alloc (ob := (.cells #[.bool false, .slice a1 xs.length c1, .slice a2 l2 c2] 56)) (h1.grow b2)); replace h2 := rd_alloc (ob := (.cells #[.bool false, .slice a3 ys.length c3, .slice a4 l4 c4] 56)) (rd_alloc (ob := (.cells #[.bool false, .slice a1 xs.length c1, .slice a2 l2 c2] 56)) h2); have V2 : Hid (val ys = q) := v2; have L2 : ys.length ≤ 3 := (len_of_lt (K := 3) h2.1 n2 (by rw [v2]; have := Q1.out; have := W3.out; omega)); clear v2 b2))
    | (go_at_call 36; ((refine (O1 _).mono ?_)); (rintro e w1 ⟨a1, a2, c1, l2, c2, xs, rfl, h1, n1, v1, b1⟩; replace K0 := K0.below b1 K0.lt; replace pr := bel pr b1; have V1 : Hid (val xs = A) := v1; have L1 : xs.length ≤ 3 := (len_of_lt (K := 3) h1.1 n1 (by rw [v1]; have := A1.out; have := W3.out; omega)); clear v1 b1))
    | (go_at_call 80; ((with_reducible refine (Make_q false (.slice a1 xs.length c1) (.slice a3 ys.length c3) xs ys 3 _ h1 h2 n1 n2 L1 L2 (by decide) (by rw [V2.out]; exact Q0.out)).mono ?_)); (rintro e w3 ⟨v, rfl, hv, b3⟩; rw [V1.out, V2.out] at hv; replace K0 := K0.below b3 K0.lt; replace pr := bel pr b3; have HV := hv; obtain ⟨N, M, p7, p8, c7, c8, rfl, hN, nN, vN', hM, nM, vM'⟩ := hv; have vN : Hid _ := vN'; have vM : Hid _ := vM'; clear vN' vM' b3 HV; have e0 : w3.cell? ⟨w.heap.size, 0, none⟩ = some (.bool false) := K0.at 0; have e1 : w3.cell? ⟨w.heap.size, 1, none⟩ = some (.slice none 0 0) := K0.at 1; have e2 : w3.cell? ⟨w.heap.size, 2, none⟩ = some (.slice none 0 0) := K0.at 2; have z0 := K0.free 0; have z1 := K0.free 1; have z2 := K0.free 2))
    | fail)
  obtain ⟨F0, F1, F2, FB⟩ := put3 (.bool _) (.slice p7 N.length c7) (.slice p8 M.length c8) e0 e1 e2
  exact bodyPost_ret (v := .agg #[.bool _, .slice p7 N.length c7, .slice p8 M.length c8]) (by simp [results, Tryz.results45, go_sem, F0, F1, F2]) rfl ⟨_, rfl, ⟨N, M, _, _, _, _, rfl, hN.putQ K0, nN, vN.out, hM.putQ K0, nM, vM.out⟩, FB _ _ (Nat.le_refl _) pr⟩
set_option maxHeartbeats 800000 in
set_option maxRecDepth 100000 in
theorem frac_neg (p q : Int) (w : World) (p0 : -9223372036854775808 ≤ p) (p1 : p < 9223372036854775808) (hp : p < 0) (q0 : 0 < q) (q1 : q < 9223372036854775808) :
    Calls Tryz.prog 45 #[.int .i64 p, .int .i64 q] w fun e w' => ∃ v, e = .returned v ∧ IsQ w' v (mkRat (sgI true (p.natAbs : Int)) q.toNat) ∧ Below w.heap.size w w' := by
  have O1 : ∀ w, Calls Tryz.prog 36 #[.int .i64 p] w fun e w' => ∃ a1 a2 c1 l2 c2 ns, e = .returned (.agg #[.bool true, .slice a1 ns.length c1, .slice a2 l2 c2]) ∧ Rd w' (.slice a1 ns.length c1) ns ∧ Nm ns ∧ val ns = (p.natAbs : Int) ∧ Below w.heap.size w w' := fun w => (Of_q p w p0 p1).mono (fun e w' ⟨v, he, hq, b⟩ => by
    obtain ⟨ns, ds, a1, a2, c1, c2, rfl, h1, n1, v1, _⟩ := hq
    have e0 : decide (((p : Rat)).num < 0) = true := by rw [show ((p : Rat)).num = p from rfl]; simp; omega
    rw [e0] at he
    exact ⟨a1, a2, c1, _, c2, ns, he, h1, n1, v1, b⟩)
  have O2 : ∀ w, Calls Tryz.prog 36 #[.int .i64 q] w fun e w' => ∃ a1 a2 c1 l2 c2 ns, e = .returned (.agg #[.bool false, .slice a1 ns.length c1, .slice a2 l2 c2]) ∧ Rd w' (.slice a1 ns.length c1) ns ∧ Nm ns ∧ val ns = q ∧ Below w.heap.size w w' := fun w => (Of_q q w (by omega) q1).mono (fun e w' ⟨v, he, hq, b⟩ => by
    obtain ⟨ns, ds, a1, a2, c1, c2, rfl, h1, n1, v1, _⟩ := hq
    have e0 : decide (((q : Rat)).num < 0) = false := by rw [show ((q : Rat)).num = q from rfl]; simp; omega
    rw [e0] at he
    have v1' : val ns = q := by rw [v1, show ((q : Rat)).num = q from rfl]; omega
    exact ⟨a1, a2, c1, _, c2, ns, he, h1, n1, v1', b⟩)
  obtain ⟨A, hA⟩ : ∃ A, (p.natAbs : Int) = A := ⟨_, rfl⟩
  have hA1 : A ≤ 9223372036854775808 := by omega
  rw [hA] at O1 ⊢
  have K0 := Blk.new w #[.bool false, .slice none 0 0, .slice none 0 0] 56
  have pr : Below w.heap.size w (w.alloc (.cells #[.bool false, .slice none 0 0, .slice none 0 0] 56)) := (Below.refl _ _).alloc (Nat.le_refl _) _
  have pw3 : pw 3 = 1237940039285380274899124224 := by decide
  have Q0 : Hid (0 < q) := q0
  have Q1 : Hid (q < 9223372036854775808) := q1
  have A1 : Hid (A ≤ 9223372036854775808) := hA1
  have W3 : Hid (pw 3 = 1237940039285380274899124224) := pw3
  clear q0 q1 hA1 pw3 hA p0 p1 hp
  go_enter Tryz.func45, Tryz.ntmps45
  go_wp2_with (first
    | (go_at_call 36; have q' := V1; ((refine (O2 _).mono ?_)); (rintro e w2 ⟨a3, a4, c3, l4, c4, ys, rfl, h2, n2, v2, b2⟩; replace K0 := ((K0.below b2 K0.lt).alloc (.cells #[.bool true, .slice a1 xs.length c1, .slice a2 l2 c2] 56)).alloc (.cells #[.bool false, .slice a3 ys.length c3, .slice a4 l4 c4] 56); replace pr := bel_alloc (ob := (.cells #[.bool false, .slice a3 ys.length c3, .slice a4 l4 c4] 56)) (bel_alloc (ob := (.cells #[.bool true, .slice a1 xs.length c1, .slice a2 l2 c2] 56)) (bel pr b2)); replace h1 := rd_alloc (ob := (.cells #[.bool false, .slice a3 ys.length c3, .slice a4 l4 c4] 56)) (rd_alloc (ob := (.cells #[.bool true, .slice a1 xs.length c1, .slice a2 l2 c2] 56)) (h1.grow b2)); replace h2 := rd_alloc (ob := (.cells #[.bool false, .slice a3 ys.length c3, .slice a4 l4 c4] 56)) (rd_alloc (ob := (.cells #[.bool true, .slice a1 xs.length c1, .slice a2 l2 c2] 56)) h2); have V2 : Hid (val ys = q) := v2; have L2 : ys.length ≤ 3 := (len_of_lt (K := 3) h2.1 n2 (by rw [v2]; have := Q1.out; have := W3.out; omega)); clear v2 b2))
    | (go_at_call 36; ((refine (O1 _).mono ?_)); (rintro e w1 ⟨a1, a2, c1, l2, c2, xs, rfl, h1, n1, v1, b1⟩; replace K0 := K0.below b1 K0.lt; replace pr := bel pr b1; have V1 : Hid (val xs = A) := v1; have L1 : xs.length ≤ 3 := (len_of_lt (K := 3) h1.1 n1 (by rw [v1]; have := A1.out; have := W3.out; omega)); clear v1 b1))
    | (go_at_call 80; ((with_reducible refine (Make_q true (.slice a1 xs.length c1) (.slice a3 ys.length c3) xs ys 3 _ h1 h2 n1 n2 L1 L2 (by decide) (by rw [V2.out]; exact Q0.out)).mono ?_)); (rintro e w3 ⟨v, rfl, hv, b3⟩; rw [V1.out, V2.out] at hv; replace K0 := K0.below b3 K0.lt; replace pr := bel pr b3; have HV := hv; obtain ⟨N, M, p7, p8, c7, c8, rfl, hN, nN, vN', hM, nM, vM'⟩ := hv; have vN : Hid _ := vN'; have vM : Hid _ := vM'; clear vN' vM' b3 HV; have e0 : w3.cell? ⟨w.heap.size, 0, none⟩ = some (.bool false) := K0.at 0; have e1 : w3.cell? ⟨w.heap.size, 1, none⟩ = some (.slice none 0 0) := K0.at 1; have e2 : w3.cell? ⟨w.heap.size, 2, none⟩ = some (.slice none 0 0) := K0.at 2; have z0 := K0.free 0; have z1 := K0.free 1; have z2 := K0.free 2))
    | fail)
  obtain ⟨F0, F1, F2, FB⟩ := put3 (.bool _) (.slice p7 N.length c7) (.slice p8 M.length c8) e0 e1 e2
  exact bodyPost_ret (v := .agg #[.bool _, .slice p7 N.length c7, .slice p8 M.length c8]) (by simp [results, Tryz.results45, go_sem, F0, F1, F2]) rfl ⟨_, rfl, ⟨N, M, _, _, _, _, rfl, hN.putQ K0, nN, vN.out, hM.putQ K0, nM, vM.out⟩, FB _ _ (Nat.le_refl _) pr⟩
theorem Frac_q (p q : Int) (w : World) (p0 : -9223372036854775808 ≤ p) (p1 : p < 9223372036854775808) (q0 : 0 < q) (q1 : q < 9223372036854775808) :
    Calls Tryz.prog 45 #[.int .i64 p, .int .i64 q] w fun e w' => ∃ v, e = .returned v ∧ IsQ w' v ((p : Rat) / (q : Rat)) ∧ Below w.heap.size w w' := by
  have e : ((p : Rat) / (q : Rat)) = mkRat p q.toNat := by
    rw [Rat.mkRat_eq_div]
    congr 1
    have : ((q.toNat : Int) : Rat) = (q : Rat) := by rw [Int.toNat_of_nonneg (by omega)]
    rw [← this]; rfl
  rw [e]
  by_cases c : p < 0
  · have := frac_neg p q w p0 p1 c q0 q1
    rw [show sgI true (p.natAbs : Int) = p by unfold sgI; rw [if_pos rfl]; omega] at this
    exact this
  · have := frac_pos p q w p0 p1 (by omega) q0 q1
    rw [show sgI false (p.natAbs : Int) = p by unfold sgI; rw [if_neg (by simp)]; omega] at this
    exact this
end Go.Proofs.YtebilgnmnambnaaGreatDoor.L

namespace Go.Proofs.YtebilgnmnambnaaGreatDoor.L
open Go.RowKit Tl
set_option maxHeartbeats 800000 in
set_option maxRecDepth 100000 in
theorem fracn_pos (p q : Int) (w : World) (p0 : -9223372036854775808 ≤ p) (p1 : p < 9223372036854775808) (hp : 0 ≤ p) (q0 : q < 0) (q1 : -9223372036854775808 ≤ q) :
    Calls Tryz.prog 45 #[.int .i64 p, .int .i64 q] w fun e w' => ∃ v, e = .returned v ∧ IsQ w' v (mkRat (sgI true (p.natAbs : Int)) (-q).toNat) ∧ Below w.heap.size w w' := by
  have O1 : ∀ w, Calls Tryz.prog 36 #[.int .i64 p] w fun e w' => ∃ a1 a2 c1 l2 c2 ns, e = .returned (.agg #[.bool false, .slice a1 ns.length c1, .slice a2 l2 c2]) ∧ Rd w' (.slice a1 ns.length c1) ns ∧ Nm ns ∧ val ns = (p.natAbs : Int) ∧ Below w.heap.size w w' := fun w => (Of_q p w p0 p1).mono (fun e w' ⟨v, he, hq, b⟩ => by
    obtain ⟨ns, ds, a1, a2, c1, c2, rfl, h1, n1, v1, _⟩ := hq
    have e0 : decide (((p : Rat)).num < 0) = false := by rw [show ((p : Rat)).num = p from rfl]; simp; omega
    rw [e0] at he
    exact ⟨a1, a2, c1, _, c2, ns, he, h1, n1, v1, b⟩)
  have O2 : ∀ w, Calls Tryz.prog 36 #[.int .i64 q] w fun e w' => ∃ a1 a2 c1 l2 c2 ns, e = .returned (.agg #[.bool true, .slice a1 ns.length c1, .slice a2 l2 c2]) ∧ Rd w' (.slice a1 ns.length c1) ns ∧ Nm ns ∧ val ns = -q ∧ Below w.heap.size w w' := fun w => (Of_q q w q1 (by omega)).mono (fun e w' ⟨v, he, hq, b⟩ => by
    obtain ⟨ns, ds, a1, a2, c1, c2, rfl, h1, n1, v1, _⟩ := hq
    have e0 : decide (((q : Rat)).num < 0) = true := by rw [show ((q : Rat)).num = q from rfl]; simp; omega
    rw [e0] at he
    have v1' : val ns = -q := by rw [v1, show ((q : Rat)).num = q from rfl]; omega
    exact ⟨a1, a2, c1, _, c2, ns, he, h1, n1, v1', b⟩)
  obtain ⟨A, hA⟩ : ∃ A, (p.natAbs : Int) = A := ⟨_, rfl⟩
  have hA1 : A ≤ 9223372036854775808 := by omega
  rw [hA] at O1 ⊢
  obtain ⟨Bq, hB⟩ : ∃ Bq, -q = Bq := ⟨_, rfl⟩
  rw [hB] at O2 ⊢
  have K0 := Blk.new w #[.bool false, .slice none 0 0, .slice none 0 0] 56
  have pr : Below w.heap.size w (w.alloc (.cells #[.bool false, .slice none 0 0, .slice none 0 0] 56)) := (Below.refl _ _).alloc (Nat.le_refl _) _
  have pw3 : pw 3 = 1237940039285380274899124224 := by decide
  have Q0 : Hid (0 < Bq) := by show 0 < Bq; omega
  have Q1 : Hid (Bq ≤ 9223372036854775808) := by show Bq ≤ _; omega
  have A1 : Hid (A ≤ 9223372036854775808) := hA1
  have W3 : Hid (pw 3 = 1237940039285380274899124224) := pw3
  clear q0 q1 hA1 pw3 hA p0 p1 hp hB
  go_enter Tryz.func45, Tryz.ntmps45
  go_wp2_with (first
    | (go_at_call 36; have q' := V1; ((refine (O2 _).mono ?_)); (rintro e w2 ⟨a3, a4, c3, l4, c4, ys, rfl, h2, n2, v2, b2⟩; replace K0 := ((K0.below b2 K0.lt).alloc (.cells #[.bool false, .slice a1 xs.length c1, .slice a2 l2 c2] 56)).alloc (.cells #[.bool true, .slice a3 ys.length c3, .slice a4 l4 c4] 56); replace pr := bel_alloc (ob := (.cells #[.bool true, .slice a3 ys.length c3, .slice a4 l4 c4] 56)) (bel_alloc (ob := (.cells #[.bool false, .slice a1 xs.length c1, .slice a2 l2 c2] 56)) (bel pr b2)); replace h1 := rd_alloc (ob := (.cells #[.bool true, .slice a3 ys.length c3, .slice a4 l4 c4] 56)) (rd_alloc (ob := (.cells #[.bool false, .slice a1 xs.length c1, .slice a2 l2 c2] 56)) (h1.grow b2)); replace h2 := rd_alloc (ob := (.cells #[.bool true, .slice a3 ys.length c3, .slice a4 l4 c4] 56)) (rd_alloc (ob := (.cells #[.bool false, .slice a1 xs.length c1, .slice a2 l2 c2] 56)) h2); have V2 : Hid (val ys = Bq) := v2; have L2 : ys.length ≤ 3 := (len_of_lt (K := 3) h2.1 n2 (by rw [v2]; have := Q1.out; have := W3.out; omega)); clear v2 b2))
    | (go_at_call 36; ((refine (O1 _).mono ?_)); (rintro e w1 ⟨a1, a2, c1, l2, c2, xs, rfl, h1, n1, v1, b1⟩; replace K0 := K0.below b1 K0.lt; replace pr := bel pr b1; have V1 : Hid (val xs = A) := v1; have L1 : xs.length ≤ 3 := (len_of_lt (K := 3) h1.1 n1 (by rw [v1]; have := A1.out; have := W3.out; omega)); clear v1 b1))
    | (go_at_call 80; ((with_reducible refine (Make_q true (.slice a1 xs.length c1) (.slice a3 ys.length c3) xs ys 3 _ h1 h2 n1 n2 L1 L2 (by decide) (by rw [V2.out]; exact Q0.out)).mono ?_)); (rintro e w3 ⟨v, rfl, hv, b3⟩; rw [V1.out, V2.out] at hv; replace K0 := K0.below b3 K0.lt; replace pr := bel pr b3; have HV := hv; obtain ⟨N, M, p7, p8, c7, c8, rfl, hN, nN, vN', hM, nM, vM'⟩ := hv; have vN : Hid _ := vN'; have vM : Hid _ := vM'; clear vN' vM' b3 HV; have e0 : w3.cell? ⟨w.heap.size, 0, none⟩ = some (.bool false) := K0.at 0; have e1 : w3.cell? ⟨w.heap.size, 1, none⟩ = some (.slice none 0 0) := K0.at 1; have e2 : w3.cell? ⟨w.heap.size, 2, none⟩ = some (.slice none 0 0) := K0.at 2; have z0 := K0.free 0; have z1 := K0.free 1; have z2 := K0.free 2))
    | fail)
  obtain ⟨F0, F1, F2, FB⟩ := put3 (.bool _) (.slice p7 N.length c7) (.slice p8 M.length c8) e0 e1 e2
  exact bodyPost_ret (v := .agg #[.bool _, .slice p7 N.length c7, .slice p8 M.length c8]) (by simp [results, Tryz.results45, go_sem, F0, F1, F2]) rfl ⟨_, rfl, ⟨N, M, _, _, _, _, rfl, hN.putQ K0, nN, vN.out, hM.putQ K0, nM, vM.out⟩, FB _ _ (Nat.le_refl _) pr⟩
set_option maxHeartbeats 800000 in
set_option maxRecDepth 100000 in
theorem fracn_neg (p q : Int) (w : World) (p0 : -9223372036854775808 ≤ p) (p1 : p < 9223372036854775808) (hp : p < 0) (q0 : q < 0) (q1 : -9223372036854775808 ≤ q) :
    Calls Tryz.prog 45 #[.int .i64 p, .int .i64 q] w fun e w' => ∃ v, e = .returned v ∧ IsQ w' v (mkRat (sgI false (p.natAbs : Int)) (-q).toNat) ∧ Below w.heap.size w w' := by
  have O1 : ∀ w, Calls Tryz.prog 36 #[.int .i64 p] w fun e w' => ∃ a1 a2 c1 l2 c2 ns, e = .returned (.agg #[.bool true, .slice a1 ns.length c1, .slice a2 l2 c2]) ∧ Rd w' (.slice a1 ns.length c1) ns ∧ Nm ns ∧ val ns = (p.natAbs : Int) ∧ Below w.heap.size w w' := fun w => (Of_q p w p0 p1).mono (fun e w' ⟨v, he, hq, b⟩ => by
    obtain ⟨ns, ds, a1, a2, c1, c2, rfl, h1, n1, v1, _⟩ := hq
    have e0 : decide (((p : Rat)).num < 0) = true := by rw [show ((p : Rat)).num = p from rfl]; simp; omega
    rw [e0] at he
    exact ⟨a1, a2, c1, _, c2, ns, he, h1, n1, v1, b⟩)
  have O2 : ∀ w, Calls Tryz.prog 36 #[.int .i64 q] w fun e w' => ∃ a1 a2 c1 l2 c2 ns, e = .returned (.agg #[.bool true, .slice a1 ns.length c1, .slice a2 l2 c2]) ∧ Rd w' (.slice a1 ns.length c1) ns ∧ Nm ns ∧ val ns = -q ∧ Below w.heap.size w w' := fun w => (Of_q q w q1 (by omega)).mono (fun e w' ⟨v, he, hq, b⟩ => by
    obtain ⟨ns, ds, a1, a2, c1, c2, rfl, h1, n1, v1, _⟩ := hq
    have e0 : decide (((q : Rat)).num < 0) = true := by rw [show ((q : Rat)).num = q from rfl]; simp; omega
    rw [e0] at he
    have v1' : val ns = -q := by rw [v1, show ((q : Rat)).num = q from rfl]; omega
    exact ⟨a1, a2, c1, _, c2, ns, he, h1, n1, v1', b⟩)
  obtain ⟨A, hA⟩ : ∃ A, (p.natAbs : Int) = A := ⟨_, rfl⟩
  have hA1 : A ≤ 9223372036854775808 := by omega
  rw [hA] at O1 ⊢
  obtain ⟨Bq, hB⟩ : ∃ Bq, -q = Bq := ⟨_, rfl⟩
  rw [hB] at O2 ⊢
  have K0 := Blk.new w #[.bool false, .slice none 0 0, .slice none 0 0] 56
  have pr : Below w.heap.size w (w.alloc (.cells #[.bool false, .slice none 0 0, .slice none 0 0] 56)) := (Below.refl _ _).alloc (Nat.le_refl _) _
  have pw3 : pw 3 = 1237940039285380274899124224 := by decide
  have Q0 : Hid (0 < Bq) := by show 0 < Bq; omega
  have Q1 : Hid (Bq ≤ 9223372036854775808) := by show Bq ≤ _; omega
  have A1 : Hid (A ≤ 9223372036854775808) := hA1
  have W3 : Hid (pw 3 = 1237940039285380274899124224) := pw3
  clear q0 q1 hA1 pw3 hA p0 p1 hp hB
  go_enter Tryz.func45, Tryz.ntmps45
  go_wp2_with (first
    | (go_at_call 36; have q' := V1; ((refine (O2 _).mono ?_)); (rintro e w2 ⟨a3, a4, c3, l4, c4, ys, rfl, h2, n2, v2, b2⟩; replace K0 := ((K0.below b2 K0.lt).alloc (.cells #[.bool true, .slice a1 xs.length c1, .slice a2 l2 c2] 56)).alloc (.cells #[.bool true, .slice a3 ys.length c3, .slice a4 l4 c4] 56); replace pr := bel_alloc (ob := (.cells #[.bool true, .slice a3 ys.length c3, .slice a4 l4 c4] 56)) (bel_alloc (ob := (.cells #[.bool true, .slice a1 xs.length c1, .slice a2 l2 c2] 56)) (bel pr b2)); replace h1 := rd_alloc (ob := (.cells #[.bool true, .slice a3 ys.length c3, .slice a4 l4 c4] 56)) (rd_alloc (ob := (.cells #[.bool true, .slice a1 xs.length c1, .slice a2 l2 c2] 56)) (h1.grow b2)); replace h2 := rd_alloc (ob := (.cells #[.bool true, .slice a3 ys.length c3, .slice a4 l4 c4] 56)) (rd_alloc (ob := (.cells #[.bool true, .slice a1 xs.length c1, .slice a2 l2 c2] 56)) h2); have V2 : Hid (val ys = Bq) := v2; have L2 : ys.length ≤ 3 := (len_of_lt (K := 3) h2.1 n2 (by rw [v2]; have := Q1.out; have := W3.out; omega)); clear v2 b2))
    | (go_at_call 36; ((refine (O1 _).mono ?_)); (rintro e w1 ⟨a1, a2, c1, l2, c2, xs, rfl, h1, n1, v1, b1⟩; replace K0 := K0.below b1 K0.lt; replace pr := bel pr b1; have V1 : Hid (val xs = A) := v1; have L1 : xs.length ≤ 3 := (len_of_lt (K := 3) h1.1 n1 (by rw [v1]; have := A1.out; have := W3.out; omega)); clear v1 b1))
    | (go_at_call 80; ((with_reducible refine (Make_q false (.slice a1 xs.length c1) (.slice a3 ys.length c3) xs ys 3 _ h1 h2 n1 n2 L1 L2 (by decide) (by rw [V2.out]; exact Q0.out)).mono ?_)); (rintro e w3 ⟨v, rfl, hv, b3⟩; rw [V1.out, V2.out] at hv; replace K0 := K0.below b3 K0.lt; replace pr := bel pr b3; have HV := hv; obtain ⟨N, M, p7, p8, c7, c8, rfl, hN, nN, vN', hM, nM, vM'⟩ := hv; have vN : Hid _ := vN'; have vM : Hid _ := vM'; clear vN' vM' b3 HV; have e0 : w3.cell? ⟨w.heap.size, 0, none⟩ = some (.bool false) := K0.at 0; have e1 : w3.cell? ⟨w.heap.size, 1, none⟩ = some (.slice none 0 0) := K0.at 1; have e2 : w3.cell? ⟨w.heap.size, 2, none⟩ = some (.slice none 0 0) := K0.at 2; have z0 := K0.free 0; have z1 := K0.free 1; have z2 := K0.free 2))
    | fail)
  obtain ⟨F0, F1, F2, FB⟩ := put3 (.bool _) (.slice p7 N.length c7) (.slice p8 M.length c8) e0 e1 e2
  exact bodyPost_ret (v := .agg #[.bool _, .slice p7 N.length c7, .slice p8 M.length c8]) (by simp [results, Tryz.results45, go_sem, F0, F1, F2]) rfl ⟨_, rfl, ⟨N, M, _, _, _, _, rfl, hN.putQ K0, nN, vN.out, hM.putQ K0, nM, vM.out⟩, FB _ _ (Nat.le_refl _) pr⟩
/-- Frac of the reference: any two ints. -/
theorem Frac_all (p q : Int) (w : World) (p0 : -9223372036854775808 ≤ p) (p1 : p < 9223372036854775808) (q0 : q ≠ 0) (q1 : -9223372036854775808 ≤ q) (q2 : q < 9223372036854775808) :
    Calls Tryz.prog 45 #[.int .i64 p, .int .i64 q] w fun e w' => ∃ v, e = .returned v ∧ IsQ w' v ((p : Rat) / (q : Rat)) ∧ Below w.heap.size w w' := by
  by_cases c : 0 < q
  · exact Frac_q p q w p0 p1 c q2
  have e : ((p : Rat) / (q : Rat)) = mkRat (-p) (-q).toNat := by
    rw [Rat.mkRat_eq_div, Rat.div_def, Rat.div_def]
    have h : (((-q).toNat : Nat) : Rat) = -(q : Rat) := by
      have : (((-q).toNat : Int) : Rat) = ((-q : Int) : Rat) := by rw [Int.toNat_of_nonneg (by omega)]
      rw [Rat.intCast_neg] at this
      rw [← this]; rfl
    have hq : (q : Rat) ≠ 0 := by simpa using q0
    have hn : -(q : Rat) ≠ 0 := fun z => hq (by grind)
    have e1 := Rat.inv_mul_cancel _ hq
    have e2 := Rat.inv_mul_cancel _ hn
    rw [h, Rat.intCast_neg]
    generalize (-(q : Rat))⁻¹ = v at *
    generalize ((q : Rat))⁻¹ = u at *
    have e3 : v = -u := by
      have a : v = v * (u * (q : Rat)) := by rw [e1, Rat.mul_one]
      have b : v * (u * (q : Rat)) = -(u * (v * -(q : Rat))) := by grind
      rw [a, b, e2, Rat.mul_one]
    rw [e3]
    grind
  rw [e]
  by_cases c2 : p < 0
  · have := fracn_neg p q w p0 p1 c2 (by omega) q1
    rw [show sgI false (p.natAbs : Int) = -p by unfold sgI; rw [if_neg (by simp)]; omega] at this
    exact this
  · have := fracn_pos p q w p0 p1 (by omega) (by omega) q1
    rw [show sgI true (p.natAbs : Int) = -p by unfold sgI; rw [if_pos rfl]; omega] at this
    exact this
end Go.Proofs.YtebilgnmnambnaaGreatDoor.L
