import Derived.Test.YtejfnplhimfchaaGreatDoorPart42
import Derived.Test.YtejfnplhimfchaaGreatDoorPart43
import Derived.Test.YtejfnplhimfchaaGreatDoorPart39

namespace Go.Proofs.YtejfnplhimfchaaGreatDoor.L
open Go.RowKit Tl

/-- How two exact numbers stand to each other. -/
def cmpR (r s : Rat) : Int := if r < s then -1 else if s < r then 1 else 0
theorem cmpR_eq (r s : Rat) : cmpR r s = cmp3 (r.num * s.den) (s.num * r.den) := by
  unfold cmpR cmp3
  simp only [Rat.lt_iff]
theorem sg3_num {xs : List Int} {r : Rat} (h : Wd xs) (n : Nm xs) (v : val xs = (r.num.natAbs : Int)) : sg3 (decide (r.num < 0)) xs.length = if r.num < 0 then -1 else if r.num = 0 then 0 else 1 := by
  unfold sg3
  have e : xs.length = 0 ↔ r.num = 0 := by
    constructor
    · intro k
      have : xs = [] := List.eq_nil_of_length_eq_zero k
      rw [this] at v
      rw [val_nil] at v
      omega
    · intro k
      have : val xs = 0 := by rw [v, k]; rfl
      rw [val_eq_zero h n] at this
      rw [this]; rfl
  by_cases c : r.num = 0
  · rw [if_pos (e.2 c), if_neg (by omega), if_pos c]
  · rw [if_neg (fun k => c (e.1 k))]
    by_cases d : r.num < 0
    · rw [if_pos d, decide_eq_true d, if_pos rfl]
    · rw [if_neg d, if_neg c, decide_eq_false d, if_neg (by simp)]
theorem neg_mul_of {a b : Int} (ha : a < 0) (hb : 0 < b) : a * b < 0 := by
  have := Int.mul_lt_mul_of_pos_right ha hb; omega
/-- Q's Cmp of the reference. -/
theorem QCmp_any (a b : Value) (r s : Rat) (K : Nat) (w : World) (ha : IsQ w a r) (hb : IsQ w b s) (hr : QS r K) (hs : QS s K) (hK : K ≤ 1000000000) :
    Calls Tryz.prog 35 #[a, b] w fun e w' => e = .returned (.int .i64 (cmpR r s)) ∧ Below w.heap.size w w' := by
  obtain ⟨A, B, p1, p2, c1, c2, rfl, h1, n1, v1, h2, n2, v2⟩ := ha
  obtain ⟨C, D, p3, p4, c3, c4, rfl, h3, n3, v3, h4, n4, v4⟩ := hb
  have l1 : A.length ≤ K := len_of_lt h1.1 n1 (by rw [v1]; exact hr.1)
  have l2 : B.length ≤ K := len_of_lt h2.1 n2 (by rw [v2]; exact hr.2)
  have l3 : C.length ≤ K := len_of_lt h3.1 n3 (by rw [v3]; exact hs.1)
  have l4 : D.length ≤ K := len_of_lt h4.1 n4 (by rw [v4]; exact hs.2)
  have s1 := sg3_num h1.1 n1 v1
  have s2 := sg3_num h3.1 n3 v3
  have dr := den_pos' r
  have ds := den_pos' s
  have f1 : (r.num < 0 → r.num * s.den < 0) ∧ (r.num = 0 → r.num * s.den = 0) ∧ (0 < r.num → 0 < r.num * s.den) := ⟨fun k => neg_mul_of k ds, fun k => by rw [k, Int.zero_mul], fun k => Int.mul_pos k ds⟩
  have f2 : (s.num < 0 → s.num * r.den < 0) ∧ (s.num = 0 → s.num * r.den = 0) ∧ (0 < s.num → 0 < s.num * r.den) := ⟨fun k => neg_mul_of k dr, fun k => by rw [k, Int.zero_mul], fun k => Int.mul_pos k dr⟩
  rw [cmpR_eq]
  by_cases e : sg3 (decide (r.num < 0)) A.length = sg3 (decide (s.num < 0)) C.length
  · have hs : (sg3 (decide (r.num < 0)) A.length != sg3 (decide (s.num < 0)) C.length) = false := by rw [e]; simp
    rw [s1, s2] at e
    by_cases ng : r.num < 0
    · have ng2 : s.num < 0 := by
        rw [if_pos ng] at e
        by_cases k : s.num < 0
        · exact k
        · rw [if_neg k] at e; split at e <;> omega
      have := qcmp_neg _ _ p1 p2 p3 p4 c1 c2 c3 c4 A B C D w h1 h2 h3 h4 (by omega) (by omega) (by omega) (by omega) hs (decide_eq_true ng)
      rw [v1, v2, v3, v4, show (r.num.natAbs : Int) * s.den = -(r.num * s.den) from by rw [← Int.neg_mul]; congr 1; omega, show (s.num.natAbs : Int) * r.den = -(s.num * r.den) from by rw [← Int.neg_mul]; congr 1; omega] at this
      have c : -cmp3 (-(r.num * s.den)) (-(s.num * r.den)) = cmp3 (r.num * s.den) (s.num * r.den) := by
        unfold cmp3
        generalize r.num * s.den = x
        generalize s.num * r.den = y
        by_cases k : x < y
        · rw [if_neg (show ¬ -x < -y by omega), if_pos (show -y < -x by omega), if_pos k]
        · by_cases k2 : y < x
          · rw [if_pos (show -x < -y by omega), if_neg k, if_pos k2]; rfl
          · rw [if_neg (show ¬ -x < -y by omega), if_neg (show ¬ -y < -x by omega), if_neg k, if_neg k2]; rfl
      rw [c] at this
      exact this
    · have ng2 : ¬ s.num < 0 := by
        rw [if_neg ng] at e
        intro k
        rw [if_pos k] at e; split at e <;> omega
      have := qcmp_pos _ _ p1 p2 p3 p4 c1 c2 c3 c4 A B C D w h1 h2 h3 h4 (by omega) (by omega) (by omega) (by omega) hs (decide_eq_false ng)
      rw [v1, v2, v3, v4, show (r.num.natAbs : Int) = r.num from by omega, show (s.num.natAbs : Int) = s.num from by omega] at this
      exact this
  · have hs : (sg3 (decide (r.num < 0)) A.length != sg3 (decide (s.num < 0)) C.length) = true := by rw [bne_iff_ne]; exact e
    by_cases l : sg3 (decide (r.num < 0)) A.length < sg3 (decide (s.num < 0)) C.length
    · have := qcmp_below _ _ p1 p2 p3 p4 c1 c2 c3 c4 A B C D w h1 h2 h3 h4 hs l
      rw [s1, s2] at l
      have k : r.num * s.den < s.num * r.den := by
        by_cases x1 : r.num < 0
        · have := f1.1 x1
          by_cases x2 : s.num < 0
          · rw [if_pos x1, if_pos x2] at l; omega
          · by_cases x3 : s.num = 0
            · have := f2.2.1 x3; omega
            · have := f2.2.2 (by omega); omega
        · rw [if_neg x1] at l
          by_cases x2 : s.num < 0
          · rw [if_pos x2] at l; split at l <;> omega
          · rw [if_neg x2] at l
            by_cases x3 : s.num = 0
            · rw [if_pos x3] at l; split at l <;> omega
            · by_cases x4 : r.num = 0
              · have := f1.2.1 x4; have := f2.2.2 (by omega); omega
              · rw [if_neg x3, if_neg x4] at l; omega
      unfold cmp3
      rw [if_pos k]
      exact this
    · have := qcmp_above _ _ p1 p2 p3 p4 c1 c2 c3 c4 A B C D w h1 h2 h3 h4 hs l
      rw [s1, s2] at l e
      have k : s.num * r.den < r.num * s.den := by
        by_cases x1 : s.num < 0
        · have := f2.1 x1
          by_cases x2 : r.num < 0
          · rw [if_pos x1, if_pos x2] at e; exact absurd rfl e
          · by_cases x3 : r.num = 0
            · have := f1.2.1 x3; omega
            · have := f1.2.2 (by omega); omega
        · rw [if_neg x1] at l e
          by_cases x2 : r.num < 0
          · rw [if_pos x2] at l; split at l <;> omega
          · rw [if_neg x2] at l e
            by_cases x3 : r.num = 0
            · rw [if_pos x3] at l e
              by_cases x4 : s.num = 0
              · rw [if_pos x4] at e; exact absurd rfl e
              · rw [if_neg x4] at l; omega
            · by_cases x4 : s.num = 0
              · have := f2.2.1 x4; have := f1.2.2 (by omega); omega
              · rw [if_neg x3, if_neg x4] at e; exact absurd rfl e
      unfold cmp3
      rw [if_neg (by omega), if_pos k]
      exact this
end Go.Proofs.YtejfnplhimfchaaGreatDoor.L

namespace Go.Proofs.YtejfnplhimfchaaGreatDoor.L
open Go.RowKit Tl

set_option maxRecDepth 100000 in
theorem Mode_yes (way : Int) (h1 : 1 ≤ way) (h2 : way ≤ 6) (w : World) : Calls Tryz.prog 12 #[.int .i64 way] w fun e w' => e = .returned (.bool true) ∧ w' = w := by
  go_enter Tryz.func12, Tryz.ntmps12
  go_wp2
  go_ret
  exact ⟨rfl, rfl⟩
set_option maxRecDepth 100000 in
theorem Mode_low (way : Int) (h1 : way < 1) (w : World) : Calls Tryz.prog 12 #[.int .i64 way] w fun e w' => e = .returned (.bool false) ∧ w' = w := by
  have h : ¬ 1 ≤ way := by omega
  go_enter Tryz.func12, Tryz.ntmps12
  go_wp2
  go_ret
  exact ⟨rfl, rfl⟩
set_option maxRecDepth 100000 in
theorem Mode_high (way : Int) (h1 : 6 < way) (w : World) : Calls Tryz.prog 12 #[.int .i64 way] w fun e w' => e = .returned (.bool false) ∧ w' = w := by
  have h : 1 ≤ way := by omega
  have h2 : ¬ way ≤ 6 := by omega
  go_enter Tryz.func12, Tryz.ntmps12
  go_wp2
  go_ret
  exact ⟨rfl, rfl⟩
set_option maxHeartbeats 1600000 in
set_option maxRecDepth 100000 in
theorem Of_pos (n : Int) (n0 : 0 ≤ n) (n1 : n < 9223372036854775808) (w : World) :
    Calls Tryz.prog 24 #[.int .i64 n] w fun e w' => ∃ u1 u2 ns, e = .returned (.agg #[.bool false, u1, u2]) ∧ Rd w' u1 ns ∧ Nm ns ∧ val ns = n ∧ Rd w' u2 [1] ∧ Below w.heap.size w w' := by
  have hz : ¬ n < 0 := by omega
  have K0 := Blk.new w #[.bool false, .slice none 0 0, .slice none 0 0] 43
  have pr : Below w.heap.size w (w.alloc (.cells #[.bool false, .slice none 0 0, .slice none 0 0] 43)) := (Below.refl _ _).alloc (Nat.le_refl _) _
  go_enter Tryz.func24, Tryz.ntmps24
  go_wp2_with (first
    | (go_at_call 58; (refine (NatOf_any (n) _ (by omega) (by omega)).mono ?_); (rintro x w1 ⟨u, ns, rfl, hu, nu, vu, b1⟩; have VU : Hid (val ns = n) := vu; clear vu; replace K0 := (K0.below b1 K0.lt).alloc (.cells #[.int .i64 1] 3); replace pr := (bel pr b1); have pr2 := pr.alloc pr.size (.cells #[.int .i64 1] 3); replace hu := hu.grow ((Below.refl _ _).alloc (Nat.le_refl _) (.cells #[.int .i64 1] 3)); have ho : Rd (w1.alloc (.cells #[.int .i64 1] 3)) (.slice (some ⟨w1.heap.size, 0, none⟩) 1 1) [1] := rd_one (by simp) (by decide) (by decide); have e0 : (w1.alloc (.cells #[.int .i64 1] 3)).cell? ⟨w.heap.size, 0, none⟩ = some (.bool false) := K0.at 0; have e1 : (w1.alloc (.cells #[.int .i64 1] 3)).cell? ⟨w.heap.size, 1, none⟩ = some (.slice none 0 0) := K0.at 1; have e2 : (w1.alloc (.cells #[.int .i64 1] 3)).cell? ⟨w.heap.size, 2, none⟩ = some (.slice none 0 0) := K0.at 2; have z0 := K0.free 0; have z1 := K0.free 1; have z2 := K0.free 2; obtain ⟨a1, c1, rfl⟩ : ∃ a c, u = .slice a ns.length c := (by obtain ⟨_, a, c, e, _⟩ := hu; exact ⟨a, c, e⟩)))
    | fail)
  obtain ⟨F0, F1, F2, FB⟩ := put3 (.bool false) (.slice a1 ns.length c1) (.slice (some ⟨w1.heap.size, 0, none⟩) 1 1) e0 e1 e2
  exact bodyPost_ret (v := .agg #[.bool false, .slice a1 ns.length c1, .slice (some ⟨w1.heap.size, 0, none⟩) 1 1]) (by simp [results, Tryz.results24, go_sem, F0, F1, F2]) rfl ⟨_, _, ns, rfl, hu.putQ K0, nu, VU.out, ho.putQ K0, FB _ _ (Nat.le_refl _) pr2⟩
set_option maxHeartbeats 1600000 in
set_option maxRecDepth 100000 in
theorem Of_neg (n : Int) (n0 : n < 0) (n1 : -9223372036854775808 ≤ n) (w : World) :
    Calls Tryz.prog 24 #[.int .i64 n] w fun e w' => ∃ u1 u2 ns, e = .returned (.agg #[.bool true, u1, u2]) ∧ Rd w' u1 ns ∧ Nm ns ∧ val ns = -n ∧ Rd w' u2 [1] ∧ Below w.heap.size w w' := by
  have c1 : IntKind.u64.wrap n = n + 18446744073709551616 := by rw [IntKind.wrap_u64]; omega
  have c2 : IntKind.u64.wrap (-(n + 18446744073709551616)) = -n := by rw [IntKind.wrap_u64]; omega
  have K0 := Blk.new w #[.bool false, .slice none 0 0, .slice none 0 0] 43
  have pr : Below w.heap.size w (w.alloc (.cells #[.bool false, .slice none 0 0, .slice none 0 0] 43)) := (Below.refl _ _).alloc (Nat.le_refl _) _
  go_enter Tryz.func24, Tryz.ntmps24
  go_wp2_with (first
    | (go_at_call 57; (refine (NatOf64_any (-n) _ (by omega) (by omega)).mono ?_); (rintro x w1 ⟨u, ns, rfl, hu, nu, vu, b1⟩; have VU : Hid (val ns = -n) := vu; clear vu; replace K0 := (K0.below b1 K0.lt).alloc (.cells #[.int .i64 1] 3); replace pr := (bel pr b1); have pr2 := pr.alloc pr.size (.cells #[.int .i64 1] 3); replace hu := hu.grow ((Below.refl _ _).alloc (Nat.le_refl _) (.cells #[.int .i64 1] 3)); have ho : Rd (w1.alloc (.cells #[.int .i64 1] 3)) (.slice (some ⟨w1.heap.size, 0, none⟩) 1 1) [1] := rd_one (by simp) (by decide) (by decide); have e0 : (w1.alloc (.cells #[.int .i64 1] 3)).cell? ⟨w.heap.size, 0, none⟩ = some (.bool false) := K0.at 0; have e1 : (w1.alloc (.cells #[.int .i64 1] 3)).cell? ⟨w.heap.size, 1, none⟩ = some (.slice none 0 0) := K0.at 1; have e2 : (w1.alloc (.cells #[.int .i64 1] 3)).cell? ⟨w.heap.size, 2, none⟩ = some (.slice none 0 0) := K0.at 2; have z0 := K0.free 0; have z1 := K0.free 1; have z2 := K0.free 2; obtain ⟨a1, c1, rfl⟩ : ∃ a c, u = .slice a ns.length c := (by obtain ⟨_, a, c, e, _⟩ := hu; exact ⟨a, c, e⟩)))
    | fail)
  obtain ⟨F0, F1, F2, FB⟩ := put3 (.bool true) (.slice a1 ns.length c1) (.slice (some ⟨w1.heap.size, 0, none⟩) 1 1) e0 e1 e2
  exact bodyPost_ret (v := .agg #[.bool true, .slice a1 ns.length c1, .slice (some ⟨w1.heap.size, 0, none⟩) 1 1]) (by simp [results, Tryz.results24, go_sem, F0, F1, F2]) rfl ⟨_, _, ns, rfl, hu.putQ K0, nu, VU.out, ho.putQ K0, FB _ _ (Nat.le_refl _) pr2⟩
end Go.Proofs.YtejfnplhimfchaaGreatDoor.L

namespace Go.Proofs.YtejfnplhimfchaaGreatDoor.L
open Go.RowKit Tl

theorem quo_le {a q b r : Int} (h : a = q * b + r) (r0 : 0 ≤ r) (q0 : 0 ≤ q) (b0 : 0 < b) : q ≤ a := le_of_quo h r0 q0 b0
theorem emod_of {a q b r : Int} (h : a = q * b + r) (r0 : 0 ≤ r) (r1 : r < b) (b0 : 0 < b) : a / b = q ∧ a % b = r := by
  have h1 : a / b = q := by
    rw [h, Int.add_comm, Int.add_mul_ediv_right _ _ (by omega), Int.ediv_eq_zero_of_lt r0 r1]; omega
  refine ⟨h1, ?_⟩
  have := Int.mul_ediv_add_emod a b
  rw [h1, Int.mul_comm] at this
  omega
theorem rest_none {xs : List Int} (h : Wd xs) (n : Nm xs) (v : val xs = 0) : xs.length = 0 := by
  rw [val_eq_zero h n] at v
  rw [v]; rfl
/-- Of, as an exact number. -/
theorem Of_q (n : Int) (w : World) (n0 : -9223372036854775808 ≤ n) (n1 : n < 9223372036854775808) :
    Calls Tryz.prog 24 #[.int .i64 n] w fun e w' => ∃ v, e = .returned v ∧ IsQ w' v (n : Rat) ∧ Below w.heap.size w w' := by
  have num : ((n : Rat)).num = n := rfl
  have den : ((n : Rat)).den = 1 := rfl
  by_cases c : n < 0
  · refine (Of_neg n c n0 w).mono ?_
    rintro e w' ⟨u1, u2, ns, rfl, h1, m1, v1, h2, b⟩
    obtain ⟨a, c1, rfl⟩ := rd_form h1
    obtain ⟨a', c2, rfl⟩ := rd_form h2
    exact ⟨_, rfl, ⟨ns, [1], _, _, _, _, by rw [num, decide_eq_true c], h1, m1, by rw [v1, num]; omega, h2, nm_one, by rw [val_one, den]; rfl⟩, b⟩
  · refine (Of_pos n (by omega) n1 w).mono ?_
    rintro e w' ⟨u1, u2, ns, rfl, h1, m1, v1, h2, b⟩
    obtain ⟨a, c1, rfl⟩ := rd_form h1
    obtain ⟨a', c2, rfl⟩ := rd_form h2
    exact ⟨_, rfl, ⟨ns, [1], _, _, _, _, by rw [num, decide_eq_false c], h1, m1, by rw [v1, num]; omega, h2, nm_one, by rw [val_one, den]; rfl⟩, b⟩
theorem rest_some {xs : List Int} (v : val xs ≠ 0) : ((xs.length : Int) == 0) = false := by
  rw [beq_eq_false_iff_ne]
  intro k
  have : xs = [] := List.eq_nil_of_length_eq_zero (by omega)
  rw [this] at v
  exact v rfl
set_option maxHeartbeats 6400000 in
set_option maxRecDepth 100000 in
theorem qfloor_pos (p1 p2 : Option Addr) (c1 c2 : Nat) (A B : List Int) (w : World) (h1 : Rd w (.slice p1 A.length c1) A) (h2 : Rd w (.slice p2 B.length c2) B) (n1 : Nm A) (n2 : Nm B) (l1 : A.length ≤ 100000000) (l2 : B.length ≤ 100000000) (b0 : 0 < val B) :
    Calls Tryz.prog 33 #[.agg #[.bool false, .slice p1 A.length c1, .slice p2 B.length c2]] w fun e w' => ∃ u u1 v X, e = .returned (.tuple #[.agg #[.bool false, u, u1], v]) ∧ Rd w' u X ∧ Nm X ∧ val X = val A / val B ∧ Rd w' u1 [1] ∧ IsQ w' v (mkRat (val A % val B) (val B).toNat) ∧ Below w.heap.size w w' := by
  have hAw := h1.1
  have hBw := h2.1
  have BW := h2.1
  go_enter Tryz.func33, Tryz.ntmps33
  go_upto_region 1 with fail
  have K1x : Blk (((w.alloc (.cells #[.bool false, .slice p1 A.length c1, .slice p2 B.length c2] 43)).alloc (.cells #[.bool false, .slice none 0 0, .slice none 0 0] 43)).alloc (.cells #[.bool false, .slice none 0 0, .slice none 0 0] 43)) w.heap.size #[.bool false, .slice p1 A.length c1, .slice p2 B.length c2] 43 := ((Blk.new w _ _).alloc _).alloc _
  have K2x : Blk (((w.alloc (.cells #[.bool false, .slice p1 A.length c1, .slice p2 B.length c2] 43)).alloc (.cells #[.bool false, .slice none 0 0, .slice none 0 0] 43)).alloc (.cells #[.bool false, .slice none 0 0, .slice none 0 0] 43)) (w.heap.size + 1) #[.bool false, .slice none 0 0, .slice none 0 0] 43 := (blk_at (by simp)).alloc _
  have K3x : Blk (((w.alloc (.cells #[.bool false, .slice p1 A.length c1, .slice p2 B.length c2] 43)).alloc (.cells #[.bool false, .slice none 0 0, .slice none 0 0] 43)).alloc (.cells #[.bool false, .slice none 0 0, .slice none 0 0] 43)) (w.heap.size + 1 + 1) #[.bool false, .slice none 0 0, .slice none 0 0] 43 := blk_at (by simp)
  have prx : Below w.heap.size w (((w.alloc (.cells #[.bool false, .slice p1 A.length c1, .slice p2 B.length c2] 43)).alloc (.cells #[.bool false, .slice none 0 0, .slice none 0 0] 43)).alloc (.cells #[.bool false, .slice none 0 0, .slice none 0 0] 43)) := (((Below.refl _ _).alloc (Nat.le_refl _) _).alloc (by simp) _).alloc (by simp; omega) _
  have h1x := h1.grow prx
  have h2x := h2.grow prx
  clear h1 h2
  generalize (((w.alloc (.cells #[.bool false, .slice p1 A.length c1, .slice p2 B.length c2] 43)).alloc (.cells #[.bool false, .slice none 0 0, .slice none 0 0] 43)).alloc (.cells #[.bool false, .slice none 0 0, .slice none 0 0] 43)) = W at *
  have k1c0x : W.cell? ⟨w.heap.size, 0, none⟩ = some (.bool false) := K1x.at 0
  have k1c1x : W.cell? ⟨w.heap.size, 1, none⟩ = some (.slice p1 A.length c1) := K1x.at 1
  have k1c2x : W.cell? ⟨w.heap.size, 2, none⟩ = some (.slice p2 B.length c2) := K1x.at 2
  go_wp2_with (first
    | (go_at_call 62; ((with_reducible refine (DivMod_any (.slice p1 A.length c1) (.slice p2 B.length c2) A B _ ?hr1 ?hr2 n1 n2 (by omega) b0).mono ?_)); (case hr1 => exact (by repeat (first | with_reducible exact h1x | with_reducible refine rd_drew ?_ | with_reducible refine rd_alloc ?_))); (case hr2 => exact (by repeat (first | with_reducible exact h2x | with_reducible refine rd_drew ?_ | with_reducible refine rd_alloc ?_))); (rintro e w1 ⟨u', v', X, Y, rfl, hX, nX, hY, nY, eq', y0, y1, bd⟩; have eq : Hid (val A = val X * val B + val Y) := eq'; clear eq'; obtain ⟨pu, cu, rfl⟩ := rd_form hX; obtain ⟨pv, cv, rfl⟩ := rd_form hY; have huy := hX; have hvy := hY; have lX : X.length ≤ A.length := len_mono hAw hX.1 nX (quo_le eq.out y0 (val_nonneg hX.1) b0); have lY : Y.length ≤ B.length := len_mono hBw hY.1 nY (Int.le_of_lt y1); have K1y : Blk w1 w.heap.size #[.bool false, .slice p1 A.length c1, .slice p2 B.length c2] 43 := blk_keep bd (by repeat (first | with_reducible exact K1x | with_reducible refine blk_drew ?_ | with_reducible refine Blk.alloc ?_ _)); have K2y : Blk w1 (w.heap.size + 1) #[.bool false, .slice none 0 0, .slice none 0 0] 43 := blk_keep bd (by repeat (first | with_reducible exact K2x | with_reducible refine blk_drew ?_ | with_reducible refine Blk.alloc ?_ _)); have K3y : Blk w1 (w.heap.size + 1 + 1) #[.bool false, .slice none 0 0, .slice none 0 0] 43 := blk_keep bd (by repeat (first | with_reducible exact K3x | with_reducible refine blk_drew ?_ | with_reducible refine Blk.alloc ?_ _)); have pry : Below w.heap.size w w1 := bel (by repeat (first | with_reducible exact prx | with_reducible refine bel_drw ?_ | with_reducible refine bel_alloc ?_)) bd; have h2y : Rd w1 (.slice p2 B.length c2) B := Rd.grow (by repeat (first | with_reducible exact h2x | with_reducible refine rd_drew ?_ | with_reducible refine rd_alloc ?_)) bd; have k1c0y : w1.cell? ⟨w.heap.size, 0, none⟩ = some (.bool false) := K1y.at 0; have k1c1y : w1.cell? ⟨w.heap.size, 1, none⟩ = some (.slice p1 A.length c1) := K1y.at 1; have k1c2y : w1.cell? ⟨w.heap.size, 2, none⟩ = some (.slice p2 B.length c2) := K1y.at 2; have K1z := K1y.alloc (.cells #[.int .i64 1] 3); have h1w : (w1.alloc (.cells #[.int .i64 1] 3)).cell? ⟨w.heap.size, 2, none⟩ = some (.slice p2 B.length c2) := K1z.at 2))
    | (go_at_call 59; ((with_reducible refine (Make_q false (.slice pv Y.length cv) (.slice p2 B.length c2) Y B 100000000 _ ?hr1 ?hr2 nY n2 (by omega) l2 (by decide) b0).mono ?_)); (case hr1 => exact (by repeat (first | with_reducible exact hvy | with_reducible refine rd_drew ?_ | with_reducible refine rd_alloc ?_))); (case hr2 => exact (by repeat (first | with_reducible exact h2y | with_reducible refine rd_drew ?_ | with_reducible refine rd_alloc ?_))); (rintro e w2 ⟨q, rfl, hq, bm⟩; have pr2 : Below w.heap.size w w2 := bel (by repeat (first | with_reducible exact pry | with_reducible refine bel_drw ?_ | with_reducible refine bel_alloc ?_)) bm; have K2z : Blk w2 (w.heap.size + 1) #[.bool false, .slice none 0 0, .slice none 0 0] 43 := blk_keep bm (by repeat (first | with_reducible exact K2y | with_reducible refine blk_drew ?_ | with_reducible refine Blk.alloc ?_ _)); have K3z : Blk w2 (w.heap.size + 1 + 1) #[.bool false, .slice none 0 0, .slice none 0 0] 43 := blk_keep bm (by repeat (first | with_reducible exact K3y | with_reducible refine blk_drew ?_ | with_reducible refine Blk.alloc ?_ _)); have hu2 : Rd w2 (.slice pu X.length cu) X := Rd.grow (by repeat (first | with_reducible exact huy | with_reducible refine rd_drew ?_ | with_reducible refine rd_alloc ?_)) bm; have ho : Rd w2 (.slice (some ⟨w1.heap.size, 0, none⟩) 1 1) [1] := Rd.grow (rd_one (cell_at rfl) (by decide) (by decide)) bm; have em := emod_of eq.out y0 y1 b0; rw [show sgI false (val Y) = val A % val B from em.2.symm] at hq; have EM : Hid (val A / val B = val X) := em.1; clear em; obtain ⟨N, M, p7, p8, c7, c8, rfl, hN, nN, vN', hM, nM, vM'⟩ := hq; have vN : Hid _ := vN'; have vM : Hid _ := vM'; clear vN' vM'; have r2c0z : w2.cell? ⟨w.heap.size + 1, 0, none⟩ = some (.bool false) := K2z.at 0; have r2f0z := K2z.free 0; have r2c1z : w2.cell? ⟨w.heap.size + 1, 1, none⟩ = some (.slice none 0 0) := K2z.at 1; have r2f1z := K2z.free 1; have r2c2z : w2.cell? ⟨w.heap.size + 1, 2, none⟩ = some (.slice none 0 0) := K2z.at 2; have r2f2z := K2z.free 2; have r3c0z : w2.cell? ⟨w.heap.size + 1 + 1, 0, none⟩ = some (.bool false) := K3z.at 0; have r3f0z := K3z.free 0; have r3c1z : w2.cell? ⟨w.heap.size + 1 + 1, 1, none⟩ = some (.slice none 0 0) := K3z.at 1; have r3f1z := K3z.free 1; have r3c2z : w2.cell? ⟨w.heap.size + 1 + 1, 2, none⟩ = some (.slice none 0 0) := K3z.at 2; have r3f2z := K3z.free 2))
    | fail)
  obtain ⟨F0, F1, F2, FB⟩ := put3 (.bool false) (.slice pu X.length cu) (.slice (some ⟨w1.heap.size, 0, none⟩) 1 1) r2c0z r2c1z r2c2z
  have K3w : Blk (((w2.setCell ⟨w.heap.size + 1, 0, none⟩ (.bool false)).setCell ⟨w.heap.size + 1, 1, none⟩ (.slice pu X.length cu)).setCell ⟨w.heap.size + 1, 2, none⟩ (.slice (some ⟨w1.heap.size, 0, none⟩) 1 1)) (w.heap.size + 1 + 1) #[.bool false, .slice none 0 0, .slice none 0 0] 43 := blk_other3 (by omega) K3z
  obtain ⟨G0, G1, G2, GB⟩ := put3 (w1 := (((w2.setCell ⟨w.heap.size + 1, 0, none⟩ (.bool false)).setCell ⟨w.heap.size + 1, 1, none⟩ (.slice pu X.length cu)).setCell ⟨w.heap.size + 1, 2, none⟩ (.slice (some ⟨w1.heap.size, 0, none⟩) 1 1))) (.bool _) (.slice p7 N.length c7) (.slice p8 M.length c8) (K3w.at 0) (K3w.at 1) (K3w.at 2)
  have H0 := fun (x y z : Value) => set3_other (x := x) (y := y) (z := z) (show w.heap.size + 1 ≠ w.heap.size + 1 + 1 by omega) F0
  have H1 := fun (x y z : Value) => set3_other (x := x) (y := y) (z := z) (show w.heap.size + 1 ≠ w.heap.size + 1 + 1 by omega) F1
  have H2 := fun (x y z : Value) => set3_other (x := x) (y := y) (z := z) (show w.heap.size + 1 ≠ w.heap.size + 1 + 1 by omega) F2
  exact bodyPost_ret (v := .tuple #[.agg #[.bool false, .slice pu X.length cu, .slice (some ⟨w1.heap.size, 0, none⟩) 1 1], .agg #[.bool _, .slice p7 N.length c7, .slice p8 M.length c8]]) (by simp [results, Tryz.results33, go_sem, G0, G1, G2, H0, H1, H2]) rfl ⟨_, _, _, X, rfl, (hu2.putQ K2z).putQ K3w, nX, EM.out.symm, (ho.putQ K2z).putQ K3w, ⟨N, M, _, _, _, _, rfl, (hN.putQ K2z).putQ K3w, nN, vN.out, (hM.putQ K2z).putQ K3w, nM, vM.out⟩, GB _ _ (by omega) (FB _ _ (by omega) pr2)⟩
set_option maxHeartbeats 6400000 in
set_option maxRecDepth 100000 in
theorem qfloor_whole (p1 p2 : Option Addr) (c1 c2 : Nat) (A B : List Int) (w : World) (h1 : Rd w (.slice p1 A.length c1) A) (h2 : Rd w (.slice p2 B.length c2) B) (n1 : Nm A) (n2 : Nm B) (l1 : A.length ≤ 100000000) (b0 : 0 < val B) (rz : Hid (val A % val B = 0)) :
    Calls Tryz.prog 33 #[.agg #[.bool true, .slice p1 A.length c1, .slice p2 B.length c2]] w fun e w' => ∃ u u1 v X, e = .returned (.tuple #[.agg #[.bool (decide (0 < X.length)), u, u1], v]) ∧ Rd w' u X ∧ Nm X ∧ val X = val A / val B ∧ Rd w' u1 [1] ∧ IsQ w' v 0 ∧ Below w.heap.size w w' := by
  have hAw := h1.1
  have hBw := h2.1
  have BW := h2.1
  go_enter Tryz.func33, Tryz.ntmps33
  go_upto_region 1 with fail
  have K1x : Blk (((w.alloc (.cells #[.bool true, .slice p1 A.length c1, .slice p2 B.length c2] 43)).alloc (.cells #[.bool false, .slice none 0 0, .slice none 0 0] 43)).alloc (.cells #[.bool false, .slice none 0 0, .slice none 0 0] 43)) w.heap.size #[.bool true, .slice p1 A.length c1, .slice p2 B.length c2] 43 := ((Blk.new w _ _).alloc _).alloc _
  have K2x : Blk (((w.alloc (.cells #[.bool true, .slice p1 A.length c1, .slice p2 B.length c2] 43)).alloc (.cells #[.bool false, .slice none 0 0, .slice none 0 0] 43)).alloc (.cells #[.bool false, .slice none 0 0, .slice none 0 0] 43)) (w.heap.size + 1) #[.bool false, .slice none 0 0, .slice none 0 0] 43 := (blk_at (by simp)).alloc _
  have K3x : Blk (((w.alloc (.cells #[.bool true, .slice p1 A.length c1, .slice p2 B.length c2] 43)).alloc (.cells #[.bool false, .slice none 0 0, .slice none 0 0] 43)).alloc (.cells #[.bool false, .slice none 0 0, .slice none 0 0] 43)) (w.heap.size + 1 + 1) #[.bool false, .slice none 0 0, .slice none 0 0] 43 := blk_at (by simp)
  have prx : Below w.heap.size w (((w.alloc (.cells #[.bool true, .slice p1 A.length c1, .slice p2 B.length c2] 43)).alloc (.cells #[.bool false, .slice none 0 0, .slice none 0 0] 43)).alloc (.cells #[.bool false, .slice none 0 0, .slice none 0 0] 43)) := (((Below.refl _ _).alloc (Nat.le_refl _) _).alloc (by simp) _).alloc (by simp; omega) _
  have h1x := h1.grow prx
  have h2x := h2.grow prx
  clear h1 h2
  generalize (((w.alloc (.cells #[.bool true, .slice p1 A.length c1, .slice p2 B.length c2] 43)).alloc (.cells #[.bool false, .slice none 0 0, .slice none 0 0] 43)).alloc (.cells #[.bool false, .slice none 0 0, .slice none 0 0] 43)) = W at *
  have k1c0x : W.cell? ⟨w.heap.size, 0, none⟩ = some (.bool true) := K1x.at 0
  have k1c1x : W.cell? ⟨w.heap.size, 1, none⟩ = some (.slice p1 A.length c1) := K1x.at 1
  have k1c2x : W.cell? ⟨w.heap.size, 2, none⟩ = some (.slice p2 B.length c2) := K1x.at 2
  go_wp2_with (first
    | (go_at_call 62; ((with_reducible refine (DivMod_any (.slice p1 A.length c1) (.slice p2 B.length c2) A B _ ?hr1 ?hr2 n1 n2 (by omega) b0).mono ?_)); (case hr1 => exact (by repeat (first | with_reducible exact h1x | with_reducible refine rd_drew ?_ | with_reducible refine rd_alloc ?_))); (case hr2 => exact (by repeat (first | with_reducible exact h2x | with_reducible refine rd_drew ?_ | with_reducible refine rd_alloc ?_))); (rintro e w1 ⟨u', v', X, Y, rfl, hX, nX, hY, nY, eq', y0, y1, bd⟩; have eq : Hid (val A = val X * val B + val Y) := eq'; clear eq'; obtain ⟨pu, cu, rfl⟩ := rd_form hX; obtain ⟨pv, cv, rfl⟩ := rd_form hY; have huy := hX; have hvy := hY; have lX : X.length ≤ A.length := len_mono hAw hX.1 nX (quo_le eq.out y0 (val_nonneg hX.1) b0); have lY : Y.length ≤ B.length := len_mono hBw hY.1 nY (Int.le_of_lt y1); have K1y : Blk w1 w.heap.size #[.bool true, .slice p1 A.length c1, .slice p2 B.length c2] 43 := blk_keep bd (by repeat (first | with_reducible exact K1x | with_reducible refine blk_drew ?_ | with_reducible refine Blk.alloc ?_ _)); have K2y : Blk w1 (w.heap.size + 1) #[.bool false, .slice none 0 0, .slice none 0 0] 43 := blk_keep bd (by repeat (first | with_reducible exact K2x | with_reducible refine blk_drew ?_ | with_reducible refine Blk.alloc ?_ _)); have K3y : Blk w1 (w.heap.size + 1 + 1) #[.bool false, .slice none 0 0, .slice none 0 0] 43 := blk_keep bd (by repeat (first | with_reducible exact K3x | with_reducible refine blk_drew ?_ | with_reducible refine Blk.alloc ?_ _)); have pry : Below w.heap.size w w1 := bel (by repeat (first | with_reducible exact prx | with_reducible refine bel_drw ?_ | with_reducible refine bel_alloc ?_)) bd; have h2y : Rd w1 (.slice p2 B.length c2) B := Rd.grow (by repeat (first | with_reducible exact h2x | with_reducible refine rd_drew ?_ | with_reducible refine rd_alloc ?_)) bd; have k1c0y : w1.cell? ⟨w.heap.size, 0, none⟩ = some (.bool true) := K1y.at 0; have k1c1y : w1.cell? ⟨w.heap.size, 1, none⟩ = some (.slice p1 A.length c1) := K1y.at 1; have k1c2y : w1.cell? ⟨w.heap.size, 2, none⟩ = some (.slice p2 B.length c2) := K1y.at 2; have zY : Y.length = 0 := rest_none hY.1 nY (by rw [← (emod_of eq.out y0 y1 b0).2]; exact rz.out); have zY2 : ((Y.length : Int) == 0) = true := (by rw [zY]; rfl)))
    | (go_at_call 24; ((with_reducible refine (Of_q 0 _ (by decide) (by decide)).mono ?_)); (rintro e w2 ⟨q, rfl, hq, bm⟩; have pr2 : Below w.heap.size w w2 := bel (by repeat (first | with_reducible exact pry | with_reducible refine bel_drw ?_ | with_reducible refine bel_alloc ?_)) bm; have K2z : Blk w2 (w.heap.size + 1) #[.bool false, .slice none 0 0, .slice none 0 0] 43 := blk_keep bm (by repeat (first | with_reducible exact K2y | with_reducible refine blk_drew ?_ | with_reducible refine Blk.alloc ?_ _)); have K3z : Blk w2 (w.heap.size + 1 + 1) #[.bool false, .slice none 0 0, .slice none 0 0] 43 := blk_keep bm (by repeat (first | with_reducible exact K3y | with_reducible refine blk_drew ?_ | with_reducible refine Blk.alloc ?_ _)); have hu2 : Rd w2 (.slice pu X.length cu) X := Rd.grow (by repeat (first | with_reducible exact huy | with_reducible refine rd_drew ?_ | with_reducible refine rd_alloc ?_)) bm; have ho : Rd w2 (.slice (some ⟨w1.heap.size, 0, none⟩) 1 1) [1] := Rd.grow (rd_one (cell_at rfl) (by decide) (by decide)) bm; have EM : Hid (val A / val B = val X) := (emod_of eq.out y0 y1 b0).1; rw [show (((0 : Int) : Rat)) = 0 from rfl] at hq; obtain ⟨N, M, p7, p8, c7, c8, rfl, hN, nN, vN', hM, nM, vM'⟩ := hq; have vN : Hid _ := vN'; have vM : Hid _ := vM'; clear vN' vM'; have r2c0z : w2.cell? ⟨w.heap.size + 1, 0, none⟩ = some (.bool false) := K2z.at 0; have r2f0z := K2z.free 0; have r2c1z : w2.cell? ⟨w.heap.size + 1, 1, none⟩ = some (.slice none 0 0) := K2z.at 1; have r2f1z := K2z.free 1; have r2c2z : w2.cell? ⟨w.heap.size + 1, 2, none⟩ = some (.slice none 0 0) := K2z.at 2; have r2f2z := K2z.free 2; have r3c0z : w2.cell? ⟨w.heap.size + 1 + 1, 0, none⟩ = some (.bool false) := K3z.at 0; have r3f0z := K3z.free 0; have r3c1z : w2.cell? ⟨w.heap.size + 1 + 1, 1, none⟩ = some (.slice none 0 0) := K3z.at 1; have r3f1z := K3z.free 1; have r3c2z : w2.cell? ⟨w.heap.size + 1 + 1, 2, none⟩ = some (.slice none 0 0) := K3z.at 2; have r3f2z := K3z.free 2))
    | fail)
  obtain ⟨F0, F1, F2, FB⟩ := put3 (.bool (decide (0 < X.length))) (.slice pu X.length cu) (.slice (some ⟨w1.heap.size, 0, none⟩) 1 1) r2c0z r2c1z r2c2z
  have K3w : Blk (((w2.setCell ⟨w.heap.size + 1, 0, none⟩ (.bool (decide (0 < X.length)))).setCell ⟨w.heap.size + 1, 1, none⟩ (.slice pu X.length cu)).setCell ⟨w.heap.size + 1, 2, none⟩ (.slice (some ⟨w1.heap.size, 0, none⟩) 1 1)) (w.heap.size + 1 + 1) #[.bool false, .slice none 0 0, .slice none 0 0] 43 := blk_other3 (by omega) K3z
  obtain ⟨G0, G1, G2, GB⟩ := put3 (w1 := (((w2.setCell ⟨w.heap.size + 1, 0, none⟩ (.bool (decide (0 < X.length)))).setCell ⟨w.heap.size + 1, 1, none⟩ (.slice pu X.length cu)).setCell ⟨w.heap.size + 1, 2, none⟩ (.slice (some ⟨w1.heap.size, 0, none⟩) 1 1))) (.bool false) (.slice p7 N.length c7) (.slice p8 M.length c8) (K3w.at 0) (K3w.at 1) (K3w.at 2)
  have H0 := fun (x y z : Value) => set3_other (x := x) (y := y) (z := z) (show w.heap.size + 1 ≠ w.heap.size + 1 + 1 by omega) F0
  have H1 := fun (x y z : Value) => set3_other (x := x) (y := y) (z := z) (show w.heap.size + 1 ≠ w.heap.size + 1 + 1 by omega) F1
  have H2 := fun (x y z : Value) => set3_other (x := x) (y := y) (z := z) (show w.heap.size + 1 ≠ w.heap.size + 1 + 1 by omega) F2
  exact bodyPost_ret (v := .tuple #[.agg #[.bool (decide (0 < X.length)), .slice pu X.length cu, .slice (some ⟨w1.heap.size, 0, none⟩) 1 1], .agg #[.bool false, .slice p7 N.length c7, .slice p8 M.length c8]]) (by simp [results, Tryz.results33, go_sem, G0, G1, G2, H0, H1, H2]) rfl ⟨_, _, _, X, rfl, (hu2.putQ K2z).putQ K3w, nX, EM.out.symm, (ho.putQ K2z).putQ K3w, ⟨N, M, _, _, _, _, rfl, (hN.putQ K2z).putQ K3w, nN, vN.out, (hM.putQ K2z).putQ K3w, nM, vM.out⟩, GB _ _ (by omega) (FB _ _ (by omega) pr2)⟩
end Go.Proofs.YtejfnplhimfchaaGreatDoor.L
