import Derived.Test.YtlngkonmalallaaPart17
import Derived.Test.YtlngkonmalallaaPart16
import Derived.Test.YtlngkonmalallaaPart13
import Derived.LoopN

namespace Go.Proofs.Ytlngkonmalallaa.L
open Go.RowKit Tl

theorem two_nat (T : Nat) : ((2 : Int) ^ T).toNat = 2 ^ T := by
  have e : ((2 ^ T : Nat) : Int) = (2 : Int) ^ T := by simp
  rw [← e, Int.toNat_natCast]
theorem nm_len3 {ns : List Int} (h : Wd ns) (n : Nm ns) (hm : val ns < 18446744073709551616) : ns.length ≤ 3 := by
  refine len_of_lt h n ?_
  have : pw 3 = 1237940039285380274899124224 := by decide
  omega
set_option maxHeartbeats 6400000 in
set_option maxRecDepth 100000 in
theorem Numq_pos (P Lo Hi Fr b k m : Int) (g : Bool) (T : Nat) (S : ∀ w, Calls Try.prog 12 #[.agg #[.int .i64 P, .int .i64 Lo, .int .i64 Hi, .int .i64 Fr], .int .u64 b] w fun e w' => e = .returned (.agg #[.int .i64 k, .bool g, .int .u64 m, .int .i64 (T : Int)]) ∧ Below w.heap.size w w') (m0 : 0 ≤ m) (m1 : m < 18446744073709551616) (T1 : T ≤ 2100) (w : World) :
    Calls Try.prog 68 #[.agg #[.int .i64 P, .int .i64 Lo, .int .i64 Hi, .int .i64 Fr], .int .u64 b] w fun r w' => ∃ v, r = .returned v ∧ IsQ w' v (mkRat (sgI g (m * 2 ^ T)) 1) ∧ Below w.heap.size w w' := by
  have T2 : T ≤ 1099511627776 := by omega
  have lh : 100 ≤ 274877906944 := by decide
  go_enter Try.func68, Try.ntmps68
  have KQ := Blk.new (w.alloc (.cells #[.int .i64 P, .int .i64 Lo, .int .i64 Hi, .int .i64 Fr] 31)) #[.bool false, .slice none 0 0, .slice none 0 0] 104
  have pr : Below w.heap.size w ((w.alloc (.cells #[.int .i64 P, .int .i64 Lo, .int .i64 Hi, .int .i64 Fr] 31)).alloc (.cells #[.bool false, .slice none 0 0, .slice none 0 0] 104)) := ((Below.refl _ _).alloc (Nat.le_refl _) _).alloc (by simp) _
  simp only [World.size_alloc] at KQ
  go_upto_region 4 with (first
    | (go_at_call 12; refine (S _).mono ?_; rintro r w1 ⟨rfl, b1⟩; have nq : w1.heap.size ≠ w.heap.size + 1 := (by have h9 := (KQ.below b1 KQ.lt).lt; omega); replace KQ := (KQ.below b1 KQ.lt).alloc (.cells #[.int .i64 k, .bool g, .int .u64 m, .int .i64 (T : Int)] 25); replace pr := bel pr b1; replace pr := pr.alloc pr.size (.cells #[.int .i64 k, .bool g, .int .u64 m, .int .i64 (T : Int)] 25); clear b1; have K1 := Blk.new w1 #[.int .i64 k, .bool g, .int .u64 m, .int .i64 (T : Int)] 25; have q2 : (w1.alloc (.cells #[.int .i64 k, .bool g, .int .u64 m, .int .i64 (T : Int)] 25)).cell? ⟨w1.heap.size, 2, none⟩ = some (.int .u64 m) := K1.at 2)
    | (go_at_call 110; (refine (NatOf64_any m _ (by omega) m1).mono ?_); (rintro r w2 ⟨u, ms, rfl, hu, num, vm', b2⟩; have lms : ms.length ≤ 3 := nm_len3 hu.1 num (by omega); have vm : Hid (val ms = m) := vm'; clear vm'; have KQx := KQ.below b2 KQ.lt; have Kx := K1.below b2 K1.lt; have prx := bel pr b2; clear b2 KQ K1 pr q2; have q1x : w2.cell? ⟨w1.heap.size, 1, none⟩ = some (.bool g) := Kx.at 1; have q3x : w2.cell? ⟨w1.heap.size, 3, none⟩ = some (.int .i64 (T : Int)) := Kx.at 3))
    | fail)
  have lms2 : ms.length ≤ 549755813888 := by omega
  go_region_held3 (fun x => x.cell? ⟨w1.heap.size, 1, none⟩ = some (.bool g) ∧ x.cell? ⟨w1.heap.size, 3, none⟩ = some (.int .i64 (T : Int))) (first | ((try dsimp only); (refine ⟨?_, ?_⟩); (repeat (first | with_reducible exact q1z | with_reducible exact q1y | with_reducible exact q1x | with_reducible refine cell_drew ?_ | with_reducible refine cell_alloc ?_)); (repeat (first | with_reducible exact q3z | with_reducible exact q3y | with_reducible exact q3x | with_reducible refine cell_drew ?_ | with_reducible refine cell_alloc ?_)); done) | exact ⟨set3_other nq q1z, set3_other nq q3z⟩ | go_keep) (first
      | (go_at_call 79; ((with_reducible refine (Shl_any _ ms T _ ?hrd lms2 T2).mono ?_)); (case hrd => exact (by repeat (first | with_reducible exact hu | with_reducible refine rd_drew ?_ | with_reducible refine rd_alloc ?_))); (rintro x w5 ⟨u5, za, rfl, hu5, nu5, vu5, bu⟩; have q1y : w5.cell? ⟨w1.heap.size, 1, none⟩ = some (.bool g) := keep_cell bu (by repeat (first | with_reducible exact q1x | with_reducible refine cell_drew ?_ | with_reducible refine cell_alloc ?_)); have q3y : w5.cell? ⟨w1.heap.size, 3, none⟩ = some (.int .i64 (T : Int)) := keep_cell bu (by repeat (first | with_reducible exact q3x | with_reducible refine cell_drew ?_ | with_reducible refine cell_alloc ?_)); have Ky : Blk w5 w1.heap.size #[.int .i64 k, .bool g, .int .u64 m, .int .i64 (T : Int)] 25 := blk_keep bu (by repeat (first | with_reducible exact Kx | with_reducible refine blk_drew ?_ | with_reducible refine Blk.alloc ?_ _)); have KQy : Blk w5 (w.heap.size + 1) #[.bool false, .slice none 0 0, .slice none 0 0] 104 := blk_keep bu (by repeat (first | with_reducible exact KQx | with_reducible refine blk_drew ?_ | with_reducible refine Blk.alloc ?_ _)); have pry : Below w.heap.size w w5 := bel (by repeat (first | with_reducible exact prx | with_reducible refine bel_drw ?_ | with_reducible refine bel_alloc ?_)) bu))
      | (go_at_call 78; have la : za.length ≤ 100 := (by have h9 := shl_len2 hu.1 hu5.1 nu5 vu5; omega); ((with_reducible refine (Make_q g _ _ za [1] 100 _ ?hr1 ?hr2 nu5 nm_one la (by decide) lh (by rw [val_one]; decide)).mono ?_)); (case hr1 => exact (by repeat (first | with_reducible exact hu5 | with_reducible refine rd_drew ?_ | with_reducible refine rd_alloc ?_))); (case hr2 => exact rd_one (by repeat (first | ((with_reducible refine cell_at ?_); (first | rfl | (simp; done))) | with_reducible refine cell_drew ?_ | with_reducible refine cell_alloc ?_ | with_reducible refine keep_cell bu ?_)) (by decide) (by decide)); (rintro x w7 ⟨v7, rfl, hq, b7⟩; rw [vu5, vm.out, val_one, show (1 : Int).toNat = 1 from rfl] at hq; obtain ⟨g7, p7, m7, c7, p8, m8, c8, rfl, GQ⟩ := isq_form hq; have q1z : w7.cell? ⟨w1.heap.size, 1, none⟩ = some (.bool g) := keep_cell b7 (by repeat (first | with_reducible exact q1y | with_reducible refine cell_drew ?_ | with_reducible refine cell_alloc ?_)); have q3z : w7.cell? ⟨w1.heap.size, 3, none⟩ = some (.int .i64 (T : Int)) := keep_cell b7 (by repeat (first | with_reducible exact q3y | with_reducible refine cell_drew ?_ | with_reducible refine cell_alloc ?_)); have Kz : Blk w7 w1.heap.size #[.int .i64 k, .bool g, .int .u64 m, .int .i64 (T : Int)] 25 := blk_keep b7 (by repeat (first | with_reducible exact Ky | with_reducible refine blk_drew ?_ | with_reducible refine Blk.alloc ?_ _)); have KQz : Blk w7 (w.heap.size + 1) #[.bool false, .slice none 0 0, .slice none 0 0] 104 := blk_keep b7 (by repeat (first | with_reducible exact KQy | with_reducible refine blk_drew ?_ | with_reducible refine Blk.alloc ?_ _)); have prz : Below w.heap.size w w7 := bel (by repeat (first | with_reducible exact pry | with_reducible refine bel_drw ?_ | with_reducible refine bel_alloc ?_)) b7; have kq0 : w7.cell? ⟨w.heap.size + 1, 0, none⟩ = some (.bool false) := KQz.at 0; have kq1 : w7.cell? ⟨w.heap.size + 1, 1, none⟩ = some (.slice none 0 0) := KQz.at 1; have kq2 : w7.cell? ⟨w.heap.size + 1, 2, none⟩ = some (.slice none 0 0) := KQz.at 2; have kf0 := KQz.free 0; have kf1 := KQz.free 1; have kf2 := KQz.free 2))
      | fail)
  all_goals
    clear vu5
    go_wp2_with fail
    obtain ⟨F0, F1, F2, FB⟩ := put3 (.bool g7) (.slice p7 m7 c7) (.slice p8 m8 c8) kq0 kq1 kq2
    exact bodyPost_ret (v := .agg #[.bool g7, .slice p7 m7 c7, .slice p8 m8 c8]) (by simp [results, Try.results68, go_sem, F0, F1, F2]) rfl ⟨_, rfl, hq.put3 KQz, FB _ _ (by omega) prz⟩
set_option maxHeartbeats 6400000 in
set_option maxRecDepth 100000 in
theorem Numq_neg (P Lo Hi Fr b k m E : Int) (g : Bool) (T : Nat) (S : ∀ w, Calls Try.prog 12 #[.agg #[.int .i64 P, .int .i64 Lo, .int .i64 Hi, .int .i64 Fr], .int .u64 b] w fun e w' => e = .returned (.agg #[.int .i64 k, .bool g, .int .u64 m, .int .i64 E]) ∧ Below w.heap.size w w') (m0 : 0 ≤ m) (m1 : m < 18446744073709551616) (hE : -E = T) (T0 : 0 < T) (T1 : T ≤ 2100) (w : World) :
    Calls Try.prog 68 #[.agg #[.int .i64 P, .int .i64 Lo, .int .i64 Hi, .int .i64 Fr], .int .u64 b] w fun r w' => ∃ v, r = .returned v ∧ IsQ w' v (mkRat (sgI g m) (2 ^ T)) ∧ Below w.heap.size w w' := by
  have hw0 : ¬ (0 : Int) ≤ E := by omega
  have hw1 : IntKind.i64.wrap (-E) = (T : Int) := by rw [hE]; exact wrap_self _ (by omega) (by omega)
  clear hE
  have T2 : T ≤ 1099511627776 := by omega
  have lh : 100 ≤ 274877906944 := by decide
  go_enter Try.func68, Try.ntmps68
  have KQ := Blk.new (w.alloc (.cells #[.int .i64 P, .int .i64 Lo, .int .i64 Hi, .int .i64 Fr] 31)) #[.bool false, .slice none 0 0, .slice none 0 0] 104
  have pr : Below w.heap.size w ((w.alloc (.cells #[.int .i64 P, .int .i64 Lo, .int .i64 Hi, .int .i64 Fr] 31)).alloc (.cells #[.bool false, .slice none 0 0, .slice none 0 0] 104)) := ((Below.refl _ _).alloc (Nat.le_refl _) _).alloc (by simp) _
  simp only [World.size_alloc] at KQ
  go_upto_region 5 with (first
    | (go_at_call 12; refine (S _).mono ?_; rintro r w1 ⟨rfl, b1⟩; have nq : w1.heap.size ≠ w.heap.size + 1 := (by have h9 := (KQ.below b1 KQ.lt).lt; omega); replace KQ := (KQ.below b1 KQ.lt).alloc (.cells #[.int .i64 k, .bool g, .int .u64 m, .int .i64 E] 25); replace pr := bel pr b1; replace pr := pr.alloc pr.size (.cells #[.int .i64 k, .bool g, .int .u64 m, .int .i64 E] 25); clear b1; have K1 := Blk.new w1 #[.int .i64 k, .bool g, .int .u64 m, .int .i64 E] 25; have q2 : (w1.alloc (.cells #[.int .i64 k, .bool g, .int .u64 m, .int .i64 E] 25)).cell? ⟨w1.heap.size, 2, none⟩ = some (.int .u64 m) := K1.at 2)
    | (go_at_call 110; (refine (NatOf64_any m _ (by omega) m1).mono ?_); (rintro r w2 ⟨u, ms, rfl, hu, num, vm', b2⟩; have lms : ms.length ≤ 3 := nm_len3 hu.1 num (by omega); have vm : Hid (val ms = m) := vm'; clear vm'; have KQx := KQ.below b2 KQ.lt; have Kx := K1.below b2 K1.lt; have prx := bel pr b2; clear b2 KQ K1 pr q2; have q1x : w2.cell? ⟨w1.heap.size, 1, none⟩ = some (.bool g) := Kx.at 1; have q3x : w2.cell? ⟨w1.heap.size, 3, none⟩ = some (.int .i64 E) := Kx.at 3))
    | fail)
  go_region_held3 (fun x => x.cell? ⟨w1.heap.size, 1, none⟩ = some (.bool g) ∧ x.cell? ⟨w1.heap.size, 3, none⟩ = some (.int .i64 E)) (first | ((try dsimp only); (refine ⟨?_, ?_⟩); (repeat (first | with_reducible exact q1z | with_reducible exact q1y | with_reducible exact q1x | with_reducible refine cell_drew ?_ | with_reducible refine cell_alloc ?_)); (repeat (first | with_reducible exact q3z | with_reducible exact q3y | with_reducible exact q3x | with_reducible refine cell_drew ?_ | with_reducible refine cell_alloc ?_)); done) | exact ⟨set3_other nq q1z, set3_other nq q3z⟩ | go_keep) (first
      | (go_at_call 79; ((with_reducible refine (Shl_any _ [1] T _ ?hrd one_len T2).mono ?_)); (case hrd => exact rd_one (by repeat (first | ((with_reducible refine cell_at ?_); (first | rfl | (simp; done))) | with_reducible refine cell_drew ?_ | with_reducible refine cell_alloc ?_)) (by decide) (by decide)); (rintro x w5 ⟨u5, za, rfl, hu5, nu5, vu5, bu⟩; have hu6 : Rd w5 u ms := Rd.grow (by repeat (first | with_reducible exact hu | with_reducible refine rd_drew ?_ | with_reducible refine rd_alloc ?_)) bu; have q1y : w5.cell? ⟨w1.heap.size, 1, none⟩ = some (.bool g) := keep_cell bu (by repeat (first | with_reducible exact q1x | with_reducible refine cell_drew ?_ | with_reducible refine cell_alloc ?_)); have q3y : w5.cell? ⟨w1.heap.size, 3, none⟩ = some (.int .i64 E) := keep_cell bu (by repeat (first | with_reducible exact q3x | with_reducible refine cell_drew ?_ | with_reducible refine cell_alloc ?_)); have Ky : Blk w5 w1.heap.size #[.int .i64 k, .bool g, .int .u64 m, .int .i64 E] 25 := blk_keep bu (by repeat (first | with_reducible exact Kx | with_reducible refine blk_drew ?_ | with_reducible refine Blk.alloc ?_ _)); have KQy : Blk w5 (w.heap.size + 1) #[.bool false, .slice none 0 0, .slice none 0 0] 104 := blk_keep bu (by repeat (first | with_reducible exact KQx | with_reducible refine blk_drew ?_ | with_reducible refine Blk.alloc ?_ _)); have pry : Below w.heap.size w w5 := bel (by repeat (first | with_reducible exact prx | with_reducible refine bel_drw ?_ | with_reducible refine bel_alloc ?_)) bu))
      | (go_at_call 78; have la : za.length ≤ 100 := (by have h9 := shl_len2 h1_wd hu5.1 nu5 vu5; simp at h9; omega); ((with_reducible refine (Make_q g _ _ ms za 100 _ ?hr1 ?hr2 num nu5 (by omega) la lh (by rw [vu5, val_one, Int.one_mul]; exact two_pow_pos T)).mono ?_)); (case hr1 => exact (by repeat (first | with_reducible exact hu6 | with_reducible refine rd_drew ?_ | with_reducible refine rd_alloc ?_))); (case hr2 => exact (by repeat (first | with_reducible exact hu5 | with_reducible refine rd_drew ?_ | with_reducible refine rd_alloc ?_))); (rintro x w7 ⟨v7, rfl, hq, b7⟩; rw [vm.out, vu5, val_one, Int.one_mul, two_nat T] at hq; obtain ⟨g7, p7, m7, c7, p8, m8, c8, rfl, GQ⟩ := isq_form hq; have q1z : w7.cell? ⟨w1.heap.size, 1, none⟩ = some (.bool g) := keep_cell b7 (by repeat (first | with_reducible exact q1y | with_reducible refine cell_drew ?_ | with_reducible refine cell_alloc ?_)); have q3z : w7.cell? ⟨w1.heap.size, 3, none⟩ = some (.int .i64 E) := keep_cell b7 (by repeat (first | with_reducible exact q3y | with_reducible refine cell_drew ?_ | with_reducible refine cell_alloc ?_)); have Kz : Blk w7 w1.heap.size #[.int .i64 k, .bool g, .int .u64 m, .int .i64 E] 25 := blk_keep b7 (by repeat (first | with_reducible exact Ky | with_reducible refine blk_drew ?_ | with_reducible refine Blk.alloc ?_ _)); have KQz : Blk w7 (w.heap.size + 1) #[.bool false, .slice none 0 0, .slice none 0 0] 104 := blk_keep b7 (by repeat (first | with_reducible exact KQy | with_reducible refine blk_drew ?_ | with_reducible refine Blk.alloc ?_ _)); have prz : Below w.heap.size w w7 := bel (by repeat (first | with_reducible exact pry | with_reducible refine bel_drw ?_ | with_reducible refine bel_alloc ?_)) b7; have kq0 : w7.cell? ⟨w.heap.size + 1, 0, none⟩ = some (.bool false) := KQz.at 0; have kq1 : w7.cell? ⟨w.heap.size + 1, 1, none⟩ = some (.slice none 0 0) := KQz.at 1; have kq2 : w7.cell? ⟨w.heap.size + 1, 2, none⟩ = some (.slice none 0 0) := KQz.at 2; have kf0 := KQz.free 0; have kf1 := KQz.free 1; have kf2 := KQz.free 2))
      | fail)
  all_goals
    clear vu5
    go_wp2_with fail
    obtain ⟨F0, F1, F2, FB⟩ := put3 (.bool g7) (.slice p7 m7 c7) (.slice p8 m8 c8) kq0 kq1 kq2
    exact bodyPost_ret (v := .agg #[.bool g7, .slice p7 m7 c7, .slice p8 m8 c8]) (by simp [results, Try.results68, go_sem, F0, F1, F2]) rfl ⟨_, rfl, hq.put3 KQz, FB _ _ (by omega) prz⟩
end Go.Proofs.Ytlngkonmalallaa.L

namespace Go.Proofs.Ytlngkonmalallaa.L
open Go.RowKit Tl

theorem cross (n : Int) {d : Nat} (hd : 0 < d) : (mkRat n d).num * (d : Int) = n * ((mkRat n d).den : Int) := by
  have h := Rat.mkRat_self (mkRat n d)
  rwa [Rat.mkRat_eq_iff (mkRat n d).den_nz (by omega)] at h
theorem lt_mk (a c : Int) {b d : Nat} (hb : 0 < b) (hd : 0 < d) : mkRat a b < mkRat c d ↔ a * d < c * b := by
  have x := cross a hb
  have y := cross c hd
  have p := den_pos' (mkRat a b)
  have q := den_pos' (mkRat c d)
  rw [Rat.lt_iff]
  generalize (mkRat a b).num = A at *
  generalize ((mkRat a b).den : Int) = B at *
  generalize (mkRat c d).num = C at *
  generalize ((mkRat c d).den : Int) = D at *
  have b0 : (0 : Int) < b := by omega
  have d0 : (0 : Int) < d := by omega
  have g1 : (0 : Int) < (b : Int) * d := Int.mul_pos b0 d0
  have g2 : (0 : Int) < B * D := Int.mul_pos p q
  rw [← mul_lt_iff g1, ← mul_lt_iff (a := a * d) g2]
  have e1 : (b : Int) * d * (A * D) = B * D * (a * d) := by
    have : (b : Int) * d * (A * D) = (A * b) * D * d := by grind
    rw [this, x]; grind
  have e2 : (b : Int) * d * (C * B) = B * D * (c * b) := by
    have : (b : Int) * d * (C * B) = (C * d) * B * b := by grind
    rw [this, y]; grind
  rw [e1, e2]
theorem cmp_mk (a c : Int) {b d : Nat} (hb : 0 < b) (hd : 0 < d) : cmpR (mkRat a b) (mkRat c d) = cmp3 (a * d) (c * b) := by
  unfold cmpR cmp3
  simp only [lt_mk a c hb hd, lt_mk c a hd hb]
theorem neg_mk (n : Int) {d : Nat} (hd : 0 < d) : decide ((mkRat n d).num < 0) = decide (n < 0) := by
  have c := cross n hd
  have q := den_pos' (mkRat n d)
  have d0 : (0 : Int) < d := by omega
  generalize (mkRat n d).num = a at *
  generalize ((mkRat n d).den : Int) = b at *
  rw [Bool.eq_iff_iff, decide_eq_true_iff, decide_eq_true_iff]
  constructor
  · intro k
    have := neg_mul_of k d0
    by_cases z : n < 0
    · exact z
    · have := Int.mul_nonneg (show 0 ≤ n by omega) (show 0 ≤ b by omega); omega
  · intro k
    have := neg_mul_of k q
    by_cases z : a < 0
    · exact z
    · have := Int.mul_nonneg (show 0 ≤ a by omega) (show 0 ≤ (d : Int) by omega); omega
theorem two_cast (T : Nat) : (((2 ^ T : Nat)) : Int) = (2 : Int) ^ T := by simp
end Go.Proofs.Ytlngkonmalallaa.L

namespace Tn
open Go

/-- The size of a float by its bits, in steps of 2 to the -1074. -/
def mag (r : Nat) : Nat := if r < 4503599627370496 then r else (4503599627370496 + r % 4503599627370496) * 2 ^ (r / 4503599627370496 - 1)
theorem mag_next (r : Nat) : mag r < mag (r + 1) := by
  unfold mag
  by_cases h : r + 1 < 4503599627370496
  · rw [if_pos (by omega), if_pos h]; omega
  · rw [if_neg h]
    by_cases h2 : r < 4503599627370496
    · have e : r + 1 = 4503599627370496 := by omega
      rw [if_pos h2, e]; omega
    · rw [if_neg h2]
      by_cases c : r % 4503599627370496 = 4503599627370495
      · have e1 : (r + 1) % 4503599627370496 = 0 := by omega
        have e2 : (r + 1) / 4503599627370496 - 1 = (r / 4503599627370496 - 1) + 1 := by omega
        rw [c, e1, e2, Nat.pow_succ]
        have := Nat.two_pow_pos (r / 4503599627370496 - 1)
        generalize 2 ^ (r / 4503599627370496 - 1) = p at *
        omega
      · have e1 : (r + 1) % 4503599627370496 = r % 4503599627370496 + 1 := by omega
        have e2 : (r + 1) / 4503599627370496 = r / 4503599627370496 := by omega
        rw [e1, e2]
        exact Nat.mul_lt_mul_of_pos_right (by omega) (Nat.two_pow_pos _)
theorem mag_lt {a b : Nat} (h : a < b) : mag a < mag b := by
  induction b with
  | zero => omega
  | succ b ih =>
    have s := mag_next b
    by_cases c : a = b
    · rw [c]; exact s
    · have := ih (by omega); omega
theorem mag_zero : mag 0 = 0 := rfl
/-- A float's number, in steps of 2 to the -1074. -/
def vl64 (n : Nat) : Int := if ng64 n = true then -(mag (rg64 n) : Int) else mag (rg64 n)
/-- Its place in the order of all floats. -/
def key64 (n : Nat) : Int := if ng64 n = true then -(rg64 n : Int) else rg64 n
theorem vl_lt {n m : Nat} (h : key64 n < key64 m) : vl64 n < vl64 m := by
  unfold key64 at h
  unfold vl64
  have z := mag_zero
  cases a : ng64 n <;> cases b : ng64 m <;> rw [a, b] at h <;> simp only [Bool.false_eq_true, if_false, if_true] at h ⊢
  · have := mag_lt (show rg64 n < rg64 m by omega); omega
  · exfalso; omega
  · by_cases c : rg64 n = 0
    · have := mag_lt (show rg64 n < rg64 m by omega); rw [c, z] at *; omega
    · have := mag_lt (show 0 < rg64 n by omega); omega
  · have := mag_lt (show rg64 m < rg64 n by omega); omega
theorem vl_eq {n m : Nat} (h : key64 n = key64 m) : vl64 n = vl64 m := by
  unfold key64 at h
  unfold vl64
  have z := mag_zero
  cases a : ng64 n <;> cases b : ng64 m <;> rw [a, b] at h <;> simp only [Bool.false_eq_true, if_false, if_true] at h ⊢
  · rw [show rg64 n = rg64 m by omega]
  · rw [show rg64 n = 0 by omega, show rg64 m = 0 by omega, z]; rfl
  · rw [show rg64 n = 0 by omega, show rg64 m = 0 by omega, z]; rfl
  · rw [show rg64 n = rg64 m by omega]
theorem vl_lt_iff (n m : Nat) : vl64 n < vl64 m ↔ key64 n < key64 m := by
  constructor
  · intro h
    rcases Int.lt_trichotomy (key64 n) (key64 m) with c | c | c
    · exact c
    · have := vl_eq c; omega
    · have := vl_lt c; omega
  · exact vl_lt
/-- How two ints stand. -/
def ordI (a b : Int) : Ordering := if a < b then .lt else if a = b then .eq else .gt
theorem cmp_scale (a b : Int) (k : Nat) : compare a b = ordI (a * 2 ^ k) (b * 2 ^ k) := by
  have p : (0 : Int) < 2 ^ k := Int.pow_pos (by decide)
  rw [cmp_int]
  unfold ordI
  have e1 : a * 2 ^ k < b * 2 ^ k ↔ a < b := ⟨fun h => Int.lt_of_mul_lt_mul_right h (Int.le_of_lt p), fun h => Int.mul_lt_mul_of_pos_right h p⟩
  have e2 : a * 2 ^ k = b * 2 ^ k ↔ a = b := ⟨fun h => Int.eq_of_mul_eq_mul_right (by omega) h, fun h => by rw [h]⟩
  simp only [e1, e2]
theorem signed_scale (s : Bool) (m : Nat) (i j : Int) (h : j ≤ i) (hj : -1074 ≤ j) : Ieee.signed s m (i - j).toNat * 2 ^ (j + 1074).toNat = if s = true then -((m * 2 ^ (i + 1074).toNat : Nat) : Int) else ((m * 2 ^ (i + 1074).toNat : Nat) : Int) := by
  unfold Ieee.signed
  have e : (i + 1074).toNat = (i - j).toNat + (j + 1074).toNat := by omega
  have e2 : ((m <<< (i - j).toNat : Nat) : Int) * 2 ^ (j + 1074).toNat = ((m * 2 ^ (i + 1074).toNat : Nat) : Int) := by
    rw [Nat.shiftLeft_eq, e, Nat.pow_add]
    simp only [Int.natCast_mul, Int.natCast_pow]
    rw [Int.mul_assoc]
    rfl
  cases s
  · simpa using e2
  · simp only [if_true]
    rw [Int.neg_mul, e2]
theorem num_order (s t : Bool) (m k : Nat) (i j : Int) (hi : -1074 ≤ i) (hj : -1074 ≤ j) : compare (Ieee.signed s m (i - min i j).toNat) (Ieee.signed t k (j - min i j).toNat) = ordI (if s = true then -((m * 2 ^ (i + 1074).toNat : Nat) : Int) else ((m * 2 ^ (i + 1074).toNat : Nat) : Int)) (if t = true then -((k * 2 ^ (j + 1074).toNat : Nat) : Int) else ((k * 2 ^ (j + 1074).toNat : Nat) : Int)) := by
  rw [cmp_scale _ _ (min i j + 1074).toNat, signed_scale s m i (min i j) (by omega) (by omega), signed_scale t k j (min i j) (by omega) (by omega)]
/-- The parts of a number that is finite. -/
theorem read_fin (n : Nat) (h : rg64 n < 9218868437227405312) : ∃ (m : Nat) (i : Int), Ieee.double.read n = .number (ng64 n) m i ∧ -1074 ≤ i ∧ m * 2 ^ (i + 1074).toNat = mag (rg64 n) := by
  rw [read64]
  unfold mag
  by_cases c : rg64 n < 4503599627370496
  · rw [if_pos c, if_pos c]
    exact ⟨_, _, rfl, by omega, by simp⟩
  · rw [if_neg c, if_neg c, if_pos h]
    refine ⟨_, _, rfl, by omega, ?_⟩
    rw [show (-1074 + ((rg64 n / 4503599627370496 - 1 : Nat) : Int) + 1074).toNat = rg64 n / 4503599627370496 - 1 by omega]
theorem ordI_lt {a b : Int} (h : a < b) : ordI a b = .lt := if_pos h
theorem ordI_gt {a b : Int} (h : b < a) : ordI a b = .gt := by unfold ordI; rw [if_neg (by omega), if_neg (by omega)]
theorem ordI_vl (n m : Nat) : ordI (vl64 n) (vl64 m) = ordI (key64 n) (key64 m) := by
  unfold ordI
  have a := vl_lt_iff n m
  have b := vl_lt_iff m n
  have e : vl64 n = vl64 m ↔ key64 n = key64 m := by omega
  simp only [a, e]
/-- How two floats stand, by their places. -/
theorem order_key (n m : Nat) (hn : nan64 n = false) (hm : nan64 m = false) : FloatKind.f64.format.order n m = some (ordI (key64 n) (key64 m)) := by
  rw [fmt64]
  unfold Ieee.Format.order
  simp only [nan64, decide_eq_false_iff_not] at hn hm
  by_cases h1 : rg64 n < 9218868437227405312
  · obtain ⟨a, i, ea, hi, va⟩ := read_fin n h1
    by_cases h2 : rg64 m < 9218868437227405312
    · obtain ⟨b, j, eb, hj, vb⟩ := read_fin m h2
      rw [ea, eb]
      simp only [Ieee.Datum.order]
      rw [num_order _ _ _ _ _ _ hi hj, va, vb]
      congr 1
      exact ordI_vl n m
    · have e : rg64 m = 9218868437227405312 := by omega
      rw [ea, read64 m, if_neg (by omega), if_neg h2, if_pos e]
      simp only [Ieee.Datum.order]
      have kn : key64 n < 9218868437227405312 ∧ -9218868437227405312 < key64 n := by unfold key64; split <;> omega
      have km : key64 m = if ng64 m = true then -9218868437227405312 else 9218868437227405312 := by unfold key64; rw [e]; rfl
      rw [km]
      cases ng64 m
      · rw [if_neg (by simp), if_neg (by simp), ordI_lt (by omega)]
      · rw [if_pos rfl, if_pos rfl, ordI_gt (by omega)]
  · have e : rg64 n = 9218868437227405312 := by omega
    rw [read64 n, if_neg (by omega), if_neg h1, if_pos e]
    have kn : key64 n = if ng64 n = true then -9218868437227405312 else 9218868437227405312 := by unfold key64; rw [e]; rfl
    by_cases h2 : rg64 m < 9218868437227405312
    · obtain ⟨b, j, eb, hj, vb⟩ := read_fin m h2
      rw [eb]
      simp only [Ieee.Datum.order]
      have km : key64 m < 9218868437227405312 ∧ -9218868437227405312 < key64 m := by unfold key64; split <;> omega
      rw [kn]
      cases ng64 n
      · rw [if_neg (by simp), if_neg (by simp), ordI_gt (by omega)]
      · rw [if_pos rfl, if_pos rfl, ordI_lt (by omega)]
    · have e2 : rg64 m = 9218868437227405312 := by omega
      have km : key64 m = if ng64 m = true then -9218868437227405312 else 9218868437227405312 := by unfold key64; rw [e2]; rfl
      rw [read64 m, if_neg (by omega), if_neg h2, if_pos e2]
      simp only [Ieee.Datum.order]
      rw [kn, km]
      cases ng64 n <;> cases ng64 m <;> decide
end Tn

namespace Go.Proofs.Ytlngkonmalallaa
open Go.RowKit Tn

theorem ng_split (n : Nat) (hn : n < 18446744073709551616) : (ng64 n = true ∧ n = 9223372036854775808 + rg64 n) ∨ (ng64 n = false ∧ n = rg64 n) := by
  have s : ng64 n = (n / 9223372036854775808 % 2 == 1) := rfl
  have r : rg64 n = n % 9223372036854775808 := rfl
  cases h : ng64 n
  · right
    rw [h] at s
    have := s.symm
    simp at this
    exact ⟨rfl, by omega⟩
  · left
    rw [h] at s
    have := s.symm
    simp at this
    exact ⟨rfl, by omega⟩
theorem sg_ng (n : Nat) : sgW n = ng64 n := by unfold sgW ng64; rw [Bool.eq_iff_iff, decide_eq_true_iff, beq_iff_eq]
theorem rg_parts (n : Nat) : rg64 n = fdW n * 4503599627370496 + frW n := by unfold rg64 fdW frW; omega
theorem fr_lt (n : Nat) : frW n < 4503599627370496 := Nat.mod_lt _ (by decide)
theorem vl_sgI (n : Nat) : vl64 n = L.sgI (ng64 n) (mag (rg64 n) : Int) := rfl
theorem sgI_mul (g : Bool) (a b : Int) : L.sgI g a * b = L.sgI g (a * b) := by
  unfold L.sgI
  split
  · rw [Int.neg_mul]
  · rfl
/-- The bits of a finite float that is not nought, as a mantissa and an exponent. -/
theorem mag_parts (r : Nat) (h0 : 0 < r) (h : r < 9218868437227405312) : ∃ l E : Int, 0 < l ∧ l < 9007199254740992 ∧ -1074 ≤ E ∧ E ≤ 971 ∧ (l < 4503599627370496 → E = -1074) ∧ (mag r : Int) = l * 2 ^ (E + 1074).toNat ∧ L.layW l E = r := by
  unfold mag L.layW
  by_cases c : r < 4503599627370496
  · rw [if_pos c]
    refine ⟨r, -1074, by omega, by omega, by omega, by omega, fun _ => rfl, by simp, ?_⟩
    rw [if_neg (by omega)]
  · rw [if_neg c]
    refine ⟨((4503599627370496 + r % 4503599627370496 : Nat) : Int), ((r / 4503599627370496 : Nat) : Int) - 1 - 1074, by omega, by omega, by omega, by omega, by omega, ?_, ?_⟩
    · rw [show (((r / 4503599627370496 : Nat) : Int) - 1 - 1074 + 1074).toNat = r / 4503599627370496 - 1 by omega]
      simp only [Int.natCast_mul, Int.natCast_pow]
      rfl
    · rw [if_pos (by omega)]; omega
theorem two74 : ((2 ^ 1074 : Nat) : Int) = (2 : Int) ^ 1074 := L.two_cast 1074
/-- The reference's Number, of a finite float. -/
theorem number_64 (n : Nat) (hn : n < 18446744073709551616) (h : rg64 n < 9218868437227405312) (w : World) :
    Calls Try.prog 68 #[szW, .int .u64 n] w fun r w' => ∃ v, r = .returned v ∧ L.IsQ w' v (mkRat (vl64 n) (2 ^ 1074)) ∧ Below w.heap.size w w' := by
  have S := Split_w n hn
  have e := rg_parts n
  have f := fr_lt n
  have z2 : (2 : Nat) ^ 1074 ≠ 0 := Nat.ne_of_gt (Nat.two_pow_pos 1074)
  rw [vl_sgI, ← sg_ng]
  by_cases d0 : fdW n = 0
  · by_cases f0 : frW n = 0
    · have s : splW n = (0, sgW n, 0, 0) := by unfold splW; rw [if_neg (by omega), if_pos d0, if_pos f0]
      rw [s] at S
      have r : rg64 n = 0 := by omega
      rw [r]
      refine (L.Numq_pos 53 (-1074) 971 52 n 0 0 (sgW n) 0 S (by decide) (by decide) (by decide) w).mono ?_
      rintro x w' ⟨v, rfl, q, b⟩
      refine ⟨v, rfl, ?_, b⟩
      have : mkRat (L.sgI (sgW n) (0 * 2 ^ 0)) 1 = mkRat (L.sgI (sgW n) ((mag 0 : Nat) : Int)) (2 ^ 1074) := by
        rw [show (0 : Int) * 2 ^ 0 = 0 from rfl, mag_zero, show ((0 : Nat) : Int) = 0 from rfl, show L.sgI (sgW n) 0 = 0 from by unfold L.sgI; split <;> rfl, Rat.zero_mkRat, Rat.zero_mkRat]
      rw [← this]; exact q
    · have s : splW n = (1, sgW n, (frW n : Int), -1074) := by unfold splW; rw [if_neg (by omega), if_pos d0, if_neg f0]
      rw [s] at S
      have r : rg64 n = frW n := by omega
      rw [r, show mag (frW n) = frW n from if_pos f]
      exact L.Numq_neg 53 (-1074) 971 52 n 1 (frW n) (-1074) (sgW n) 1074 S (by omega) (by omega) (by decide) (by decide) (by decide) w
  · have s : splW n = (2, sgW n, (frW n : Int) + 4503599627370496, (fdW n : Int) - 1 - 1074) := by unfold splW; rw [if_neg (by omega), if_neg d0]
    rw [s] at S
    have m : ((mag (rg64 n) : Nat) : Int) = ((frW n : Int) + 4503599627370496) * 2 ^ (fdW n - 1) := by
      unfold mag
      rw [if_neg (by omega), show rg64 n % 4503599627370496 = frW n from by omega, show rg64 n / 4503599627370496 = fdW n from by omega]
      simp only [Int.natCast_mul, Int.natCast_pow, Int.natCast_add]
      rw [Int.add_comm]; rfl
    rw [m]
    by_cases c : 1075 ≤ fdW n
    · obtain ⟨T, hT⟩ : ∃ T, fdW n = T + 1075 := ⟨fdW n - 1075, by omega⟩
      rw [show (fdW n : Int) - 1 - 1074 = (T : Int) from by omega] at S
      refine (L.Numq_pos 53 (-1074) 971 52 n 2 ((frW n : Int) + 4503599627370496) (sgW n) T S (by omega) (by omega) (by omega) w).mono ?_
      rintro x w' ⟨v, rfl, q, b⟩
      refine ⟨v, rfl, ?_, b⟩
      have : mkRat (L.sgI (sgW n) (((frW n : Int) + 4503599627370496) * 2 ^ T)) 1 = mkRat (L.sgI (sgW n) (((frW n : Int) + 4503599627370496) * 2 ^ (fdW n - 1))) (2 ^ 1074) := by
        rw [Rat.mkRat_eq_iff (by decide) z2, two74, sgI_mul, sgI_mul, show ((1 : Nat) : Int) = 1 from rfl, Int.mul_one, Int.mul_assoc, ← Int.pow_add, show fdW n - 1 = T + 1074 from by omega]
      rw [← this]; exact q
    · obtain ⟨T, hT⟩ : ∃ T, fdW n + T = 1075 := ⟨1075 - fdW n, by omega⟩
      refine (L.Numq_neg 53 (-1074) 971 52 n 2 ((frW n : Int) + 4503599627370496) ((fdW n : Int) - 1 - 1074) (sgW n) T S (by omega) (by omega) (by omega) (by omega) (by omega) w).mono ?_
      rintro x w' ⟨v, rfl, q, b⟩
      refine ⟨v, rfl, ?_, b⟩
      have : mkRat (L.sgI (sgW n) ((frW n : Int) + 4503599627370496)) (2 ^ T) = mkRat (L.sgI (sgW n) (((frW n : Int) + 4503599627370496) * 2 ^ (fdW n - 1))) (2 ^ 1074) := by
        rw [Rat.mkRat_eq_iff (Nat.ne_of_gt (Nat.two_pow_pos T)) z2, two74, L.two_cast T, sgI_mul, sgI_mul, Int.mul_assoc, ← Int.pow_add, show fdW n - 1 + T = 1074 from by omega]
      rw [← this]; exact q
theorem vl_qs (n : Nat) (h : rg64 n < 9218868437227405312) : L.QS (mkRat (vl64 n) (2 ^ 1074)) 100 := by
  have pw : Tl.pw 100 = 2 ^ 3000 := L.pw_two 100
  have a1 : ((mag (rg64 n) : Nat) : Int) < Tl.pw 100 := by
    rw [pw]
    by_cases c : 0 < rg64 n
    · obtain ⟨l, E, l0, l1, e0, e1, _, m, _⟩ := mag_parts _ c h
      rw [m]
      have a := Int.mul_lt_mul_of_pos_right l1 (L.two_pow_pos (E + 1074).toNat)
      have b : (9007199254740992 : Int) * 2 ^ (E + 1074).toNat = 2 ^ (53 + (E + 1074).toNat) := by rw [Int.pow_add]; rfl
      have d := L.two_pow_le (show 53 + (E + 1074).toNat ≤ 3000 by omega)
      omega
    · rw [show rg64 n = 0 from by omega, mag_zero]
      exact L.two_pow_pos 3000
  have a2 : ((2 ^ 1074 : Nat) : Int) < Tl.pw 100 := by
    rw [two74, pw]
    have d := L.two_pow_le (show 1075 ≤ 3000 by omega)
    have s : (2 : Int) ^ 1075 = 2 ^ 1074 * 2 := Int.pow_succ 2 1074
    have := L.two_pow_pos 1074
    omega
  have d0 : (2 : Nat) ^ 1074 ≠ 0 := Nat.ne_of_gt (Nat.two_pow_pos 1074)
  have ab : ((vl64 n).natAbs : Int) = mag (rg64 n) := by rw [vl_sgI]; exact L.sgI_abs _ (by omega)
  refine ⟨?_, ?_⟩
  · rw [Rat.num_mkRat, if_neg d0]
    have := Int.natAbs_ediv_le_natAbs (vl64 n) (((2 ^ 1074 : Nat).gcd (vl64 n).natAbs : Nat) : Int)
    omega
  · rw [Rat.den_mkRat, if_neg d0]
    have := Nat.div_le_self (2 ^ 1074) ((2 ^ 1074 : Nat).gcd (vl64 n).natAbs)
    omega
/-- How the exact numbers of two finite floats stand. -/
theorem cmpR_key (n m : Nat) : L.cmpR (mkRat (vl64 n) (2 ^ 1074)) (mkRat (vl64 m) (2 ^ 1074)) = L.cmp3 (key64 n) (key64 m) := by
  have z : 0 < (2 : Nat) ^ 1074 := Nat.two_pow_pos 1074
  rw [L.cmp_mk _ _ z z, two74]
  have p := L.two_pow_pos 1074
  have e1 : vl64 n * 2 ^ 1074 < vl64 m * 2 ^ 1074 ↔ key64 n < key64 m := by
    rw [← vl_lt_iff]
    exact ⟨fun h => Int.lt_of_mul_lt_mul_right h (Int.le_of_lt p), fun h => Int.mul_lt_mul_of_pos_right h p⟩
  have e2 : vl64 m * 2 ^ 1074 < vl64 n * 2 ^ 1074 ↔ key64 m < key64 n := by
    rw [← vl_lt_iff]
    exact ⟨fun h => Int.lt_of_mul_lt_mul_right h (Int.le_of_lt p), fun h => Int.mul_lt_mul_of_pos_right h p⟩
  unfold L.cmp3
  simp only [e1, e2]
end Go.Proofs.Ytlngkonmalallaa

namespace Go.Proofs.Ytlngkonmalallaa
open Go.RowKit Tn

theorem quo_one {X b m l q : Int} (h1 : X = m * b + q) (q0 : 0 ≤ q) (q1 : q < b) (h2 : X = l * b) : m = l ∧ q = 0 := by
  have b0 : 0 < b := by omega
  have a := L.emod_of h1 q0 q1 b0
  have c := L.emod_of (a := X) (b := b) (q := l) (r := 0) (by rw [h2]; omega) (by omega) b0 b0
  omega
/-- The exact number of a float is rounded to that float. -/
theorem rounded_own (n : Nat) (hn : n < 18446744073709551616) (h : rg64 n < 9218868437227405312) (way : Int) (v : Value) (w : World) (hv : L.IsQ w v (mkRat (vl64 n) (2 ^ 1074))) :
    Calls Try.prog 67 #[szW, v, .int .i64 way] w fun e w' => e = .returned (.tuple #[.int .u64 (if rg64 n = 0 then 0 else (n : Int)), .bool false]) ∧ Below w.heap.size w w' := by
  have z : 0 < (2 : Nat) ^ 1074 := Nat.two_pow_pos 1074
  have Q := vl_qs n h
  have X := L.cross (vl64 n) z
  have NG := L.neg_mk (vl64 n) z
  have dp := L.den_pos' (mkRat (vl64 n) (2 ^ 1074))
  obtain ⟨ns, ds, a1, a2, c1, c2, rfl, h1, n1, v1, h2, n2, v2⟩ := hv
  have l1 : ns.length ≤ 100 := L.len_of_lt h1.1 n1 (by rw [v1]; exact Q.1)
  have l2 : ds.length ≤ 100 := L.len_of_lt h2.1 n2 (by rw [v2]; exact Q.2)
  have ab : ((vl64 n).natAbs : Int) = mag (rg64 n) := by rw [vl_sgI]; exact L.sgI_abs _ (by omega)
  have XA : ((mkRat (vl64 n) (2 ^ 1074)).num.natAbs : Int) * 2 ^ 1074 = mag (rg64 n) * ((mkRat (vl64 n) (2 ^ 1074)).den : Int) := by
    have k := congrArg (fun y : Int => (y.natAbs : Int)) X
    simp only [Int.natAbs_mul, Int.natCast_mul] at k
    rw [ab, Int.natAbs_natCast, Int.natAbs_natCast, two74] at k
    exact k
  clear X Q
  rw [NG] at *
  clear NG
  generalize ((mkRat (vl64 n) (2 ^ 1074)).num.natAbs : Int) = N at *
  generalize ((mkRat (vl64 n) (2 ^ 1074)).den : Int) = D at *
  by_cases c : rg64 n = 0
  · rw [if_pos c]
    rw [c, mag_zero, show ((0 : Nat) : Int) = 0 from rfl, Int.zero_mul] at XA
    have p := L.two_pow_pos 1074
    have N0 : N = 0 := by
      rcases Int.mul_eq_zero.1 XA with k | k
      · exact k
      · omega
    have e : ns.length = 0 := L.rest_none h1.1 n1 (by omega)
    rw [e]
    exact L.Rounded_zero 53 (-1074) 971 52 _ a1 a2 c1 ds.length c2 way w
  · rw [if_neg c]
    obtain ⟨l, E, l0, lt, e0, e1, st, hm, hl⟩ := mag_parts (rg64 n) (by omega) h
    rw [hm] at XA
    have hc : N * 2 ^ (-E).toNat = D * (l * 2 ^ E.toNat) := by
      by_cases k : 0 ≤ E
      · rw [show (-E).toNat = 0 from by omega, show (E + 1074).toNat = E.toNat + 1074 from by omega, Int.pow_add] at *
        refine Int.eq_of_mul_eq_mul_right (a := 2 ^ 1074) (by have := L.two_pow_pos 1074; omega) ?_
        rw [show (2 : Int) ^ 0 = 1 from rfl, Int.mul_one, XA]
        grind
      · rw [show E.toNat = 0 from by omega]
        refine Int.eq_of_mul_eq_mul_right (a := 2 ^ (E + 1074).toNat) (by have := L.two_pow_pos (E + 1074).toNat; omega) ?_
        rw [Int.mul_assoc, ← Int.pow_add, show (-E).toNat + (E + 1074).toNat = 1074 from by omega, XA, show (2 : Int) ^ 0 = 1 from rfl]
        grind
    have N0 : 0 < N := by
      have a : 0 < D * (l * 2 ^ E.toNat) := Int.mul_pos dp (Int.mul_pos l0 (L.two_pow_pos _))
      rw [← hc] at a
      have p := L.two_pow_pos (-E).toNat
      by_cases k : 0 < N
      · exact k
      · have := Int.mul_le_mul_of_nonneg_right (show N ≤ 0 by omega) (Int.le_of_lt p)
        omega
    have neg : decide (vl64 n < 0) = ng64 n := by
      have m0 : (0 : Int) < mag (rg64 n) := by have := mag_lt (show 0 < rg64 n by omega); rw [mag_zero] at this; omega
      unfold vl64
      cases ng64 n
      · rw [if_neg (by simp)]; exact decide_eq_false (by omega)
      · rw [if_pos rfl]; exact decide_eq_true (by omega)
    rw [neg]
    refine (L.Rounded_w_any (ng64 n) _ _ ns ds way w h1 h2 n1 n2 (by omega) (by omega) (by omega) (by omega)).mono ?_
    rintro x w' ⟨e, m, q, F, m0, m1, ee, es, rfl, b⟩
    rw [v1, v2] at F
    refine ⟨?_, b⟩
    have ec := L.can_w l0 dp F hc m0 m1 ee es
    have eE : e = E := by
      rw [ec]
      unfold L.canW
      by_cases k : 4503599627370496 ≤ l
      · rw [L.bl_53 k lt]; omega
      · have k2 := L.bl_52 (show 0 ≤ l by omega) (show l < 4503599627370496 by omega)
        have k3 := st (by omega)
        omega
    clear ec
    subst eE
    obtain ⟨f1, f2, f3⟩ := F
    have key := quo_one f1 f2 f3 (l := l) (by rw [hc]; grind)
    obtain ⟨rfl, rfl⟩ := key
    have r1 : L.rnd (ng64 n) way m 0 (Tl.val ds * 2 ^ e.toNat) = m := by unfold L.rnd; rw [if_neg (by simp)]
    have la : L.laidW (ng64 n) m e way = ((n : Int), false) := by
      unfold L.laidW L.endW
      rw [if_neg (by omega), if_neg (by omega), hl]
      unfold L.sgnW
      rcases ng_split n hn with ⟨k1, k2⟩ | ⟨k1, k2⟩
      · rw [k1, if_pos rfl]; congr 1; omega
      · rw [k1, if_neg (by simp)]; congr 1; omega
    rw [r1, la]
end Go.Proofs.Ytlngkonmalallaa

namespace Go.Proofs.Ytlngkonmalallaa
open Go.RowKit Tn

/-- Neither none nor -0. -/
def okEnd (n : Nat) : Bool := !nan64 n && !(decide (rg64 n = 0) && ng64 n)
set_option maxRecDepth 100000 in
theorem isEnd_any (n : Nat) (hn : n < 18446744073709551616) (w : World) : Calls Try.prog 133 #[.float .f64 n] w fun x w' => x = .returned (.bool (okEnd n)) ∧ w' = w := by
  have N := IsNaN_any n
  have S := Signbit_any n hn
  unfold okEnd
  by_cases h1 : nan64 n = true
  · rw [h1] at N ⊢
    go_enter Try.func133, Try.ntmps133
    go_wp2_with (first
      | (go_at_call 69; refine (N _).mono ?_; rintro x w1 ⟨rfl, rfl⟩)
      | fail)
    go_ret
    exact ⟨rfl, rfl⟩
  have h2 : nan64 n = false := by simpa using h1
  have O := order_0 n h2
  rw [h2] at N ⊢
  by_cases z1 : rg64 n = 0
  · rw [if_pos z1] at O
    have o1 : (FloatKind.f64.format.order n 0 == some .eq) = true := by rw [O]; rfl
    rw [decide_eq_true z1]
    clear z1
    cases g : ng64 n
    all_goals
      rw [g] at S
      go_enter Try.func133, Try.ntmps133
      go_wp2_with (first
        | (go_at_call 69; refine (N _).mono ?_; rintro x w1 ⟨rfl, rfl⟩)
        | (go_at_call 74; refine (S _).mono ?_; rintro x w1 ⟨rfl, rfl⟩)
        | fail)
      go_ret
      exact ⟨rfl, rfl⟩
  · rw [if_neg z1] at O
    have o1 : (FloatKind.f64.format.order n 0 == some .eq) = false := by rw [O]; split <;> rfl
    rw [decide_eq_false z1]
    clear z1 O
    go_enter Try.func133, Try.ntmps133
    go_wp2_with (first
      | (go_at_call 69; refine (N _).mono ?_; rintro x w1 ⟨rfl, rfl⟩)
      | fail)
    go_ret
    exact ⟨rfl, rfl⟩
theorem order_gt (n m : Nat) (hn : nan64 n = false) (hm : nan64 m = false) : (FloatKind.f64.format.order n m == some .gt) = decide (key64 m < key64 n) := by
  rw [order_key n m hn hm]
  by_cases c : key64 m < key64 n
  · rw [ordI_gt c, decide_eq_true c]; rfl
  · rw [decide_eq_false c]
    unfold ordI
    split
    · rfl
    · rw [if_pos (by omega)]; rfl
theorem order_lt (n m : Nat) (hn : nan64 n = false) (hm : nan64 m = false) : (FloatKind.f64.format.order n m == some .lt) = decide (key64 n < key64 m) := by
  rw [order_key n m hn hm]
  by_cases c : key64 n < key64 m
  · rw [ordI_lt c, decide_eq_true c]; rfl
  · rw [decide_eq_false c]
    unfold ordI
    rw [if_neg c]
    split <;> rfl
theorem flip_flip (n : Nat) : flip64 (flip64 n) = n := by unfold flip64; rw [Nat.xor_assoc, Nat.xor_self, Nat.xor_zero]
theorem flip_rg (n : Nat) : rg64 (flip64 n) = rg64 n := by
  have e : (n ^^^ 2 ^ 63) % 2 ^ 63 = n % 2 ^ 63 := by rw [Nat.xor_mod_two_pow, Nat.mod_self, Nat.xor_zero]
  exact e
theorem dn_gt (n : Nat) (hn : n < 18446744073709551616) (h : nan64 n = false) : (FloatKind.f64.format.order (flip64 n) 9218868437227405311 == some .gt) = decide (n = 18442240474082181120) := by
  rw [order_max (flip64 n) (by unfold nan64 at h ⊢; rw [flip_rg]; exact h), Nat.mod_eq_of_lt (flip_lt n hn), Bool.eq_iff_iff, decide_eq_true_iff, decide_eq_true_iff]
  constructor
  · intro k
    rw [← flip_flip n, k]; decide
  · intro k
    rw [k]; decide
set_option maxRecDepth 100000 in
theorem IsInf_dn (n : Nat) (hn : n < 18446744073709551616) (h : nan64 n = false) (w : World) : Calls Try.prog 70 #[.float .f64 n, .int .i64 (-1)] w fun x w' => x = .returned (.bool (decide (n = 18442240474082181120))) ∧ w' = w := by
  have h := dn_gt n hn h
  have nr := neg_run n
  generalize decide (n = 18442240474082181120) = t at h
  go_enter Try.func70, Try.ntmps70
  go_wp2
  go_ret
  exact ⟨rfl, rfl⟩
/-- A span is right. -/
def okSp (lo hi : Nat) : Bool := okEnd lo && okEnd hi && !decide (key64 hi < key64 lo) && !decide (lo = 9218868437227405312) && !decide (hi = 18442240474082181120)
theorem okEnd_nan {n : Nat} (h : okEnd n = true) : nan64 n = false := by unfold okEnd at h; simp at h; exact h.1
abbrev spn (lo hi : Nat) : Value := .agg #[.float .f64 lo, .float .f64 hi]
set_option maxRecDepth 100000 in
set_option maxHeartbeats 1600000 in
theorem Check_any (lo hi : Nat) (hl : lo < 18446744073709551616) (hh : hi < 18446744073709551616) (w : World) : Calls Try.prog 124 #[spn lo hi] w fun x w' => x = .returned (.int .i64 (if okSp lo hi = true then 0 else 5)) ∧ Below w.heap.size w w' := by
  have I1 := isEnd_any lo hl
  have I2 := isEnd_any hi hh
  have pr : Below w.heap.size w (w.alloc (.cells #[.float .f64 lo, .float .f64 hi] 72)) := (Below.refl _ _).alloc (Nat.le_refl _) _
  unfold okSp
  cases a : okEnd lo
  · rw [a] at I1
    go_enter Try.func124, Try.ntmps124
    go_wp2_with (first
      | (go_at_call 133; with_reducible refine (I1 _).mono ?_; rintro x w1 ⟨rfl, rfl⟩)
      | fail)
    go_ret
    exact ⟨rfl, pr⟩
  cases b : okEnd hi
  · rw [a] at I1
    rw [b] at I2
    go_enter Try.func124, Try.ntmps124
    go_wp2_with (first
      | (go_at_call 133; with_reducible refine (I1 _).mono ?_; rintro x w1 ⟨rfl, rfl⟩)
      | (go_at_call 133; with_reducible refine (I2 _).mono ?_; rintro x w1 ⟨rfl, rfl⟩)
      | fail)
    go_ret
    exact ⟨rfl, pr⟩
  have U := IsInf_up lo (okEnd_nan a)
  have D := IsInf_dn hi hh (okEnd_nan b)
  have G := order_gt lo hi (okEnd_nan a) (okEnd_nan b)
  rw [show lo % 18446744073709551616 = lo from Nat.mod_eq_of_lt hl] at U
  rw [a] at I1
  rw [b] at I2
  clear a b
  generalize decide (key64 hi < key64 lo) = c at *
  generalize decide (lo = 9218868437227405312) = d at *
  generalize decide (hi = 18442240474082181120) = f at *
  cases c <;> cases d <;> cases f
  all_goals
    go_enter Try.func124, Try.ntmps124
    go_wp2_with (first
      | (go_at_call 133; with_reducible refine (I1 _).mono ?_; rintro x w1 ⟨rfl, rfl⟩)
      | (go_at_call 133; with_reducible refine (I2 _).mono ?_; rintro x w1 ⟨rfl, rfl⟩)
      | (go_at_call 70; with_reducible refine (U _).mono ?_; rintro x w1 ⟨rfl, rfl⟩)
      | (go_at_call 70; with_reducible refine (D _).mono ?_; rintro x w1 ⟨rfl, rfl⟩)
      | fail)
    go_ret
    exact ⟨rfl, pr⟩
end Go.Proofs.Ytlngkonmalallaa

namespace Go.Proofs.Ytlngkonmalallaa
open Go.RowKit Tn

theorem kset {w : World} {n i : Nat} {c : Array Value} {t : TypeId} {v : Value} (h : Blk w n c t) : Blk (w.setCell ⟨n, i, none⟩ v) n (c.setIfInBounds i v) t := by
  have h' : w.heap[n]? = some (.cells c t (0, 0)) := h
  show (w.setCell ⟨n, i, none⟩ v).heap[n]? = _
  simp [World.setCell, Array.getElem?_modify, h']
theorem kset_o {w : World} {n m i : Nat} {c : Array Value} {t : TypeId} {v : Value} (h : Blk w n c t) (hn : n ≠ m) : Blk (w.setCell ⟨m, i, none⟩ v) n c t := h.wr ((Wr.refl m i 1 w).setCell i (by omega) v) hn
theorem pset {w W : World} {m i : Nat} {v : Value} (h : Below w.heap.size w W) (hm : w.heap.size ≤ m) : Below w.heap.size w (W.setCell ⟨m, i, none⟩ v) := h.setCell (p := ⟨m, i, none⟩) hm v
theorem run_store_f (P : Program) (w : World) (a : Addr) (k : FloatKind) (n : Nat) (m : Mode) : (store a (.float k n) m).run P w = stored P w a (.float k n) m := run_store P w a _ m rfl
set_option maxRecDepth 100000 in
set_option maxHeartbeats 1600000 in
theorem check_first (B : Nat) (a1 a2 b1 b2 : Nat) (w : World) (K : Blk w B #[.float .f64 a1, .float .f64 a2, .float .f64 b1, .float .f64 b2] 72)
    (C1 : ∀ w, Calls Try.prog 124 #[spn a1 a2] w fun x w' => x = .returned (.int .i64 5) ∧ Below w.heap.size w w') :
    Calls Try.prog 87 #[.slice (some ⟨B, 0, none⟩) 2 2] w fun x w' => x = .returned (.int .i64 5) ∧ Below w.heap.size w w' := by
  go_enter Try.func87, Try.ntmps87
  go_wp2_with fail
  have e0 : w.cell? ⟨B, 0, none⟩ = some (.float .f64 a1) := K.at 0
  have e1 : w.cell? ⟨B, 1, none⟩ = some (.float .f64 a2) := K.at 1
  have sf := fun w a n m => run_store_f Try.prog w a .f64 n m
  have pr : Below w.heap.size w (w.alloc (.cells #[.float .f64 a1, .float .f64 a2] 72)) := (Below.refl _ _).alloc (Nat.le_refl _) _
  refine wp_loop_rounds 3 ?_
  rw [rounds_succ]
  go_wp2_with (first
      | (go_at_call 124; with_reducible refine (C1 _).mono ?_; rintro x w1 ⟨rfl, b1⟩; replace pr := bel pr b1)
      | fail)
  go_ret
  exact ⟨rfl, pr⟩
set_option maxRecDepth 100000 in
set_option maxHeartbeats 1600000 in
theorem check_both (B : Nat) (a1 a2 b1 b2 : Nat) (y : Int) (hy : y = 0 ∨ y = 5) (w : World) (K : Blk w B #[.float .f64 a1, .float .f64 a2, .float .f64 b1, .float .f64 b2] 72)
    (C1 : ∀ w, Calls Try.prog 124 #[spn a1 a2] w fun x w' => x = .returned (.int .i64 0) ∧ Below w.heap.size w w')
    (C2 : ∀ w, Calls Try.prog 124 #[spn b1 b2] w fun x w' => x = .returned (.int .i64 y) ∧ Below w.heap.size w w') :
    Calls Try.prog 87 #[.slice (some ⟨B, 0, none⟩) 2 2] w fun x w' => x = .returned (.int .i64 y) ∧ Below w.heap.size w w' := by
  go_enter Try.func87, Try.ntmps87
  go_wp2_with fail
  have hb := K.lt
  have e0 : w.cell? ⟨B, 0, none⟩ = some (.float .f64 a1) := K.at 0
  have e1 : w.cell? ⟨B, 1, none⟩ = some (.float .f64 a2) := K.at 1
  have sf := fun w a n m => run_store_f Try.prog w a .f64 n m
  have pr : Below w.heap.size w (w.alloc (.cells #[.float .f64 a1, .float .f64 a2] 72)) := (Below.refl _ _).alloc (Nat.le_refl _) _
  refine wp_loop_rounds 3 ?_
  rw [rounds_succ]
  go_wp2_with (first
      | (go_at_call 124; with_reducible refine (C1 _).mono ?_; rintro x w1 ⟨rfl, b1⟩; replace pr := bel pr b1; clear b1)
      | fail)
  replace K := K.below pr hb
  clear e0 e1
  have e2 : w1.cell? ⟨B, 2, none⟩ = some (.float .f64 b1) := K.at 2
  have e3 : w1.cell? ⟨B, 3, none⟩ = some (.float .f64 b2) := K.at 3
  replace pr : Below w.heap.size w (w1.alloc (.cells #[.float .f64 b1, .float .f64 b2] 72)) := pr.alloc pr.size _
  rw [rounds_succ]
  rcases hy with rfl | rfl
  · go_wp2_with (first
      | (go_at_call 124; with_reducible refine (C2 _).mono ?_; rintro x w2 ⟨rfl, b1⟩; replace pr := bel pr b1; clear b1)
      | fail)
    rw [rounds_succ]
    go_wp2_with fail
    go_ret
    exact ⟨rfl, pr⟩
  · go_wp2_with (first
      | (go_at_call 124; with_reducible refine (C2 _).mono ?_; rintro x w2 ⟨rfl, b1⟩; replace pr := bel pr b1; clear b1)
      | fail)
    go_ret
    exact ⟨rfl, pr⟩
/-- check of two spans. -/
theorem check_any (B : Nat) (a1 a2 b1 b2 : Nat) (h1 : a1 < 18446744073709551616) (h2 : a2 < 18446744073709551616) (h3 : b1 < 18446744073709551616) (h4 : b2 < 18446744073709551616) (w : World) (K : Blk w B #[.float .f64 a1, .float .f64 a2, .float .f64 b1, .float .f64 b2] 72) :
    Calls Try.prog 87 #[.slice (some ⟨B, 0, none⟩) 2 2] w fun x w' => x = .returned (.int .i64 (if (okSp a1 a2 && okSp b1 b2) = true then 0 else 5)) ∧ Below w.heap.size w w' := by
  have C1 := Check_any a1 a2 h1 h2
  have C2 := Check_any b1 b2 h3 h4
  cases a : okSp a1 a2
  · rw [a] at C1
    exact check_first B a1 a2 b1 b2 w K C1
  · rw [a] at C1
    rw [Bool.true_and]
    exact check_both B a1 a2 b1 b2 _ (by split <;> simp) w K C1 C2
end Go.Proofs.Ytlngkonmalallaa
