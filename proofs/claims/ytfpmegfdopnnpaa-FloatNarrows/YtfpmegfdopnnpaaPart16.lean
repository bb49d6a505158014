import Derived.Test.YtfpmegfdopnnpaaPart12
import Derived.Test.YtfpmegfdopnnpaaPart15
import Derived.Test.YtfpmegfdopnnpaaPart14
import Derived.Test.YtfpmegfdopnnpaaPart09
import Derived.Laws.Shifts

namespace Go.Proofs.Ytfpmegfdopnnpaa.L
open Go.RowKit Tl

/-- A fraction of both rows is m times 2 to the a by 2 to the b. -/
structure NumOf (ns ds : List Int) (m : Int) (a b : Nat) : Prop where
  eq : val ns * 2 ^ b = val ds * (m * 2 ^ a)
  l1 : ns.length ≤ 100
  l2 : ds.length ≤ 100
  n0 : 0 < val ns
  d0 : 0 < val ds
theorem num_core {x y ns ds : List Int} {G : Int} (hx : Wd x) (hy : Wd y) (hn : Wd ns) (hd : Wd ds) (nn : Nm ns) (nd : Nm ds) (vN : val ns * G = val x) (vD : val ds * G = val y) (x0 : 0 < val x) (y0 : 0 < val y) (G0 : 0 ≤ G) :
    0 < G ∧ 0 < val ns ∧ 0 < val ds ∧ ns.length ≤ x.length ∧ ds.length ≤ y.length := by
  have n0 := val_nonneg hn
  have d0 := val_nonneg hd
  have g1 : 0 < G := by
    by_cases c : 0 < G
    · exact c
    · have : G = 0 := by omega
      rw [this] at vN; simp at vN; omega
  have n1 : 0 < val ns := by
    by_cases c : 0 < val ns
    · exact c
    · have : val ns = 0 := by omega
      rw [this] at vN; simp at vN; omega
  have d1 : 0 < val ds := by
    by_cases c : 0 < val ds
    · exact c
    · have : val ds = 0 := by omega
      rw [this] at vD; simp at vD; omega
  have e1 := Int.mul_le_mul_of_nonneg_left (show 1 ≤ G by omega) n0
  have e2 := Int.mul_le_mul_of_nonneg_left (show 1 ≤ G by omega) d0
  exact ⟨g1, n1, d1, len_mono hx hn nn (by omega), len_mono hy hd nd (by omega)⟩
theorem num_pos {ms za ns ds : List Int} {T : Nat} {m G : Int} (_hm : Wd ms) (ha : Wd za) (hn : Wd ns) (hd : Wd ds) (nn : Nm ns) (nd : Nm ds) (vm : val ms = m) (va : val za = val ms * 2 ^ T) (vN : val ns * G = val za) (vD : val ds * G = val [1]) (la : za.length ≤ 100) (m0 : 0 < m) (G0 : 0 ≤ G) : NumOf ns ds m T 0 := by
  rw [vm] at va
  have p := Int.mul_pos m0 (two_pow_pos T)
  obtain ⟨g, n1, d1, l1, l2⟩ := num_core ha h1_wd hn hd nn nd vN vD (by omega) (by rw [val_one]; decide) G0
  rw [val_one] at vD
  refine ⟨?_, by omega, by simp at l2; omega, n1, d1⟩
  rw [Int.pow_zero, Int.mul_one, ← va, ← vN]
  have : val ds * (val ns * G) = val ns * (val ds * G) := by grind
  rw [this, vD, Int.mul_one]
theorem num_neg {ms za ns ds : List Int} {T : Nat} {m G : Int} (hm : Wd ms) (ha : Wd za) (hn : Wd ns) (hd : Wd ds) (nn : Nm ns) (nd : Nm ds) (vm : val ms = m) (va : val za = val [1] * 2 ^ T) (vN : val ns * G = val ms) (vD : val ds * G = val za) (la : za.length ≤ 100) (lm : ms.length ≤ 3) (m0 : 0 < m) (G0 : 0 ≤ G) : NumOf ns ds m 0 T := by
  rw [val_one, Int.one_mul] at va
  have p := two_pow_pos T
  obtain ⟨g, n1, d1, l1, l2⟩ := num_core hm ha hn hd nn nd vN vD (by omega) (by omega) G0
  refine ⟨?_, by omega, by omega, n1, d1⟩
  rw [Int.pow_zero, Int.mul_one, ← va, ← vm, ← vN, ← vD]; grind
set_option maxHeartbeats 6400000 in
set_option maxRecDepth 100000 in
theorem Number_pos (P Lo Hi Fr b k m : Int) (g : Bool) (T : Nat) (S : ∀ w, Calls Try.prog 11 #[.agg #[.int .i64 P, .int .i64 Lo, .int .i64 Hi, .int .i64 Fr], .int .u64 b] w fun e w' => e = .returned (.agg #[.int .i64 k, .bool g, .int .u64 m, .int .i64 (T : Int)]) ∧ Below w.heap.size w w') (m0 : 0 < m) (m1 : m < 18446744073709551616) (T1 : T ≤ 2100) (w : World) :
    Calls Try.prog 57 #[.agg #[.int .i64 P, .int .i64 Lo, .int .i64 Hi, .int .i64 Fr], .int .u64 b] w fun r w' => ∃ u1 u2 ns ds, r = .returned (.agg #[.bool g, u1, u2]) ∧ Rd w' u1 ns ∧ Nm ns ∧ Rd w' u2 ds ∧ Nm ds ∧ NumOf ns ds m T 0 ∧ Below w.heap.size w w' := by
  have T2 : T ≤ 1099511627776 := by omega
  have lh : 100 ≤ 274877906944 := by decide
  go_enter Try.func57, Try.ntmps57
  have KQ := Blk.new (w.alloc (.cells #[.int .i64 P, .int .i64 Lo, .int .i64 Hi, .int .i64 Fr] 31)) #[.bool false, .slice none 0 0, .slice none 0 0] 91
  have pr : Below w.heap.size w ((w.alloc (.cells #[.int .i64 P, .int .i64 Lo, .int .i64 Hi, .int .i64 Fr] 31)).alloc (.cells #[.bool false, .slice none 0 0, .slice none 0 0] 91)) := ((Below.refl _ _).alloc (Nat.le_refl _) _).alloc (by simp) _
  simp only [World.size_alloc] at KQ
  go_upto_region 4 with (first
    | (go_at_call 11; refine (S _).mono ?_; rintro r w1 ⟨rfl, b1⟩; have nq : w1.heap.size ≠ w.heap.size + 1 := (by have h9 := (KQ.below b1 KQ.lt).lt; omega); replace KQ := (KQ.below b1 KQ.lt).alloc (.cells #[.int .i64 k, .bool g, .int .u64 m, .int .i64 (T : Int)] 25); replace pr := bel pr b1; replace pr := pr.alloc pr.size (.cells #[.int .i64 k, .bool g, .int .u64 m, .int .i64 (T : Int)] 25); clear b1; have K1 := Blk.new w1 #[.int .i64 k, .bool g, .int .u64 m, .int .i64 (T : Int)] 25; have q2 : (w1.alloc (.cells #[.int .i64 k, .bool g, .int .u64 m, .int .i64 (T : Int)] 25)).cell? ⟨w1.heap.size, 2, none⟩ = some (.int .u64 m) := K1.at 2)
    | (go_at_call 91; (refine (NatOf64_any m _ (by omega) m1).mono ?_); (rintro r w2 ⟨u, ms, rfl, hu, num, vm', b2⟩; have lms : ms.length ≤ 3 := nm_len64 hu.1 num (by omega); have vm : Hid (val ms = m) := vm'; clear vm'; have KQx := KQ.below b2 KQ.lt; have Kx := K1.below b2 K1.lt; have prx := bel pr b2; clear b2 KQ K1 pr q2; have q1x : w2.cell? ⟨w1.heap.size, 1, none⟩ = some (.bool g) := Kx.at 1; have q3x : w2.cell? ⟨w1.heap.size, 3, none⟩ = some (.int .i64 (T : Int)) := Kx.at 3))
    | fail)
  have pm : 0 < ms.length := by
    by_cases c : 0 < ms.length
    · exact c
    · have vm := vm.out
      have : ms = [] := List.eq_nil_of_length_eq_zero (by omega)
      rw [this] at vm; simp [val] at vm; omega
  have lms2 : ms.length ≤ 549755813888 := by omega
  go_region_held3 (fun x => x.cell? ⟨w1.heap.size, 1, none⟩ = some (.bool g) ∧ x.cell? ⟨w1.heap.size, 3, none⟩ = some (.int .i64 (T : Int))) (first | ((try dsimp only); (refine ⟨?_, ?_⟩); (repeat (first | with_reducible exact q1z | with_reducible exact q1y | with_reducible exact q1x | with_reducible refine cell_drew ?_ | with_reducible refine cell_alloc ?_)); (repeat (first | with_reducible exact q3z | with_reducible exact q3y | with_reducible exact q3x | with_reducible refine cell_drew ?_ | with_reducible refine cell_alloc ?_)); done) | exact ⟨set3_other nq q1z, set3_other nq q3z⟩ | go_keep) (first
      | (go_at_call 68; ((with_reducible refine (Shl_any _ ms T _ ?hrd lms2 T2).mono ?_)); (case hrd => exact (by repeat (first | with_reducible exact hu | with_reducible refine rd_drew ?_ | with_reducible refine rd_alloc ?_))); (rintro x w5 ⟨u5, za, rfl, hu5, nu5, vu5, bu⟩; have q1y : w5.cell? ⟨w1.heap.size, 1, none⟩ = some (.bool g) := keep_cell bu (by repeat (first | with_reducible exact q1x | with_reducible refine cell_drew ?_ | with_reducible refine cell_alloc ?_)); have q3y : w5.cell? ⟨w1.heap.size, 3, none⟩ = some (.int .i64 (T : Int)) := keep_cell bu (by repeat (first | with_reducible exact q3x | with_reducible refine cell_drew ?_ | with_reducible refine cell_alloc ?_)); have Ky : Blk w5 w1.heap.size #[.int .i64 k, .bool g, .int .u64 m, .int .i64 (T : Int)] 25 := blk_keep bu (by repeat (first | with_reducible exact Kx | with_reducible refine blk_drew ?_ | with_reducible refine Blk.alloc ?_ _)); have KQy : Blk w5 (w.heap.size + 1) #[.bool false, .slice none 0 0, .slice none 0 0] 91 := blk_keep bu (by repeat (first | with_reducible exact KQx | with_reducible refine blk_drew ?_ | with_reducible refine Blk.alloc ?_ _)); have pry : Below w.heap.size w w5 := bel (by repeat (first | with_reducible exact prx | with_reducible refine bel_drw ?_ | with_reducible refine bel_alloc ?_)) bu))
      | (go_at_call 67; have la : za.length ≤ 100 := (by have h9 := shl_len2 hu.1 hu5.1 nu5 vu5; omega); have pa : 0 < za.length := shl_pos pm num hu.1 vu5; ((with_reducible refine (Make_any g _ _ za [1] 100 _ ?hr1 ?hr2 nu5 nm_one la (by decide) lh pa).mono ?_)); (case hr1 => exact (by repeat (first | with_reducible exact hu5 | with_reducible refine rd_drew ?_ | with_reducible refine rd_alloc ?_))); (case hr2 => exact rd_one (by repeat (first | ((with_reducible refine cell_at ?_); (first | rfl | (simp; done))) | with_reducible refine cell_drew ?_ | with_reducible refine cell_alloc ?_ | with_reducible refine keep_cell bu ?_)) (by decide) (by decide)); (rintro x w7 ⟨u7, u8, ns, ds, rfl, hN, nN, hD, nD, vN, vD, b7⟩; have q1z : w7.cell? ⟨w1.heap.size, 1, none⟩ = some (.bool g) := keep_cell b7 (by repeat (first | with_reducible exact q1y | with_reducible refine cell_drew ?_ | with_reducible refine cell_alloc ?_)); have q3z : w7.cell? ⟨w1.heap.size, 3, none⟩ = some (.int .i64 (T : Int)) := keep_cell b7 (by repeat (first | with_reducible exact q3y | with_reducible refine cell_drew ?_ | with_reducible refine cell_alloc ?_)); have Kz : Blk w7 w1.heap.size #[.int .i64 k, .bool g, .int .u64 m, .int .i64 (T : Int)] 25 := blk_keep b7 (by repeat (first | with_reducible exact Ky | with_reducible refine blk_drew ?_ | with_reducible refine Blk.alloc ?_ _)); have KQz : Blk w7 (w.heap.size + 1) #[.bool false, .slice none 0 0, .slice none 0 0] 91 := blk_keep b7 (by repeat (first | with_reducible exact KQy | with_reducible refine blk_drew ?_ | with_reducible refine Blk.alloc ?_ _)); have prz : Below w.heap.size w w7 := bel (by repeat (first | with_reducible exact pry | with_reducible refine bel_drw ?_ | with_reducible refine bel_alloc ?_)) b7; obtain ⟨a7, c7, rfl⟩ : ∃ a c, u7 = .slice a ns.length c := (by obtain ⟨_, a, c, e, _⟩ := hN; exact ⟨a, c, e⟩); obtain ⟨a8, c8, rfl⟩ : ∃ a c, u8 = .slice a ds.length c := (by obtain ⟨_, a, c, e, _⟩ := hD; exact ⟨a, c, e⟩); have kq0 : w7.cell? ⟨w.heap.size + 1, 0, none⟩ = some (.bool false) := KQz.at 0; have kq1 : w7.cell? ⟨w.heap.size + 1, 1, none⟩ = some (.slice none 0 0) := KQz.at 1; have kq2 : w7.cell? ⟨w.heap.size + 1, 2, none⟩ = some (.slice none 0 0) := KQz.at 2; have kf0 := KQz.free 0; have kf1 := KQz.free 1; have kf2 := KQz.free 2))
      | fail)
  all_goals
    have GF := num_pos hu.1 hu5.1 hN.1 hD.1 nN nD vm.out vu5 vN vD la m0 (Int.natCast_nonneg _)
    clear vu5 vN vD
    go_wp2_with fail
    obtain ⟨F0, F1, F2, FB⟩ := put3 (.bool g) (.slice a7 ns.length c7) (.slice a8 ds.length c8) kq0 kq1 kq2
    exact bodyPost_ret (v := .agg #[.bool g, .slice a7 ns.length c7, .slice a8 ds.length c8]) (by simp [results, Try.results57, go_sem, F0, F1, F2]) rfl ⟨_, _, ns, ds, rfl, hN.putQ KQz, nN, hD.putQ KQz, nD, GF, FB _ _ (by omega) prz⟩
set_option maxHeartbeats 6400000 in
set_option maxRecDepth 100000 in
theorem Number_neg (P Lo Hi Fr b k m E : Int) (g : Bool) (T : Nat) (S : ∀ w, Calls Try.prog 11 #[.agg #[.int .i64 P, .int .i64 Lo, .int .i64 Hi, .int .i64 Fr], .int .u64 b] w fun e w' => e = .returned (.agg #[.int .i64 k, .bool g, .int .u64 m, .int .i64 E]) ∧ Below w.heap.size w w') (m0 : 0 < m) (m1 : m < 18446744073709551616) (hE : -E = T) (T0 : 0 < T) (T1 : T ≤ 2100) (w : World) :
    Calls Try.prog 57 #[.agg #[.int .i64 P, .int .i64 Lo, .int .i64 Hi, .int .i64 Fr], .int .u64 b] w fun r w' => ∃ u1 u2 ns ds, r = .returned (.agg #[.bool g, u1, u2]) ∧ Rd w' u1 ns ∧ Nm ns ∧ Rd w' u2 ds ∧ Nm ds ∧ NumOf ns ds m 0 T ∧ Below w.heap.size w w' := by
  have hw0 : ¬ (0 : Int) ≤ E := by omega
  have hw1 : IntKind.i64.wrap (-E) = (T : Int) := by rw [hE]; exact wrap_self _ (by omega) (by omega)
  clear hE
  have T2 : T ≤ 1099511627776 := by omega
  have lh : 100 ≤ 274877906944 := by decide
  go_enter Try.func57, Try.ntmps57
  have KQ := Blk.new (w.alloc (.cells #[.int .i64 P, .int .i64 Lo, .int .i64 Hi, .int .i64 Fr] 31)) #[.bool false, .slice none 0 0, .slice none 0 0] 91
  have pr : Below w.heap.size w ((w.alloc (.cells #[.int .i64 P, .int .i64 Lo, .int .i64 Hi, .int .i64 Fr] 31)).alloc (.cells #[.bool false, .slice none 0 0, .slice none 0 0] 91)) := ((Below.refl _ _).alloc (Nat.le_refl _) _).alloc (by simp) _
  simp only [World.size_alloc] at KQ
  go_upto_region 5 with (first
    | (go_at_call 11; refine (S _).mono ?_; rintro r w1 ⟨rfl, b1⟩; have nq : w1.heap.size ≠ w.heap.size + 1 := (by have h9 := (KQ.below b1 KQ.lt).lt; omega); replace KQ := (KQ.below b1 KQ.lt).alloc (.cells #[.int .i64 k, .bool g, .int .u64 m, .int .i64 E] 25); replace pr := bel pr b1; replace pr := pr.alloc pr.size (.cells #[.int .i64 k, .bool g, .int .u64 m, .int .i64 E] 25); clear b1; have K1 := Blk.new w1 #[.int .i64 k, .bool g, .int .u64 m, .int .i64 E] 25; have q2 : (w1.alloc (.cells #[.int .i64 k, .bool g, .int .u64 m, .int .i64 E] 25)).cell? ⟨w1.heap.size, 2, none⟩ = some (.int .u64 m) := K1.at 2)
    | (go_at_call 91; (refine (NatOf64_any m _ (by omega) m1).mono ?_); (rintro r w2 ⟨u, ms, rfl, hu, num, vm', b2⟩; have lms : ms.length ≤ 3 := nm_len64 hu.1 num (by omega); have vm : Hid (val ms = m) := vm'; clear vm'; have KQx := KQ.below b2 KQ.lt; have Kx := K1.below b2 K1.lt; have prx := bel pr b2; clear b2 KQ K1 pr q2; have q1x : w2.cell? ⟨w1.heap.size, 1, none⟩ = some (.bool g) := Kx.at 1; have q3x : w2.cell? ⟨w1.heap.size, 3, none⟩ = some (.int .i64 E) := Kx.at 3))
    | fail)
  have pm : 0 < ms.length := by
    by_cases c : 0 < ms.length
    · exact c
    · have vm := vm.out
      have : ms = [] := List.eq_nil_of_length_eq_zero (by omega)
      rw [this] at vm; simp [val] at vm; omega
  go_region_held3 (fun x => x.cell? ⟨w1.heap.size, 1, none⟩ = some (.bool g) ∧ x.cell? ⟨w1.heap.size, 3, none⟩ = some (.int .i64 E)) (first | ((try dsimp only); (refine ⟨?_, ?_⟩); (repeat (first | with_reducible exact q1z | with_reducible exact q1y | with_reducible exact q1x | with_reducible refine cell_drew ?_ | with_reducible refine cell_alloc ?_)); (repeat (first | with_reducible exact q3z | with_reducible exact q3y | with_reducible exact q3x | with_reducible refine cell_drew ?_ | with_reducible refine cell_alloc ?_)); done) | exact ⟨set3_other nq q1z, set3_other nq q3z⟩ | go_keep) (first
      | (go_at_call 68; ((with_reducible refine (Shl_any _ [1] T _ ?hrd one_len T2).mono ?_)); (case hrd => exact rd_one (by repeat (first | ((with_reducible refine cell_at ?_); (first | rfl | (simp; done))) | with_reducible refine cell_drew ?_ | with_reducible refine cell_alloc ?_)) (by decide) (by decide)); (rintro x w5 ⟨u5, za, rfl, hu5, nu5, vu5, bu⟩; have hu6 : Rd w5 u ms := Rd.grow (by repeat (first | with_reducible exact hu | with_reducible refine rd_drew ?_ | with_reducible refine rd_alloc ?_)) bu; have q1y : w5.cell? ⟨w1.heap.size, 1, none⟩ = some (.bool g) := keep_cell bu (by repeat (first | with_reducible exact q1x | with_reducible refine cell_drew ?_ | with_reducible refine cell_alloc ?_)); have q3y : w5.cell? ⟨w1.heap.size, 3, none⟩ = some (.int .i64 E) := keep_cell bu (by repeat (first | with_reducible exact q3x | with_reducible refine cell_drew ?_ | with_reducible refine cell_alloc ?_)); have Ky : Blk w5 w1.heap.size #[.int .i64 k, .bool g, .int .u64 m, .int .i64 E] 25 := blk_keep bu (by repeat (first | with_reducible exact Kx | with_reducible refine blk_drew ?_ | with_reducible refine Blk.alloc ?_ _)); have KQy : Blk w5 (w.heap.size + 1) #[.bool false, .slice none 0 0, .slice none 0 0] 91 := blk_keep bu (by repeat (first | with_reducible exact KQx | with_reducible refine blk_drew ?_ | with_reducible refine Blk.alloc ?_ _)); have pry : Below w.heap.size w w5 := bel (by repeat (first | with_reducible exact prx | with_reducible refine bel_drw ?_ | with_reducible refine bel_alloc ?_)) bu))
      | (go_at_call 67; have la : za.length ≤ 100 := (by have h9 := shl_len2 h1_wd hu5.1 nu5 vu5; simp at h9; omega); ((with_reducible refine (Make_any g _ _ ms za 100 _ ?hr1 ?hr2 num nu5 (by omega) la lh pm).mono ?_)); (case hr1 => exact (by repeat (first | with_reducible exact hu6 | with_reducible refine rd_drew ?_ | with_reducible refine rd_alloc ?_))); (case hr2 => exact (by repeat (first | with_reducible exact hu5 | with_reducible refine rd_drew ?_ | with_reducible refine rd_alloc ?_))); (rintro x w7 ⟨u7, u8, ns, ds, rfl, hN, nN, hD, nD, vN, vD, b7⟩; have q1z : w7.cell? ⟨w1.heap.size, 1, none⟩ = some (.bool g) := keep_cell b7 (by repeat (first | with_reducible exact q1y | with_reducible refine cell_drew ?_ | with_reducible refine cell_alloc ?_)); have q3z : w7.cell? ⟨w1.heap.size, 3, none⟩ = some (.int .i64 E) := keep_cell b7 (by repeat (first | with_reducible exact q3y | with_reducible refine cell_drew ?_ | with_reducible refine cell_alloc ?_)); have Kz : Blk w7 w1.heap.size #[.int .i64 k, .bool g, .int .u64 m, .int .i64 E] 25 := blk_keep b7 (by repeat (first | with_reducible exact Ky | with_reducible refine blk_drew ?_ | with_reducible refine Blk.alloc ?_ _)); have KQz : Blk w7 (w.heap.size + 1) #[.bool false, .slice none 0 0, .slice none 0 0] 91 := blk_keep b7 (by repeat (first | with_reducible exact KQy | with_reducible refine blk_drew ?_ | with_reducible refine Blk.alloc ?_ _)); have prz : Below w.heap.size w w7 := bel (by repeat (first | with_reducible exact pry | with_reducible refine bel_drw ?_ | with_reducible refine bel_alloc ?_)) b7; obtain ⟨a7, c7, rfl⟩ : ∃ a c, u7 = .slice a ns.length c := (by obtain ⟨_, a, c, e, _⟩ := hN; exact ⟨a, c, e⟩); obtain ⟨a8, c8, rfl⟩ : ∃ a c, u8 = .slice a ds.length c := (by obtain ⟨_, a, c, e, _⟩ := hD; exact ⟨a, c, e⟩); have kq0 : w7.cell? ⟨w.heap.size + 1, 0, none⟩ = some (.bool false) := KQz.at 0; have kq1 : w7.cell? ⟨w.heap.size + 1, 1, none⟩ = some (.slice none 0 0) := KQz.at 1; have kq2 : w7.cell? ⟨w.heap.size + 1, 2, none⟩ = some (.slice none 0 0) := KQz.at 2; have kf0 := KQz.free 0; have kf1 := KQz.free 1; have kf2 := KQz.free 2))
      | fail)
  all_goals
    have GF := num_neg hu.1 hu5.1 hN.1 hD.1 nN nD vm.out vu5 vN vD la lms m0 (Int.natCast_nonneg _)
    clear vu5 vN vD
    go_wp2_with fail
    obtain ⟨F0, F1, F2, FB⟩ := put3 (.bool g) (.slice a7 ns.length c7) (.slice a8 ds.length c8) kq0 kq1 kq2
    exact bodyPost_ret (v := .agg #[.bool g, .slice a7 ns.length c7, .slice a8 ds.length c8]) (by simp [results, Try.results57, go_sem, F0, F1, F2]) rfl ⟨_, _, ns, ds, rfl, hN.putQ KQz, nN, hD.putQ KQz, nD, GF, FB _ _ (by omega) prz⟩
end Go.Proofs.Ytfpmegfdopnnpaa.L

namespace Go.Proofs.Ytfpmegfdopnnpaa.L
open Go.RowKit Tl

set_option maxHeartbeats 1600000 in
set_option maxRecDepth 100000 in
theorem Moved_w_none (P Lo Hi Fr b way m E : Int) (g : Bool) (S : ∀ w, Calls Try.prog 11 #[.agg #[.int .i64 P, .int .i64 Lo, .int .i64 Hi, .int .i64 Fr], .int .u64 b] w fun e w' => e = .returned (.agg #[.int .i64 4, .bool g, .int .u64 m, .int .i64 E]) ∧ Below w.heap.size w w') (w : World) :
    Calls Try.prog 23 #[.int .u64 b, .agg #[.int .i64 P, .int .i64 Lo, .int .i64 Hi, .int .i64 Fr], .agg #[.int .i64 53, .int .i64 (-1074), .int .i64 971, .int .i64 52], .int .i64 way] w fun r w' => r = .returned (.int .u64 9221120237041090560) ∧ Below w.heap.size w w' := by
  go_enter Try.func23, Try.ntmps23
  have K5 : Blk ((w.alloc (.cells #[.int .i64 P, .int .i64 Lo, .int .i64 Hi, .int .i64 Fr] 31)).alloc (.cells #[.int .i64 53, .int .i64 (-1074), .int .i64 971, .int .i64 52] 31)) w.heap.size #[.int .i64 P, .int .i64 Lo, .int .i64 Hi, .int .i64 Fr] 31 := (Blk.new w _ _).alloc _
  have K6 := Blk.new (w.alloc (.cells #[.int .i64 P, .int .i64 Lo, .int .i64 Hi, .int .i64 Fr] 31)) #[.int .i64 53, .int .i64 (-1074), .int .i64 971, .int .i64 52] 31
  have pr : Below w.heap.size w ((w.alloc (.cells #[.int .i64 P, .int .i64 Lo, .int .i64 Hi, .int .i64 Fr] 31)).alloc (.cells #[.int .i64 53, .int .i64 (-1074), .int .i64 971, .int .i64 52] 31)) := ((Below.refl _ _).alloc (Nat.le_refl _) _).alloc (by simp) _
  simp only [World.size_alloc] at K6
  go_wp2_with (first
    | (go_at_call 11; refine (S _).mono ?_; rintro r w1 ⟨rfl, b1⟩; replace K5 := (K5.below b1 K5.lt).alloc (.cells #[.int .i64 4, .bool g, .int .u64 m, .int .i64 E] 25); replace K6 := (K6.below b1 K6.lt).alloc (.cells #[.int .i64 4, .bool g, .int .u64 m, .int .i64 E] 25); replace pr := bel pr b1; replace pr := pr.alloc pr.size (.cells #[.int .i64 4, .bool g, .int .u64 m, .int .i64 E] 25); clear b1; have KP := Blk.new w1 #[.int .i64 4, .bool g, .int .u64 m, .int .i64 E] 25; have a0 : (w1.alloc (.cells #[.int .i64 4, .bool g, .int .u64 m, .int .i64 E] 25)).cell? ⟨w.heap.size, 0, none⟩ = some (.int .i64 P) := K5.at 0; have a1 : (w1.alloc (.cells #[.int .i64 4, .bool g, .int .u64 m, .int .i64 E] 25)).cell? ⟨w.heap.size, 1, none⟩ = some (.int .i64 Lo) := K5.at 1; have a2 : (w1.alloc (.cells #[.int .i64 4, .bool g, .int .u64 m, .int .i64 E] 25)).cell? ⟨w.heap.size, 2, none⟩ = some (.int .i64 Hi) := K5.at 2; have a3 : (w1.alloc (.cells #[.int .i64 4, .bool g, .int .u64 m, .int .i64 E] 25)).cell? ⟨w.heap.size, 3, none⟩ = some (.int .i64 Fr) := K5.at 3; have c0 : (w1.alloc (.cells #[.int .i64 4, .bool g, .int .u64 m, .int .i64 E] 25)).cell? ⟨w.heap.size + 1, 0, none⟩ = some (.int .i64 53) := K6.at 0; have c1 : (w1.alloc (.cells #[.int .i64 4, .bool g, .int .u64 m, .int .i64 E] 25)).cell? ⟨w.heap.size + 1, 1, none⟩ = some (.int .i64 (-1074)) := K6.at 1; have c2 : (w1.alloc (.cells #[.int .i64 4, .bool g, .int .u64 m, .int .i64 E] 25)).cell? ⟨w.heap.size + 1, 2, none⟩ = some (.int .i64 971) := K6.at 2; have c3 : (w1.alloc (.cells #[.int .i64 4, .bool g, .int .u64 m, .int .i64 E] 25)).cell? ⟨w.heap.size + 1, 3, none⟩ = some (.int .i64 52) := K6.at 3; have d0 : (w1.alloc (.cells #[.int .i64 4, .bool g, .int .u64 m, .int .i64 E] 25)).cell? ⟨w1.heap.size, 0, none⟩ = some (.int .i64 4) := KP.at 0; have d1 : (w1.alloc (.cells #[.int .i64 4, .bool g, .int .u64 m, .int .i64 E] 25)).cell? ⟨w1.heap.size, 1, none⟩ = some (.bool g) := KP.at 1)
    | (go_at_call 48; (refine (None_w _).mono ?_); rintro r w2 ⟨rfl, b2⟩; replace pr := bel pr b2)
    | fail)
  go_ret
  exact ⟨rfl, pr⟩
set_option maxHeartbeats 1600000 in
set_option maxRecDepth 100000 in
theorem Moved_w_inf (P Lo Hi Fr b way m E : Int) (g : Bool) (S : ∀ w, Calls Try.prog 11 #[.agg #[.int .i64 P, .int .i64 Lo, .int .i64 Hi, .int .i64 Fr], .int .u64 b] w fun e w' => e = .returned (.agg #[.int .i64 3, .bool g, .int .u64 m, .int .i64 E]) ∧ Below w.heap.size w w') (w : World) :
    Calls Try.prog 23 #[.int .u64 b, .agg #[.int .i64 P, .int .i64 Lo, .int .i64 Hi, .int .i64 Fr], .agg #[.int .i64 53, .int .i64 (-1074), .int .i64 971, .int .i64 52], .int .i64 way] w fun r w' => r = .returned (.int .u64 (sgnW g 9218868437227405312)) ∧ Below w.heap.size w w' := by
  go_enter Try.func23, Try.ntmps23
  have K5 : Blk ((w.alloc (.cells #[.int .i64 P, .int .i64 Lo, .int .i64 Hi, .int .i64 Fr] 31)).alloc (.cells #[.int .i64 53, .int .i64 (-1074), .int .i64 971, .int .i64 52] 31)) w.heap.size #[.int .i64 P, .int .i64 Lo, .int .i64 Hi, .int .i64 Fr] 31 := (Blk.new w _ _).alloc _
  have K6 := Blk.new (w.alloc (.cells #[.int .i64 P, .int .i64 Lo, .int .i64 Hi, .int .i64 Fr] 31)) #[.int .i64 53, .int .i64 (-1074), .int .i64 971, .int .i64 52] 31
  have pr : Below w.heap.size w ((w.alloc (.cells #[.int .i64 P, .int .i64 Lo, .int .i64 Hi, .int .i64 Fr] 31)).alloc (.cells #[.int .i64 53, .int .i64 (-1074), .int .i64 971, .int .i64 52] 31)) := ((Below.refl _ _).alloc (Nat.le_refl _) _).alloc (by simp) _
  simp only [World.size_alloc] at K6
  go_wp2_with (first
    | (go_at_call 11; refine (S _).mono ?_; rintro r w1 ⟨rfl, b1⟩; replace K5 := (K5.below b1 K5.lt).alloc (.cells #[.int .i64 3, .bool g, .int .u64 m, .int .i64 E] 25); replace K6 := (K6.below b1 K6.lt).alloc (.cells #[.int .i64 3, .bool g, .int .u64 m, .int .i64 E] 25); replace pr := bel pr b1; replace pr := pr.alloc pr.size (.cells #[.int .i64 3, .bool g, .int .u64 m, .int .i64 E] 25); clear b1; have KP := Blk.new w1 #[.int .i64 3, .bool g, .int .u64 m, .int .i64 E] 25; have a0 : (w1.alloc (.cells #[.int .i64 3, .bool g, .int .u64 m, .int .i64 E] 25)).cell? ⟨w.heap.size, 0, none⟩ = some (.int .i64 P) := K5.at 0; have a1 : (w1.alloc (.cells #[.int .i64 3, .bool g, .int .u64 m, .int .i64 E] 25)).cell? ⟨w.heap.size, 1, none⟩ = some (.int .i64 Lo) := K5.at 1; have a2 : (w1.alloc (.cells #[.int .i64 3, .bool g, .int .u64 m, .int .i64 E] 25)).cell? ⟨w.heap.size, 2, none⟩ = some (.int .i64 Hi) := K5.at 2; have a3 : (w1.alloc (.cells #[.int .i64 3, .bool g, .int .u64 m, .int .i64 E] 25)).cell? ⟨w.heap.size, 3, none⟩ = some (.int .i64 Fr) := K5.at 3; have c0 : (w1.alloc (.cells #[.int .i64 3, .bool g, .int .u64 m, .int .i64 E] 25)).cell? ⟨w.heap.size + 1, 0, none⟩ = some (.int .i64 53) := K6.at 0; have c1 : (w1.alloc (.cells #[.int .i64 3, .bool g, .int .u64 m, .int .i64 E] 25)).cell? ⟨w.heap.size + 1, 1, none⟩ = some (.int .i64 (-1074)) := K6.at 1; have c2 : (w1.alloc (.cells #[.int .i64 3, .bool g, .int .u64 m, .int .i64 E] 25)).cell? ⟨w.heap.size + 1, 2, none⟩ = some (.int .i64 971) := K6.at 2; have c3 : (w1.alloc (.cells #[.int .i64 3, .bool g, .int .u64 m, .int .i64 E] 25)).cell? ⟨w.heap.size + 1, 3, none⟩ = some (.int .i64 52) := K6.at 3; have d0 : (w1.alloc (.cells #[.int .i64 3, .bool g, .int .u64 m, .int .i64 E] 25)).cell? ⟨w1.heap.size, 0, none⟩ = some (.int .i64 3) := KP.at 0; have d1 : (w1.alloc (.cells #[.int .i64 3, .bool g, .int .u64 m, .int .i64 E] 25)).cell? ⟨w1.heap.size, 1, none⟩ = some (.bool g) := KP.at 1)
    | (go_at_call 49; (refine (Infinite_w_any g _).mono ?_); rintro r w2 ⟨rfl, b2⟩; replace pr := bel pr b2)
    | fail)
  go_ret
  exact ⟨rfl, pr⟩
set_option maxHeartbeats 1600000 in
set_option maxRecDepth 100000 in
theorem Moved_w_nought (P Lo Hi Fr b way m E : Int) (g : Bool) (S : ∀ w, Calls Try.prog 11 #[.agg #[.int .i64 P, .int .i64 Lo, .int .i64 Hi, .int .i64 Fr], .int .u64 b] w fun e w' => e = .returned (.agg #[.int .i64 0, .bool g, .int .u64 m, .int .i64 E]) ∧ Below w.heap.size w w') (w : World) :
    Calls Try.prog 23 #[.int .u64 b, .agg #[.int .i64 P, .int .i64 Lo, .int .i64 Hi, .int .i64 Fr], .agg #[.int .i64 53, .int .i64 (-1074), .int .i64 971, .int .i64 52], .int .i64 way] w fun r w' => r = .returned (.int .u64 (sgnW g 0)) ∧ Below w.heap.size w w' := by
  go_enter Try.func23, Try.ntmps23
  have K5 : Blk ((w.alloc (.cells #[.int .i64 P, .int .i64 Lo, .int .i64 Hi, .int .i64 Fr] 31)).alloc (.cells #[.int .i64 53, .int .i64 (-1074), .int .i64 971, .int .i64 52] 31)) w.heap.size #[.int .i64 P, .int .i64 Lo, .int .i64 Hi, .int .i64 Fr] 31 := (Blk.new w _ _).alloc _
  have K6 := Blk.new (w.alloc (.cells #[.int .i64 P, .int .i64 Lo, .int .i64 Hi, .int .i64 Fr] 31)) #[.int .i64 53, .int .i64 (-1074), .int .i64 971, .int .i64 52] 31
  have pr : Below w.heap.size w ((w.alloc (.cells #[.int .i64 P, .int .i64 Lo, .int .i64 Hi, .int .i64 Fr] 31)).alloc (.cells #[.int .i64 53, .int .i64 (-1074), .int .i64 971, .int .i64 52] 31)) := ((Below.refl _ _).alloc (Nat.le_refl _) _).alloc (by simp) _
  simp only [World.size_alloc] at K6
  go_wp2_with (first
    | (go_at_call 11; refine (S _).mono ?_; rintro r w1 ⟨rfl, b1⟩; replace K5 := (K5.below b1 K5.lt).alloc (.cells #[.int .i64 0, .bool g, .int .u64 m, .int .i64 E] 25); replace K6 := (K6.below b1 K6.lt).alloc (.cells #[.int .i64 0, .bool g, .int .u64 m, .int .i64 E] 25); replace pr := bel pr b1; replace pr := pr.alloc pr.size (.cells #[.int .i64 0, .bool g, .int .u64 m, .int .i64 E] 25); clear b1; have KP := Blk.new w1 #[.int .i64 0, .bool g, .int .u64 m, .int .i64 E] 25; have a0 : (w1.alloc (.cells #[.int .i64 0, .bool g, .int .u64 m, .int .i64 E] 25)).cell? ⟨w.heap.size, 0, none⟩ = some (.int .i64 P) := K5.at 0; have a1 : (w1.alloc (.cells #[.int .i64 0, .bool g, .int .u64 m, .int .i64 E] 25)).cell? ⟨w.heap.size, 1, none⟩ = some (.int .i64 Lo) := K5.at 1; have a2 : (w1.alloc (.cells #[.int .i64 0, .bool g, .int .u64 m, .int .i64 E] 25)).cell? ⟨w.heap.size, 2, none⟩ = some (.int .i64 Hi) := K5.at 2; have a3 : (w1.alloc (.cells #[.int .i64 0, .bool g, .int .u64 m, .int .i64 E] 25)).cell? ⟨w.heap.size, 3, none⟩ = some (.int .i64 Fr) := K5.at 3; have c0 : (w1.alloc (.cells #[.int .i64 0, .bool g, .int .u64 m, .int .i64 E] 25)).cell? ⟨w.heap.size + 1, 0, none⟩ = some (.int .i64 53) := K6.at 0; have c1 : (w1.alloc (.cells #[.int .i64 0, .bool g, .int .u64 m, .int .i64 E] 25)).cell? ⟨w.heap.size + 1, 1, none⟩ = some (.int .i64 (-1074)) := K6.at 1; have c2 : (w1.alloc (.cells #[.int .i64 0, .bool g, .int .u64 m, .int .i64 E] 25)).cell? ⟨w.heap.size + 1, 2, none⟩ = some (.int .i64 971) := K6.at 2; have c3 : (w1.alloc (.cells #[.int .i64 0, .bool g, .int .u64 m, .int .i64 E] 25)).cell? ⟨w.heap.size + 1, 3, none⟩ = some (.int .i64 52) := K6.at 3; have d0 : (w1.alloc (.cells #[.int .i64 0, .bool g, .int .u64 m, .int .i64 E] 25)).cell? ⟨w1.heap.size, 0, none⟩ = some (.int .i64 0) := KP.at 0; have d1 : (w1.alloc (.cells #[.int .i64 0, .bool g, .int .u64 m, .int .i64 E] 25)).cell? ⟨w1.heap.size, 1, none⟩ = some (.bool g) := KP.at 1)
    | (go_at_call 50; (refine (signed_w_any g 0 (by decide) (by decide) _).mono ?_); rintro r w2 ⟨rfl, b2⟩; replace pr := bel pr b2)
    | fail)
  go_ret
  exact ⟨rfl, pr⟩
set_option maxHeartbeats 3200000 in
set_option maxRecDepth 100000 in
theorem Moved_w_some (k : Int) (P Lo Hi Fr b way m E : Int) (g : Bool) (x y : Nat) (S : ∀ w, Calls Try.prog 11 #[.agg #[.int .i64 P, .int .i64 Lo, .int .i64 Hi, .int .i64 Fr], .int .u64 b] w fun e w' => e = .returned (.agg #[.int .i64 k, .bool g, .int .u64 m, .int .i64 E]) ∧ Below w.heap.size w w')
    (NB : ∀ w, Calls Try.prog 57 #[.agg #[.int .i64 P, .int .i64 Lo, .int .i64 Hi, .int .i64 Fr], .int .u64 b] w fun r w' => ∃ u1 u2 ns ds, r = .returned (.agg #[.bool g, u1, u2]) ∧ Rd w' u1 ns ∧ Nm ns ∧ Rd w' u2 ds ∧ Nm ds ∧ NumOf ns ds m x y ∧ Below w.heap.size w w')
    (k4 : (k == 4) = false) (k3 : (k == 3) = false) (k0 : (k == 0) = false) (w : World) :
    Calls Try.prog 23 #[.int .u64 b, .agg #[.int .i64 P, .int .i64 Lo, .int .i64 Hi, .int .i64 Fr], .agg #[.int .i64 53, .int .i64 (-1074), .int .i64 971, .int .i64 52], .int .i64 way] w fun r w' => ∃ (ns ds : List Int) (e mm q : Int), NumOf ns ds m x y ∧ Fl (val ns) (val ds) e mm q ∧ 0 ≤ mm ∧ mm < 9007199254740992 ∧ -1074 ≤ e ∧ (e = -1074 ∨ 4503599627370496 ≤ mm) ∧ r = .returned (.int .u64 (laidW g (rnd g way mm q (val ds * 2 ^ e.toNat)) e way).1) ∧ Below w.heap.size w w' := by
  go_enter Try.func23, Try.ntmps23
  have K5 : Blk ((w.alloc (.cells #[.int .i64 P, .int .i64 Lo, .int .i64 Hi, .int .i64 Fr] 31)).alloc (.cells #[.int .i64 53, .int .i64 (-1074), .int .i64 971, .int .i64 52] 31)) w.heap.size #[.int .i64 P, .int .i64 Lo, .int .i64 Hi, .int .i64 Fr] 31 := (Blk.new w _ _).alloc _
  have K6 := Blk.new (w.alloc (.cells #[.int .i64 P, .int .i64 Lo, .int .i64 Hi, .int .i64 Fr] 31)) #[.int .i64 53, .int .i64 (-1074), .int .i64 971, .int .i64 52] 31
  have pr : Below w.heap.size w ((w.alloc (.cells #[.int .i64 P, .int .i64 Lo, .int .i64 Hi, .int .i64 Fr] 31)).alloc (.cells #[.int .i64 53, .int .i64 (-1074), .int .i64 971, .int .i64 52] 31)) := ((Below.refl _ _).alloc (Nat.le_refl _) _).alloc (by simp) _
  simp only [World.size_alloc] at K6
  go_upto_region 9 with (first
    | (go_at_call 11; refine (S _).mono ?_; rintro r w1 ⟨rfl, b1⟩; replace K5 := (K5.below b1 K5.lt).alloc (.cells #[.int .i64 k, .bool g, .int .u64 m, .int .i64 E] 25); replace K6 := (K6.below b1 K6.lt).alloc (.cells #[.int .i64 k, .bool g, .int .u64 m, .int .i64 E] 25); replace pr := bel pr b1; replace pr := pr.alloc pr.size (.cells #[.int .i64 k, .bool g, .int .u64 m, .int .i64 E] 25); clear b1; have KP := Blk.new w1 #[.int .i64 k, .bool g, .int .u64 m, .int .i64 E] 25; have a0 : (w1.alloc (.cells #[.int .i64 k, .bool g, .int .u64 m, .int .i64 E] 25)).cell? ⟨w.heap.size, 0, none⟩ = some (.int .i64 P) := K5.at 0; have a1 : (w1.alloc (.cells #[.int .i64 k, .bool g, .int .u64 m, .int .i64 E] 25)).cell? ⟨w.heap.size, 1, none⟩ = some (.int .i64 Lo) := K5.at 1; have a2 : (w1.alloc (.cells #[.int .i64 k, .bool g, .int .u64 m, .int .i64 E] 25)).cell? ⟨w.heap.size, 2, none⟩ = some (.int .i64 Hi) := K5.at 2; have a3 : (w1.alloc (.cells #[.int .i64 k, .bool g, .int .u64 m, .int .i64 E] 25)).cell? ⟨w.heap.size, 3, none⟩ = some (.int .i64 Fr) := K5.at 3; have c0 : (w1.alloc (.cells #[.int .i64 k, .bool g, .int .u64 m, .int .i64 E] 25)).cell? ⟨w.heap.size + 1, 0, none⟩ = some (.int .i64 53) := K6.at 0; have c1 : (w1.alloc (.cells #[.int .i64 k, .bool g, .int .u64 m, .int .i64 E] 25)).cell? ⟨w.heap.size + 1, 1, none⟩ = some (.int .i64 (-1074)) := K6.at 1; have c2 : (w1.alloc (.cells #[.int .i64 k, .bool g, .int .u64 m, .int .i64 E] 25)).cell? ⟨w.heap.size + 1, 2, none⟩ = some (.int .i64 971) := K6.at 2; have c3 : (w1.alloc (.cells #[.int .i64 k, .bool g, .int .u64 m, .int .i64 E] 25)).cell? ⟨w.heap.size + 1, 3, none⟩ = some (.int .i64 52) := K6.at 3; have d0 : (w1.alloc (.cells #[.int .i64 k, .bool g, .int .u64 m, .int .i64 E] 25)).cell? ⟨w1.heap.size, 0, none⟩ = some (.int .i64 k) := KP.at 0; have d1 : (w1.alloc (.cells #[.int .i64 k, .bool g, .int .u64 m, .int .i64 E] 25)).cell? ⟨w1.heap.size, 1, none⟩ = some (.bool g) := KP.at 1)
    | fail)
  generalize (w1.alloc (.cells #[.int .i64 k, .bool g, .int .u64 m, .int .i64 E] 25)) = W at *
  go_region_held3 (fun x => x.cell? ⟨w.heap.size, 0, none⟩ = some (.int .i64 P) ∧ x.cell? ⟨w.heap.size, 1, none⟩ = some (.int .i64 Lo) ∧ x.cell? ⟨w.heap.size, 2, none⟩ = some (.int .i64 Hi) ∧ x.cell? ⟨w.heap.size, 3, none⟩ = some (.int .i64 Fr) ∧ x.cell? ⟨w.heap.size + 1, 0, none⟩ = some (.int .i64 53) ∧ x.cell? ⟨w.heap.size + 1, 1, none⟩ = some (.int .i64 (-1074)) ∧ x.cell? ⟨w.heap.size + 1, 2, none⟩ = some (.int .i64 971) ∧ x.cell? ⟨w.heap.size + 1, 3, none⟩ = some (.int .i64 52)) (go_keep) (first
    | (go_at_call 57; ((with_reducible refine (NB _).mono ?_)); (rintro r w3 ⟨u1, u2, ns, ds, rfl, h1, n1, h2, n2, no, b3⟩; have l1 : ns.length ≤ 900 := (by have h9 := no.l1; omega); have l2 : ds.length ≤ 900 := (by have h9 := no.l2; omega); replace K5 := K5.below b3 K5.lt; replace K6 := K6.below b3 K6.lt; replace pr := bel pr b3; have a0 : w3.cell? ⟨w.heap.size, 0, none⟩ = some (.int .i64 P) := K5.at 0; have a1 : w3.cell? ⟨w.heap.size, 1, none⟩ = some (.int .i64 Lo) := K5.at 1; have a2 : w3.cell? ⟨w.heap.size, 2, none⟩ = some (.int .i64 Hi) := K5.at 2; have a3 : w3.cell? ⟨w.heap.size, 3, none⟩ = some (.int .i64 Fr) := K5.at 3; have c0 : w3.cell? ⟨w.heap.size + 1, 0, none⟩ = some (.int .i64 53) := K6.at 0; have c1 : w3.cell? ⟨w.heap.size + 1, 1, none⟩ = some (.int .i64 (-1074)) := K6.at 1; have c2 : w3.cell? ⟨w.heap.size + 1, 2, none⟩ = some (.int .i64 971) := K6.at 2; have c3 : w3.cell? ⟨w.heap.size + 1, 3, none⟩ = some (.int .i64 52) := K6.at 3; clear b3))
    | (go_at_call 57; ((with_reducible refine (NB _).mono ?_)); (rintro r w3 ⟨u1, u2, ns, ds, rfl, h1, n1, h2, n2, no, b3⟩; have l1 : ns.length ≤ 900 := (by have h9 := no.l1; omega); have l2 : ds.length ≤ 900 := (by have h9 := no.l2; omega); replace K5 := K5.below (below_undrew b3) K5.lt; replace K6 := K6.below (below_undrew b3) K6.lt; replace pr := bel pr (below_undrew b3); have a0 : w3.cell? ⟨w.heap.size, 0, none⟩ = some (.int .i64 P) := K5.at 0; have a1 : w3.cell? ⟨w.heap.size, 1, none⟩ = some (.int .i64 Lo) := K5.at 1; have a2 : w3.cell? ⟨w.heap.size, 2, none⟩ = some (.int .i64 Hi) := K5.at 2; have a3 : w3.cell? ⟨w.heap.size, 3, none⟩ = some (.int .i64 Fr) := K5.at 3; have c0 : w3.cell? ⟨w.heap.size + 1, 0, none⟩ = some (.int .i64 53) := K6.at 0; have c1 : w3.cell? ⟨w.heap.size + 1, 1, none⟩ = some (.int .i64 (-1074)) := K6.at 1; have c2 : w3.cell? ⟨w.heap.size + 1, 2, none⟩ = some (.int .i64 971) := K6.at 2; have c3 : w3.cell? ⟨w.heap.size + 1, 3, none⟩ = some (.int .i64 52) := K6.at 3; clear b3))
    | (go_at_call 56; ((with_reducible refine (Rounded_w_any g _ _ ns ds way _ h1 h2 n1 n2 l1 l2 no.n0 no.d0).mono ?_)); (rintro r w4 ⟨e, mm, q, fl, m0, m1, e0, st, rfl, b4⟩; replace K5 := K5.below b4 K5.lt; replace K6 := K6.below b4 K6.lt; replace pr := bel pr b4; have a0 : w4.cell? ⟨w.heap.size, 0, none⟩ = some (.int .i64 P) := K5.at 0; have a1 : w4.cell? ⟨w.heap.size, 1, none⟩ = some (.int .i64 Lo) := K5.at 1; have a2 : w4.cell? ⟨w.heap.size, 2, none⟩ = some (.int .i64 Hi) := K5.at 2; have a3 : w4.cell? ⟨w.heap.size, 3, none⟩ = some (.int .i64 Fr) := K5.at 3; have c0 : w4.cell? ⟨w.heap.size + 1, 0, none⟩ = some (.int .i64 53) := K6.at 0; have c1 : w4.cell? ⟨w.heap.size + 1, 1, none⟩ = some (.int .i64 (-1074)) := K6.at 1; have c2 : w4.cell? ⟨w.heap.size + 1, 2, none⟩ = some (.int .i64 971) := K6.at 2; have c3 : w4.cell? ⟨w.heap.size + 1, 3, none⟩ = some (.int .i64 52) := K6.at 3; clear b4))
    | (go_at_call 56; ((with_reducible refine (Rounded_w_any g _ _ ns ds way _ h1.drew h2.drew n1 n2 l1 l2 no.n0 no.d0).mono ?_)); (rintro r w4 ⟨e, mm, q, fl, m0, m1, e0, st, rfl, b4⟩; replace K5 := K5.below (below_undrew b4) K5.lt; replace K6 := K6.below (below_undrew b4) K6.lt; replace pr := bel pr (below_undrew b4); have a0 : w4.cell? ⟨w.heap.size, 0, none⟩ = some (.int .i64 P) := K5.at 0; have a1 : w4.cell? ⟨w.heap.size, 1, none⟩ = some (.int .i64 Lo) := K5.at 1; have a2 : w4.cell? ⟨w.heap.size, 2, none⟩ = some (.int .i64 Hi) := K5.at 2; have a3 : w4.cell? ⟨w.heap.size, 3, none⟩ = some (.int .i64 Fr) := K5.at 3; have c0 : w4.cell? ⟨w.heap.size + 1, 0, none⟩ = some (.int .i64 53) := K6.at 0; have c1 : w4.cell? ⟨w.heap.size + 1, 1, none⟩ = some (.int .i64 (-1074)) := K6.at 1; have c2 : w4.cell? ⟨w.heap.size + 1, 2, none⟩ = some (.int .i64 971) := K6.at 2; have c3 : w4.cell? ⟨w.heap.size + 1, 3, none⟩ = some (.int .i64 52) := K6.at 3; clear b4))
    | fail)
  go_wp2_with fail
  exact bodyPost_ret (v := .int .u64 (laidW g (rnd g way mm q (val ds * 2 ^ e.toNat)) e way).1) (by simp [results, Try.results23, go_sem]) rfl ⟨ns, ds, e, mm, q, no, fl, m0, m1, e0, st, rfl, pr⟩
set_option maxHeartbeats 1600000 in
set_option maxRecDepth 100000 in
theorem Moved_s_none (P Lo Hi Fr b way m E : Int) (g : Bool) (S : ∀ w, Calls Try.prog 11 #[.agg #[.int .i64 P, .int .i64 Lo, .int .i64 Hi, .int .i64 Fr], .int .u64 b] w fun e w' => e = .returned (.agg #[.int .i64 4, .bool g, .int .u64 m, .int .i64 E]) ∧ Below w.heap.size w w') (w : World) :
    Calls Try.prog 23 #[.int .u64 b, .agg #[.int .i64 P, .int .i64 Lo, .int .i64 Hi, .int .i64 Fr], .agg #[.int .i64 24, .int .i64 (-149), .int .i64 104, .int .i64 23], .int .i64 way] w fun r w' => r = .returned (.int .u64 2143289344) ∧ Below w.heap.size w w' := by
  go_enter Try.func23, Try.ntmps23
  have K5 : Blk ((w.alloc (.cells #[.int .i64 P, .int .i64 Lo, .int .i64 Hi, .int .i64 Fr] 31)).alloc (.cells #[.int .i64 24, .int .i64 (-149), .int .i64 104, .int .i64 23] 31)) w.heap.size #[.int .i64 P, .int .i64 Lo, .int .i64 Hi, .int .i64 Fr] 31 := (Blk.new w _ _).alloc _
  have K6 := Blk.new (w.alloc (.cells #[.int .i64 P, .int .i64 Lo, .int .i64 Hi, .int .i64 Fr] 31)) #[.int .i64 24, .int .i64 (-149), .int .i64 104, .int .i64 23] 31
  have pr : Below w.heap.size w ((w.alloc (.cells #[.int .i64 P, .int .i64 Lo, .int .i64 Hi, .int .i64 Fr] 31)).alloc (.cells #[.int .i64 24, .int .i64 (-149), .int .i64 104, .int .i64 23] 31)) := ((Below.refl _ _).alloc (Nat.le_refl _) _).alloc (by simp) _
  simp only [World.size_alloc] at K6
  go_wp2_with (first
    | (go_at_call 11; refine (S _).mono ?_; rintro r w1 ⟨rfl, b1⟩; replace K5 := (K5.below b1 K5.lt).alloc (.cells #[.int .i64 4, .bool g, .int .u64 m, .int .i64 E] 25); replace K6 := (K6.below b1 K6.lt).alloc (.cells #[.int .i64 4, .bool g, .int .u64 m, .int .i64 E] 25); replace pr := bel pr b1; replace pr := pr.alloc pr.size (.cells #[.int .i64 4, .bool g, .int .u64 m, .int .i64 E] 25); clear b1; have KP := Blk.new w1 #[.int .i64 4, .bool g, .int .u64 m, .int .i64 E] 25; have a0 : (w1.alloc (.cells #[.int .i64 4, .bool g, .int .u64 m, .int .i64 E] 25)).cell? ⟨w.heap.size, 0, none⟩ = some (.int .i64 P) := K5.at 0; have a1 : (w1.alloc (.cells #[.int .i64 4, .bool g, .int .u64 m, .int .i64 E] 25)).cell? ⟨w.heap.size, 1, none⟩ = some (.int .i64 Lo) := K5.at 1; have a2 : (w1.alloc (.cells #[.int .i64 4, .bool g, .int .u64 m, .int .i64 E] 25)).cell? ⟨w.heap.size, 2, none⟩ = some (.int .i64 Hi) := K5.at 2; have a3 : (w1.alloc (.cells #[.int .i64 4, .bool g, .int .u64 m, .int .i64 E] 25)).cell? ⟨w.heap.size, 3, none⟩ = some (.int .i64 Fr) := K5.at 3; have c0 : (w1.alloc (.cells #[.int .i64 4, .bool g, .int .u64 m, .int .i64 E] 25)).cell? ⟨w.heap.size + 1, 0, none⟩ = some (.int .i64 24) := K6.at 0; have c1 : (w1.alloc (.cells #[.int .i64 4, .bool g, .int .u64 m, .int .i64 E] 25)).cell? ⟨w.heap.size + 1, 1, none⟩ = some (.int .i64 (-149)) := K6.at 1; have c2 : (w1.alloc (.cells #[.int .i64 4, .bool g, .int .u64 m, .int .i64 E] 25)).cell? ⟨w.heap.size + 1, 2, none⟩ = some (.int .i64 104) := K6.at 2; have c3 : (w1.alloc (.cells #[.int .i64 4, .bool g, .int .u64 m, .int .i64 E] 25)).cell? ⟨w.heap.size + 1, 3, none⟩ = some (.int .i64 23) := K6.at 3; have d0 : (w1.alloc (.cells #[.int .i64 4, .bool g, .int .u64 m, .int .i64 E] 25)).cell? ⟨w1.heap.size, 0, none⟩ = some (.int .i64 4) := KP.at 0; have d1 : (w1.alloc (.cells #[.int .i64 4, .bool g, .int .u64 m, .int .i64 E] 25)).cell? ⟨w1.heap.size, 1, none⟩ = some (.bool g) := KP.at 1)
    | (go_at_call 48; (refine (None_s _).mono ?_); rintro r w2 ⟨rfl, b2⟩; replace pr := bel pr b2)
    | fail)
  go_ret
  exact ⟨rfl, pr⟩
set_option maxHeartbeats 1600000 in
set_option maxRecDepth 100000 in
theorem Moved_s_inf (P Lo Hi Fr b way m E : Int) (g : Bool) (S : ∀ w, Calls Try.prog 11 #[.agg #[.int .i64 P, .int .i64 Lo, .int .i64 Hi, .int .i64 Fr], .int .u64 b] w fun e w' => e = .returned (.agg #[.int .i64 3, .bool g, .int .u64 m, .int .i64 E]) ∧ Below w.heap.size w w') (w : World) :
    Calls Try.prog 23 #[.int .u64 b, .agg #[.int .i64 P, .int .i64 Lo, .int .i64 Hi, .int .i64 Fr], .agg #[.int .i64 24, .int .i64 (-149), .int .i64 104, .int .i64 23], .int .i64 way] w fun r w' => r = .returned (.int .u64 (sgnS g 2139095040)) ∧ Below w.heap.size w w' := by
  go_enter Try.func23, Try.ntmps23
  have K5 : Blk ((w.alloc (.cells #[.int .i64 P, .int .i64 Lo, .int .i64 Hi, .int .i64 Fr] 31)).alloc (.cells #[.int .i64 24, .int .i64 (-149), .int .i64 104, .int .i64 23] 31)) w.heap.size #[.int .i64 P, .int .i64 Lo, .int .i64 Hi, .int .i64 Fr] 31 := (Blk.new w _ _).alloc _
  have K6 := Blk.new (w.alloc (.cells #[.int .i64 P, .int .i64 Lo, .int .i64 Hi, .int .i64 Fr] 31)) #[.int .i64 24, .int .i64 (-149), .int .i64 104, .int .i64 23] 31
  have pr : Below w.heap.size w ((w.alloc (.cells #[.int .i64 P, .int .i64 Lo, .int .i64 Hi, .int .i64 Fr] 31)).alloc (.cells #[.int .i64 24, .int .i64 (-149), .int .i64 104, .int .i64 23] 31)) := ((Below.refl _ _).alloc (Nat.le_refl _) _).alloc (by simp) _
  simp only [World.size_alloc] at K6
  go_wp2_with (first
    | (go_at_call 11; refine (S _).mono ?_; rintro r w1 ⟨rfl, b1⟩; replace K5 := (K5.below b1 K5.lt).alloc (.cells #[.int .i64 3, .bool g, .int .u64 m, .int .i64 E] 25); replace K6 := (K6.below b1 K6.lt).alloc (.cells #[.int .i64 3, .bool g, .int .u64 m, .int .i64 E] 25); replace pr := bel pr b1; replace pr := pr.alloc pr.size (.cells #[.int .i64 3, .bool g, .int .u64 m, .int .i64 E] 25); clear b1; have KP := Blk.new w1 #[.int .i64 3, .bool g, .int .u64 m, .int .i64 E] 25; have a0 : (w1.alloc (.cells #[.int .i64 3, .bool g, .int .u64 m, .int .i64 E] 25)).cell? ⟨w.heap.size, 0, none⟩ = some (.int .i64 P) := K5.at 0; have a1 : (w1.alloc (.cells #[.int .i64 3, .bool g, .int .u64 m, .int .i64 E] 25)).cell? ⟨w.heap.size, 1, none⟩ = some (.int .i64 Lo) := K5.at 1; have a2 : (w1.alloc (.cells #[.int .i64 3, .bool g, .int .u64 m, .int .i64 E] 25)).cell? ⟨w.heap.size, 2, none⟩ = some (.int .i64 Hi) := K5.at 2; have a3 : (w1.alloc (.cells #[.int .i64 3, .bool g, .int .u64 m, .int .i64 E] 25)).cell? ⟨w.heap.size, 3, none⟩ = some (.int .i64 Fr) := K5.at 3; have c0 : (w1.alloc (.cells #[.int .i64 3, .bool g, .int .u64 m, .int .i64 E] 25)).cell? ⟨w.heap.size + 1, 0, none⟩ = some (.int .i64 24) := K6.at 0; have c1 : (w1.alloc (.cells #[.int .i64 3, .bool g, .int .u64 m, .int .i64 E] 25)).cell? ⟨w.heap.size + 1, 1, none⟩ = some (.int .i64 (-149)) := K6.at 1; have c2 : (w1.alloc (.cells #[.int .i64 3, .bool g, .int .u64 m, .int .i64 E] 25)).cell? ⟨w.heap.size + 1, 2, none⟩ = some (.int .i64 104) := K6.at 2; have c3 : (w1.alloc (.cells #[.int .i64 3, .bool g, .int .u64 m, .int .i64 E] 25)).cell? ⟨w.heap.size + 1, 3, none⟩ = some (.int .i64 23) := K6.at 3; have d0 : (w1.alloc (.cells #[.int .i64 3, .bool g, .int .u64 m, .int .i64 E] 25)).cell? ⟨w1.heap.size, 0, none⟩ = some (.int .i64 3) := KP.at 0; have d1 : (w1.alloc (.cells #[.int .i64 3, .bool g, .int .u64 m, .int .i64 E] 25)).cell? ⟨w1.heap.size, 1, none⟩ = some (.bool g) := KP.at 1)
    | (go_at_call 49; (refine (Infinite_s_any g _).mono ?_); rintro r w2 ⟨rfl, b2⟩; replace pr := bel pr b2)
    | fail)
  go_ret
  exact ⟨rfl, pr⟩
set_option maxHeartbeats 1600000 in
set_option maxRecDepth 100000 in
theorem Moved_s_nought (P Lo Hi Fr b way m E : Int) (g : Bool) (S : ∀ w, Calls Try.prog 11 #[.agg #[.int .i64 P, .int .i64 Lo, .int .i64 Hi, .int .i64 Fr], .int .u64 b] w fun e w' => e = .returned (.agg #[.int .i64 0, .bool g, .int .u64 m, .int .i64 E]) ∧ Below w.heap.size w w') (w : World) :
    Calls Try.prog 23 #[.int .u64 b, .agg #[.int .i64 P, .int .i64 Lo, .int .i64 Hi, .int .i64 Fr], .agg #[.int .i64 24, .int .i64 (-149), .int .i64 104, .int .i64 23], .int .i64 way] w fun r w' => r = .returned (.int .u64 (sgnS g 0)) ∧ Below w.heap.size w w' := by
  go_enter Try.func23, Try.ntmps23
  have K5 : Blk ((w.alloc (.cells #[.int .i64 P, .int .i64 Lo, .int .i64 Hi, .int .i64 Fr] 31)).alloc (.cells #[.int .i64 24, .int .i64 (-149), .int .i64 104, .int .i64 23] 31)) w.heap.size #[.int .i64 P, .int .i64 Lo, .int .i64 Hi, .int .i64 Fr] 31 := (Blk.new w _ _).alloc _
  have K6 := Blk.new (w.alloc (.cells #[.int .i64 P, .int .i64 Lo, .int .i64 Hi, .int .i64 Fr] 31)) #[.int .i64 24, .int .i64 (-149), .int .i64 104, .int .i64 23] 31
  have pr : Below w.heap.size w ((w.alloc (.cells #[.int .i64 P, .int .i64 Lo, .int .i64 Hi, .int .i64 Fr] 31)).alloc (.cells #[.int .i64 24, .int .i64 (-149), .int .i64 104, .int .i64 23] 31)) := ((Below.refl _ _).alloc (Nat.le_refl _) _).alloc (by simp) _
  simp only [World.size_alloc] at K6
  go_wp2_with (first
    | (go_at_call 11; refine (S _).mono ?_; rintro r w1 ⟨rfl, b1⟩; replace K5 := (K5.below b1 K5.lt).alloc (.cells #[.int .i64 0, .bool g, .int .u64 m, .int .i64 E] 25); replace K6 := (K6.below b1 K6.lt).alloc (.cells #[.int .i64 0, .bool g, .int .u64 m, .int .i64 E] 25); replace pr := bel pr b1; replace pr := pr.alloc pr.size (.cells #[.int .i64 0, .bool g, .int .u64 m, .int .i64 E] 25); clear b1; have KP := Blk.new w1 #[.int .i64 0, .bool g, .int .u64 m, .int .i64 E] 25; have a0 : (w1.alloc (.cells #[.int .i64 0, .bool g, .int .u64 m, .int .i64 E] 25)).cell? ⟨w.heap.size, 0, none⟩ = some (.int .i64 P) := K5.at 0; have a1 : (w1.alloc (.cells #[.int .i64 0, .bool g, .int .u64 m, .int .i64 E] 25)).cell? ⟨w.heap.size, 1, none⟩ = some (.int .i64 Lo) := K5.at 1; have a2 : (w1.alloc (.cells #[.int .i64 0, .bool g, .int .u64 m, .int .i64 E] 25)).cell? ⟨w.heap.size, 2, none⟩ = some (.int .i64 Hi) := K5.at 2; have a3 : (w1.alloc (.cells #[.int .i64 0, .bool g, .int .u64 m, .int .i64 E] 25)).cell? ⟨w.heap.size, 3, none⟩ = some (.int .i64 Fr) := K5.at 3; have c0 : (w1.alloc (.cells #[.int .i64 0, .bool g, .int .u64 m, .int .i64 E] 25)).cell? ⟨w.heap.size + 1, 0, none⟩ = some (.int .i64 24) := K6.at 0; have c1 : (w1.alloc (.cells #[.int .i64 0, .bool g, .int .u64 m, .int .i64 E] 25)).cell? ⟨w.heap.size + 1, 1, none⟩ = some (.int .i64 (-149)) := K6.at 1; have c2 : (w1.alloc (.cells #[.int .i64 0, .bool g, .int .u64 m, .int .i64 E] 25)).cell? ⟨w.heap.size + 1, 2, none⟩ = some (.int .i64 104) := K6.at 2; have c3 : (w1.alloc (.cells #[.int .i64 0, .bool g, .int .u64 m, .int .i64 E] 25)).cell? ⟨w.heap.size + 1, 3, none⟩ = some (.int .i64 23) := K6.at 3; have d0 : (w1.alloc (.cells #[.int .i64 0, .bool g, .int .u64 m, .int .i64 E] 25)).cell? ⟨w1.heap.size, 0, none⟩ = some (.int .i64 0) := KP.at 0; have d1 : (w1.alloc (.cells #[.int .i64 0, .bool g, .int .u64 m, .int .i64 E] 25)).cell? ⟨w1.heap.size, 1, none⟩ = some (.bool g) := KP.at 1)
    | (go_at_call 50; (refine (signed_s_any g 0 (by decide) (by decide) _).mono ?_); rintro r w2 ⟨rfl, b2⟩; replace pr := bel pr b2)
    | fail)
  go_ret
  exact ⟨rfl, pr⟩
set_option maxHeartbeats 3200000 in
set_option maxRecDepth 100000 in
theorem Moved_s_some (k : Int) (P Lo Hi Fr b way m E : Int) (g : Bool) (x y : Nat) (S : ∀ w, Calls Try.prog 11 #[.agg #[.int .i64 P, .int .i64 Lo, .int .i64 Hi, .int .i64 Fr], .int .u64 b] w fun e w' => e = .returned (.agg #[.int .i64 k, .bool g, .int .u64 m, .int .i64 E]) ∧ Below w.heap.size w w')
    (NB : ∀ w, Calls Try.prog 57 #[.agg #[.int .i64 P, .int .i64 Lo, .int .i64 Hi, .int .i64 Fr], .int .u64 b] w fun r w' => ∃ u1 u2 ns ds, r = .returned (.agg #[.bool g, u1, u2]) ∧ Rd w' u1 ns ∧ Nm ns ∧ Rd w' u2 ds ∧ Nm ds ∧ NumOf ns ds m x y ∧ Below w.heap.size w w')
    (k4 : (k == 4) = false) (k3 : (k == 3) = false) (k0 : (k == 0) = false) (w : World) :
    Calls Try.prog 23 #[.int .u64 b, .agg #[.int .i64 P, .int .i64 Lo, .int .i64 Hi, .int .i64 Fr], .agg #[.int .i64 24, .int .i64 (-149), .int .i64 104, .int .i64 23], .int .i64 way] w fun r w' => ∃ (ns ds : List Int) (e mm q : Int), NumOf ns ds m x y ∧ Fl (val ns) (val ds) e mm q ∧ 0 ≤ mm ∧ mm < 16777216 ∧ -149 ≤ e ∧ (e = -149 ∨ 8388608 ≤ mm) ∧ r = .returned (.int .u64 (laidS g (rnd g way mm q (val ds * 2 ^ e.toNat)) e way).1) ∧ Below w.heap.size w w' := by
  go_enter Try.func23, Try.ntmps23
  have K5 : Blk ((w.alloc (.cells #[.int .i64 P, .int .i64 Lo, .int .i64 Hi, .int .i64 Fr] 31)).alloc (.cells #[.int .i64 24, .int .i64 (-149), .int .i64 104, .int .i64 23] 31)) w.heap.size #[.int .i64 P, .int .i64 Lo, .int .i64 Hi, .int .i64 Fr] 31 := (Blk.new w _ _).alloc _
  have K6 := Blk.new (w.alloc (.cells #[.int .i64 P, .int .i64 Lo, .int .i64 Hi, .int .i64 Fr] 31)) #[.int .i64 24, .int .i64 (-149), .int .i64 104, .int .i64 23] 31
  have pr : Below w.heap.size w ((w.alloc (.cells #[.int .i64 P, .int .i64 Lo, .int .i64 Hi, .int .i64 Fr] 31)).alloc (.cells #[.int .i64 24, .int .i64 (-149), .int .i64 104, .int .i64 23] 31)) := ((Below.refl _ _).alloc (Nat.le_refl _) _).alloc (by simp) _
  simp only [World.size_alloc] at K6
  go_upto_region 9 with (first
    | (go_at_call 11; refine (S _).mono ?_; rintro r w1 ⟨rfl, b1⟩; replace K5 := (K5.below b1 K5.lt).alloc (.cells #[.int .i64 k, .bool g, .int .u64 m, .int .i64 E] 25); replace K6 := (K6.below b1 K6.lt).alloc (.cells #[.int .i64 k, .bool g, .int .u64 m, .int .i64 E] 25); replace pr := bel pr b1; replace pr := pr.alloc pr.size (.cells #[.int .i64 k, .bool g, .int .u64 m, .int .i64 E] 25); clear b1; have KP := Blk.new w1 #[.int .i64 k, .bool g, .int .u64 m, .int .i64 E] 25; have a0 : (w1.alloc (.cells #[.int .i64 k, .bool g, .int .u64 m, .int .i64 E] 25)).cell? ⟨w.heap.size, 0, none⟩ = some (.int .i64 P) := K5.at 0; have a1 : (w1.alloc (.cells #[.int .i64 k, .bool g, .int .u64 m, .int .i64 E] 25)).cell? ⟨w.heap.size, 1, none⟩ = some (.int .i64 Lo) := K5.at 1; have a2 : (w1.alloc (.cells #[.int .i64 k, .bool g, .int .u64 m, .int .i64 E] 25)).cell? ⟨w.heap.size, 2, none⟩ = some (.int .i64 Hi) := K5.at 2; have a3 : (w1.alloc (.cells #[.int .i64 k, .bool g, .int .u64 m, .int .i64 E] 25)).cell? ⟨w.heap.size, 3, none⟩ = some (.int .i64 Fr) := K5.at 3; have c0 : (w1.alloc (.cells #[.int .i64 k, .bool g, .int .u64 m, .int .i64 E] 25)).cell? ⟨w.heap.size + 1, 0, none⟩ = some (.int .i64 24) := K6.at 0; have c1 : (w1.alloc (.cells #[.int .i64 k, .bool g, .int .u64 m, .int .i64 E] 25)).cell? ⟨w.heap.size + 1, 1, none⟩ = some (.int .i64 (-149)) := K6.at 1; have c2 : (w1.alloc (.cells #[.int .i64 k, .bool g, .int .u64 m, .int .i64 E] 25)).cell? ⟨w.heap.size + 1, 2, none⟩ = some (.int .i64 104) := K6.at 2; have c3 : (w1.alloc (.cells #[.int .i64 k, .bool g, .int .u64 m, .int .i64 E] 25)).cell? ⟨w.heap.size + 1, 3, none⟩ = some (.int .i64 23) := K6.at 3; have d0 : (w1.alloc (.cells #[.int .i64 k, .bool g, .int .u64 m, .int .i64 E] 25)).cell? ⟨w1.heap.size, 0, none⟩ = some (.int .i64 k) := KP.at 0; have d1 : (w1.alloc (.cells #[.int .i64 k, .bool g, .int .u64 m, .int .i64 E] 25)).cell? ⟨w1.heap.size, 1, none⟩ = some (.bool g) := KP.at 1)
    | fail)
  generalize (w1.alloc (.cells #[.int .i64 k, .bool g, .int .u64 m, .int .i64 E] 25)) = W at *
  go_region_held3 (fun x => x.cell? ⟨w.heap.size, 0, none⟩ = some (.int .i64 P) ∧ x.cell? ⟨w.heap.size, 1, none⟩ = some (.int .i64 Lo) ∧ x.cell? ⟨w.heap.size, 2, none⟩ = some (.int .i64 Hi) ∧ x.cell? ⟨w.heap.size, 3, none⟩ = some (.int .i64 Fr) ∧ x.cell? ⟨w.heap.size + 1, 0, none⟩ = some (.int .i64 24) ∧ x.cell? ⟨w.heap.size + 1, 1, none⟩ = some (.int .i64 (-149)) ∧ x.cell? ⟨w.heap.size + 1, 2, none⟩ = some (.int .i64 104) ∧ x.cell? ⟨w.heap.size + 1, 3, none⟩ = some (.int .i64 23)) (go_keep) (first
    | (go_at_call 57; ((with_reducible refine (NB _).mono ?_)); (rintro r w3 ⟨u1, u2, ns, ds, rfl, h1, n1, h2, n2, no, b3⟩; have l1 : ns.length ≤ 900 := (by have h9 := no.l1; omega); have l2 : ds.length ≤ 900 := (by have h9 := no.l2; omega); replace K5 := K5.below b3 K5.lt; replace K6 := K6.below b3 K6.lt; replace pr := bel pr b3; have a0 : w3.cell? ⟨w.heap.size, 0, none⟩ = some (.int .i64 P) := K5.at 0; have a1 : w3.cell? ⟨w.heap.size, 1, none⟩ = some (.int .i64 Lo) := K5.at 1; have a2 : w3.cell? ⟨w.heap.size, 2, none⟩ = some (.int .i64 Hi) := K5.at 2; have a3 : w3.cell? ⟨w.heap.size, 3, none⟩ = some (.int .i64 Fr) := K5.at 3; have c0 : w3.cell? ⟨w.heap.size + 1, 0, none⟩ = some (.int .i64 24) := K6.at 0; have c1 : w3.cell? ⟨w.heap.size + 1, 1, none⟩ = some (.int .i64 (-149)) := K6.at 1; have c2 : w3.cell? ⟨w.heap.size + 1, 2, none⟩ = some (.int .i64 104) := K6.at 2; have c3 : w3.cell? ⟨w.heap.size + 1, 3, none⟩ = some (.int .i64 23) := K6.at 3; clear b3))
    | (go_at_call 57; ((with_reducible refine (NB _).mono ?_)); (rintro r w3 ⟨u1, u2, ns, ds, rfl, h1, n1, h2, n2, no, b3⟩; have l1 : ns.length ≤ 900 := (by have h9 := no.l1; omega); have l2 : ds.length ≤ 900 := (by have h9 := no.l2; omega); replace K5 := K5.below (below_undrew b3) K5.lt; replace K6 := K6.below (below_undrew b3) K6.lt; replace pr := bel pr (below_undrew b3); have a0 : w3.cell? ⟨w.heap.size, 0, none⟩ = some (.int .i64 P) := K5.at 0; have a1 : w3.cell? ⟨w.heap.size, 1, none⟩ = some (.int .i64 Lo) := K5.at 1; have a2 : w3.cell? ⟨w.heap.size, 2, none⟩ = some (.int .i64 Hi) := K5.at 2; have a3 : w3.cell? ⟨w.heap.size, 3, none⟩ = some (.int .i64 Fr) := K5.at 3; have c0 : w3.cell? ⟨w.heap.size + 1, 0, none⟩ = some (.int .i64 24) := K6.at 0; have c1 : w3.cell? ⟨w.heap.size + 1, 1, none⟩ = some (.int .i64 (-149)) := K6.at 1; have c2 : w3.cell? ⟨w.heap.size + 1, 2, none⟩ = some (.int .i64 104) := K6.at 2; have c3 : w3.cell? ⟨w.heap.size + 1, 3, none⟩ = some (.int .i64 23) := K6.at 3; clear b3))
    | (go_at_call 56; ((with_reducible refine (Rounded_s_any g _ _ ns ds way _ h1 h2 n1 n2 l1 l2 no.n0 no.d0).mono ?_)); (rintro r w4 ⟨e, mm, q, fl, m0, m1, e0, st, rfl, b4⟩; replace K5 := K5.below b4 K5.lt; replace K6 := K6.below b4 K6.lt; replace pr := bel pr b4; have a0 : w4.cell? ⟨w.heap.size, 0, none⟩ = some (.int .i64 P) := K5.at 0; have a1 : w4.cell? ⟨w.heap.size, 1, none⟩ = some (.int .i64 Lo) := K5.at 1; have a2 : w4.cell? ⟨w.heap.size, 2, none⟩ = some (.int .i64 Hi) := K5.at 2; have a3 : w4.cell? ⟨w.heap.size, 3, none⟩ = some (.int .i64 Fr) := K5.at 3; have c0 : w4.cell? ⟨w.heap.size + 1, 0, none⟩ = some (.int .i64 24) := K6.at 0; have c1 : w4.cell? ⟨w.heap.size + 1, 1, none⟩ = some (.int .i64 (-149)) := K6.at 1; have c2 : w4.cell? ⟨w.heap.size + 1, 2, none⟩ = some (.int .i64 104) := K6.at 2; have c3 : w4.cell? ⟨w.heap.size + 1, 3, none⟩ = some (.int .i64 23) := K6.at 3; clear b4))
    | (go_at_call 56; ((with_reducible refine (Rounded_s_any g _ _ ns ds way _ h1.drew h2.drew n1 n2 l1 l2 no.n0 no.d0).mono ?_)); (rintro r w4 ⟨e, mm, q, fl, m0, m1, e0, st, rfl, b4⟩; replace K5 := K5.below (below_undrew b4) K5.lt; replace K6 := K6.below (below_undrew b4) K6.lt; replace pr := bel pr (below_undrew b4); have a0 : w4.cell? ⟨w.heap.size, 0, none⟩ = some (.int .i64 P) := K5.at 0; have a1 : w4.cell? ⟨w.heap.size, 1, none⟩ = some (.int .i64 Lo) := K5.at 1; have a2 : w4.cell? ⟨w.heap.size, 2, none⟩ = some (.int .i64 Hi) := K5.at 2; have a3 : w4.cell? ⟨w.heap.size, 3, none⟩ = some (.int .i64 Fr) := K5.at 3; have c0 : w4.cell? ⟨w.heap.size + 1, 0, none⟩ = some (.int .i64 24) := K6.at 0; have c1 : w4.cell? ⟨w.heap.size + 1, 1, none⟩ = some (.int .i64 (-149)) := K6.at 1; have c2 : w4.cell? ⟨w.heap.size + 1, 2, none⟩ = some (.int .i64 104) := K6.at 2; have c3 : w4.cell? ⟨w.heap.size + 1, 3, none⟩ = some (.int .i64 23) := K6.at 3; clear b4))
    | fail)
  go_wp2_with fail
  exact bodyPost_ret (v := .int .u64 (laidS g (rnd g way mm q (val ds * 2 ^ e.toNat)) e way).1) (by simp [results, Try.results23, go_sem]) rfl ⟨ns, ds, e, mm, q, no, fl, m0, m1, e0, st, rfl, pr⟩
end Go.Proofs.Ytfpmegfdopnnpaa.L

namespace Go.Proofs.Ytfpmegfdopnnpaa
open Go.RowKit Tn

/-- How what drops out stands to half of what stays. -/
def besideF (rest : Int) (places : Nat) (more : Bool) : Int :=
  if rest < 2 ^ (places - 1) then -1 else if 2 ^ (places - 1) < rest then 1 else if more = true then 1 else 0
set_option maxRecDepth 100000 in
set_option maxHeartbeats 800000 in
/-- float.besideHalf, of 1 to 64 places. -/
theorem besideHalf_any (rest h : Int) (places : Nat) (more : Bool) (p1 : 1 ≤ places) (p2 : places ≤ 64) (hh : h = 2 ^ (places - 1)) (w : World) :
    Calls Try.prog 106 #[.int .u64 rest, .int .i64 places, .bool more] w fun e w' => e = .returned (.int .i64 (besideF rest places more)) ∧ w' = w := by
  unfold besideF
  rw [← hh]
  have hb : (0 : Int) < h ∧ h ≤ 9223372036854775808 := by
    have e : ((2 ^ (places - 1) : Nat) : Int) = (2 : Int) ^ (places - 1) := by simp
    have a := Nat.two_pow_pos (places - 1)
    have b : 2 ^ (places - 1) ≤ 2 ^ 63 := Nat.pow_le_pow_right (by decide) (by omega)
    rw [hh, ← e]; omega
  have hx : IntKind.i64.wrap ((places : Int) - 1) = (places : Int) - 1 := w64 _ (by omega) (by omega)
  have hy : ((places : Int) - 1).toNat = places - 1 := by omega
  have hz : IntKind.u64.wrap ((2 : Int) ^ (places - 1)) = h := by rw [← hh]; exact wu64 _ (by omega) (by omega)
  have c1 : decide ((places : Int) > 64) = false := by rw [decide_eq_false_iff_not]; omega
  clear hh
  by_cases r1 : rest < h
  · have d1 : decide (rest < h) = true := decide_eq_true r1
    rw [if_pos r1]
    go_enter Try.func106, Try.ntmps106
    go_wp2
    go_ret
    exact ⟨rfl, rfl⟩
  · have d1 : decide (rest < h) = false := decide_eq_false r1
    rw [if_neg r1]
    by_cases r2 : h < rest
    · have d2 : decide (rest > h) = true := decide_eq_true r2
      rw [if_pos r2]
      clear r1 r2
      go_enter Try.func106, Try.ntmps106
      go_wp2
      go_ret
      exact ⟨rfl, rfl⟩
    · have d2 : decide (rest > h) = false := decide_eq_false r2
      rw [if_neg r2]
      clear r1 r2
      cases more
      · simp only [Bool.false_eq_true, if_false]
        go_enter Try.func106, Try.ntmps106
        go_wp2
        go_ret
        exact ⟨rfl, rfl⟩
      · simp only [if_true]
        go_enter Try.func106, Try.ntmps106
        go_wp2
        go_ret
        exact ⟨rfl, rfl⟩
set_option maxRecDepth 100000 in
set_option maxHeartbeats 800000 in
/-- Beyond 64 places. -/
theorem besideHalf_far (rest places : Int) (more : Bool) (p1 : 64 < places) (p2 : places < 9223372036854775808) (w : World) :
    Calls Try.prog 106 #[.int .u64 rest, .int .i64 places, .bool more] w fun e w' => e = .returned (.int .i64 (-1)) ∧ w' = w := by
  have hx : IntKind.i64.wrap (places - 1) = places - 1 := w64 _ (by omega) (by omega)
  have c1 : decide (places > 64) = true := decide_eq_true p1
  have h0 : (0 : Int) ≤ places - 1 := by omega
  have s1 : Op.shift .shl .u64 1 .i64 (places - 1) = pure (.int .u64 0) := by
    rw [shift_shl_any _ _ _ _ h0, show min (places - 1).toNat IntKind.u64.bits = 64 from by simp [IntKind.bits]; omega]
    rfl
  go_enter Try.func106, Try.ntmps106
  go_wp2
  go_ret
  exact ⟨rfl, rfl⟩
end Go.Proofs.Ytfpmegfdopnnpaa
