import Derived.Test.YtiobnojcmeeikaaGreatDoorPart12
import Derived.Test.YtiobnojcmeeikaaGreatDoorPart08

namespace Go.Proofs.YtiobnojcmeeikaaGreatDoor.L
open Go.RowKit Tl

end Go.Proofs.YtiobnojcmeeikaaGreatDoor.L

namespace Go.Proofs.YtiobnojcmeeikaaGreatDoor.L
open Go.RowKit Tl

end Go.Proofs.YtiobnojcmeeikaaGreatDoor.L

namespace Go.Proofs.YtiobnojcmeeikaaGreatDoor.L
open Go.RowKit Tl

end Go.Proofs.YtiobnojcmeeikaaGreatDoor.L

namespace Go.Proofs.YtiobnojcmeeikaaGreatDoor.L
open Go.RowKit Tl

/-- Neither part has more than K limbs. -/
def QS (r : Rat) (K : Nat) : Prop := (r.num.natAbs : Int) < pw K ∧ (r.den : Int) < pw K
end Go.Proofs.YtiobnojcmeeikaaGreatDoor.L

namespace Go.Proofs.YtiobnojcmeeikaaGreatDoor.L
open Go.RowKit Tl

end Go.Proofs.YtiobnojcmeeikaaGreatDoor.L

namespace Go.Proofs.YtiobnojcmeeikaaGreatDoor.L
open Go.RowKit Tl

end Go.Proofs.YtiobnojcmeeikaaGreatDoor.L

namespace Go.Proofs.YtiobnojcmeeikaaGreatDoor.L
open Go.RowKit Tl

end Go.Proofs.YtiobnojcmeeikaaGreatDoor.L

namespace Go.Proofs.YtiobnojcmeeikaaGreatDoor.L
open Go.RowKit Tl

end Go.Proofs.YtiobnojcmeeikaaGreatDoor.L

namespace Go.Proofs.YtiobnojcmeeikaaGreatDoor.L
open Go.RowKit Tl

end Go.Proofs.YtiobnojcmeeikaaGreatDoor.L

namespace Go.Proofs.YtiobnojcmeeikaaGreatDoor.L
open Go.RowKit Tl

end Go.Proofs.YtiobnojcmeeikaaGreatDoor.L

namespace Go.Proofs.YtiobnojcmeeikaaGreatDoor.L
open Go.RowKit Tl

end Go.Proofs.YtiobnojcmeeikaaGreatDoor.L

namespace Go.Proofs.YtiobnojcmeeikaaGreatDoor.L
open Go.RowKit Tl

theorem quo_le {a q b r : Int} (h : a = q * b + r) (r0 : 0 ≤ r) (q0 : 0 ≤ q) (b0 : 0 < b) : q ≤ a := le_of_quo h r0 q0 b0
end Go.Proofs.YtiobnojcmeeikaaGreatDoor.L

namespace Go.Proofs.YtiobnojcmeeikaaGreatDoor.L
open Go.RowKit Tl

end Go.Proofs.YtiobnojcmeeikaaGreatDoor.L

namespace Go.Proofs.YtiobnojcmeeikaaGreatDoor.L
open Go.RowKit Tl

end Go.Proofs.YtiobnojcmeeikaaGreatDoor.L

namespace Go.Proofs.YtiobnojcmeeikaaGreatDoor.L
open Go.RowKit Tl

theorem isq_form {w : World} {v : Value} {r : Rat} (h : IsQ w v r) : ∃ g p1 m1 c1 p2 m2 c2, v = .agg #[.bool g, .slice p1 m1 c1, .slice p2 m2 c2] ∧ Hid (g = decide (r.num < 0)) := by
  obtain ⟨ns, ds, a1, a2, c1, c2, e, _⟩ := h
  exact ⟨_, a1, _, c1, a2, _, c2, e, rfl⟩
end Go.Proofs.YtiobnojcmeeikaaGreatDoor.L
namespace Go.Proofs.YtiobnojcmeeikaaGreatDoor.Mo
open Go.RowKit

/-- A number of the reference's is answered. -/
def Qf (r : Rat) (x : World) (e : Ending) (w' : World) : Prop := ∃ g a l c a' l' c', e = .returned (.agg #[.bool g, .slice a l c, .slice a' l' c']) ∧ L.IsQ w' (.agg #[.bool g, .slice a l c, .slice a' l' c']) r ∧ Below x.heap.size x w'
theorem qf_of {P : Program} {f : Nat} {args : Array Value} {r : Rat} {x : World} (h : Calls P f args x fun e w' => ∃ v, e = .returned v ∧ L.IsQ w' v r ∧ Below x.heap.size x w') : Calls P f args x (Qf r x) := by
  refine h.mono ?_
  rintro e w' ⟨v, rfl, hq, b⟩
  obtain ⟨g, a, l, c, a', l', c', rfl, _⟩ := L.isq_form hq
  exact ⟨g, a, l, c, a', l', c', rfl, hq, b⟩
end Go.Proofs.YtiobnojcmeeikaaGreatDoor.Mo

namespace Go.Proofs.YtiobnojcmeeikaaGreatDoor.L
open Go.RowKit Tl

theorem IsQ.put3 {w1 : World} {b : Nat} {v x y z : Value} {r : Rat} {g : Bool} {a1 a2 : Option Addr} {n1 c1 n2 c2 : Nat} {t : TypeId} (h : IsQ w1 v r) (K : Blk w1 b #[.bool g, .slice a1 n1 c1, .slice a2 n2 c2] t) : IsQ (((w1.setCell ⟨b, 0, none⟩ x).setCell ⟨b, 1, none⟩ y).setCell ⟨b, 2, none⟩ z) v r := by
  obtain ⟨ns, ds, a1, a2, c1, c2, e, h1, n1, v1, h2, n2, v2⟩ := h
  exact ⟨ns, ds, a1, a2, c1, c2, e, h1.putQ K, n1, v1, h2.putQ K, n2, v2⟩
end Go.Proofs.YtiobnojcmeeikaaGreatDoor.L

namespace Go.Proofs.YtiobnojcmeeikaaGreatDoor.L
open Go.RowKit Tl

theorem two_nat (T : Nat) : ((2 : Int) ^ T).toNat = 2 ^ T := by
  have e : ((2 ^ T : Nat) : Int) = (2 : Int) ^ T := by simp
  rw [← e, Int.toNat_natCast]
theorem nm_len3 {ns : List Int} (h : Wd ns) (n : Nm ns) (hm : val ns < 18446744073709551616) : ns.length ≤ 3 := by
  refine len_of_lt h n ?_
  have : pw 3 = 1237940039285380274899124224 := by decide
  omega
set_option maxHeartbeats 6400000 in
set_option maxRecDepth 100000 in
theorem Numq_pos (P Lo Hi Fr b k m : Int) (g : Bool) (T : Nat) (S : ∀ w, Calls Tryz.prog 26 #[.agg #[.int .i64 P, .int .i64 Lo, .int .i64 Hi, .int .i64 Fr], .int .u64 b] w fun e w' => e = .returned (.agg #[.int .i64 k, .bool g, .int .u64 m, .int .i64 (T : Int)]) ∧ Below w.heap.size w w') (m0 : 0 ≤ m) (m1 : m < 18446744073709551616) (T1 : T ≤ 2100) (w : World) :
    Calls Tryz.prog 15 #[.agg #[.int .i64 P, .int .i64 Lo, .int .i64 Hi, .int .i64 Fr], .int .u64 b] w fun r w' => ∃ v, r = .returned v ∧ IsQ w' v (mkRat (sgI g (m * 2 ^ T)) 1) ∧ Below w.heap.size w w' := by
  have T2 : T ≤ 1099511627776 := by omega
  have lh : 100 ≤ 274877906944 := by decide
  go_enter Tryz.func15, Tryz.ntmps15
  have KQ := Blk.new (w.alloc (.cells #[.int .i64 P, .int .i64 Lo, .int .i64 Hi, .int .i64 Fr] 36)) #[.bool false, .slice none 0 0, .slice none 0 0] 49
  have pr : Below w.heap.size w ((w.alloc (.cells #[.int .i64 P, .int .i64 Lo, .int .i64 Hi, .int .i64 Fr] 36)).alloc (.cells #[.bool false, .slice none 0 0, .slice none 0 0] 49)) := ((Below.refl _ _).alloc (Nat.le_refl _) _).alloc (by simp) _
  simp only [World.size_alloc] at KQ
  go_upto_region 4 with (first
    | (go_at_call 26; refine (S _).mono ?_; rintro r w1 ⟨rfl, b1⟩; have nq : w1.heap.size ≠ w.heap.size + 1 := (by have h9 := (KQ.below b1 KQ.lt).lt; omega); replace KQ := (KQ.below b1 KQ.lt).alloc (.cells #[.int .i64 k, .bool g, .int .u64 m, .int .i64 (T : Int)] 42); replace pr := bel pr b1; replace pr := pr.alloc pr.size (.cells #[.int .i64 k, .bool g, .int .u64 m, .int .i64 (T : Int)] 42); clear b1; have K1 := Blk.new w1 #[.int .i64 k, .bool g, .int .u64 m, .int .i64 (T : Int)] 42; have q2 : (w1.alloc (.cells #[.int .i64 k, .bool g, .int .u64 m, .int .i64 (T : Int)] 42)).cell? ⟨w1.heap.size, 2, none⟩ = some (.int .u64 m) := K1.at 2)
    | (go_at_call 27; (refine (NatOf64_any m _ (by omega) m1).mono ?_); (rintro r w2 ⟨u, ms, rfl, hu, num, vm', b2⟩; have lms : ms.length ≤ 3 := nm_len3 hu.1 num (by omega); have vm : Hid (val ms = m) := vm'; clear vm'; have KQx := KQ.below b2 KQ.lt; have Kx := K1.below b2 K1.lt; have prx := bel pr b2; clear b2 KQ K1 pr q2; have q1x : w2.cell? ⟨w1.heap.size, 1, none⟩ = some (.bool g) := Kx.at 1; have q3x : w2.cell? ⟨w1.heap.size, 3, none⟩ = some (.int .i64 (T : Int)) := Kx.at 3))
    | fail)
  have lms2 : ms.length ≤ 549755813888 := by omega
  go_region_held3 (fun x => x.cell? ⟨w1.heap.size, 1, none⟩ = some (.bool g) ∧ x.cell? ⟨w1.heap.size, 3, none⟩ = some (.int .i64 (T : Int))) (first | ((try dsimp only); (refine ⟨?_, ?_⟩); (repeat (first | with_reducible exact q1z | with_reducible exact q1y | with_reducible exact q1x | with_reducible refine cell_drew ?_ | with_reducible refine cell_alloc ?_)); (repeat (first | with_reducible exact q3z | with_reducible exact q3y | with_reducible exact q3x | with_reducible refine cell_drew ?_ | with_reducible refine cell_alloc ?_)); done) | exact ⟨set3_other nq q1z, set3_other nq q3z⟩ | go_keep) (first
      | (go_at_call 29; ((with_reducible refine (Shl_any _ ms T _ ?hrd lms2 T2).mono ?_)); (case hrd => exact (by repeat (first | with_reducible exact hu | with_reducible refine rd_drew ?_ | with_reducible refine rd_alloc ?_))); (rintro x w5 ⟨u5, za, rfl, hu5, nu5, vu5, bu⟩; have q1y : w5.cell? ⟨w1.heap.size, 1, none⟩ = some (.bool g) := keep_cell bu (by repeat (first | with_reducible exact q1x | with_reducible refine cell_drew ?_ | with_reducible refine cell_alloc ?_)); have q3y : w5.cell? ⟨w1.heap.size, 3, none⟩ = some (.int .i64 (T : Int)) := keep_cell bu (by repeat (first | with_reducible exact q3x | with_reducible refine cell_drew ?_ | with_reducible refine cell_alloc ?_)); have Ky : Blk w5 w1.heap.size #[.int .i64 k, .bool g, .int .u64 m, .int .i64 (T : Int)] 42 := blk_keep bu (by repeat (first | with_reducible exact Kx | with_reducible refine blk_drew ?_ | with_reducible refine Blk.alloc ?_ _)); have KQy : Blk w5 (w.heap.size + 1) #[.bool false, .slice none 0 0, .slice none 0 0] 49 := blk_keep bu (by repeat (first | with_reducible exact KQx | with_reducible refine blk_drew ?_ | with_reducible refine Blk.alloc ?_ _)); have pry : Below w.heap.size w w5 := bel (by repeat (first | with_reducible exact prx | with_reducible refine bel_drw ?_ | with_reducible refine bel_alloc ?_)) bu))
      | (go_at_call 28; have la : za.length ≤ 100 := (by have h9 := shl_len2 hu.1 hu5.1 nu5 vu5; omega); ((with_reducible refine (Make_q g _ _ za [1] 100 _ ?hr1 ?hr2 nu5 nm_one la (by decide) lh (by rw [val_one]; decide)).mono ?_)); (case hr1 => exact (by repeat (first | with_reducible exact hu5 | with_reducible refine rd_drew ?_ | with_reducible refine rd_alloc ?_))); (case hr2 => exact rd_one (by repeat (first | ((with_reducible refine cell_at ?_); (first | rfl | (simp; done))) | with_reducible refine cell_drew ?_ | with_reducible refine cell_alloc ?_ | with_reducible refine keep_cell bu ?_)) (by decide) (by decide)); (rintro x w7 ⟨v7, rfl, hq, b7⟩; rw [vu5, vm.out, val_one, show (1 : Int).toNat = 1 from rfl] at hq; obtain ⟨g7, p7, m7, c7, p8, m8, c8, rfl, GQ⟩ := isq_form hq; have q1z : w7.cell? ⟨w1.heap.size, 1, none⟩ = some (.bool g) := keep_cell b7 (by repeat (first | with_reducible exact q1y | with_reducible refine cell_drew ?_ | with_reducible refine cell_alloc ?_)); have q3z : w7.cell? ⟨w1.heap.size, 3, none⟩ = some (.int .i64 (T : Int)) := keep_cell b7 (by repeat (first | with_reducible exact q3y | with_reducible refine cell_drew ?_ | with_reducible refine cell_alloc ?_)); have Kz : Blk w7 w1.heap.size #[.int .i64 k, .bool g, .int .u64 m, .int .i64 (T : Int)] 42 := blk_keep b7 (by repeat (first | with_reducible exact Ky | with_reducible refine blk_drew ?_ | with_reducible refine Blk.alloc ?_ _)); have KQz : Blk w7 (w.heap.size + 1) #[.bool false, .slice none 0 0, .slice none 0 0] 49 := blk_keep b7 (by repeat (first | with_reducible exact KQy | with_reducible refine blk_drew ?_ | with_reducible refine Blk.alloc ?_ _)); have prz : Below w.heap.size w w7 := bel (by repeat (first | with_reducible exact pry | with_reducible refine bel_drw ?_ | with_reducible refine bel_alloc ?_)) b7; have kq0 : w7.cell? ⟨w.heap.size + 1, 0, none⟩ = some (.bool false) := KQz.at 0; have kq1 : w7.cell? ⟨w.heap.size + 1, 1, none⟩ = some (.slice none 0 0) := KQz.at 1; have kq2 : w7.cell? ⟨w.heap.size + 1, 2, none⟩ = some (.slice none 0 0) := KQz.at 2; have kf0 := KQz.free 0; have kf1 := KQz.free 1; have kf2 := KQz.free 2))
      | fail)
  all_goals
    clear vu5
    go_wp2_with fail
    obtain ⟨F0, F1, F2, FB⟩ := put3 (.bool g7) (.slice p7 m7 c7) (.slice p8 m8 c8) kq0 kq1 kq2
    exact bodyPost_ret (v := .agg #[.bool g7, .slice p7 m7 c7, .slice p8 m8 c8]) (by simp [results, Tryz.results15, go_sem, F0, F1, F2]) rfl ⟨_, rfl, hq.put3 KQz, FB _ _ (by omega) prz⟩
set_option maxHeartbeats 6400000 in
set_option maxRecDepth 100000 in
theorem Numq_neg (P Lo Hi Fr b k m E : Int) (g : Bool) (T : Nat) (S : ∀ w, Calls Tryz.prog 26 #[.agg #[.int .i64 P, .int .i64 Lo, .int .i64 Hi, .int .i64 Fr], .int .u64 b] w fun e w' => e = .returned (.agg #[.int .i64 k, .bool g, .int .u64 m, .int .i64 E]) ∧ Below w.heap.size w w') (m0 : 0 ≤ m) (m1 : m < 18446744073709551616) (hE : -E = T) (T0 : 0 < T) (T1 : T ≤ 2100) (w : World) :
    Calls Tryz.prog 15 #[.agg #[.int .i64 P, .int .i64 Lo, .int .i64 Hi, .int .i64 Fr], .int .u64 b] w fun r w' => ∃ v, r = .returned v ∧ IsQ w' v (mkRat (sgI g m) (2 ^ T)) ∧ Below w.heap.size w w' := by
  have hw0 : ¬ (0 : Int) ≤ E := by omega
  have hw1 : IntKind.i64.wrap (-E) = (T : Int) := by rw [hE]; exact wrap_self _ (by omega) (by omega)
  clear hE
  have T2 : T ≤ 1099511627776 := by omega
  have lh : 100 ≤ 274877906944 := by decide
  go_enter Tryz.func15, Tryz.ntmps15
  have KQ := Blk.new (w.alloc (.cells #[.int .i64 P, .int .i64 Lo, .int .i64 Hi, .int .i64 Fr] 36)) #[.bool false, .slice none 0 0, .slice none 0 0] 49
  have pr : Below w.heap.size w ((w.alloc (.cells #[.int .i64 P, .int .i64 Lo, .int .i64 Hi, .int .i64 Fr] 36)).alloc (.cells #[.bool false, .slice none 0 0, .slice none 0 0] 49)) := ((Below.refl _ _).alloc (Nat.le_refl _) _).alloc (by simp) _
  simp only [World.size_alloc] at KQ
  go_upto_region 5 with (first
    | (go_at_call 26; refine (S _).mono ?_; rintro r w1 ⟨rfl, b1⟩; have nq : w1.heap.size ≠ w.heap.size + 1 := (by have h9 := (KQ.below b1 KQ.lt).lt; omega); replace KQ := (KQ.below b1 KQ.lt).alloc (.cells #[.int .i64 k, .bool g, .int .u64 m, .int .i64 E] 42); replace pr := bel pr b1; replace pr := pr.alloc pr.size (.cells #[.int .i64 k, .bool g, .int .u64 m, .int .i64 E] 42); clear b1; have K1 := Blk.new w1 #[.int .i64 k, .bool g, .int .u64 m, .int .i64 E] 42; have q2 : (w1.alloc (.cells #[.int .i64 k, .bool g, .int .u64 m, .int .i64 E] 42)).cell? ⟨w1.heap.size, 2, none⟩ = some (.int .u64 m) := K1.at 2)
    | (go_at_call 27; (refine (NatOf64_any m _ (by omega) m1).mono ?_); (rintro r w2 ⟨u, ms, rfl, hu, num, vm', b2⟩; have lms : ms.length ≤ 3 := nm_len3 hu.1 num (by omega); have vm : Hid (val ms = m) := vm'; clear vm'; have KQx := KQ.below b2 KQ.lt; have Kx := K1.below b2 K1.lt; have prx := bel pr b2; clear b2 KQ K1 pr q2; have q1x : w2.cell? ⟨w1.heap.size, 1, none⟩ = some (.bool g) := Kx.at 1; have q3x : w2.cell? ⟨w1.heap.size, 3, none⟩ = some (.int .i64 E) := Kx.at 3))
    | fail)
  go_region_held3 (fun x => x.cell? ⟨w1.heap.size, 1, none⟩ = some (.bool g) ∧ x.cell? ⟨w1.heap.size, 3, none⟩ = some (.int .i64 E)) (first | ((try dsimp only); (refine ⟨?_, ?_⟩); (repeat (first | with_reducible exact q1z | with_reducible exact q1y | with_reducible exact q1x | with_reducible refine cell_drew ?_ | with_reducible refine cell_alloc ?_)); (repeat (first | with_reducible exact q3z | with_reducible exact q3y | with_reducible exact q3x | with_reducible refine cell_drew ?_ | with_reducible refine cell_alloc ?_)); done) | exact ⟨set3_other nq q1z, set3_other nq q3z⟩ | go_keep) (first
      | (go_at_call 29; ((with_reducible refine (Shl_any _ [1] T _ ?hrd one_len T2).mono ?_)); (case hrd => exact rd_one (by repeat (first | ((with_reducible refine cell_at ?_); (first | rfl | (simp; done))) | with_reducible refine cell_drew ?_ | with_reducible refine cell_alloc ?_)) (by decide) (by decide)); (rintro x w5 ⟨u5, za, rfl, hu5, nu5, vu5, bu⟩; have hu6 : Rd w5 u ms := Rd.grow (by repeat (first | with_reducible exact hu | with_reducible refine rd_drew ?_ | with_reducible refine rd_alloc ?_)) bu; have q1y : w5.cell? ⟨w1.heap.size, 1, none⟩ = some (.bool g) := keep_cell bu (by repeat (first | with_reducible exact q1x | with_reducible refine cell_drew ?_ | with_reducible refine cell_alloc ?_)); have q3y : w5.cell? ⟨w1.heap.size, 3, none⟩ = some (.int .i64 E) := keep_cell bu (by repeat (first | with_reducible exact q3x | with_reducible refine cell_drew ?_ | with_reducible refine cell_alloc ?_)); have Ky : Blk w5 w1.heap.size #[.int .i64 k, .bool g, .int .u64 m, .int .i64 E] 42 := blk_keep bu (by repeat (first | with_reducible exact Kx | with_reducible refine blk_drew ?_ | with_reducible refine Blk.alloc ?_ _)); have KQy : Blk w5 (w.heap.size + 1) #[.bool false, .slice none 0 0, .slice none 0 0] 49 := blk_keep bu (by repeat (first | with_reducible exact KQx | with_reducible refine blk_drew ?_ | with_reducible refine Blk.alloc ?_ _)); have pry : Below w.heap.size w w5 := bel (by repeat (first | with_reducible exact prx | with_reducible refine bel_drw ?_ | with_reducible refine bel_alloc ?_)) bu))
      | (go_at_call 28; have la : za.length ≤ 100 := (by have h9 := shl_len2 h1_wd hu5.1 nu5 vu5; simp at h9; omega); ((with_reducible refine (Make_q g _ _ ms za 100 _ ?hr1 ?hr2 num nu5 (by omega) la lh (by rw [vu5, val_one, Int.one_mul]; exact two_pow_pos T)).mono ?_)); (case hr1 => exact (by repeat (first | with_reducible exact hu6 | with_reducible refine rd_drew ?_ | with_reducible refine rd_alloc ?_))); (case hr2 => exact (by repeat (first | with_reducible exact hu5 | with_reducible refine rd_drew ?_ | with_reducible refine rd_alloc ?_))); (rintro x w7 ⟨v7, rfl, hq, b7⟩; rw [vm.out, vu5, val_one, Int.one_mul, two_nat T] at hq; obtain ⟨g7, p7, m7, c7, p8, m8, c8, rfl, GQ⟩ := isq_form hq; have q1z : w7.cell? ⟨w1.heap.size, 1, none⟩ = some (.bool g) := keep_cell b7 (by repeat (first | with_reducible exact q1y | with_reducible refine cell_drew ?_ | with_reducible refine cell_alloc ?_)); have q3z : w7.cell? ⟨w1.heap.size, 3, none⟩ = some (.int .i64 E) := keep_cell b7 (by repeat (first | with_reducible exact q3y | with_reducible refine cell_drew ?_ | with_reducible refine cell_alloc ?_)); have Kz : Blk w7 w1.heap.size #[.int .i64 k, .bool g, .int .u64 m, .int .i64 E] 42 := blk_keep b7 (by repeat (first | with_reducible exact Ky | with_reducible refine blk_drew ?_ | with_reducible refine Blk.alloc ?_ _)); have KQz : Blk w7 (w.heap.size + 1) #[.bool false, .slice none 0 0, .slice none 0 0] 49 := blk_keep b7 (by repeat (first | with_reducible exact KQy | with_reducible refine blk_drew ?_ | with_reducible refine Blk.alloc ?_ _)); have prz : Below w.heap.size w w7 := bel (by repeat (first | with_reducible exact pry | with_reducible refine bel_drw ?_ | with_reducible refine bel_alloc ?_)) b7; have kq0 : w7.cell? ⟨w.heap.size + 1, 0, none⟩ = some (.bool false) := KQz.at 0; have kq1 : w7.cell? ⟨w.heap.size + 1, 1, none⟩ = some (.slice none 0 0) := KQz.at 1; have kq2 : w7.cell? ⟨w.heap.size + 1, 2, none⟩ = some (.slice none 0 0) := KQz.at 2; have kf0 := KQz.free 0; have kf1 := KQz.free 1; have kf2 := KQz.free 2))
      | fail)
  all_goals
    clear vu5
    go_wp2_with fail
    obtain ⟨F0, F1, F2, FB⟩ := put3 (.bool g7) (.slice p7 m7 c7) (.slice p8 m8 c8) kq0 kq1 kq2
    exact bodyPost_ret (v := .agg #[.bool g7, .slice p7 m7 c7, .slice p8 m8 c8]) (by simp [results, Tryz.results15, go_sem, F0, F1, F2]) rfl ⟨_, rfl, hq.put3 KQz, FB _ _ (by omega) prz⟩
end Go.Proofs.YtiobnojcmeeikaaGreatDoor.L
