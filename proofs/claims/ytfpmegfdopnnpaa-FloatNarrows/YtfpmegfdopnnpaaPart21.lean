import Derived.Test.YtfpmegfdopnnpaaPart20
import Derived.Test.YtfpmegfdopnnpaaPart18
import Derived.Test.YtfpmegfdopnnpaaPart16

namespace Go.Proofs.Ytfpmegfdopnnpaa.L
open Go.RowKit Tl

theorem keep_cell {W w5 : World} {b i : Nat} {v : Value} (bu : Below W.heap.size W w5) (h : W.cell? ⟨b, i, none⟩ = some v) : w5.cell? ⟨b, i, none⟩ = some v := (bu.cell (p := ⟨b, i, none⟩) (lt_of_cell h)).trans h
theorem cell_alloc {w : World} {b i : Nat} {ob : Obj} {v : Value} (h : w.cell? ⟨b, i, none⟩ = some v) : (w.alloc ob).cell? ⟨b, i, none⟩ = some v := keep_cell ((Below.refl _ _).alloc (Nat.le_refl _) _) h
theorem cell_at {w : World} {n : Nat} {v : Value} {t : TypeId} (h : n = w.heap.size) : (w.alloc (.cells #[v] t)).cell? ⟨n, 0, none⟩ = some v := by subst h; simp
theorem blk_at {w : World} {n : Nat} {c : Array Value} {t : TypeId} (h : n = w.heap.size) : Blk (w.alloc (.cells c t)) n c t := by subst h; exact Blk.new _ _ _
theorem rd_alloc {w : World} {ob : Obj} {v : Value} {xs : List Int} (h : Rd w v xs) : Rd (w.alloc ob) v xs := h.grow ((Below.refl _ _).alloc (Nat.le_refl _) _)
theorem bel_alloc {w W : World} {ob : Obj} (h : Below w.heap.size w W) : Below w.heap.size w (W.alloc ob) := h.alloc h.size _
theorem blk_keep {W w5 : World} {n : Nat} {c : Array Value} {t : TypeId} (bu : Below W.heap.size W w5) (h : Blk W n c t) : Blk w5 n c t := h.below bu h.lt
theorem cell_drew {w : World} {b i : Nat} {v : Value} (h : w.cell? ⟨b, i, none⟩ = some v) : w.drew.cell? ⟨b, i, none⟩ = some v := h
theorem blk_drew {w : World} {n : Nat} {c : Array Value} {t : TypeId} (h : Blk w n c t) : Blk w.drew n c t := h
theorem bel_drw {w W : World} (h : Below w.heap.size w W) : Below w.heap.size w W.drew := h.drew
theorem rd_drew {w : World} {v : Value} {xs : List Int} (h : Rd w v xs) : Rd w.drew v xs := h.drew
theorem blk_put3 {w : World} {b : Nat} {u0 u1 u2 x y z : Value} {t : TypeId} (h : Blk w b #[u0, u1, u2] t) : Blk (((w.setCell ⟨b, 0, none⟩ x).setCell ⟨b, 1, none⟩ y).setCell ⟨b, 2, none⟩ z) b #[x, y, z] t := by
  have h' : w.heap[b]? = some (.cells #[u0, u1, u2] t (0, 0)) := h
  show (((w.setCell ⟨b, 0, none⟩ x).setCell ⟨b, 1, none⟩ y).setCell ⟨b, 2, none⟩ z).heap[b]? = _
  simp [World.setCell, Array.getElem?_modify, h']
theorem wr3 {w : World} {b : Nat} {x y z : Value} : Wr b 0 3 w (((w.setCell ⟨b, 0, none⟩ x).setCell ⟨b, 1, none⟩ y).setCell ⟨b, 2, none⟩ z) := (((Wr.refl _ _ _ _).setCell 0 (by omega) x).setCell 1 (by omega) y).setCell 2 (by omega) z
theorem blk_other3 {w : World} {b n : Nat} {x y z : Value} {c : Array Value} {t : TypeId} (h : n ≠ b) (k : Blk w n c t) : Blk (((w.setCell ⟨b, 0, none⟩ x).setCell ⟨b, 1, none⟩ y).setCell ⟨b, 2, none⟩ z) n c t := (wr3.block n k.lt h).trans k
theorem below3 {W w : World} {b : Nat} {x y z : Value} (h : Below W.heap.size W w) (hb : W.heap.size ≤ b) : Below W.heap.size W (((w.setCell ⟨b, 0, none⟩ x).setCell ⟨b, 1, none⟩ y).setCell ⟨b, 2, none⟩ z) := h.trans (wr3.below hb h.size)
theorem gap_facts {za zb ns ds : List Int} {T : Nat} {G : Int} (ha : Wd za) (hb : Wd zb) (hn : Wd ns) (hd : Wd ds) (nn : Nm ns) (nd : Nm ds) (va : val za = val [1] * 2 ^ T) (vb : val zb = val [1] * 2 ^ 1074) (vN : val ns * G = val za) (vD : val ds * G = val zb) (la : za.length ≤ 100) (lb : zb.length ≤ 100) (G0 : 0 ≤ G) :
    val ns * 2 ^ 1074 = val ds * 2 ^ T ∧ ns.length ≤ 100 ∧ ds.length ≤ 100 ∧ 0 < val ns ∧ 0 < val ds := by
  have p1 := two_pow_pos T
  have p2 := two_pow_pos 1074
  have n0 := val_nonneg hn
  have d0 := val_nonneg hd
  rw [val_one, Int.one_mul] at va vb
  generalize (2 : Int) ^ 1074 = q at *
  generalize (2 : Int) ^ T = p at *
  have g1 : 0 < G := by
    by_cases c : 0 < G
    · exact c
    · have : G = 0 := by omega
      rw [this] at vN; simp at vN; omega
  have n1 : 0 < val ns := by
    by_cases c : 0 < val ns
    · exact c
    · have : val ns = 0 := by omega
      rw [this] at vN; simp at vN; omega
  have d1 : 0 < val ds := by
    by_cases c : 0 < val ds
    · exact c
    · have : val ds = 0 := by omega
      rw [this] at vD; simp at vD; omega
  have e1 := Int.mul_le_mul_of_nonneg_left (show 1 ≤ G by omega) n0
  have e2 := Int.mul_le_mul_of_nonneg_left (show 1 ≤ G by omega) d0
  have l1 := len_mono ha hn nn (by omega)
  have l2 := len_mono hb hd nd (by omega)
  refine ⟨?_, by omega, by omega, n1, d1⟩
  rw [← va, ← vb, ← vN, ← vD]; grind
theorem one_len : ([1] : List Int).length ≤ 549755813888 := by decide
theorem h1_wd : Wd [1] := Wd.cons (by decide) (by decide) Wd.nil
theorem set3_other {w : World} {b b' i : Nat} {x y z v : Value} (_h : b' ≠ b) (q : w.cell? ⟨b', i, none⟩ = some v) : (((w.setCell ⟨b, 0, none⟩ x).setCell ⟨b, 1, none⟩ y).setCell ⟨b, 2, none⟩ z).cell? ⟨b', i, none⟩ = some v := by
  rw [World.cell?_setCell_other _ _ _ _ (by simp), World.cell?_setCell_other _ _ _ _ (by simp), World.cell?_setCell_other _ _ _ _ (by simp)]; exact q
set_option maxHeartbeats 1600000 in
set_option maxRecDepth 100000 in
/-- Of one that is not finite. -/
theorem RGap_no (n : Int) (F : ∀ w, Calls Try.prog 66 #[szW, .int .u64 n] w fun e w' => e = .returned (.bool false) ∧ Below w.heap.size w w') (w : World) :
    Calls Try.prog 35 #[.int .u64 n] w fun r w' => r = .returned (.tuple #[.int .u64 0, .bool false]) ∧ Below w.heap.size w w' := by
  go_enter Try.func35, Try.ntmps35
  go_wp2_with (first
    | (go_at_call 10; refine (Wide_any _).mono ?_; rintro x w1 ⟨rfl, b1⟩; have pr := b1; clear b1; have m0 := Blk.new w1 #[.int .i64 53, .int .i64 (-1074), .int .i64 971, .int .i64 52] 31; have q0 : (w1.alloc (.cells #[.int .i64 53, .int .i64 (-1074), .int .i64 971, .int .i64 52] 31)).cell? ⟨w1.heap.size, 0, none⟩ = some (.int .i64 53) := m0.at 0; have q1 : (w1.alloc (.cells #[.int .i64 53, .int .i64 (-1074), .int .i64 971, .int .i64 52] 31)).cell? ⟨w1.heap.size, 1, none⟩ = some (.int .i64 (-1074)) := m0.at 1; have q2 : (w1.alloc (.cells #[.int .i64 53, .int .i64 (-1074), .int .i64 971, .int .i64 52] 31)).cell? ⟨w1.heap.size, 2, none⟩ = some (.int .i64 971) := m0.at 2; have q3 : (w1.alloc (.cells #[.int .i64 53, .int .i64 (-1074), .int .i64 971, .int .i64 52] 31)).cell? ⟨w1.heap.size, 3, none⟩ = some (.int .i64 52) := m0.at 3; clear m0)
    | (go_at_call 66; (with_reducible refine (F _).mono ?_); rintro x w4 ⟨rfl, b4⟩; obtain ⟨b5, K2⟩ := var4 b4; clear b4; replace pr := bel pr b5; clear b5)
    | fail)
  exact bodyPost_ret (v := .tuple #[.int .u64 0, .bool false]) (by simp [results, Try.results35, go_sem]) rfl ⟨rfl, pr⟩
set_option maxHeartbeats 6400000 in
set_option maxRecDepth 100000 in
/-- The reference's Gap: of a normal one. -/
theorem RGap_norm (n : Int) (g : Bool) (m ex : Int) (T : Nat) (F : ∀ w, Calls Try.prog 66 #[szW, .int .u64 n] w fun e w' => e = .returned (.bool true) ∧ Below w.heap.size w w')
    (S : ∀ w, Calls Try.prog 11 #[szW, .int .u64 n] w fun e w' => e = .returned (.agg #[.int .i64 2, .bool g, .int .u64 m, .int .i64 ex]) ∧ Below w.heap.size w w') (hT : ex + 1074 = T) (T1 : T ≤ 2045) (w : World) :
    Calls Try.prog 35 #[.int .u64 n] w fun r w' => r = .returned (.tuple #[.int .u64 (gapB T), .bool true]) ∧ Below w.heap.size w w' := by
  have hw1 : IntKind.i64.wrap (ex + 1074) = (T : Int) := by rw [hT]; exact wrap_self _ (by omega) (by omega)
  clear hT
  have T2 : T ≤ 1099511627776 := by omega
  have S2 : ∀ (w : World) (v : Value), Rd w v [1] → Calls Try.prog 68 #[v, .int .i64 1074] w fun e w' => ∃ r zs, e = .returned r ∧ Rd w' r zs ∧ Nm zs ∧ val zs = val [1] * 2 ^ 1074 ∧ Below w.heap.size w w' := fun w v h => Shl_any v [1] 1074 w h one_len (by decide)
  have lh : 100 ≤ 274877906944 := by decide
  have hw3 : IntKind.i64.wrap 1074 = 1074 := by decide
  have fk := field_kind 2 m ex g
  have fe := field_exp 2 m ex g
  go_enter Try.func35, Try.ntmps35
  go_upto_region 7 with (first
    | (go_at_call 10; refine (Wide_any _).mono ?_; rintro x w1 ⟨rfl, b1⟩; have pr := b1; clear b1; have m0 := Blk.new w1 #[.int .i64 53, .int .i64 (-1074), .int .i64 971, .int .i64 52] 31; have q0 : (w1.alloc (.cells #[.int .i64 53, .int .i64 (-1074), .int .i64 971, .int .i64 52] 31)).cell? ⟨w1.heap.size, 0, none⟩ = some (.int .i64 53) := m0.at 0; have q1 : (w1.alloc (.cells #[.int .i64 53, .int .i64 (-1074), .int .i64 971, .int .i64 52] 31)).cell? ⟨w1.heap.size, 1, none⟩ = some (.int .i64 (-1074)) := m0.at 1; have q2 : (w1.alloc (.cells #[.int .i64 53, .int .i64 (-1074), .int .i64 971, .int .i64 52] 31)).cell? ⟨w1.heap.size, 2, none⟩ = some (.int .i64 971) := m0.at 2; have q3 : (w1.alloc (.cells #[.int .i64 53, .int .i64 (-1074), .int .i64 971, .int .i64 52] 31)).cell? ⟨w1.heap.size, 3, none⟩ = some (.int .i64 52) := m0.at 3; clear m0)
    | (go_at_call 66; (with_reducible refine (F _).mono ?_); rintro x w4 ⟨rfl, b4⟩; obtain ⟨b5, K2⟩ := var4 b4; clear b4; replace pr := bel pr b5; clear b5; have q0 : w4.cell? ⟨w1.heap.size, 0, none⟩ = some (.int .i64 53) := K2.at 0; have q1 : w4.cell? ⟨w1.heap.size, 1, none⟩ = some (.int .i64 (-1074)) := K2.at 1; have q2 : w4.cell? ⟨w1.heap.size, 2, none⟩ = some (.int .i64 971) := K2.at 2; have q3 : w4.cell? ⟨w1.heap.size, 3, none⟩ = some (.int .i64 52) := K2.at 3)
    | (go_at_call 11; (with_reducible refine (S _).mono ?_); rintro x w4 ⟨rfl, b4⟩; replace K2 := K2.below b4 K2.lt; replace pr := bel pr b4; clear b4; have q0 : w4.cell? ⟨w1.heap.size, 0, none⟩ = some (.int .i64 53) := K2.at 0; have q1 : w4.cell? ⟨w1.heap.size, 1, none⟩ = some (.int .i64 (-1074)) := K2.at 1; have q2 : w4.cell? ⟨w1.heap.size, 2, none⟩ = some (.int .i64 971) := K2.at 2; have q3 : w4.cell? ⟨w1.heap.size, 3, none⟩ = some (.int .i64 52) := K2.at 3)
    | fail)
  clear q0 q1 q2 q3
  have q0 : w4.cell? ⟨w1.heap.size, 0, none⟩ = some (.int .i64 53) := K2.at 0
  have q1 : w4.cell? ⟨w1.heap.size, 1, none⟩ = some (.int .i64 (-1074)) := K2.at 1
  have L2 := K2.lt
  clear F S fk fe
  go_cut [6] (fun p wc => ∃ (b : Nat) (v1 v2 : Value) (ns ds : List Int), p = .pointer (some ⟨b, 0, none⟩) ∧ Blk wc b #[.bool false, v1, v2] 91 ∧ Rd wc v1 ns ∧ Nm ns ∧ Rd wc v2 ds ∧ Nm ds ∧ val ns * 2 ^ 1074 = val ds * 2 ^ T ∧ ns.length ≤ 100 ∧ ds.length ≤ 100 ∧ 0 < val ns ∧ 0 < val ds ∧ Blk wc w1.heap.size #[.int .i64 53, .int .i64 (-1074), .int .i64 971, .int .i64 52] 31 ∧ Below w.heap.size w wc)
  case first =>
    go_region_held3 (fun x => x.cell? ⟨w1.heap.size, 1, none⟩ = some (.int .i64 (-1074))) (first | ((try dsimp only); (repeat (first | with_reducible exact q3' | with_reducible exact q2' | with_reducible exact q1' | with_reducible exact q1 | with_reducible refine cell_drew ?_ | with_reducible refine cell_alloc ?_)); done) | exact set3_other nq7 q3' | go_keep) (first
      | (go_at_call 68; ((with_reducible refine (Shl_any _ [1] T _ ?hrd one_len T2).mono ?_)); (case hrd => exact rd_one (by repeat (first | ((with_reducible refine cell_at ?_); (first | rfl | (simp; done))) | with_reducible refine cell_drew ?_ | with_reducible refine cell_alloc ?_)) (by decide) (by decide)); (rintro x w5 ⟨u, za, rfl, hu, nu, vu, bu⟩; have q1' : w5.cell? ⟨w1.heap.size, 1, none⟩ = some (.int .i64 (-1074)) := keep_cell bu (by repeat (first | with_reducible exact q1 | with_reducible refine cell_drew ?_ | with_reducible refine cell_alloc ?_)); have K5 : Blk w5 w1.heap.size #[.int .i64 53, .int .i64 (-1074), .int .i64 971, .int .i64 52] 31 := blk_keep bu (by repeat (first | with_reducible exact K2 | with_reducible refine blk_drew ?_ | with_reducible refine Blk.alloc ?_ _)); have pr5 : Below w.heap.size w w5 := bel (by repeat (first | with_reducible exact pr | with_reducible refine bel_drw ?_ | with_reducible refine bel_alloc ?_)) bu))
      | (go_at_call 68; ((with_reducible refine (S2 _ _ ?hrd).mono ?_)); (case hrd => exact rd_one (by repeat (first | ((with_reducible refine cell_at ?_); (first | rfl | (simp; done))) | with_reducible refine cell_drew ?_ | with_reducible refine cell_alloc ?_ | with_reducible refine keep_cell bu ?_)) (by decide) (by decide)); (rintro x w6 ⟨u6, zb, rfl, hu6, nu6, vu6, bu6⟩; have q2' : w6.cell? ⟨w1.heap.size, 1, none⟩ = some (.int .i64 (-1074)) := keep_cell bu6 (by repeat (first | with_reducible exact q1' | with_reducible refine cell_drew ?_ | with_reducible refine cell_alloc ?_)); have K6 : Blk w6 w1.heap.size #[.int .i64 53, .int .i64 (-1074), .int .i64 971, .int .i64 52] 31 := blk_keep bu6 (by repeat (first | with_reducible exact K5 | with_reducible refine blk_drew ?_ | with_reducible refine Blk.alloc ?_ _)); have pr6 : Below w.heap.size w w6 := bel (by repeat (first | with_reducible exact pr5 | with_reducible refine bel_drw ?_ | with_reducible refine bel_alloc ?_)) bu6; have hu2 : Rd w6 u za := Rd.grow (by repeat (first | with_reducible exact hu | with_reducible refine rd_drew ?_ | with_reducible refine rd_alloc ?_)) bu6))
      | (go_at_call 67; have la : za.length ≤ 100 := (by have h9 := shl_len2 h1_wd hu.1 nu vu; simp at h9; omega); have lb : zb.length ≤ 100 := (by have h9 := shl_len2 h1_wd hu6.1 nu6 vu6; simp at h9; omega); have pa : 0 < za.length := shl_pos (by decide) nm_one h1_wd vu; ((with_reducible refine (Make_any false _ _ za zb 100 _ ?hr1 ?hr2 nu nu6 la lb lh pa).mono ?_)); (case hr1 => exact (by repeat (first | with_reducible exact hu2 | with_reducible refine rd_drew ?_ | with_reducible refine rd_alloc ?_))); (case hr2 => exact (by repeat (first | with_reducible exact hu6 | with_reducible refine rd_drew ?_ | with_reducible refine rd_alloc ?_))); (rintro x w7 ⟨u7, u8, ns, ds, rfl, hN, nN, hD, nD, vN, vD, b7⟩; have q3' : w7.cell? ⟨w1.heap.size, 1, none⟩ = some (.int .i64 (-1074)) := keep_cell b7 (by repeat (first | with_reducible exact q2' | with_reducible refine cell_drew ?_ | with_reducible refine cell_alloc ?_)); have K7 : Blk w7 w1.heap.size #[.int .i64 53, .int .i64 (-1074), .int .i64 971, .int .i64 52] 31 := blk_keep b7 (by repeat (first | with_reducible exact K6 | with_reducible refine blk_drew ?_ | with_reducible refine Blk.alloc ?_ _)); have pr7 : Below w.heap.size w w7 := bel (by repeat (first | with_reducible exact pr6 | with_reducible refine bel_drw ?_ | with_reducible refine bel_alloc ?_)) b7; obtain ⟨a7, c7, rfl⟩ : ∃ a c, u7 = .slice a ns.length c := (by obtain ⟨_, a, c, e, _⟩ := hN; exact ⟨a, c, e⟩); obtain ⟨a8, c8, rfl⟩ : ∃ a c, u8 = .slice a ds.length c := (by obtain ⟨_, a, c, e, _⟩ := hD; exact ⟨a, c, e⟩); (first | ((refine (fun (KQ : Blk w7 w6.heap.size #[.bool false, .slice none 0 0, .slice none 0 0] 91) => ?_) ?kq); (case kq => ((with_reducible refine blk_keep b7 ?_); (repeat (first | ((with_reducible refine blk_at ?_); (first | rfl | (simp; done))) | with_reducible refine blk_drew ?_ | with_reducible refine Blk.alloc ?_ _)); done)); (have kq0 : w7.cell? ⟨w6.heap.size, 0, none⟩ = some (.bool false) := KQ.at 0; have kq1 : w7.cell? ⟨w6.heap.size, 1, none⟩ = some (.slice none 0 0) := KQ.at 1; have kq2 : w7.cell? ⟨w6.heap.size, 2, none⟩ = some (.slice none 0 0) := KQ.at 2; have kf0 := KQ.free 0; have kf1 := KQ.free 1; have kf2 := KQ.free 2; have nq7 : w1.heap.size ≠ w6.heap.size := fun h => (by rw [h] at K7; have e7 := K7.symm.trans KQ; simp at e7))) | ((refine (fun (KQ : Blk w7 w5.heap.size #[.bool false, .slice none 0 0, .slice none 0 0] 91) => ?_) ?kq); (case kq => ((with_reducible refine blk_keep b7 ?_); (repeat (first | ((with_reducible refine blk_at ?_); (first | rfl | (simp; done))) | with_reducible refine blk_drew ?_ | with_reducible refine Blk.alloc ?_ _ | with_reducible refine blk_keep bu6 ?_)); done)); (have kq0 : w7.cell? ⟨w5.heap.size, 0, none⟩ = some (.bool false) := KQ.at 0; have kq1 : w7.cell? ⟨w5.heap.size, 1, none⟩ = some (.slice none 0 0) := KQ.at 1; have kq2 : w7.cell? ⟨w5.heap.size, 2, none⟩ = some (.slice none 0 0) := KQ.at 2; have kf0 := KQ.free 0; have kf1 := KQ.free 1; have kf2 := KQ.free 2; have nq7 : w1.heap.size ≠ w5.heap.size := fun h => (by rw [h] at K7; have e7 := K7.symm.trans KQ; simp at e7))) | ((refine (fun (KQ : Blk w7 (w5.heap.size + 1) #[.bool false, .slice none 0 0, .slice none 0 0] 91) => ?_) ?kq); (case kq => ((with_reducible refine blk_keep b7 ?_); (repeat (first | ((with_reducible refine blk_at ?_); (first | rfl | (simp; done))) | with_reducible refine blk_drew ?_ | with_reducible refine Blk.alloc ?_ _ | with_reducible refine blk_keep bu6 ?_)); done)); (have kq0 : w7.cell? ⟨(w5.heap.size + 1), 0, none⟩ = some (.bool false) := KQ.at 0; have kq1 : w7.cell? ⟨(w5.heap.size + 1), 1, none⟩ = some (.slice none 0 0) := KQ.at 1; have kq2 : w7.cell? ⟨(w5.heap.size + 1), 2, none⟩ = some (.slice none 0 0) := KQ.at 2; have kf0 := KQ.free 0; have kf1 := KQ.free 1; have kf2 := KQ.free 2; have nq7 : w1.heap.size ≠ (w5.heap.size + 1) := fun h => (by rw [h] at K7; have e7 := K7.symm.trans KQ; simp at e7))) | ((refine (fun (KQ : Blk w7 w4.heap.size #[.bool false, .slice none 0 0, .slice none 0 0] 91) => ?_) ?kq); (case kq => ((with_reducible refine blk_keep b7 ?_); (repeat (first | ((with_reducible refine blk_at ?_); (first | rfl | (simp; done))) | with_reducible refine blk_drew ?_ | with_reducible refine Blk.alloc ?_ _ | with_reducible refine blk_keep bu6 ?_ | with_reducible refine blk_keep bu ?_)); done)); (have kq0 : w7.cell? ⟨w4.heap.size, 0, none⟩ = some (.bool false) := KQ.at 0; have kq1 : w7.cell? ⟨w4.heap.size, 1, none⟩ = some (.slice none 0 0) := KQ.at 1; have kq2 : w7.cell? ⟨w4.heap.size, 2, none⟩ = some (.slice none 0 0) := KQ.at 2; have kf0 := KQ.free 0; have kf1 := KQ.free 1; have kf2 := KQ.free 2; have nq7 : w1.heap.size ≠ w4.heap.size := fun h => (by rw [h] at K7; have e7 := K7.symm.trans KQ; simp at e7))) | ((refine (fun (KQ : Blk w7 (w4.heap.size + 1) #[.bool false, .slice none 0 0, .slice none 0 0] 91) => ?_) ?kq); (case kq => ((with_reducible refine blk_keep b7 ?_); (repeat (first | ((with_reducible refine blk_at ?_); (first | rfl | (simp; done))) | with_reducible refine blk_drew ?_ | with_reducible refine Blk.alloc ?_ _ | with_reducible refine blk_keep bu6 ?_ | with_reducible refine blk_keep bu ?_)); done)); (have kq0 : w7.cell? ⟨(w4.heap.size + 1), 0, none⟩ = some (.bool false) := KQ.at 0; have kq1 : w7.cell? ⟨(w4.heap.size + 1), 1, none⟩ = some (.slice none 0 0) := KQ.at 1; have kq2 : w7.cell? ⟨(w4.heap.size + 1), 2, none⟩ = some (.slice none 0 0) := KQ.at 2; have kf0 := KQ.free 0; have kf1 := KQ.free 1; have kf2 := KQ.free 2; have nq7 : w1.heap.size ≠ (w4.heap.size + 1) := fun h => (by rw [h] at K7; have e7 := K7.symm.trans KQ; simp at e7))) | ((refine (fun (KQ : Blk w7 (w4.heap.size + 2) #[.bool false, .slice none 0 0, .slice none 0 0] 91) => ?_) ?kq); (case kq => ((with_reducible refine blk_keep b7 ?_); (repeat (first | ((with_reducible refine blk_at ?_); (first | rfl | (simp; done))) | with_reducible refine blk_drew ?_ | with_reducible refine Blk.alloc ?_ _ | with_reducible refine blk_keep bu6 ?_ | with_reducible refine blk_keep bu ?_)); done)); (have kq0 : w7.cell? ⟨(w4.heap.size + 2), 0, none⟩ = some (.bool false) := KQ.at 0; have kq1 : w7.cell? ⟨(w4.heap.size + 2), 1, none⟩ = some (.slice none 0 0) := KQ.at 1; have kq2 : w7.cell? ⟨(w4.heap.size + 2), 2, none⟩ = some (.slice none 0 0) := KQ.at 2; have kf0 := KQ.free 0; have kf1 := KQ.free 1; have kf2 := KQ.free 2; have nq7 : w1.heap.size ≠ (w4.heap.size + 2) := fun h => (by rw [h] at K7; have e7 := K7.symm.trans KQ; simp at e7))) | ((refine (fun (KQ : Blk w7 (w4.heap.size + 1 + 1) #[.bool false, .slice none 0 0, .slice none 0 0] 91) => ?_) ?kq); (case kq => ((with_reducible refine blk_keep b7 ?_); (repeat (first | ((with_reducible refine blk_at ?_); (first | rfl | (simp; done))) | with_reducible refine blk_drew ?_ | with_reducible refine Blk.alloc ?_ _ | with_reducible refine blk_keep bu6 ?_ | with_reducible refine blk_keep bu ?_)); done)); (have kq0 : w7.cell? ⟨(w4.heap.size + 1 + 1), 0, none⟩ = some (.bool false) := KQ.at 0; have kq1 : w7.cell? ⟨(w4.heap.size + 1 + 1), 1, none⟩ = some (.slice none 0 0) := KQ.at 1; have kq2 : w7.cell? ⟨(w4.heap.size + 1 + 1), 2, none⟩ = some (.slice none 0 0) := KQ.at 2; have kf0 := KQ.free 0; have kf1 := KQ.free 1; have kf2 := KQ.free 2; have nq7 : w1.heap.size ≠ (w4.heap.size + 1 + 1) := fun h => (by rw [h] at K7; have e7 := K7.symm.trans KQ; simp at e7))) | skip)))
      | fail)
    all_goals
      have GF := gap_facts hu.1 hu6.1 hN.1 hD.1 nN nD vu vu6 vN vD la lb (Int.natCast_nonneg _)
      clear vu vu6 vN vD
      go_wp2_with fail
      go_meet
      case rel =>
        refine ⟨_, .slice a7 ns.length c7, .slice a8 ds.length c8, ns, ds, rfl, ?_, ?_, nN, ?_, nD, GF.1, GF.2.1, GF.2.2.1, GF.2.2.2.1, GF.2.2.2.2, ?_, ?_⟩
        · first | with_reducible exact blk_put3 KQ | ((with_reducible refine blk_at ?_); simp)
        · first | with_reducible exact Rd.putQ hN KQ | with_reducible exact rd_alloc hN
        · first | with_reducible exact Rd.putQ hD KQ | with_reducible exact rd_alloc hD
        · first | with_reducible exact blk_other3 nq7 K7 | with_reducible exact Blk.alloc K7 _
        · first | with_reducible exact bel_alloc pr7 | ((with_reducible refine below3 pr7 ?_); (have s1 := pr.size; have s2 := pr5.size; have s3 := pr6.size; omega))
  case rest =>
    obtain ⟨b, v1, v2, ns, ds, rfl, KQ, h1, n1, h2, n2, cr, l1, l2, p1, p2, K1, prc⟩ := hcut
    have GX : Hid (∀ e m r : Int, Fl (val ns) (val ds) e m r → 0 ≤ m → -1074 ≤ e → m < 9007199254740992 → (e = -1074 ∨ 4503599627370496 ≤ m) → (r = 0 ∧ e ≤ 971) ∧ lay52 m e = gapB T) := fun e m r h m0 e0 m1 st => gap_exact (Z := 1074) rfl T1 p2 cr h m0 e0 m1 st
    clear cr K2 q0 q1 L2 pr
    have y0 : wc.cell? ⟨b, 0, none⟩ = some (.bool false) := KQ.at 0
    have y1 : wc.cell? ⟨b, 1, none⟩ = some v1 := KQ.at 1
    have y2 : wc.cell? ⟨b, 2, none⟩ = some v2 := KQ.at 2
    have z0 : wc.cell? ⟨w1.heap.size, 0, none⟩ = some (.int .i64 53) := K1.at 0
    have z1 : wc.cell? ⟨w1.heap.size, 1, none⟩ = some (.int .i64 (-1074)) := K1.at 1
    have z2 : wc.cell? ⟨w1.heap.size, 2, none⟩ = some (.int .i64 971) := K1.at 2
    have z3 : wc.cell? ⟨w1.heap.size, 3, none⟩ = some (.int .i64 52) := K1.at 3
    obtain ⟨a7, c7, rfl⟩ : ∃ a c, v1 = .slice a ns.length c := by obtain ⟨_, a, c, e, _⟩ := h1; exact ⟨a, c, e⟩
    obtain ⟨a8, c8, rfl⟩ : ∃ a c, v2 = .slice a ds.length c := by obtain ⟨_, a, c, e, _⟩ := h2; exact ⟨a, c, e⟩
    go_wp2_with (first
      | (go_at_call 56; (refine (Rounded_w _ _ ns ds 6 _ h1 h2 n1 n2 (by omega) (by omega) p1 p2 (fun e m r h a b c d => (GX.out e m r h a b c d).1)).mono ?_); (rintro x w9 ⟨ee, mm, fl, m0, m1, e0, st, rfl, b9⟩; have EQ : Hid (lay52 mm ee = gapB T) := (GX.out ee mm 0 fl m0 e0 m1 st).2))
      | fail)
    exact bodyPost_ret (v := .tuple #[.int .u64 (lay52 mm ee), .bool true]) (by simp [results, Try.results35, go_sem]) rfl ⟨by rw [EQ.out], bel prc b9⟩
end Go.Proofs.Ytfpmegfdopnnpaa.L

namespace Go.Proofs.Ytfpmegfdopnnpaa.L
open Go.RowKit Tl

set_option maxRecDepth 100000 in
theorem Mode_yes (way : Int) (h1 : 1 ≤ way) (h2 : way ≤ 6) (w : World) : Calls Try.prog 55 #[.int .i64 way] w fun e w' => e = .returned (.bool true) ∧ w' = w := by
  go_enter Try.func55, Try.ntmps55
  go_wp2
  go_ret
  exact ⟨rfl, rfl⟩
set_option maxRecDepth 100000 in
theorem Mode_low (way : Int) (h1 : way < 1) (w : World) : Calls Try.prog 55 #[.int .i64 way] w fun e w' => e = .returned (.bool false) ∧ w' = w := by
  have h : ¬ 1 ≤ way := by omega
  go_enter Try.func55, Try.ntmps55
  go_wp2
  go_ret
  exact ⟨rfl, rfl⟩
set_option maxRecDepth 100000 in
theorem Mode_high (way : Int) (h1 : 6 < way) (w : World) : Calls Try.prog 55 #[.int .i64 way] w fun e w' => e = .returned (.bool false) ∧ w' = w := by
  have h : 1 ≤ way := by omega
  have h2 : ¬ way ≤ 6 := by omega
  go_enter Try.func55, Try.ntmps55
  go_wp2
  go_ret
  exact ⟨rfl, rfl⟩
set_option maxHeartbeats 1600000 in
set_option maxRecDepth 100000 in
theorem Of_pos (n : Int) (n0 : 0 ≤ n) (n1 : n < 9223372036854775808) (w : World) :
    Calls Try.prog 74 #[.int .i64 n] w fun e w' => ∃ u1 u2 ns, e = .returned (.agg #[.bool false, u1, u2]) ∧ Rd w' u1 ns ∧ Nm ns ∧ val ns = n ∧ Rd w' u2 [1] ∧ Below w.heap.size w w' := by
  have hz : ¬ n < 0 := by omega
  have K0 := Blk.new w #[.bool false, .slice none 0 0, .slice none 0 0] 91
  have pr : Below w.heap.size w (w.alloc (.cells #[.bool false, .slice none 0 0, .slice none 0 0] 91)) := (Below.refl _ _).alloc (Nat.le_refl _) _
  go_enter Try.func74, Try.ntmps74
  go_wp2_with (first
    | (go_at_call 103; (refine (NatOf_any (n) _ (by omega) (by omega)).mono ?_); (rintro x w1 ⟨u, ns, rfl, hu, nu, vu, b1⟩; have VU : Hid (val ns = n) := vu; clear vu; replace K0 := (K0.below b1 K0.lt).alloc (.cells #[.int .i64 1] 3); replace pr := (bel pr b1); have pr2 := pr.alloc pr.size (.cells #[.int .i64 1] 3); replace hu := hu.grow ((Below.refl _ _).alloc (Nat.le_refl _) (.cells #[.int .i64 1] 3)); have ho : Rd (w1.alloc (.cells #[.int .i64 1] 3)) (.slice (some ⟨w1.heap.size, 0, none⟩) 1 1) [1] := rd_one (by simp) (by decide) (by decide); have e0 : (w1.alloc (.cells #[.int .i64 1] 3)).cell? ⟨w.heap.size, 0, none⟩ = some (.bool false) := K0.at 0; have e1 : (w1.alloc (.cells #[.int .i64 1] 3)).cell? ⟨w.heap.size, 1, none⟩ = some (.slice none 0 0) := K0.at 1; have e2 : (w1.alloc (.cells #[.int .i64 1] 3)).cell? ⟨w.heap.size, 2, none⟩ = some (.slice none 0 0) := K0.at 2; have z0 := K0.free 0; have z1 := K0.free 1; have z2 := K0.free 2; obtain ⟨a1, c1, rfl⟩ : ∃ a c, u = .slice a ns.length c := (by obtain ⟨_, a, c, e, _⟩ := hu; exact ⟨a, c, e⟩)))
    | fail)
  obtain ⟨F0, F1, F2, FB⟩ := put3 (.bool false) (.slice a1 ns.length c1) (.slice (some ⟨w1.heap.size, 0, none⟩) 1 1) e0 e1 e2
  exact bodyPost_ret (v := .agg #[.bool false, .slice a1 ns.length c1, .slice (some ⟨w1.heap.size, 0, none⟩) 1 1]) (by simp [results, Try.results74, go_sem, F0, F1, F2]) rfl ⟨_, _, ns, rfl, hu.putQ K0, nu, VU.out, ho.putQ K0, FB _ _ (Nat.le_refl _) pr2⟩
set_option maxHeartbeats 1600000 in
set_option maxRecDepth 100000 in
theorem Of_neg (n : Int) (n0 : n < 0) (n1 : -9223372036854775808 ≤ n) (w : World) :
    Calls Try.prog 74 #[.int .i64 n] w fun e w' => ∃ u1 u2 ns, e = .returned (.agg #[.bool true, u1, u2]) ∧ Rd w' u1 ns ∧ Nm ns ∧ val ns = -n ∧ Rd w' u2 [1] ∧ Below w.heap.size w w' := by
  have c1 : IntKind.u64.wrap n = n + 18446744073709551616 := by rw [IntKind.wrap_u64]; omega
  have c2 : IntKind.u64.wrap (-(n + 18446744073709551616)) = -n := by rw [IntKind.wrap_u64]; omega
  have K0 := Blk.new w #[.bool false, .slice none 0 0, .slice none 0 0] 91
  have pr : Below w.heap.size w (w.alloc (.cells #[.bool false, .slice none 0 0, .slice none 0 0] 91)) := (Below.refl _ _).alloc (Nat.le_refl _) _
  go_enter Try.func74, Try.ntmps74
  go_wp2_with (first
    | (go_at_call 91; (refine (NatOf64_any (-n) _ (by omega) (by omega)).mono ?_); (rintro x w1 ⟨u, ns, rfl, hu, nu, vu, b1⟩; have VU : Hid (val ns = -n) := vu; clear vu; replace K0 := (K0.below b1 K0.lt).alloc (.cells #[.int .i64 1] 3); replace pr := (bel pr b1); have pr2 := pr.alloc pr.size (.cells #[.int .i64 1] 3); replace hu := hu.grow ((Below.refl _ _).alloc (Nat.le_refl _) (.cells #[.int .i64 1] 3)); have ho : Rd (w1.alloc (.cells #[.int .i64 1] 3)) (.slice (some ⟨w1.heap.size, 0, none⟩) 1 1) [1] := rd_one (by simp) (by decide) (by decide); have e0 : (w1.alloc (.cells #[.int .i64 1] 3)).cell? ⟨w.heap.size, 0, none⟩ = some (.bool false) := K0.at 0; have e1 : (w1.alloc (.cells #[.int .i64 1] 3)).cell? ⟨w.heap.size, 1, none⟩ = some (.slice none 0 0) := K0.at 1; have e2 : (w1.alloc (.cells #[.int .i64 1] 3)).cell? ⟨w.heap.size, 2, none⟩ = some (.slice none 0 0) := K0.at 2; have z0 := K0.free 0; have z1 := K0.free 1; have z2 := K0.free 2; obtain ⟨a1, c1, rfl⟩ : ∃ a c, u = .slice a ns.length c := (by obtain ⟨_, a, c, e, _⟩ := hu; exact ⟨a, c, e⟩)))
    | fail)
  obtain ⟨F0, F1, F2, FB⟩ := put3 (.bool true) (.slice a1 ns.length c1) (.slice (some ⟨w1.heap.size, 0, none⟩) 1 1) e0 e1 e2
  exact bodyPost_ret (v := .agg #[.bool true, .slice a1 ns.length c1, .slice (some ⟨w1.heap.size, 0, none⟩) 1 1]) (by simp [results, Try.results74, go_sem, F0, F1, F2]) rfl ⟨_, _, ns, rfl, hu.putQ K0, nu, VU.out, ho.putQ K0, FB _ _ (Nat.le_refl _) pr2⟩
end Go.Proofs.Ytfpmegfdopnnpaa.L

namespace Go.Proofs.Ytfpmegfdopnnpaa.L
open Go.RowKit Tl

theorem nm_len64 {ns : List Int} (h : Wd ns) (n : Nm ns) (hm : val ns < 18446744073709551616) : ns.length ≤ 3 := by
  by_cases c : ns.length ≤ 3
  · exact c
  · have := val_low h n (by intro e; rw [e] at c; simp at c)
    have := pw_mono (show 3 ≤ ns.length - 1 by omega)
    have : pw 3 = 1237940039285380274899124224 := by decide
    omega
/-- Q's Sign of nought. -/
theorem Sign_zero (neg : Bool) (a1 a2 : Option Addr) (c1 n2 c2 : Nat) (w : World) :
    Calls Try.prog 84 #[.agg #[.bool neg, .slice a1 0 c1, .slice a2 n2 c2]] w fun e w' => e = .returned (.int .i64 0) ∧ Below w.heap.size w w' := by
  go_enter Try.func84, Try.ntmps84
  go_wp2
  go_ret
  exact ⟨rfl, (Below.refl _ _).alloc (Nat.le_refl _) _⟩
set_option maxHeartbeats 1600000 in
set_option maxRecDepth 100000 in
/-- Rounded of nought. -/
theorem Rounded_zero (P Lo Hi Fr : Int) (neg : Bool) (a1 a2 : Option Addr) (c1 n2 c2 : Nat) (way : Int) (w : World) :
    Calls Try.prog 56 #[.agg #[.int .i64 P, .int .i64 Lo, .int .i64 Hi, .int .i64 Fr], .agg #[.bool neg, .slice a1 0 c1, .slice a2 n2 c2], .int .i64 way] w fun e w' => e = .returned (.tuple #[.int .u64 0, .bool false]) ∧ Below w.heap.size w w' := by
  have pr : Below w.heap.size w ((w.alloc (.cells #[.int .i64 P, .int .i64 Lo, .int .i64 Hi, .int .i64 Fr] 31)).alloc (.cells #[.bool neg, .slice a1 0 c1, .slice a2 n2 c2] 91)) := ((Below.refl _ _).alloc (Nat.le_refl _) _).alloc (by simp) _
  go_enter Try.func56, Try.ntmps56
  go_wp2_with (first
    | (go_at_call 84; refine (Sign_zero neg a1 a2 c1 n2 c2 _).mono ?_; rintro r w1 ⟨rfl, bb⟩; replace pr := bel pr bb)
    | fail)
  exact bodyPost_ret (v := .tuple #[.int .u64 0, .bool false]) (by simp [results, Try.results56, go_sem]) rfl ⟨rfl, pr⟩
set_option maxHeartbeats 1600000 in
set_option maxRecDepth 100000 in
/-- The reference's OfInt, by a way that is none. -/
theorem ROfInt_no (n way : Int) (M : ∀ w, Calls Try.prog 55 #[.int .i64 way] w fun e w' => e = .returned (.bool false) ∧ w' = w) (w : World) :
    Calls Try.prog 39 #[.int .i64 n, .int .i64 way] w fun e w' => e = .returned (.tuple #[.int .u64 0, .int .i64 1]) ∧ Below w.heap.size w w' := by
  go_enter Try.func39, Try.ntmps39
  go_wp2_with (first
    | (go_at_call 55; refine (M _).mono ?_; rintro x w1 ⟨rfl, rfl⟩)
    | fail)
  exact bodyPost_ret (v := .tuple #[.int .u64 0, .int .i64 1]) (by simp [results, Try.results39, go_sem]) rfl ⟨rfl, Below.refl _ _⟩
set_option maxHeartbeats 1600000 in
set_option maxRecDepth 100000 in
/-- The reference's OfInt: of a number that is not nought, whose size is S. -/
theorem ROfInt_some (n way S : Int) (neg : Bool) (S0 : 0 < S) (S1 : S < 18446744073709551616) (M : ∀ w, Calls Try.prog 55 #[.int .i64 way] w fun e w' => e = .returned (.bool true) ∧ w' = w)
    (O : ∀ w, Calls Try.prog 74 #[.int .i64 n] w fun e w' => ∃ u1 u2 ns, e = .returned (.agg #[.bool neg, u1, u2]) ∧ Rd w' u1 ns ∧ Nm ns ∧ val ns = S ∧ Rd w' u2 [1] ∧ Below w.heap.size w w') (w : World) :
    Calls Try.prog 39 #[.int .i64 n, .int .i64 way] w fun r w' => ∃ e m q : Int, Fl S 1 e m q ∧ 0 ≤ m ∧ m < 9007199254740992 ∧ -1074 ≤ e ∧ (e = -1074 ∨ 4503599627370496 ≤ m) ∧ r = .returned (.tuple #[.int .u64 (laidW neg (rnd neg way m q (1 * 2 ^ e.toNat)) e way).1, .int .i64 0]) ∧ Below w.heap.size w w' := by
  have pr := Below.refl w.heap.size w
  have HS0 : Hid (0 < S) := S0
  go_enter Try.func39, Try.ntmps39
  go_wp2_with (first
    | (go_at_call 55; refine (M _).mono ?_; rintro x w1 ⟨rfl, rfl⟩)
    | (go_at_call 10; refine (Wide_any _).mono ?_; rintro x w2 ⟨rfl, b2⟩; replace pr := bel pr b2; clear b2)
    | (go_at_call 74; (refine (O _).mono ?_); (rintro x w3 ⟨u1, u2, ns, rfl, h1, n1, v1, h2, b3⟩; have V1 : Hid (val ns = S) := v1; clear v1; have ll : ns.length ≤ 3 := (by have h9 := nm_len64 h1.1 n1 (by rw [V1.out]; exact S1); exact h9); replace pr := bel pr b3; clear b3))
    | (go_at_call 56; (refine (Rounded_w_any neg _ _ ns [1] way _ h1 h2 n1 nm_one (by omega) (by decide) (by rw [V1.out]; exact HS0.out) (by rw [val_one]; decide)).mono ?_); (rintro x w4 ⟨e, m, q, fl, m0, m1, e0, st, rfl, b4⟩; replace pr := bel pr b4; clear b4))
    | fail)
  rw [V1.out, val_one] at fl
  exact bodyPost_ret (v := .tuple #[.int .u64 (laidW neg (rnd neg way m q (val [1] * 2 ^ e.toNat)) e way).1, .int .i64 0]) (by simp [results, Try.results39, go_sem]) rfl ⟨e, m, q, fl, m0, m1, e0, st, by rw [val_one], pr⟩
end Go.Proofs.Ytfpmegfdopnnpaa.L

namespace Go.Proofs.Ytfpmegfdopnnpaa.L
open Go.RowKit Tl

/-- A fraction of both rows is m times 2 to the a by 2 to the b. -/
structure NumOf (ns ds : List Int) (m : Int) (a b : Nat) : Prop where
  eq : val ns * 2 ^ b = val ds * (m * 2 ^ a)
  l1 : ns.length ≤ 100
  l2 : ds.length ≤ 100
  n0 : 0 < val ns
  d0 : 0 < val ds
theorem num_core {x y ns ds : List Int} {G : Int} (hx : Wd x) (hy : Wd y) (hn : Wd ns) (hd : Wd ds) (nn : Nm ns) (nd : Nm ds) (vN : val ns * G = val x) (vD : val ds * G = val y) (x0 : 0 < val x) (y0 : 0 < val y) (G0 : 0 ≤ G) :
    0 < G ∧ 0 < val ns ∧ 0 < val ds ∧ ns.length ≤ x.length ∧ ds.length ≤ y.length := by
  have n0 := val_nonneg hn
  have d0 := val_nonneg hd
  have g1 : 0 < G := by
    by_cases c : 0 < G
    · exact c
    · have : G = 0 := by omega
      rw [this] at vN; simp at vN; omega
  have n1 : 0 < val ns := by
    by_cases c : 0 < val ns
    · exact c
    · have : val ns = 0 := by omega
      rw [this] at vN; simp at vN; omega
  have d1 : 0 < val ds := by
    by_cases c : 0 < val ds
    · exact c
    · have : val ds = 0 := by omega
      rw [this] at vD; simp at vD; omega
  have e1 := Int.mul_le_mul_of_nonneg_left (show 1 ≤ G by omega) n0
  have e2 := Int.mul_le_mul_of_nonneg_left (show 1 ≤ G by omega) d0
  exact ⟨g1, n1, d1, len_mono hx hn nn (by omega), len_mono hy hd nd (by omega)⟩
theorem num_pos {ms za ns ds : List Int} {T : Nat} {m G : Int} (_hm : Wd ms) (ha : Wd za) (hn : Wd ns) (hd : Wd ds) (nn : Nm ns) (nd : Nm ds) (vm : val ms = m) (va : val za = val ms * 2 ^ T) (vN : val ns * G = val za) (vD : val ds * G = val [1]) (la : za.length ≤ 100) (m0 : 0 < m) (G0 : 0 ≤ G) : NumOf ns ds m T 0 := by
  rw [vm] at va
  have p := Int.mul_pos m0 (two_pow_pos T)
  obtain ⟨g, n1, d1, l1, l2⟩ := num_core ha h1_wd hn hd nn nd vN vD (by omega) (by rw [val_one]; decide) G0
  rw [val_one] at vD
  refine ⟨?_, by omega, by simp at l2; omega, n1, d1⟩
  rw [Int.pow_zero, Int.mul_one, ← va, ← vN]
  have : val ds * (val ns * G) = val ns * (val ds * G) := by grind
  rw [this, vD, Int.mul_one]
theorem num_neg {ms za ns ds : List Int} {T : Nat} {m G : Int} (hm : Wd ms) (ha : Wd za) (hn : Wd ns) (hd : Wd ds) (nn : Nm ns) (nd : Nm ds) (vm : val ms = m) (va : val za = val [1] * 2 ^ T) (vN : val ns * G = val ms) (vD : val ds * G = val za) (la : za.length ≤ 100) (lm : ms.length ≤ 3) (m0 : 0 < m) (G0 : 0 ≤ G) : NumOf ns ds m 0 T := by
  rw [val_one, Int.one_mul] at va
  have p := two_pow_pos T
  obtain ⟨g, n1, d1, l1, l2⟩ := num_core hm ha hn hd nn nd vN vD (by omega) (by omega) G0
  refine ⟨?_, by omega, by omega, n1, d1⟩
  rw [Int.pow_zero, Int.mul_one, ← va, ← vm, ← vN, ← vD]; grind
set_option maxHeartbeats 6400000 in
set_option maxRecDepth 100000 in
theorem Number_pos (P Lo Hi Fr b k m : Int) (g : Bool) (T : Nat) (S : ∀ w, Calls Try.prog 11 #[.agg #[.int .i64 P, .int .i64 Lo, .int .i64 Hi, .int .i64 Fr], .int .u64 b] w fun e w' => e = .returned (.agg #[.int .i64 k, .bool g, .int .u64 m, .int .i64 (T : Int)]) ∧ Below w.heap.size w w') (m0 : 0 < m) (m1 : m < 18446744073709551616) (T1 : T ≤ 2100) (w : World) :
    Calls Try.prog 57 #[.agg #[.int .i64 P, .int .i64 Lo, .int .i64 Hi, .int .i64 Fr], .int .u64 b] w fun r w' => ∃ u1 u2 ns ds, r = .returned (.agg #[.bool g, u1, u2]) ∧ Rd w' u1 ns ∧ Nm ns ∧ Rd w' u2 ds ∧ Nm ds ∧ NumOf ns ds m T 0 ∧ Below w.heap.size w w' := by
  have T2 : T ≤ 1099511627776 := by omega
  have lh : 100 ≤ 274877906944 := by decide
  go_enter Try.func57, Try.ntmps57
  have KQ := Blk.new (w.alloc (.cells #[.int .i64 P, .int .i64 Lo, .int .i64 Hi, .int .i64 Fr] 31)) #[.bool false, .slice none 0 0, .slice none 0 0] 91
  have pr : Below w.heap.size w ((w.alloc (.cells #[.int .i64 P, .int .i64 Lo, .int .i64 Hi, .int .i64 Fr] 31)).alloc (.cells #[.bool false, .slice none 0 0, .slice none 0 0] 91)) := ((Below.refl _ _).alloc (Nat.le_refl _) _).alloc (by simp) _
  simp only [World.size_alloc] at KQ
  go_upto_region 4 with (first
    | (go_at_call 11; refine (S _).mono ?_; rintro r w1 ⟨rfl, b1⟩; have nq : w1.heap.size ≠ w.heap.size + 1 := (by have h9 := (KQ.below b1 KQ.lt).lt; omega); replace KQ := (KQ.below b1 KQ.lt).alloc (.cells #[.int .i64 k, .bool g, .int .u64 m, .int .i64 (T : Int)] 25); replace pr := bel pr b1; replace pr := pr.alloc pr.size (.cells #[.int .i64 k, .bool g, .int .u64 m, .int .i64 (T : Int)] 25); clear b1; have K1 := Blk.new w1 #[.int .i64 k, .bool g, .int .u64 m, .int .i64 (T : Int)] 25; have q2 : (w1.alloc (.cells #[.int .i64 k, .bool g, .int .u64 m, .int .i64 (T : Int)] 25)).cell? ⟨w1.heap.size, 2, none⟩ = some (.int .u64 m) := K1.at 2)
    | (go_at_call 91; (refine (NatOf64_any m _ (by omega) m1).mono ?_); (rintro r w2 ⟨u, ms, rfl, hu, num, vm', b2⟩; have lms : ms.length ≤ 3 := nm_len64 hu.1 num (by omega); have vm : Hid (val ms = m) := vm'; clear vm'; have KQx := KQ.below b2 KQ.lt; have Kx := K1.below b2 K1.lt; have prx := bel pr b2; clear b2 KQ K1 pr q2; have q1x : w2.cell? ⟨w1.heap.size, 1, none⟩ = some (.bool g) := Kx.at 1; have q3x : w2.cell? ⟨w1.heap.size, 3, none⟩ = some (.int .i64 (T : Int)) := Kx.at 3))
    | fail)
  have pm : 0 < ms.length := by
    by_cases c : 0 < ms.length
    · exact c
    · have vm := vm.out
      have : ms = [] := List.eq_nil_of_length_eq_zero (by omega)
      rw [this] at vm; simp [val] at vm; omega
  have lms2 : ms.length ≤ 549755813888 := by omega
  go_region_held3 (fun x => x.cell? ⟨w1.heap.size, 1, none⟩ = some (.bool g) ∧ x.cell? ⟨w1.heap.size, 3, none⟩ = some (.int .i64 (T : Int))) (first | ((try dsimp only); (refine ⟨?_, ?_⟩); (repeat (first | with_reducible exact q1z | with_reducible exact q1y | with_reducible exact q1x | with_reducible refine cell_drew ?_ | with_reducible refine cell_alloc ?_)); (repeat (first | with_reducible exact q3z | with_reducible exact q3y | with_reducible exact q3x | with_reducible refine cell_drew ?_ | with_reducible refine cell_alloc ?_)); done) | exact ⟨set3_other nq q1z, set3_other nq q3z⟩ | go_keep) (first
      | (go_at_call 68; ((with_reducible refine (Shl_any _ ms T _ ?hrd lms2 T2).mono ?_)); (case hrd => exact (by repeat (first | with_reducible exact hu | with_reducible refine rd_drew ?_ | with_reducible refine rd_alloc ?_))); (rintro x w5 ⟨u5, za, rfl, hu5, nu5, vu5, bu⟩; have q1y : w5.cell? ⟨w1.heap.size, 1, none⟩ = some (.bool g) := keep_cell bu (by repeat (first | with_reducible exact q1x | with_reducible refine cell_drew ?_ | with_reducible refine cell_alloc ?_)); have q3y : w5.cell? ⟨w1.heap.size, 3, none⟩ = some (.int .i64 (T : Int)) := keep_cell bu (by repeat (first | with_reducible exact q3x | with_reducible refine cell_drew ?_ | with_reducible refine cell_alloc ?_)); have Ky : Blk w5 w1.heap.size #[.int .i64 k, .bool g, .int .u64 m, .int .i64 (T : Int)] 25 := blk_keep bu (by repeat (first | with_reducible exact Kx | with_reducible refine blk_drew ?_ | with_reducible refine Blk.alloc ?_ _)); have KQy : Blk w5 (w.heap.size + 1) #[.bool false, .slice none 0 0, .slice none 0 0] 91 := blk_keep bu (by repeat (first | with_reducible exact KQx | with_reducible refine blk_drew ?_ | with_reducible refine Blk.alloc ?_ _)); have pry : Below w.heap.size w w5 := bel (by repeat (first | with_reducible exact prx | with_reducible refine bel_drw ?_ | with_reducible refine bel_alloc ?_)) bu))
      | (go_at_call 67; have la : za.length ≤ 100 := (by have h9 := shl_len2 hu.1 hu5.1 nu5 vu5; omega); have pa : 0 < za.length := shl_pos pm num hu.1 vu5; ((with_reducible refine (Make_any g _ _ za [1] 100 _ ?hr1 ?hr2 nu5 nm_one la (by decide) lh pa).mono ?_)); (case hr1 => exact (by repeat (first | with_reducible exact hu5 | with_reducible refine rd_drew ?_ | with_reducible refine rd_alloc ?_))); (case hr2 => exact rd_one (by repeat (first | ((with_reducible refine cell_at ?_); (first | rfl | (simp; done))) | with_reducible refine cell_drew ?_ | with_reducible refine cell_alloc ?_ | with_reducible refine keep_cell bu ?_)) (by decide) (by decide)); (rintro x w7 ⟨u7, u8, ns, ds, rfl, hN, nN, hD, nD, vN, vD, b7⟩; have q1z : w7.cell? ⟨w1.heap.size, 1, none⟩ = some (.bool g) := keep_cell b7 (by repeat (first | with_reducible exact q1y | with_reducible refine cell_drew ?_ | with_reducible refine cell_alloc ?_)); have q3z : w7.cell? ⟨w1.heap.size, 3, none⟩ = some (.int .i64 (T : Int)) := keep_cell b7 (by repeat (first | with_reducible exact q3y | with_reducible refine cell_drew ?_ | with_reducible refine cell_alloc ?_)); have Kz : Blk w7 w1.heap.size #[.int .i64 k, .bool g, .int .u64 m, .int .i64 (T : Int)] 25 := blk_keep b7 (by repeat (first | with_reducible exact Ky | with_reducible refine blk_drew ?_ | with_reducible refine Blk.alloc ?_ _)); have KQz : Blk w7 (w.heap.size + 1) #[.bool false, .slice none 0 0, .slice none 0 0] 91 := blk_keep b7 (by repeat (first | with_reducible exact KQy | with_reducible refine blk_drew ?_ | with_reducible refine Blk.alloc ?_ _)); have prz : Below w.heap.size w w7 := bel (by repeat (first | with_reducible exact pry | with_reducible refine bel_drw ?_ | with_reducible refine bel_alloc ?_)) b7; obtain ⟨a7, c7, rfl⟩ : ∃ a c, u7 = .slice a ns.length c := (by obtain ⟨_, a, c, e, _⟩ := hN; exact ⟨a, c, e⟩); obtain ⟨a8, c8, rfl⟩ : ∃ a c, u8 = .slice a ds.length c := (by obtain ⟨_, a, c, e, _⟩ := hD; exact ⟨a, c, e⟩); have kq0 : w7.cell? ⟨w.heap.size + 1, 0, none⟩ = some (.bool false) := KQz.at 0; have kq1 : w7.cell? ⟨w.heap.size + 1, 1, none⟩ = some (.slice none 0 0) := KQz.at 1; have kq2 : w7.cell? ⟨w.heap.size + 1, 2, none⟩ = some (.slice none 0 0) := KQz.at 2; have kf0 := KQz.free 0; have kf1 := KQz.free 1; have kf2 := KQz.free 2))
      | fail)
  all_goals
    have GF := num_pos hu.1 hu5.1 hN.1 hD.1 nN nD vm.out vu5 vN vD la m0 (Int.natCast_nonneg _)
    clear vu5 vN vD
    go_wp2_with fail
    obtain ⟨F0, F1, F2, FB⟩ := put3 (.bool g) (.slice a7 ns.length c7) (.slice a8 ds.length c8) kq0 kq1 kq2
    exact bodyPost_ret (v := .agg #[.bool g, .slice a7 ns.length c7, .slice a8 ds.length c8]) (by simp [results, Try.results57, go_sem, F0, F1, F2]) rfl ⟨_, _, ns, ds, rfl, hN.putQ KQz, nN, hD.putQ KQz, nD, GF, FB _ _ (by omega) prz⟩
set_option maxHeartbeats 6400000 in
set_option maxRecDepth 100000 in
theorem Number_neg (P Lo Hi Fr b k m E : Int) (g : Bool) (T : Nat) (S : ∀ w, Calls Try.prog 11 #[.agg #[.int .i64 P, .int .i64 Lo, .int .i64 Hi, .int .i64 Fr], .int .u64 b] w fun e w' => e = .returned (.agg #[.int .i64 k, .bool g, .int .u64 m, .int .i64 E]) ∧ Below w.heap.size w w') (m0 : 0 < m) (m1 : m < 18446744073709551616) (hE : -E = T) (T0 : 0 < T) (T1 : T ≤ 2100) (w : World) :
    Calls Try.prog 57 #[.agg #[.int .i64 P, .int .i64 Lo, .int .i64 Hi, .int .i64 Fr], .int .u64 b] w fun r w' => ∃ u1 u2 ns ds, r = .returned (.agg #[.bool g, u1, u2]) ∧ Rd w' u1 ns ∧ Nm ns ∧ Rd w' u2 ds ∧ Nm ds ∧ NumOf ns ds m 0 T ∧ Below w.heap.size w w' := by
  have hw0 : ¬ (0 : Int) ≤ E := by omega
  have hw1 : IntKind.i64.wrap (-E) = (T : Int) := by rw [hE]; exact wrap_self _ (by omega) (by omega)
  clear hE
  have T2 : T ≤ 1099511627776 := by omega
  have lh : 100 ≤ 274877906944 := by decide
  go_enter Try.func57, Try.ntmps57
  have KQ := Blk.new (w.alloc (.cells #[.int .i64 P, .int .i64 Lo, .int .i64 Hi, .int .i64 Fr] 31)) #[.bool false, .slice none 0 0, .slice none 0 0] 91
  have pr : Below w.heap.size w ((w.alloc (.cells #[.int .i64 P, .int .i64 Lo, .int .i64 Hi, .int .i64 Fr] 31)).alloc (.cells #[.bool false, .slice none 0 0, .slice none 0 0] 91)) := ((Below.refl _ _).alloc (Nat.le_refl _) _).alloc (by simp) _
  simp only [World.size_alloc] at KQ
  go_upto_region 5 with (first
    | (go_at_call 11; refine (S _).mono ?_; rintro r w1 ⟨rfl, b1⟩; have nq : w1.heap.size ≠ w.heap.size + 1 := (by have h9 := (KQ.below b1 KQ.lt).lt; omega); replace KQ := (KQ.below b1 KQ.lt).alloc (.cells #[.int .i64 k, .bool g, .int .u64 m, .int .i64 E] 25); replace pr := bel pr b1; replace pr := pr.alloc pr.size (.cells #[.int .i64 k, .bool g, .int .u64 m, .int .i64 E] 25); clear b1; have K1 := Blk.new w1 #[.int .i64 k, .bool g, .int .u64 m, .int .i64 E] 25; have q2 : (w1.alloc (.cells #[.int .i64 k, .bool g, .int .u64 m, .int .i64 E] 25)).cell? ⟨w1.heap.size, 2, none⟩ = some (.int .u64 m) := K1.at 2)
    | (go_at_call 91; (refine (NatOf64_any m _ (by omega) m1).mono ?_); (rintro r w2 ⟨u, ms, rfl, hu, num, vm', b2⟩; have lms : ms.length ≤ 3 := nm_len64 hu.1 num (by omega); have vm : Hid (val ms = m) := vm'; clear vm'; have KQx := KQ.below b2 KQ.lt; have Kx := K1.below b2 K1.lt; have prx := bel pr b2; clear b2 KQ K1 pr q2; have q1x : w2.cell? ⟨w1.heap.size, 1, none⟩ = some (.bool g) := Kx.at 1; have q3x : w2.cell? ⟨w1.heap.size, 3, none⟩ = some (.int .i64 E) := Kx.at 3))
    | fail)
  have pm : 0 < ms.length := by
    by_cases c : 0 < ms.length
    · exact c
    · have vm := vm.out
      have : ms = [] := List.eq_nil_of_length_eq_zero (by omega)
      rw [this] at vm; simp [val] at vm; omega
  go_region_held3 (fun x => x.cell? ⟨w1.heap.size, 1, none⟩ = some (.bool g) ∧ x.cell? ⟨w1.heap.size, 3, none⟩ = some (.int .i64 E)) (first | ((try dsimp only); (refine ⟨?_, ?_⟩); (repeat (first | with_reducible exact q1z | with_reducible exact q1y | with_reducible exact q1x | with_reducible refine cell_drew ?_ | with_reducible refine cell_alloc ?_)); (repeat (first | with_reducible exact q3z | with_reducible exact q3y | with_reducible exact q3x | with_reducible refine cell_drew ?_ | with_reducible refine cell_alloc ?_)); done) | exact ⟨set3_other nq q1z, set3_other nq q3z⟩ | go_keep) (first
      | (go_at_call 68; ((with_reducible refine (Shl_any _ [1] T _ ?hrd one_len T2).mono ?_)); (case hrd => exact rd_one (by repeat (first | ((with_reducible refine cell_at ?_); (first | rfl | (simp; done))) | with_reducible refine cell_drew ?_ | with_reducible refine cell_alloc ?_)) (by decide) (by decide)); (rintro x w5 ⟨u5, za, rfl, hu5, nu5, vu5, bu⟩; have hu6 : Rd w5 u ms := Rd.grow (by repeat (first | with_reducible exact hu | with_reducible refine rd_drew ?_ | with_reducible refine rd_alloc ?_)) bu; have q1y : w5.cell? ⟨w1.heap.size, 1, none⟩ = some (.bool g) := keep_cell bu (by repeat (first | with_reducible exact q1x | with_reducible refine cell_drew ?_ | with_reducible refine cell_alloc ?_)); have q3y : w5.cell? ⟨w1.heap.size, 3, none⟩ = some (.int .i64 E) := keep_cell bu (by repeat (first | with_reducible exact q3x | with_reducible refine cell_drew ?_ | with_reducible refine cell_alloc ?_)); have Ky : Blk w5 w1.heap.size #[.int .i64 k, .bool g, .int .u64 m, .int .i64 E] 25 := blk_keep bu (by repeat (first | with_reducible exact Kx | with_reducible refine blk_drew ?_ | with_reducible refine Blk.alloc ?_ _)); have KQy : Blk w5 (w.heap.size + 1) #[.bool false, .slice none 0 0, .slice none 0 0] 91 := blk_keep bu (by repeat (first | with_reducible exact KQx | with_reducible refine blk_drew ?_ | with_reducible refine Blk.alloc ?_ _)); have pry : Below w.heap.size w w5 := bel (by repeat (first | with_reducible exact prx | with_reducible refine bel_drw ?_ | with_reducible refine bel_alloc ?_)) bu))
      | (go_at_call 67; have la : za.length ≤ 100 := (by have h9 := shl_len2 h1_wd hu5.1 nu5 vu5; simp at h9; omega); ((with_reducible refine (Make_any g _ _ ms za 100 _ ?hr1 ?hr2 num nu5 (by omega) la lh pm).mono ?_)); (case hr1 => exact (by repeat (first | with_reducible exact hu6 | with_reducible refine rd_drew ?_ | with_reducible refine rd_alloc ?_))); (case hr2 => exact (by repeat (first | with_reducible exact hu5 | with_reducible refine rd_drew ?_ | with_reducible refine rd_alloc ?_))); (rintro x w7 ⟨u7, u8, ns, ds, rfl, hN, nN, hD, nD, vN, vD, b7⟩; have q1z : w7.cell? ⟨w1.heap.size, 1, none⟩ = some (.bool g) := keep_cell b7 (by repeat (first | with_reducible exact q1y | with_reducible refine cell_drew ?_ | with_reducible refine cell_alloc ?_)); have q3z : w7.cell? ⟨w1.heap.size, 3, none⟩ = some (.int .i64 E) := keep_cell b7 (by repeat (first | with_reducible exact q3y | with_reducible refine cell_drew ?_ | with_reducible refine cell_alloc ?_)); have Kz : Blk w7 w1.heap.size #[.int .i64 k, .bool g, .int .u64 m, .int .i64 E] 25 := blk_keep b7 (by repeat (first | with_reducible exact Ky | with_reducible refine blk_drew ?_ | with_reducible refine Blk.alloc ?_ _)); have KQz : Blk w7 (w.heap.size + 1) #[.bool false, .slice none 0 0, .slice none 0 0] 91 := blk_keep b7 (by repeat (first | with_reducible exact KQy | with_reducible refine blk_drew ?_ | with_reducible refine Blk.alloc ?_ _)); have prz : Below w.heap.size w w7 := bel (by repeat (first | with_reducible exact pry | with_reducible refine bel_drw ?_ | with_reducible refine bel_alloc ?_)) b7; obtain ⟨a7, c7, rfl⟩ : ∃ a c, u7 = .slice a ns.length c := (by obtain ⟨_, a, c, e, _⟩ := hN; exact ⟨a, c, e⟩); obtain ⟨a8, c8, rfl⟩ : ∃ a c, u8 = .slice a ds.length c := (by obtain ⟨_, a, c, e, _⟩ := hD; exact ⟨a, c, e⟩); have kq0 : w7.cell? ⟨w.heap.size + 1, 0, none⟩ = some (.bool false) := KQz.at 0; have kq1 : w7.cell? ⟨w.heap.size + 1, 1, none⟩ = some (.slice none 0 0) := KQz.at 1; have kq2 : w7.cell? ⟨w.heap.size + 1, 2, none⟩ = some (.slice none 0 0) := KQz.at 2; have kf0 := KQz.free 0; have kf1 := KQz.free 1; have kf2 := KQz.free 2))
      | fail)
  all_goals
    have GF := num_neg hu.1 hu5.1 hN.1 hD.1 nN nD vm.out vu5 vN vD la lms m0 (Int.natCast_nonneg _)
    clear vu5 vN vD
    go_wp2_with fail
    obtain ⟨F0, F1, F2, FB⟩ := put3 (.bool g) (.slice a7 ns.length c7) (.slice a8 ds.length c8) kq0 kq1 kq2
    exact bodyPost_ret (v := .agg #[.bool g, .slice a7 ns.length c7, .slice a8 ds.length c8]) (by simp [results, Try.results57, go_sem, F0, F1, F2]) rfl ⟨_, _, ns, ds, rfl, hN.putQ KQz, nN, hD.putQ KQz, nD, GF, FB _ _ (by omega) prz⟩
end Go.Proofs.Ytfpmegfdopnnpaa.L
