import Derived.Test.YtjgljcifnklmeaaPart17

namespace Go.Proofs.Ytjgljcifnklmeaa.L
open Go.RowKit Tl

theorem keep_cell {W w5 : World} {b i : Nat} {v : Value} (bu : Below W.heap.size W w5) (h : W.cell? ⟨b, i, none⟩ = some v) : w5.cell? ⟨b, i, none⟩ = some v := (bu.cell (p := ⟨b, i, none⟩) (lt_of_cell h)).trans h
theorem cell_alloc {w : World} {b i : Nat} {ob : Obj} {v : Value} (h : w.cell? ⟨b, i, none⟩ = some v) : (w.alloc ob).cell? ⟨b, i, none⟩ = some v := keep_cell ((Below.refl _ _).alloc (Nat.le_refl _) _) h
theorem cell_at {w : World} {n : Nat} {v : Value} {t : TypeId} (h : n = w.heap.size) : (w.alloc (.cells #[v] t)).cell? ⟨n, 0, none⟩ = some v := by subst h; simp
theorem blk_at {w : World} {n : Nat} {c : Array Value} {t : TypeId} (h : n = w.heap.size) : Blk (w.alloc (.cells c t)) n c t := by subst h; exact Blk.new _ _ _
theorem rd_alloc {w : World} {ob : Obj} {v : Value} {xs : List Int} (h : Rd w v xs) : Rd (w.alloc ob) v xs := h.grow ((Below.refl _ _).alloc (Nat.le_refl _) _)
theorem bel_alloc {w W : World} {ob : Obj} (h : Below w.heap.size w W) : Below w.heap.size w (W.alloc ob) := h.alloc h.size _
theorem blk_keep {W w5 : World} {n : Nat} {c : Array Value} {t : TypeId} (bu : Below W.heap.size W w5) (h : Blk W n c t) : Blk w5 n c t := h.below bu h.lt
theorem cell_drew {w : World} {b i : Nat} {v : Value} (h : w.cell? ⟨b, i, none⟩ = some v) : w.drew.cell? ⟨b, i, none⟩ = some v := h
theorem blk_drew {w : World} {n : Nat} {c : Array Value} {t : TypeId} (h : Blk w n c t) : Blk w.drew n c t := h
theorem bel_drw {w W : World} (h : Below w.heap.size w W) : Below w.heap.size w W.drew := h.drew
theorem rd_drew {w : World} {v : Value} {xs : List Int} (h : Rd w v xs) : Rd w.drew v xs := h.drew
theorem blk_put3 {w : World} {b : Nat} {u0 u1 u2 x y z : Value} {t : TypeId} (h : Blk w b #[u0, u1, u2] t) : Blk (((w.setCell ⟨b, 0, none⟩ x).setCell ⟨b, 1, none⟩ y).setCell ⟨b, 2, none⟩ z) b #[x, y, z] t := by
  have h' : w.heap[b]? = some (.cells #[u0, u1, u2] t (0, 0)) := h
  show (((w.setCell ⟨b, 0, none⟩ x).setCell ⟨b, 1, none⟩ y).setCell ⟨b, 2, none⟩ z).heap[b]? = _
  simp [World.setCell, Array.getElem?_modify, h']
theorem wr3 {w : World} {b : Nat} {x y z : Value} : Wr b 0 3 w (((w.setCell ⟨b, 0, none⟩ x).setCell ⟨b, 1, none⟩ y).setCell ⟨b, 2, none⟩ z) := (((Wr.refl _ _ _ _).setCell 0 (by omega) x).setCell 1 (by omega) y).setCell 2 (by omega) z
theorem blk_other3 {w : World} {b n : Nat} {x y z : Value} {c : Array Value} {t : TypeId} (h : n ≠ b) (k : Blk w n c t) : Blk (((w.setCell ⟨b, 0, none⟩ x).setCell ⟨b, 1, none⟩ y).setCell ⟨b, 2, none⟩ z) n c t := (wr3.block n k.lt h).trans k
theorem below3 {W w : World} {b : Nat} {x y z : Value} (h : Below W.heap.size W w) (hb : W.heap.size ≤ b) : Below W.heap.size W (((w.setCell ⟨b, 0, none⟩ x).setCell ⟨b, 1, none⟩ y).setCell ⟨b, 2, none⟩ z) := h.trans (wr3.below hb h.size)
theorem gap_facts {za zb ns ds : List Int} {T : Nat} {G : Int} (ha : Wd za) (hb : Wd zb) (hn : Wd ns) (hd : Wd ds) (nn : Nm ns) (nd : Nm ds) (va : val za = val [1] * 2 ^ T) (vb : val zb = val [1] * 2 ^ 1074) (vN : val ns * G = val za) (vD : val ds * G = val zb) (la : za.length ≤ 100) (lb : zb.length ≤ 100) (G0 : 0 ≤ G) :
    val ns * 2 ^ 1074 = val ds * 2 ^ T ∧ ns.length ≤ 100 ∧ ds.length ≤ 100 ∧ 0 < val ns ∧ 0 < val ds := by
  have p1 := two_pow_pos T
  have p2 := two_pow_pos 1074
  have n0 := val_nonneg hn
  have d0 := val_nonneg hd
  rw [val_one, Int.one_mul] at va vb
  generalize (2 : Int) ^ 1074 = q at *
  generalize (2 : Int) ^ T = p at *
  have g1 : 0 < G := by
    by_cases c : 0 < G
    · exact c
    · have : G = 0 := by omega
      rw [this] at vN; simp at vN; omega
  have n1 : 0 < val ns := by
    by_cases c : 0 < val ns
    · exact c
    · have : val ns = 0 := by omega
      rw [this] at vN; simp at vN; omega
  have d1 : 0 < val ds := by
    by_cases c : 0 < val ds
    · exact c
    · have : val ds = 0 := by omega
      rw [this] at vD; simp at vD; omega
  have e1 := Int.mul_le_mul_of_nonneg_left (show 1 ≤ G by omega) n0
  have e2 := Int.mul_le_mul_of_nonneg_left (show 1 ≤ G by omega) d0
  have l1 := len_mono ha hn nn (by omega)
  have l2 := len_mono hb hd nd (by omega)
  refine ⟨?_, by omega, by omega, n1, d1⟩
  rw [← va, ← vb, ← vN, ← vD]; grind
theorem one_len : ([1] : List Int).length ≤ 549755813888 := by decide
theorem h1_wd : Wd [1] := Wd.cons (by decide) (by decide) Wd.nil
theorem set3_other {w : World} {b b' i : Nat} {x y z v : Value} (_h : b' ≠ b) (q : w.cell? ⟨b', i, none⟩ = some v) : (((w.setCell ⟨b, 0, none⟩ x).setCell ⟨b, 1, none⟩ y).setCell ⟨b, 2, none⟩ z).cell? ⟨b', i, none⟩ = some v := by
  rw [World.cell?_setCell_other _ _ _ _ (by simp), World.cell?_setCell_other _ _ _ _ (by simp), World.cell?_setCell_other _ _ _ _ (by simp)]; exact q
set_option maxHeartbeats 1600000 in
set_option maxRecDepth 100000 in
/-- Of one that is not finite. -/
theorem RGap_no (n : Int) (F : ∀ w, Calls Try.prog 66 #[szW, .int .u64 n] w fun e w' => e = .returned (.bool false) ∧ Below w.heap.size w w') (w : World) :
    Calls Try.prog 35 #[.int .u64 n] w fun r w' => r = .returned (.tuple #[.int .u64 0, .bool false]) ∧ Below w.heap.size w w' := by
  go_enter Try.func35, Try.ntmps35
  go_wp2_with (first
    | (go_at_call 10; refine (Wide_any _).mono ?_; rintro x w1 ⟨rfl, b1⟩; have pr := b1; clear b1; have m0 := Blk.new w1 #[.int .i64 53, .int .i64 (-1074), .int .i64 971, .int .i64 52] 31; have q0 : (w1.alloc (.cells #[.int .i64 53, .int .i64 (-1074), .int .i64 971, .int .i64 52] 31)).cell? ⟨w1.heap.size, 0, none⟩ = some (.int .i64 53) := m0.at 0; have q1 : (w1.alloc (.cells #[.int .i64 53, .int .i64 (-1074), .int .i64 971, .int .i64 52] 31)).cell? ⟨w1.heap.size, 1, none⟩ = some (.int .i64 (-1074)) := m0.at 1; have q2 : (w1.alloc (.cells #[.int .i64 53, .int .i64 (-1074), .int .i64 971, .int .i64 52] 31)).cell? ⟨w1.heap.size, 2, none⟩ = some (.int .i64 971) := m0.at 2; have q3 : (w1.alloc (.cells #[.int .i64 53, .int .i64 (-1074), .int .i64 971, .int .i64 52] 31)).cell? ⟨w1.heap.size, 3, none⟩ = some (.int .i64 52) := m0.at 3; clear m0)
    | (go_at_call 66; (with_reducible refine (F _).mono ?_); rintro x w4 ⟨rfl, b4⟩; obtain ⟨b5, K2⟩ := var4 b4; clear b4; replace pr := bel pr b5; clear b5)
    | fail)
  exact bodyPost_ret (v := .tuple #[.int .u64 0, .bool false]) (by simp [results, Try.results35, go_sem]) rfl ⟨rfl, pr⟩
set_option maxHeartbeats 6400000 in
set_option maxRecDepth 100000 in
/-- The reference's Gap: of a normal one. -/
theorem RGap_norm (n : Int) (g : Bool) (m ex : Int) (T : Nat) (F : ∀ w, Calls Try.prog 66 #[szW, .int .u64 n] w fun e w' => e = .returned (.bool true) ∧ Below w.heap.size w w')
    (S : ∀ w, Calls Try.prog 11 #[szW, .int .u64 n] w fun e w' => e = .returned (.agg #[.int .i64 2, .bool g, .int .u64 m, .int .i64 ex]) ∧ Below w.heap.size w w') (hT : ex + 1074 = T) (T1 : T ≤ 2045) (w : World) :
    Calls Try.prog 35 #[.int .u64 n] w fun r w' => r = .returned (.tuple #[.int .u64 (gapB T), .bool true]) ∧ Below w.heap.size w w' := by
  have hw1 : IntKind.i64.wrap (ex + 1074) = (T : Int) := by rw [hT]; exact wrap_self _ (by omega) (by omega)
  clear hT
  have T2 : T ≤ 1099511627776 := by omega
  have S2 : ∀ (w : World) (v : Value), Rd w v [1] → Calls Try.prog 68 #[v, .int .i64 1074] w fun e w' => ∃ r zs, e = .returned r ∧ Rd w' r zs ∧ Nm zs ∧ val zs = val [1] * 2 ^ 1074 ∧ Below w.heap.size w w' := fun w v h => Shl_any v [1] 1074 w h one_len (by decide)
  have lh : 100 ≤ 274877906944 := by decide
  have hw3 : IntKind.i64.wrap 1074 = 1074 := by decide
  have fk := field_kind 2 m ex g
  have fe := field_exp 2 m ex g
  go_enter Try.func35, Try.ntmps35
  go_upto_region 7 with (first
    | (go_at_call 10; refine (Wide_any _).mono ?_; rintro x w1 ⟨rfl, b1⟩; have pr := b1; clear b1; have m0 := Blk.new w1 #[.int .i64 53, .int .i64 (-1074), .int .i64 971, .int .i64 52] 31; have q0 : (w1.alloc (.cells #[.int .i64 53, .int .i64 (-1074), .int .i64 971, .int .i64 52] 31)).cell? ⟨w1.heap.size, 0, none⟩ = some (.int .i64 53) := m0.at 0; have q1 : (w1.alloc (.cells #[.int .i64 53, .int .i64 (-1074), .int .i64 971, .int .i64 52] 31)).cell? ⟨w1.heap.size, 1, none⟩ = some (.int .i64 (-1074)) := m0.at 1; have q2 : (w1.alloc (.cells #[.int .i64 53, .int .i64 (-1074), .int .i64 971, .int .i64 52] 31)).cell? ⟨w1.heap.size, 2, none⟩ = some (.int .i64 971) := m0.at 2; have q3 : (w1.alloc (.cells #[.int .i64 53, .int .i64 (-1074), .int .i64 971, .int .i64 52] 31)).cell? ⟨w1.heap.size, 3, none⟩ = some (.int .i64 52) := m0.at 3; clear m0)
    | (go_at_call 66; (with_reducible refine (F _).mono ?_); rintro x w4 ⟨rfl, b4⟩; obtain ⟨b5, K2⟩ := var4 b4; clear b4; replace pr := bel pr b5; clear b5; have q0 : w4.cell? ⟨w1.heap.size, 0, none⟩ = some (.int .i64 53) := K2.at 0; have q1 : w4.cell? ⟨w1.heap.size, 1, none⟩ = some (.int .i64 (-1074)) := K2.at 1; have q2 : w4.cell? ⟨w1.heap.size, 2, none⟩ = some (.int .i64 971) := K2.at 2; have q3 : w4.cell? ⟨w1.heap.size, 3, none⟩ = some (.int .i64 52) := K2.at 3)
    | (go_at_call 11; (with_reducible refine (S _).mono ?_); rintro x w4 ⟨rfl, b4⟩; replace K2 := K2.below b4 K2.lt; replace pr := bel pr b4; clear b4; have q0 : w4.cell? ⟨w1.heap.size, 0, none⟩ = some (.int .i64 53) := K2.at 0; have q1 : w4.cell? ⟨w1.heap.size, 1, none⟩ = some (.int .i64 (-1074)) := K2.at 1; have q2 : w4.cell? ⟨w1.heap.size, 2, none⟩ = some (.int .i64 971) := K2.at 2; have q3 : w4.cell? ⟨w1.heap.size, 3, none⟩ = some (.int .i64 52) := K2.at 3)
    | fail)
  clear q0 q1 q2 q3
  have q0 : w4.cell? ⟨w1.heap.size, 0, none⟩ = some (.int .i64 53) := K2.at 0
  have q1 : w4.cell? ⟨w1.heap.size, 1, none⟩ = some (.int .i64 (-1074)) := K2.at 1
  have L2 := K2.lt
  clear F S fk fe
  go_cut [6] (fun p wc => ∃ (b : Nat) (v1 v2 : Value) (ns ds : List Int), p = .pointer (some ⟨b, 0, none⟩) ∧ Blk wc b #[.bool false, v1, v2] 91 ∧ Rd wc v1 ns ∧ Nm ns ∧ Rd wc v2 ds ∧ Nm ds ∧ val ns * 2 ^ 1074 = val ds * 2 ^ T ∧ ns.length ≤ 100 ∧ ds.length ≤ 100 ∧ 0 < val ns ∧ 0 < val ds ∧ Blk wc w1.heap.size #[.int .i64 53, .int .i64 (-1074), .int .i64 971, .int .i64 52] 31 ∧ Below w.heap.size w wc)
  case first =>
    go_region_held3 (fun x => x.cell? ⟨w1.heap.size, 1, none⟩ = some (.int .i64 (-1074))) (first | ((try dsimp only); (repeat (first | with_reducible exact q3' | with_reducible exact q2' | with_reducible exact q1' | with_reducible exact q1 | with_reducible refine cell_drew ?_ | with_reducible refine cell_alloc ?_)); done) | exact set3_other nq7 q3' | go_keep) (first
      | (go_at_call 68; ((with_reducible refine (Shl_any _ [1] T _ ?hrd one_len T2).mono ?_)); (case hrd => exact rd_one (by repeat (first | ((with_reducible refine cell_at ?_); (first | rfl | (simp; done))) | with_reducible refine cell_drew ?_ | with_reducible refine cell_alloc ?_)) (by decide) (by decide)); (rintro x w5 ⟨u, za, rfl, hu, nu, vu, bu⟩; have q1' : w5.cell? ⟨w1.heap.size, 1, none⟩ = some (.int .i64 (-1074)) := keep_cell bu (by repeat (first | with_reducible exact q1 | with_reducible refine cell_drew ?_ | with_reducible refine cell_alloc ?_)); have K5 : Blk w5 w1.heap.size #[.int .i64 53, .int .i64 (-1074), .int .i64 971, .int .i64 52] 31 := blk_keep bu (by repeat (first | with_reducible exact K2 | with_reducible refine blk_drew ?_ | with_reducible refine Blk.alloc ?_ _)); have pr5 : Below w.heap.size w w5 := bel (by repeat (first | with_reducible exact pr | with_reducible refine bel_drw ?_ | with_reducible refine bel_alloc ?_)) bu))
      | (go_at_call 68; ((with_reducible refine (S2 _ _ ?hrd).mono ?_)); (case hrd => exact rd_one (by repeat (first | ((with_reducible refine cell_at ?_); (first | rfl | (simp; done))) | with_reducible refine cell_drew ?_ | with_reducible refine cell_alloc ?_ | with_reducible refine keep_cell bu ?_)) (by decide) (by decide)); (rintro x w6 ⟨u6, zb, rfl, hu6, nu6, vu6, bu6⟩; have q2' : w6.cell? ⟨w1.heap.size, 1, none⟩ = some (.int .i64 (-1074)) := keep_cell bu6 (by repeat (first | with_reducible exact q1' | with_reducible refine cell_drew ?_ | with_reducible refine cell_alloc ?_)); have K6 : Blk w6 w1.heap.size #[.int .i64 53, .int .i64 (-1074), .int .i64 971, .int .i64 52] 31 := blk_keep bu6 (by repeat (first | with_reducible exact K5 | with_reducible refine blk_drew ?_ | with_reducible refine Blk.alloc ?_ _)); have pr6 : Below w.heap.size w w6 := bel (by repeat (first | with_reducible exact pr5 | with_reducible refine bel_drw ?_ | with_reducible refine bel_alloc ?_)) bu6; have hu2 : Rd w6 u za := Rd.grow (by repeat (first | with_reducible exact hu | with_reducible refine rd_drew ?_ | with_reducible refine rd_alloc ?_)) bu6))
      | (go_at_call 67; have la : za.length ≤ 100 := (by have h9 := shl_len2 h1_wd hu.1 nu vu; simp at h9; omega); have lb : zb.length ≤ 100 := (by have h9 := shl_len2 h1_wd hu6.1 nu6 vu6; simp at h9; omega); have pa : 0 < za.length := shl_pos (by decide) nm_one h1_wd vu; ((with_reducible refine (Make_any false _ _ za zb 100 _ ?hr1 ?hr2 nu nu6 la lb lh pa).mono ?_)); (case hr1 => exact (by repeat (first | with_reducible exact hu2 | with_reducible refine rd_drew ?_ | with_reducible refine rd_alloc ?_))); (case hr2 => exact (by repeat (first | with_reducible exact hu6 | with_reducible refine rd_drew ?_ | with_reducible refine rd_alloc ?_))); (rintro x w7 ⟨u7, u8, ns, ds, rfl, hN, nN, hD, nD, vN, vD, b7⟩; have q3' : w7.cell? ⟨w1.heap.size, 1, none⟩ = some (.int .i64 (-1074)) := keep_cell b7 (by repeat (first | with_reducible exact q2' | with_reducible refine cell_drew ?_ | with_reducible refine cell_alloc ?_)); have K7 : Blk w7 w1.heap.size #[.int .i64 53, .int .i64 (-1074), .int .i64 971, .int .i64 52] 31 := blk_keep b7 (by repeat (first | with_reducible exact K6 | with_reducible refine blk_drew ?_ | with_reducible refine Blk.alloc ?_ _)); have pr7 : Below w.heap.size w w7 := bel (by repeat (first | with_reducible exact pr6 | with_reducible refine bel_drw ?_ | with_reducible refine bel_alloc ?_)) b7; obtain ⟨a7, c7, rfl⟩ : ∃ a c, u7 = .slice a ns.length c := (by obtain ⟨_, a, c, e, _⟩ := hN; exact ⟨a, c, e⟩); obtain ⟨a8, c8, rfl⟩ : ∃ a c, u8 = .slice a ds.length c := (by obtain ⟨_, a, c, e, _⟩ := hD; exact ⟨a, c, e⟩); (first | ((refine (fun (KQ : Blk w7 w6.heap.size #[.bool false, .slice none 0 0, .slice none 0 0] 91) => ?_) ?kq); (case kq => ((with_reducible refine blk_keep b7 ?_); (repeat (first | ((with_reducible refine blk_at ?_); (first | rfl | (simp; done))) | with_reducible refine blk_drew ?_ | with_reducible refine Blk.alloc ?_ _)); done)); (have kq0 : w7.cell? ⟨w6.heap.size, 0, none⟩ = some (.bool false) := KQ.at 0; have kq1 : w7.cell? ⟨w6.heap.size, 1, none⟩ = some (.slice none 0 0) := KQ.at 1; have kq2 : w7.cell? ⟨w6.heap.size, 2, none⟩ = some (.slice none 0 0) := KQ.at 2; have kf0 := KQ.free 0; have kf1 := KQ.free 1; have kf2 := KQ.free 2; have nq7 : w1.heap.size ≠ w6.heap.size := fun h => (by rw [h] at K7; have e7 := K7.symm.trans KQ; simp at e7))) | ((refine (fun (KQ : Blk w7 w5.heap.size #[.bool false, .slice none 0 0, .slice none 0 0] 91) => ?_) ?kq); (case kq => ((with_reducible refine blk_keep b7 ?_); (repeat (first | ((with_reducible refine blk_at ?_); (first | rfl | (simp; done))) | with_reducible refine blk_drew ?_ | with_reducible refine Blk.alloc ?_ _ | with_reducible refine blk_keep bu6 ?_)); done)); (have kq0 : w7.cell? ⟨w5.heap.size, 0, none⟩ = some (.bool false) := KQ.at 0; have kq1 : w7.cell? ⟨w5.heap.size, 1, none⟩ = some (.slice none 0 0) := KQ.at 1; have kq2 : w7.cell? ⟨w5.heap.size, 2, none⟩ = some (.slice none 0 0) := KQ.at 2; have kf0 := KQ.free 0; have kf1 := KQ.free 1; have kf2 := KQ.free 2; have nq7 : w1.heap.size ≠ w5.heap.size := fun h => (by rw [h] at K7; have e7 := K7.symm.trans KQ; simp at e7))) | ((refine (fun (KQ : Blk w7 (w5.heap.size + 1) #[.bool false, .slice none 0 0, .slice none 0 0] 91) => ?_) ?kq); (case kq => ((with_reducible refine blk_keep b7 ?_); (repeat (first | ((with_reducible refine blk_at ?_); (first | rfl | (simp; done))) | with_reducible refine blk_drew ?_ | with_reducible refine Blk.alloc ?_ _ | with_reducible refine blk_keep bu6 ?_)); done)); (have kq0 : w7.cell? ⟨(w5.heap.size + 1), 0, none⟩ = some (.bool false) := KQ.at 0; have kq1 : w7.cell? ⟨(w5.heap.size + 1), 1, none⟩ = some (.slice none 0 0) := KQ.at 1; have kq2 : w7.cell? ⟨(w5.heap.size + 1), 2, none⟩ = some (.slice none 0 0) := KQ.at 2; have kf0 := KQ.free 0; have kf1 := KQ.free 1; have kf2 := KQ.free 2; have nq7 : w1.heap.size ≠ (w5.heap.size + 1) := fun h => (by rw [h] at K7; have e7 := K7.symm.trans KQ; simp at e7))) | ((refine (fun (KQ : Blk w7 w4.heap.size #[.bool false, .slice none 0 0, .slice none 0 0] 91) => ?_) ?kq); (case kq => ((with_reducible refine blk_keep b7 ?_); (repeat (first | ((with_reducible refine blk_at ?_); (first | rfl | (simp; done))) | with_reducible refine blk_drew ?_ | with_reducible refine Blk.alloc ?_ _ | with_reducible refine blk_keep bu6 ?_ | with_reducible refine blk_keep bu ?_)); done)); (have kq0 : w7.cell? ⟨w4.heap.size, 0, none⟩ = some (.bool false) := KQ.at 0; have kq1 : w7.cell? ⟨w4.heap.size, 1, none⟩ = some (.slice none 0 0) := KQ.at 1; have kq2 : w7.cell? ⟨w4.heap.size, 2, none⟩ = some (.slice none 0 0) := KQ.at 2; have kf0 := KQ.free 0; have kf1 := KQ.free 1; have kf2 := KQ.free 2; have nq7 : w1.heap.size ≠ w4.heap.size := fun h => (by rw [h] at K7; have e7 := K7.symm.trans KQ; simp at e7))) | ((refine (fun (KQ : Blk w7 (w4.heap.size + 1) #[.bool false, .slice none 0 0, .slice none 0 0] 91) => ?_) ?kq); (case kq => ((with_reducible refine blk_keep b7 ?_); (repeat (first | ((with_reducible refine blk_at ?_); (first | rfl | (simp; done))) | with_reducible refine blk_drew ?_ | with_reducible refine Blk.alloc ?_ _ | with_reducible refine blk_keep bu6 ?_ | with_reducible refine blk_keep bu ?_)); done)); (have kq0 : w7.cell? ⟨(w4.heap.size + 1), 0, none⟩ = some (.bool false) := KQ.at 0; have kq1 : w7.cell? ⟨(w4.heap.size + 1), 1, none⟩ = some (.slice none 0 0) := KQ.at 1; have kq2 : w7.cell? ⟨(w4.heap.size + 1), 2, none⟩ = some (.slice none 0 0) := KQ.at 2; have kf0 := KQ.free 0; have kf1 := KQ.free 1; have kf2 := KQ.free 2; have nq7 : w1.heap.size ≠ (w4.heap.size + 1) := fun h => (by rw [h] at K7; have e7 := K7.symm.trans KQ; simp at e7))) | ((refine (fun (KQ : Blk w7 (w4.heap.size + 2) #[.bool false, .slice none 0 0, .slice none 0 0] 91) => ?_) ?kq); (case kq => ((with_reducible refine blk_keep b7 ?_); (repeat (first | ((with_reducible refine blk_at ?_); (first | rfl | (simp; done))) | with_reducible refine blk_drew ?_ | with_reducible refine Blk.alloc ?_ _ | with_reducible refine blk_keep bu6 ?_ | with_reducible refine blk_keep bu ?_)); done)); (have kq0 : w7.cell? ⟨(w4.heap.size + 2), 0, none⟩ = some (.bool false) := KQ.at 0; have kq1 : w7.cell? ⟨(w4.heap.size + 2), 1, none⟩ = some (.slice none 0 0) := KQ.at 1; have kq2 : w7.cell? ⟨(w4.heap.size + 2), 2, none⟩ = some (.slice none 0 0) := KQ.at 2; have kf0 := KQ.free 0; have kf1 := KQ.free 1; have kf2 := KQ.free 2; have nq7 : w1.heap.size ≠ (w4.heap.size + 2) := fun h => (by rw [h] at K7; have e7 := K7.symm.trans KQ; simp at e7))) | ((refine (fun (KQ : Blk w7 (w4.heap.size + 1 + 1) #[.bool false, .slice none 0 0, .slice none 0 0] 91) => ?_) ?kq); (case kq => ((with_reducible refine blk_keep b7 ?_); (repeat (first | ((with_reducible refine blk_at ?_); (first | rfl | (simp; done))) | with_reducible refine blk_drew ?_ | with_reducible refine Blk.alloc ?_ _ | with_reducible refine blk_keep bu6 ?_ | with_reducible refine blk_keep bu ?_)); done)); (have kq0 : w7.cell? ⟨(w4.heap.size + 1 + 1), 0, none⟩ = some (.bool false) := KQ.at 0; have kq1 : w7.cell? ⟨(w4.heap.size + 1 + 1), 1, none⟩ = some (.slice none 0 0) := KQ.at 1; have kq2 : w7.cell? ⟨(w4.heap.size + 1 + 1), 2, none⟩ = some (.slice none 0 0) := KQ.at 2; have kf0 := KQ.free 0; have kf1 := KQ.free 1; have kf2 := KQ.free 2; have nq7 : w1.heap.size ≠ (w4.heap.size + 1 + 1) := fun h => (by rw [h] at K7; have e7 := K7.symm.trans KQ; simp at e7))) | skip)))
      | fail)
    all_goals
      have GF := gap_facts hu.1 hu6.1 hN.1 hD.1 nN nD vu vu6 vN vD la lb (Int.natCast_nonneg _)
      clear vu vu6 vN vD
      go_wp2_with fail
      go_meet
      case rel =>
        refine ⟨_, .slice a7 ns.length c7, .slice a8 ds.length c8, ns, ds, rfl, ?_, ?_, nN, ?_, nD, GF.1, GF.2.1, GF.2.2.1, GF.2.2.2.1, GF.2.2.2.2, ?_, ?_⟩
        · first | with_reducible exact blk_put3 KQ | ((with_reducible refine blk_at ?_); simp)
        · first | with_reducible exact Rd.putQ hN KQ | with_reducible exact rd_alloc hN
        · first | with_reducible exact Rd.putQ hD KQ | with_reducible exact rd_alloc hD
        · first | with_reducible exact blk_other3 nq7 K7 | with_reducible exact Blk.alloc K7 _
        · first | with_reducible exact bel_alloc pr7 | ((with_reducible refine below3 pr7 ?_); (have s1 := pr.size; have s2 := pr5.size; have s3 := pr6.size; omega))
  case rest =>
    obtain ⟨b, v1, v2, ns, ds, rfl, KQ, h1, n1, h2, n2, cr, l1, l2, p1, p2, K1, prc⟩ := hcut
    have GX : Hid (∀ e m r : Int, Fl (val ns) (val ds) e m r → 0 ≤ m → -1074 ≤ e → m < 9007199254740992 → (e = -1074 ∨ 4503599627370496 ≤ m) → (r = 0 ∧ e ≤ 971) ∧ lay52 m e = gapB T) := fun e m r h m0 e0 m1 st => gap_exact (Z := 1074) rfl T1 p2 cr h m0 e0 m1 st
    clear cr K2 q0 q1 L2 pr
    have y0 : wc.cell? ⟨b, 0, none⟩ = some (.bool false) := KQ.at 0
    have y1 : wc.cell? ⟨b, 1, none⟩ = some v1 := KQ.at 1
    have y2 : wc.cell? ⟨b, 2, none⟩ = some v2 := KQ.at 2
    have z0 : wc.cell? ⟨w1.heap.size, 0, none⟩ = some (.int .i64 53) := K1.at 0
    have z1 : wc.cell? ⟨w1.heap.size, 1, none⟩ = some (.int .i64 (-1074)) := K1.at 1
    have z2 : wc.cell? ⟨w1.heap.size, 2, none⟩ = some (.int .i64 971) := K1.at 2
    have z3 : wc.cell? ⟨w1.heap.size, 3, none⟩ = some (.int .i64 52) := K1.at 3
    obtain ⟨a7, c7, rfl⟩ : ∃ a c, v1 = .slice a ns.length c := by obtain ⟨_, a, c, e, _⟩ := h1; exact ⟨a, c, e⟩
    obtain ⟨a8, c8, rfl⟩ : ∃ a c, v2 = .slice a ds.length c := by obtain ⟨_, a, c, e, _⟩ := h2; exact ⟨a, c, e⟩
    go_wp2_with (first
      | (go_at_call 56; (refine (Rounded_w _ _ ns ds 6 _ h1 h2 n1 n2 (by omega) (by omega) p1 p2 (fun e m r h a b c d => (GX.out e m r h a b c d).1)).mono ?_); (rintro x w9 ⟨ee, mm, fl, m0, m1, e0, st, rfl, b9⟩; have EQ : Hid (lay52 mm ee = gapB T) := (GX.out ee mm 0 fl m0 e0 m1 st).2))
      | fail)
    exact bodyPost_ret (v := .tuple #[.int .u64 (lay52 mm ee), .bool true]) (by simp [results, Try.results35, go_sem]) rfl ⟨by rw [EQ.out], bel prc b9⟩
end Go.Proofs.Ytjgljcifnklmeaa.L

namespace Go.Proofs.Ytjgljcifnklmeaa.L
open Go.RowKit Tl

set_option maxHeartbeats 6400000 in
set_option maxRecDepth 100000 in
/-- Of another finite one. -/
theorem RGap_other (n k : Int) (g : Bool) (m ex : Int) (F : ∀ w, Calls Try.prog 66 #[szW, .int .u64 n] w fun e w' => e = .returned (.bool true) ∧ Below w.heap.size w w')
    (S : ∀ w, Calls Try.prog 11 #[szW, .int .u64 n] w fun e w' => e = .returned (.agg #[.int .i64 k, .bool g, .int .u64 m, .int .i64 ex]) ∧ Below w.heap.size w w') (hk : (k == 2) = false) (w : World) :
    Calls Try.prog 35 #[.int .u64 n] w fun r w' => r = .returned (.tuple #[.int .u64 (gapB 0), .bool true]) ∧ Below w.heap.size w w' := by
  have T1 : 0 ≤ 2045 := by decide
  have hw0 : IntKind.i64.wrap 0 = 0 := by decide
  have S1 : ∀ (w : World) (v : Value), Rd w v [1] → Calls Try.prog 68 #[v, .int .i64 0] w fun e w' => ∃ r zs, e = .returned r ∧ Rd w' r zs ∧ Nm zs ∧ val zs = val [1] * 2 ^ 0 ∧ Below w.heap.size w w' := fun w v h => Shl_any v [1] 0 w h one_len (by decide)
  have S2 : ∀ (w : World) (v : Value), Rd w v [1] → Calls Try.prog 68 #[v, .int .i64 1074] w fun e w' => ∃ r zs, e = .returned r ∧ Rd w' r zs ∧ Nm zs ∧ val zs = val [1] * 2 ^ 1074 ∧ Below w.heap.size w w' := fun w v h => Shl_any v [1] 1074 w h one_len (by decide)
  have lh : 100 ≤ 274877906944 := by decide
  have hw3 : IntKind.i64.wrap 1074 = 1074 := by decide
  have fk := field_kind k m ex g
  go_enter Try.func35, Try.ntmps35
  go_upto_region 7 with (first
    | (go_at_call 10; refine (Wide_any _).mono ?_; rintro x w1 ⟨rfl, b1⟩; have pr := b1; clear b1; have m0 := Blk.new w1 #[.int .i64 53, .int .i64 (-1074), .int .i64 971, .int .i64 52] 31; have q0 : (w1.alloc (.cells #[.int .i64 53, .int .i64 (-1074), .int .i64 971, .int .i64 52] 31)).cell? ⟨w1.heap.size, 0, none⟩ = some (.int .i64 53) := m0.at 0; have q1 : (w1.alloc (.cells #[.int .i64 53, .int .i64 (-1074), .int .i64 971, .int .i64 52] 31)).cell? ⟨w1.heap.size, 1, none⟩ = some (.int .i64 (-1074)) := m0.at 1; have q2 : (w1.alloc (.cells #[.int .i64 53, .int .i64 (-1074), .int .i64 971, .int .i64 52] 31)).cell? ⟨w1.heap.size, 2, none⟩ = some (.int .i64 971) := m0.at 2; have q3 : (w1.alloc (.cells #[.int .i64 53, .int .i64 (-1074), .int .i64 971, .int .i64 52] 31)).cell? ⟨w1.heap.size, 3, none⟩ = some (.int .i64 52) := m0.at 3; clear m0)
    | (go_at_call 66; (with_reducible refine (F _).mono ?_); rintro x w4 ⟨rfl, b4⟩; obtain ⟨b5, K2⟩ := var4 b4; clear b4; replace pr := bel pr b5; clear b5; have q0 : w4.cell? ⟨w1.heap.size, 0, none⟩ = some (.int .i64 53) := K2.at 0; have q1 : w4.cell? ⟨w1.heap.size, 1, none⟩ = some (.int .i64 (-1074)) := K2.at 1; have q2 : w4.cell? ⟨w1.heap.size, 2, none⟩ = some (.int .i64 971) := K2.at 2; have q3 : w4.cell? ⟨w1.heap.size, 3, none⟩ = some (.int .i64 52) := K2.at 3)
    | (go_at_call 11; (with_reducible refine (S _).mono ?_); rintro x w4 ⟨rfl, b4⟩; replace K2 := K2.below b4 K2.lt; replace pr := bel pr b4; clear b4; have q0 : w4.cell? ⟨w1.heap.size, 0, none⟩ = some (.int .i64 53) := K2.at 0; have q1 : w4.cell? ⟨w1.heap.size, 1, none⟩ = some (.int .i64 (-1074)) := K2.at 1; have q2 : w4.cell? ⟨w1.heap.size, 2, none⟩ = some (.int .i64 971) := K2.at 2; have q3 : w4.cell? ⟨w1.heap.size, 3, none⟩ = some (.int .i64 52) := K2.at 3)
    | fail)
  clear q0 q1 q2 q3
  have q0 : w4.cell? ⟨w1.heap.size, 0, none⟩ = some (.int .i64 53) := K2.at 0
  have q1 : w4.cell? ⟨w1.heap.size, 1, none⟩ = some (.int .i64 (-1074)) := K2.at 1
  have L2 := K2.lt
  clear F S fk
  go_cut [6] (fun p wc => ∃ (b : Nat) (v1 v2 : Value) (ns ds : List Int), p = .pointer (some ⟨b, 0, none⟩) ∧ Blk wc b #[.bool false, v1, v2] 91 ∧ Rd wc v1 ns ∧ Nm ns ∧ Rd wc v2 ds ∧ Nm ds ∧ val ns * 2 ^ 1074 = val ds * 2 ^ 0 ∧ ns.length ≤ 100 ∧ ds.length ≤ 100 ∧ 0 < val ns ∧ 0 < val ds ∧ Blk wc w1.heap.size #[.int .i64 53, .int .i64 (-1074), .int .i64 971, .int .i64 52] 31 ∧ Below w.heap.size w wc)
  case first =>
    go_region_held3 (fun x => x.cell? ⟨w1.heap.size, 1, none⟩ = some (.int .i64 (-1074))) (first | ((try dsimp only); (repeat (first | with_reducible exact q3' | with_reducible exact q2' | with_reducible exact q1' | with_reducible exact q1 | with_reducible refine cell_drew ?_ | with_reducible refine cell_alloc ?_)); done) | exact set3_other nq7 q3' | go_keep) (first
      | (go_at_call 68; ((with_reducible refine (S1 _ _ ?hrd).mono ?_)); (case hrd => exact rd_one (by repeat (first | ((with_reducible refine cell_at ?_); (first | rfl | (simp; done))) | with_reducible refine cell_drew ?_ | with_reducible refine cell_alloc ?_)) (by decide) (by decide)); (rintro x w5 ⟨u, za, rfl, hu, nu, vu, bu⟩; have q1' : w5.cell? ⟨w1.heap.size, 1, none⟩ = some (.int .i64 (-1074)) := keep_cell bu (by repeat (first | with_reducible exact q1 | with_reducible refine cell_drew ?_ | with_reducible refine cell_alloc ?_)); have K5 : Blk w5 w1.heap.size #[.int .i64 53, .int .i64 (-1074), .int .i64 971, .int .i64 52] 31 := blk_keep bu (by repeat (first | with_reducible exact K2 | with_reducible refine blk_drew ?_ | with_reducible refine Blk.alloc ?_ _)); have pr5 : Below w.heap.size w w5 := bel (by repeat (first | with_reducible exact pr | with_reducible refine bel_drw ?_ | with_reducible refine bel_alloc ?_)) bu))
      | (go_at_call 68; ((with_reducible refine (S2 _ _ ?hrd).mono ?_)); (case hrd => exact rd_one (by repeat (first | ((with_reducible refine cell_at ?_); (first | rfl | (simp; done))) | with_reducible refine cell_drew ?_ | with_reducible refine cell_alloc ?_ | with_reducible refine keep_cell bu ?_)) (by decide) (by decide)); (rintro x w6 ⟨u6, zb, rfl, hu6, nu6, vu6, bu6⟩; have q2' : w6.cell? ⟨w1.heap.size, 1, none⟩ = some (.int .i64 (-1074)) := keep_cell bu6 (by repeat (first | with_reducible exact q1' | with_reducible refine cell_drew ?_ | with_reducible refine cell_alloc ?_)); have K6 : Blk w6 w1.heap.size #[.int .i64 53, .int .i64 (-1074), .int .i64 971, .int .i64 52] 31 := blk_keep bu6 (by repeat (first | with_reducible exact K5 | with_reducible refine blk_drew ?_ | with_reducible refine Blk.alloc ?_ _)); have pr6 : Below w.heap.size w w6 := bel (by repeat (first | with_reducible exact pr5 | with_reducible refine bel_drw ?_ | with_reducible refine bel_alloc ?_)) bu6; have hu2 : Rd w6 u za := Rd.grow (by repeat (first | with_reducible exact hu | with_reducible refine rd_drew ?_ | with_reducible refine rd_alloc ?_)) bu6))
      | (go_at_call 67; have la : za.length ≤ 100 := (by have h9 := shl_len2 h1_wd hu.1 nu vu; simp at h9; omega); have lb : zb.length ≤ 100 := (by have h9 := shl_len2 h1_wd hu6.1 nu6 vu6; simp at h9; omega); have pa : 0 < za.length := shl_pos (by decide) nm_one h1_wd vu; ((with_reducible refine (Make_any false _ _ za zb 100 _ ?hr1 ?hr2 nu nu6 la lb lh pa).mono ?_)); (case hr1 => exact (by repeat (first | with_reducible exact hu2 | with_reducible refine rd_drew ?_ | with_reducible refine rd_alloc ?_))); (case hr2 => exact (by repeat (first | with_reducible exact hu6 | with_reducible refine rd_drew ?_ | with_reducible refine rd_alloc ?_))); (rintro x w7 ⟨u7, u8, ns, ds, rfl, hN, nN, hD, nD, vN, vD, b7⟩; have q3' : w7.cell? ⟨w1.heap.size, 1, none⟩ = some (.int .i64 (-1074)) := keep_cell b7 (by repeat (first | with_reducible exact q2' | with_reducible refine cell_drew ?_ | with_reducible refine cell_alloc ?_)); have K7 : Blk w7 w1.heap.size #[.int .i64 53, .int .i64 (-1074), .int .i64 971, .int .i64 52] 31 := blk_keep b7 (by repeat (first | with_reducible exact K6 | with_reducible refine blk_drew ?_ | with_reducible refine Blk.alloc ?_ _)); have pr7 : Below w.heap.size w w7 := bel (by repeat (first | with_reducible exact pr6 | with_reducible refine bel_drw ?_ | with_reducible refine bel_alloc ?_)) b7; obtain ⟨a7, c7, rfl⟩ : ∃ a c, u7 = .slice a ns.length c := (by obtain ⟨_, a, c, e, _⟩ := hN; exact ⟨a, c, e⟩); obtain ⟨a8, c8, rfl⟩ : ∃ a c, u8 = .slice a ds.length c := (by obtain ⟨_, a, c, e, _⟩ := hD; exact ⟨a, c, e⟩); (first | ((refine (fun (KQ : Blk w7 w6.heap.size #[.bool false, .slice none 0 0, .slice none 0 0] 91) => ?_) ?kq); (case kq => ((with_reducible refine blk_keep b7 ?_); (repeat (first | ((with_reducible refine blk_at ?_); (first | rfl | (simp; done))) | with_reducible refine blk_drew ?_ | with_reducible refine Blk.alloc ?_ _)); done)); (have kq0 : w7.cell? ⟨w6.heap.size, 0, none⟩ = some (.bool false) := KQ.at 0; have kq1 : w7.cell? ⟨w6.heap.size, 1, none⟩ = some (.slice none 0 0) := KQ.at 1; have kq2 : w7.cell? ⟨w6.heap.size, 2, none⟩ = some (.slice none 0 0) := KQ.at 2; have kf0 := KQ.free 0; have kf1 := KQ.free 1; have kf2 := KQ.free 2; have nq7 : w1.heap.size ≠ w6.heap.size := fun h => (by rw [h] at K7; have e7 := K7.symm.trans KQ; simp at e7))) | ((refine (fun (KQ : Blk w7 w5.heap.size #[.bool false, .slice none 0 0, .slice none 0 0] 91) => ?_) ?kq); (case kq => ((with_reducible refine blk_keep b7 ?_); (repeat (first | ((with_reducible refine blk_at ?_); (first | rfl | (simp; done))) | with_reducible refine blk_drew ?_ | with_reducible refine Blk.alloc ?_ _ | with_reducible refine blk_keep bu6 ?_)); done)); (have kq0 : w7.cell? ⟨w5.heap.size, 0, none⟩ = some (.bool false) := KQ.at 0; have kq1 : w7.cell? ⟨w5.heap.size, 1, none⟩ = some (.slice none 0 0) := KQ.at 1; have kq2 : w7.cell? ⟨w5.heap.size, 2, none⟩ = some (.slice none 0 0) := KQ.at 2; have kf0 := KQ.free 0; have kf1 := KQ.free 1; have kf2 := KQ.free 2; have nq7 : w1.heap.size ≠ w5.heap.size := fun h => (by rw [h] at K7; have e7 := K7.symm.trans KQ; simp at e7))) | ((refine (fun (KQ : Blk w7 (w5.heap.size + 1) #[.bool false, .slice none 0 0, .slice none 0 0] 91) => ?_) ?kq); (case kq => ((with_reducible refine blk_keep b7 ?_); (repeat (first | ((with_reducible refine blk_at ?_); (first | rfl | (simp; done))) | with_reducible refine blk_drew ?_ | with_reducible refine Blk.alloc ?_ _ | with_reducible refine blk_keep bu6 ?_)); done)); (have kq0 : w7.cell? ⟨(w5.heap.size + 1), 0, none⟩ = some (.bool false) := KQ.at 0; have kq1 : w7.cell? ⟨(w5.heap.size + 1), 1, none⟩ = some (.slice none 0 0) := KQ.at 1; have kq2 : w7.cell? ⟨(w5.heap.size + 1), 2, none⟩ = some (.slice none 0 0) := KQ.at 2; have kf0 := KQ.free 0; have kf1 := KQ.free 1; have kf2 := KQ.free 2; have nq7 : w1.heap.size ≠ (w5.heap.size + 1) := fun h => (by rw [h] at K7; have e7 := K7.symm.trans KQ; simp at e7))) | ((refine (fun (KQ : Blk w7 w4.heap.size #[.bool false, .slice none 0 0, .slice none 0 0] 91) => ?_) ?kq); (case kq => ((with_reducible refine blk_keep b7 ?_); (repeat (first | ((with_reducible refine blk_at ?_); (first | rfl | (simp; done))) | with_reducible refine blk_drew ?_ | with_reducible refine Blk.alloc ?_ _ | with_reducible refine blk_keep bu6 ?_ | with_reducible refine blk_keep bu ?_)); done)); (have kq0 : w7.cell? ⟨w4.heap.size, 0, none⟩ = some (.bool false) := KQ.at 0; have kq1 : w7.cell? ⟨w4.heap.size, 1, none⟩ = some (.slice none 0 0) := KQ.at 1; have kq2 : w7.cell? ⟨w4.heap.size, 2, none⟩ = some (.slice none 0 0) := KQ.at 2; have kf0 := KQ.free 0; have kf1 := KQ.free 1; have kf2 := KQ.free 2; have nq7 : w1.heap.size ≠ w4.heap.size := fun h => (by rw [h] at K7; have e7 := K7.symm.trans KQ; simp at e7))) | ((refine (fun (KQ : Blk w7 (w4.heap.size + 1) #[.bool false, .slice none 0 0, .slice none 0 0] 91) => ?_) ?kq); (case kq => ((with_reducible refine blk_keep b7 ?_); (repeat (first | ((with_reducible refine blk_at ?_); (first | rfl | (simp; done))) | with_reducible refine blk_drew ?_ | with_reducible refine Blk.alloc ?_ _ | with_reducible refine blk_keep bu6 ?_ | with_reducible refine blk_keep bu ?_)); done)); (have kq0 : w7.cell? ⟨(w4.heap.size + 1), 0, none⟩ = some (.bool false) := KQ.at 0; have kq1 : w7.cell? ⟨(w4.heap.size + 1), 1, none⟩ = some (.slice none 0 0) := KQ.at 1; have kq2 : w7.cell? ⟨(w4.heap.size + 1), 2, none⟩ = some (.slice none 0 0) := KQ.at 2; have kf0 := KQ.free 0; have kf1 := KQ.free 1; have kf2 := KQ.free 2; have nq7 : w1.heap.size ≠ (w4.heap.size + 1) := fun h => (by rw [h] at K7; have e7 := K7.symm.trans KQ; simp at e7))) | ((refine (fun (KQ : Blk w7 (w4.heap.size + 2) #[.bool false, .slice none 0 0, .slice none 0 0] 91) => ?_) ?kq); (case kq => ((with_reducible refine blk_keep b7 ?_); (repeat (first | ((with_reducible refine blk_at ?_); (first | rfl | (simp; done))) | with_reducible refine blk_drew ?_ | with_reducible refine Blk.alloc ?_ _ | with_reducible refine blk_keep bu6 ?_ | with_reducible refine blk_keep bu ?_)); done)); (have kq0 : w7.cell? ⟨(w4.heap.size + 2), 0, none⟩ = some (.bool false) := KQ.at 0; have kq1 : w7.cell? ⟨(w4.heap.size + 2), 1, none⟩ = some (.slice none 0 0) := KQ.at 1; have kq2 : w7.cell? ⟨(w4.heap.size + 2), 2, none⟩ = some (.slice none 0 0) := KQ.at 2; have kf0 := KQ.free 0; have kf1 := KQ.free 1; have kf2 := KQ.free 2; have nq7 : w1.heap.size ≠ (w4.heap.size + 2) := fun h => (by rw [h] at K7; have e7 := K7.symm.trans KQ; simp at e7))) | ((refine (fun (KQ : Blk w7 (w4.heap.size + 1 + 1) #[.bool false, .slice none 0 0, .slice none 0 0] 91) => ?_) ?kq); (case kq => ((with_reducible refine blk_keep b7 ?_); (repeat (first | ((with_reducible refine blk_at ?_); (first | rfl | (simp; done))) | with_reducible refine blk_drew ?_ | with_reducible refine Blk.alloc ?_ _ | with_reducible refine blk_keep bu6 ?_ | with_reducible refine blk_keep bu ?_)); done)); (have kq0 : w7.cell? ⟨(w4.heap.size + 1 + 1), 0, none⟩ = some (.bool false) := KQ.at 0; have kq1 : w7.cell? ⟨(w4.heap.size + 1 + 1), 1, none⟩ = some (.slice none 0 0) := KQ.at 1; have kq2 : w7.cell? ⟨(w4.heap.size + 1 + 1), 2, none⟩ = some (.slice none 0 0) := KQ.at 2; have kf0 := KQ.free 0; have kf1 := KQ.free 1; have kf2 := KQ.free 2; have nq7 : w1.heap.size ≠ (w4.heap.size + 1 + 1) := fun h => (by rw [h] at K7; have e7 := K7.symm.trans KQ; simp at e7))) | skip)))
      | fail)
    all_goals
      have GF := gap_facts hu.1 hu6.1 hN.1 hD.1 nN nD vu vu6 vN vD la lb (Int.natCast_nonneg _)
      clear vu vu6 vN vD
      go_wp2_with fail
      go_meet
      case rel =>
        refine ⟨_, .slice a7 ns.length c7, .slice a8 ds.length c8, ns, ds, rfl, ?_, ?_, nN, ?_, nD, GF.1, GF.2.1, GF.2.2.1, GF.2.2.2.1, GF.2.2.2.2, ?_, ?_⟩
        · first | with_reducible exact blk_put3 KQ | ((with_reducible refine blk_at ?_); simp)
        · first | with_reducible exact Rd.putQ hN KQ | with_reducible exact rd_alloc hN
        · first | with_reducible exact Rd.putQ hD KQ | with_reducible exact rd_alloc hD
        · first | with_reducible exact blk_other3 nq7 K7 | with_reducible exact Blk.alloc K7 _
        · first | with_reducible exact bel_alloc pr7 | ((with_reducible refine below3 pr7 ?_); (have s1 := pr.size; have s2 := pr5.size; have s3 := pr6.size; omega))
  case rest =>
    obtain ⟨b, v1, v2, ns, ds, rfl, KQ, h1, n1, h2, n2, cr, l1, l2, p1, p2, K1, prc⟩ := hcut
    have GX : Hid (∀ e m r : Int, Fl (val ns) (val ds) e m r → 0 ≤ m → -1074 ≤ e → m < 9007199254740992 → (e = -1074 ∨ 4503599627370496 ≤ m) → (r = 0 ∧ e ≤ 971) ∧ lay52 m e = gapB 0) := fun e m r h m0 e0 m1 st => gap_exact (Z := 1074) rfl T1 p2 cr h m0 e0 m1 st
    clear cr K2 q0 q1 L2 pr
    have y0 : wc.cell? ⟨b, 0, none⟩ = some (.bool false) := KQ.at 0
    have y1 : wc.cell? ⟨b, 1, none⟩ = some v1 := KQ.at 1
    have y2 : wc.cell? ⟨b, 2, none⟩ = some v2 := KQ.at 2
    have z0 : wc.cell? ⟨w1.heap.size, 0, none⟩ = some (.int .i64 53) := K1.at 0
    have z1 : wc.cell? ⟨w1.heap.size, 1, none⟩ = some (.int .i64 (-1074)) := K1.at 1
    have z2 : wc.cell? ⟨w1.heap.size, 2, none⟩ = some (.int .i64 971) := K1.at 2
    have z3 : wc.cell? ⟨w1.heap.size, 3, none⟩ = some (.int .i64 52) := K1.at 3
    obtain ⟨a7, c7, rfl⟩ : ∃ a c, v1 = .slice a ns.length c := by obtain ⟨_, a, c, e, _⟩ := h1; exact ⟨a, c, e⟩
    obtain ⟨a8, c8, rfl⟩ : ∃ a c, v2 = .slice a ds.length c := by obtain ⟨_, a, c, e, _⟩ := h2; exact ⟨a, c, e⟩
    go_wp2_with (first
      | (go_at_call 56; (refine (Rounded_w _ _ ns ds 6 _ h1 h2 n1 n2 (by omega) (by omega) p1 p2 (fun e m r h a b c d => (GX.out e m r h a b c d).1)).mono ?_); (rintro x w9 ⟨ee, mm, fl, m0, m1, e0, st, rfl, b9⟩; have EQ : Hid (lay52 mm ee = gapB 0) := (GX.out ee mm 0 fl m0 e0 m1 st).2))
      | fail)
    exact bodyPost_ret (v := .tuple #[.int .u64 (lay52 mm ee), .bool true]) (by simp [results, Try.results35, go_sem]) rfl ⟨by rw [EQ.out], bel prc b9⟩
end Go.Proofs.Ytjgljcifnklmeaa.L
