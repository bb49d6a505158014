import Derived.Test.YtejfnplhimfchaaGreatDoorPart29
import Derived.Test.YtejfnplhimfchaaGreatDoorPart04
import Derived.WalkLawsBesides
import Derived.Deep.RegionHeld3
import Derived.Deep.DeepCutAuto
import Derived.Deep.CutBlock
import Derived.Test.YtejfnplhimfchaaGreatDoorPart30

namespace Go.Proofs.YtejfnplhimfchaaGreatDoor.L
open Go.RowKit Tl

theorem bel {w W w1 : World} (pr : Below w.heap.size w W) (b1 : Below W.heap.size W w1) : Below w.heap.size w w1 := pr.trans (b1.mono pr.size)
theorem keep_cell {W w5 : World} {b i : Nat} {v : Value} (bu : Below W.heap.size W w5) (h : W.cell? ⟨b, i, none⟩ = some v) : w5.cell? ⟨b, i, none⟩ = some v := (bu.cell (p := ⟨b, i, none⟩) (lt_of_cell h)).trans h
theorem cell_alloc {w : World} {b i : Nat} {ob : Obj} {v : Value} (h : w.cell? ⟨b, i, none⟩ = some v) : (w.alloc ob).cell? ⟨b, i, none⟩ = some v := keep_cell ((Below.refl _ _).alloc (Nat.le_refl _) _) h
theorem cell_at {w : World} {n : Nat} {v : Value} {t : TypeId} (h : n = w.heap.size) : (w.alloc (.cells #[v] t)).cell? ⟨n, 0, none⟩ = some v := by subst h; simp
theorem blk_at {w : World} {n : Nat} {c : Array Value} {t : TypeId} (h : n = w.heap.size) : Blk (w.alloc (.cells c t)) n c t := by subst h; exact Blk.new _ _ _
theorem rd_alloc {w : World} {ob : Obj} {v : Value} {xs : List Int} (h : Rd w v xs) : Rd (w.alloc ob) v xs := h.grow ((Below.refl _ _).alloc (Nat.le_refl _) _)
theorem bel_alloc {w W : World} {ob : Obj} (h : Below w.heap.size w W) : Below w.heap.size w (W.alloc ob) := h.alloc h.size _
theorem blk_keep {W w5 : World} {n : Nat} {c : Array Value} {t : TypeId} (bu : Below W.heap.size W w5) (h : Blk W n c t) : Blk w5 n c t := h.below bu h.lt
theorem cell_drew {w : World} {b i : Nat} {v : Value} (h : w.cell? ⟨b, i, none⟩ = some v) : w.drew.cell? ⟨b, i, none⟩ = some v := h
theorem blk_drew {w : World} {n : Nat} {c : Array Value} {t : TypeId} (h : Blk w n c t) : Blk w.drew n c t := h
theorem bel_drw {w W : World} (h : Below w.heap.size w W) : Below w.heap.size w W.drew := h.drew
theorem rd_drew {w : World} {v : Value} {xs : List Int} (h : Rd w v xs) : Rd w.drew v xs := h.drew
theorem blk_put3 {w : World} {b : Nat} {u0 u1 u2 x y z : Value} {t : TypeId} (h : Blk w b #[u0, u1, u2] t) : Blk (((w.setCell ⟨b, 0, none⟩ x).setCell ⟨b, 1, none⟩ y).setCell ⟨b, 2, none⟩ z) b #[x, y, z] t := by
  have h' : w.heap[b]? = some (.cells #[u0, u1, u2] t (0, 0)) := h
  show (((w.setCell ⟨b, 0, none⟩ x).setCell ⟨b, 1, none⟩ y).setCell ⟨b, 2, none⟩ z).heap[b]? = _
  simp [World.setCell, Array.getElem?_modify, h']
theorem wr3 {w : World} {b : Nat} {x y z : Value} : Wr b 0 3 w (((w.setCell ⟨b, 0, none⟩ x).setCell ⟨b, 1, none⟩ y).setCell ⟨b, 2, none⟩ z) := (((Wr.refl _ _ _ _).setCell 0 (by omega) x).setCell 1 (by omega) y).setCell 2 (by omega) z
theorem blk_other3 {w : World} {b n : Nat} {x y z : Value} {c : Array Value} {t : TypeId} (h : n ≠ b) (k : Blk w n c t) : Blk (((w.setCell ⟨b, 0, none⟩ x).setCell ⟨b, 1, none⟩ y).setCell ⟨b, 2, none⟩ z) n c t := (wr3.block n k.lt h).trans k
theorem below3 {W w : World} {b : Nat} {x y z : Value} (h : Below W.heap.size W w) (hb : W.heap.size ≤ b) : Below W.heap.size W (((w.setCell ⟨b, 0, none⟩ x).setCell ⟨b, 1, none⟩ y).setCell ⟨b, 2, none⟩ z) := h.trans (wr3.below hb h.size)
theorem one_len : ([1] : List Int).length ≤ 549755813888 := by decide
theorem h1_wd : Wd [1] := Wd.cons (by decide) (by decide) Wd.nil
theorem set3_other {w : World} {b b' i : Nat} {x y z v : Value} (_h : b' ≠ b) (q : w.cell? ⟨b', i, none⟩ = some v) : (((w.setCell ⟨b, 0, none⟩ x).setCell ⟨b, 1, none⟩ y).setCell ⟨b, 2, none⟩ z).cell? ⟨b', i, none⟩ = some v := by
  rw [World.cell?_setCell_other _ _ _ _ (by simp), World.cell?_setCell_other _ _ _ _ (by simp), World.cell?_setCell_other _ _ _ _ (by simp)]; exact q
end Go.Proofs.YtejfnplhimfchaaGreatDoor.L

namespace Go.Proofs.YtejfnplhimfchaaGreatDoor.L
open Go.RowKit Tl

/-- A number with a sign. -/
def sgI (g : Bool) (x : Int) : Int := if g = true then -x else x
theorem sgI_abs (g : Bool) {x : Int} (h : 0 ≤ x) : ((sgI g x).natAbs : Int) = x := by
  unfold sgI
  split <;> omega
/-- The value v is the exact number r, in lowest terms. -/
def IsQ (w : World) (v : Value) (r : Rat) : Prop :=
  ∃ (ns ds : List Int) (a1 a2 : Option Addr) (c1 c2 : Nat), v = .agg #[.bool (decide (r.num < 0)), .slice a1 ns.length c1, .slice a2 ds.length c2] ∧ Rd w (.slice a1 ns.length c1) ns ∧ Nm ns ∧ val ns = (r.num.natAbs : Int) ∧ Rd w (.slice a2 ds.length c2) ds ∧ Nm ds ∧ val ds = (r.den : Int)
theorem IsQ.grow {w w' : World} {v : Value} {r : Rat} (h : IsQ w v r) (b : Below w.heap.size w w') : IsQ w' v r := by
  obtain ⟨ns, ds, a1, a2, c1, c2, e, h1, n1, v1, h2, n2, v2⟩ := h
  exact ⟨ns, ds, a1, a2, c1, c2, e, h1.grow b, n1, v1, h2.grow b, n2, v2⟩
theorem IsQ.drew {w : World} {v : Value} {r : Rat} (h : IsQ w v r) : IsQ w.drew v r := h.grow ((Below.refl _ _).drew)
theorem IsQ.alloc {w : World} {v : Value} {r : Rat} {ob : Obj} (h : IsQ w v r) : IsQ (w.alloc ob) v r := h.grow ((Below.refl _ _).alloc (Nat.le_refl _) _)
theorem gcd_eq (X Y : Int) (g : Bool) (hX : 0 ≤ X) (hY : 0 < Y) : Y.toNat.gcd (sgI g X).natAbs = Int.gcd X Y := by
  rw [Nat.gcd_comm]
  unfold Int.gcd
  have e1 : (sgI g X).natAbs = X.natAbs := by unfold sgI; split <;> omega
  have e2 : Y.toNat = Y.natAbs := by omega
  rw [e1, e2]
/-- In lowest terms. -/
theorem mk_low {X Y N D : Int} (g : Bool) (hX : 0 < X) (hY : 0 < Y) (hN : 0 ≤ N) (eN : N * (Int.gcd X Y : Int) = X) (eD : D * (Int.gcd X Y : Int) = Y) :
    decide ((mkRat (sgI g X) Y.toNat).num < 0) = g ∧ N = ((mkRat (sgI g X) Y.toNat).num.natAbs : Int) ∧ D = ((mkRat (sgI g X) Y.toNat).den : Int) := by
  have y0 : Y.toNat ≠ 0 := by omega
  have G := gcd_eq X Y g (by omega) hY
  have num : (mkRat (sgI g X) Y.toNat).num = sgI g X / (Int.gcd X Y : Int) := by
    rw [Rat.num_mkRat, if_neg y0]
    rw [show ((Y.toNat.gcd (sgI g X).natAbs : Nat) : Int) = (Int.gcd X Y : Int) from by rw [G]]
  have den : ((mkRat (sgI g X) Y.toNat).den : Int) = Y / (Int.gcd X Y : Int) := by
    rw [Rat.den_mkRat, if_neg y0, G, Int.natCast_ediv, Int.toNat_of_nonneg (by omega)]
  rw [num, den]
  generalize (Int.gcd X Y : Int) = d at *
  have d0 : d ≠ 0 := by intro e; rw [e] at eN; simp at eN; omega
  have e1 : sgI g X / d = sgI g N := by
    unfold sgI
    split
    · rw [← eN, ← Int.neg_mul, Int.mul_ediv_cancel _ d0]
    · rw [← eN, Int.mul_ediv_cancel _ d0]
  have e2 : Y / d = D := by rw [← eD, Int.mul_ediv_cancel _ d0]
  have n0 : N ≠ 0 := by intro e; rw [e] at eN; simp at eN; omega
  rw [e1, e2]
  refine ⟨?_, (sgI_abs g hN).symm, rfl⟩
  unfold sgI
  cases g
  · rw [if_neg (by simp), decide_eq_false_iff_not]; omega
  · rw [if_pos rfl, decide_eq_true_eq]; omega
theorem val_nil : val ([] : List Int) = 0 := rfl
set_option maxHeartbeats 1600000 in
set_option maxRecDepth 100000 in
theorem make_none (neg : Bool) (a1 : Option Addr) (c1 : Nat) (v2 : Value) (w : World) :
    Calls Tryz.prog 59 #[.bool neg, .slice a1 0 c1, v2] w fun e w' => ∃ u2, e = .returned (.agg #[.bool false, .slice none 0 0, u2]) ∧ Rd w' u2 [1] ∧ Below w.heap.size w w' := by
  have ho : Rd ((w.alloc (.cells #[.bool false, .slice none 0 0, .slice (some ⟨w.heap.size + 1, 0, none⟩) 1 1] 43)).alloc (.cells #[.int .i64 1] 3)) (.slice (some ⟨w.heap.size + 1, 0, none⟩) 1 1) [1] := rd_one (cell_at (by simp)) (by decide) (by decide)
  have pr : Below w.heap.size w ((w.alloc (.cells #[.bool false, .slice none 0 0, .slice (some ⟨w.heap.size + 1, 0, none⟩) 1 1] 43)).alloc (.cells #[.int .i64 1] 3)) := ((Below.refl _ _).alloc (Nat.le_refl _) _).alloc (by simp) _
  go_enter Tryz.func59, Tryz.ntmps59
  go_wp2
  exact bodyPost_ret (v := .agg #[.bool false, .slice none 0 0, .slice (some ⟨w.heap.size + 1, 0, none⟩) 1 1]) (by simp [results, Tryz.results59, go_sem]) rfl ⟨_, rfl, ho, pr⟩
/-- Make of the reference, as an exact number. -/
theorem Make_q (neg : Bool) (v1 v2 : Value) (xs ys : List Int) (L : Nat) (w : World) (h1 : Rd w v1 xs) (h2 : Rd w v2 ys) (n1 : Nm xs) (n2 : Nm ys) (l1 : xs.length ≤ L) (l2 : ys.length ≤ L) (hL : L ≤ 274877906944) (y0 : 0 < val ys) :
    Calls Tryz.prog 59 #[.bool neg, v1, v2] w fun e w' => ∃ v, e = .returned v ∧ IsQ w' v (mkRat (sgI neg (val xs)) (val ys).toNat) ∧ Below w.heap.size w w' := by
  by_cases p1 : 0 < xs.length
  · have x0 : 0 < val xs := by
      have := val_nonneg h1.1
      by_cases c : val xs = 0
      · rw [val_eq_zero h1.1 n1] at c
        rw [c] at p1; simp at p1
      · omega
    refine (Make_any neg v1 v2 xs ys L w h1 h2 n1 n2 l1 l2 hL p1).mono ?_
    rintro e w' ⟨u1, u2, ns, ds, rfl, hn, nn, hd, nd, eN, eD, hb⟩
    obtain ⟨a, c, rfl⟩ := rd_form hn
    obtain ⟨a', c', rfl⟩ := rd_form hd
    obtain ⟨m1, m2, m3⟩ := mk_low neg x0 y0 (val_nonneg hn.1) eN eD
    exact ⟨_, rfl, ⟨ns, ds, a, a', c, c', by rw [m1], hn, nn, m2, hd, nd, m3⟩, hb⟩
  · have e0 : xs = [] := List.eq_nil_of_length_eq_zero (by omega)
    subst e0
    obtain ⟨a, c, rfl⟩ := rd_form h1
    have e : mkRat (sgI neg (val [])) (val ys).toNat = 0 := by
      rw [val_nil]
      have : sgI neg 0 = 0 := by cases neg <;> rfl
      rw [this, Rat.zero_mkRat]
    rw [e]
    refine (make_none neg a c v2 w).mono ?_
    rintro e w' ⟨u2, rfl, h, hb⟩
    obtain ⟨a', c', rfl⟩ := rd_form h
    have z : decide ((0 : Rat).num < 0) = false := by decide
    exact ⟨_, rfl, ⟨[], [1], none, a', 0, c', by rw [z]; rfl, rd_nil _, Or.inl rfl, by rw [val_nil]; rfl, h, nm_one, by rw [val_one]; rfl⟩, hb⟩
end Go.Proofs.YtejfnplhimfchaaGreatDoor.L

namespace Go.Proofs.YtejfnplhimfchaaGreatDoor.L
open Go.RowKit Tl

theorem cmp3_ge {x y : Int} (h : y ≤ x) : 0 ≤ cmp3 x y := by
  unfold cmp3
  rw [if_neg (by omega)]
  split <;> omega
theorem cmp3_below {x y : Int} (h : x < y) : ¬ 0 ≤ cmp3 x y := by
  unfold cmp3
  rw [if_pos h]
  omega
end Go.Proofs.YtejfnplhimfchaaGreatDoor.L

namespace Go.Proofs.YtejfnplhimfchaaGreatDoor.L
open Go.RowKit Tl

set_option maxHeartbeats 6400000 in
set_option maxRecDepth 100000 in
theorem qadd_same (g1 g2 : Bool) (p1 p2 p3 p4 : Option Addr) (c1 c2 c3 c4 : Nat) (A B C D : List Int) (w : World) (h1 : Rd w (.slice p1 A.length c1) A) (h2 : Rd w (.slice p2 B.length c2) B) (h3 : Rd w (.slice p3 C.length c3) C) (h4 : Rd w (.slice p4 D.length c4) D) (l1 : A.length ≤ 1000000000) (l2 : B.length ≤ 1000000000) (l3 : C.length ≤ 1000000000) (l4 : D.length ≤ 1000000000) (b0 : 0 < val B) (d0 : 0 < val D) (hg : g1 = g2) :
    Calls Tryz.prog 37 #[.agg #[.bool g1, .slice p1 A.length c1, .slice p2 B.length c2], .agg #[.bool g2, .slice p3 C.length c3, .slice p4 D.length c4]] w fun e w' => ∃ v, e = .returned v ∧ IsQ w' v (mkRat (sgI g1 (val A * val D + val C * val B)) (val B * val D).toNat) ∧ Below w.heap.size w w' := by
  have hgg : (g1 == g2) = true := by rw [beq_iff_eq]; exact hg
  clear hg
  have haw := h1.1
  have hbw := h2.1
  have hcw := h3.1
  have hdw := h4.1
  have BD : Hid (0 < val B * val D) := Int.mul_pos b0 d0
  clear b0 d0
  go_enter Tryz.func37, Tryz.ntmps37
  go_upto_region 1 with fail
  have K2x : Blk (((w.alloc (.cells #[.bool g1, .slice p1 A.length c1, .slice p2 B.length c2] 43)).alloc (.cells #[.bool g2, .slice p3 C.length c3, .slice p4 D.length c4] 43)).alloc (.cells #[.bool false, .slice none 0 0, .slice none 0 0] 43)) w.heap.size #[.bool g1, .slice p1 A.length c1, .slice p2 B.length c2] 43 := ((Blk.new w _ _).alloc _).alloc _
  have K3x : Blk (((w.alloc (.cells #[.bool g1, .slice p1 A.length c1, .slice p2 B.length c2] 43)).alloc (.cells #[.bool g2, .slice p3 C.length c3, .slice p4 D.length c4] 43)).alloc (.cells #[.bool false, .slice none 0 0, .slice none 0 0] 43)) (w.heap.size + 1) #[.bool g2, .slice p3 C.length c3, .slice p4 D.length c4] 43 := (blk_at (by simp)).alloc _
  have K4x : Blk (((w.alloc (.cells #[.bool g1, .slice p1 A.length c1, .slice p2 B.length c2] 43)).alloc (.cells #[.bool g2, .slice p3 C.length c3, .slice p4 D.length c4] 43)).alloc (.cells #[.bool false, .slice none 0 0, .slice none 0 0] 43)) (w.heap.size + 1 + 1) #[.bool false, .slice none 0 0, .slice none 0 0] 43 := blk_at (by simp)
  have prx : Below w.heap.size w (((w.alloc (.cells #[.bool g1, .slice p1 A.length c1, .slice p2 B.length c2] 43)).alloc (.cells #[.bool g2, .slice p3 C.length c3, .slice p4 D.length c4] 43)).alloc (.cells #[.bool false, .slice none 0 0, .slice none 0 0] 43)) := (((Below.refl _ _).alloc (Nat.le_refl _) _).alloc (by simp) _).alloc (by simp; omega) _
  have h1x := h1.grow prx
  have h2x := h2.grow prx
  have h3x := h3.grow prx
  have h4x := h4.grow prx
  clear h1 h2 h3 h4
  generalize (((w.alloc (.cells #[.bool g1, .slice p1 A.length c1, .slice p2 B.length c2] 43)).alloc (.cells #[.bool g2, .slice p3 C.length c3, .slice p4 D.length c4] 43)).alloc (.cells #[.bool false, .slice none 0 0, .slice none 0 0] 43)) = W at *
  have K2c0x : W.cell? ⟨w.heap.size, 0, none⟩ = some (.bool g1) := K2x.at 0
  have K2c1x : W.cell? ⟨w.heap.size, 1, none⟩ = some (.slice p1 A.length c1) := K2x.at 1
  have K2c2x : W.cell? ⟨w.heap.size, 2, none⟩ = some (.slice p2 B.length c2) := K2x.at 2
  have K3c0x : W.cell? ⟨w.heap.size + 1, 0, none⟩ = some (.bool g2) := K3x.at 0
  have K3c1x : W.cell? ⟨w.heap.size + 1, 1, none⟩ = some (.slice p3 C.length c3) := K3x.at 1
  have K3c2x : W.cell? ⟨w.heap.size + 1, 2, none⟩ = some (.slice p4 D.length c4) := K3x.at 2
  go_region_held3 (fun x => x.cell? ⟨w.heap.size, 0, none⟩ = some (.bool g1) ∧ x.cell? ⟨w.heap.size, 1, none⟩ = some (.slice p1 A.length c1) ∧ x.cell? ⟨w.heap.size, 2, none⟩ = some (.slice p2 B.length c2) ∧ x.cell? ⟨w.heap.size + 1, 0, none⟩ = some (.bool g2) ∧ x.cell? ⟨w.heap.size + 1, 1, none⟩ = some (.slice p3 C.length c3) ∧ x.cell? ⟨w.heap.size + 1, 2, none⟩ = some (.slice p4 D.length c4)) (first | ((try dsimp only); (refine ⟨?_, ?_, ?_, ?_, ?_, ?_⟩); (all_goals (repeat (first | with_reducible exact K2c0z | with_reducible exact K2c1z | with_reducible exact K2c2z | with_reducible exact K3c0z | with_reducible exact K3c1z | with_reducible exact K3c2z | with_reducible exact K2c0y | with_reducible exact K2c1y | with_reducible exact K2c2y | with_reducible exact K3c0y | with_reducible exact K3c1y | with_reducible exact K3c2y | with_reducible exact K2c0x | with_reducible exact K2c1x | with_reducible exact K2c2x | with_reducible exact K3c0x | with_reducible exact K3c1x | with_reducible exact K3c2x | with_reducible refine cell_drew ?_ | with_reducible refine cell_alloc ?_))); done) | go_keep) (first
    | (go_at_call 60; ((with_reducible refine (Mul_any (.slice p1 A.length c1) (.slice p4 D.length c4) A D _ ?hr1 ?hr2 (by omega) (by omega)).mono ?_)); (case hr1 => exact (by repeat (first | with_reducible exact h1x | with_reducible refine rd_drew ?_ | with_reducible refine rd_alloc ?_))); (case hr2 => exact (by repeat (first | with_reducible exact h4x | with_reducible refine rd_drew ?_ | with_reducible refine rd_alloc ?_))); (rintro r w1 ⟨u', X, rfl, hX, nX, vX', bu⟩; have vX : Hid (val X = val A * val D) := vX'; clear vX'; have lX : X.length ≤ A.length + D.length := mul_len (haw) (hdw) hX.1 nX vX.out; obtain ⟨pu, cu, rfl⟩ := rd_form hX; have huy := hX; have K2y : Blk w1 w.heap.size #[.bool g1, .slice p1 A.length c1, .slice p2 B.length c2] 43 := blk_keep bu (by repeat (first | with_reducible exact K2x | with_reducible refine blk_drew ?_ | with_reducible refine Blk.alloc ?_ _)); have K3y : Blk w1 (w.heap.size + 1) #[.bool g2, .slice p3 C.length c3, .slice p4 D.length c4] 43 := blk_keep bu (by repeat (first | with_reducible exact K3x | with_reducible refine blk_drew ?_ | with_reducible refine Blk.alloc ?_ _)); have K4y : Blk w1 (w.heap.size + 1 + 1) #[.bool false, .slice none 0 0, .slice none 0 0] 43 := blk_keep bu (by repeat (first | with_reducible exact K4x | with_reducible refine blk_drew ?_ | with_reducible refine Blk.alloc ?_ _)); have pry : Below w.heap.size w w1 := bel (by repeat (first | with_reducible exact prx | with_reducible refine bel_drw ?_ | with_reducible refine bel_alloc ?_)) bu; have h1y : Rd w1 (.slice p1 A.length c1) A := Rd.grow (by repeat (first | with_reducible exact h1x | with_reducible refine rd_drew ?_ | with_reducible refine rd_alloc ?_)) bu; have h2y : Rd w1 (.slice p2 B.length c2) B := Rd.grow (by repeat (first | with_reducible exact h2x | with_reducible refine rd_drew ?_ | with_reducible refine rd_alloc ?_)) bu; have h3y : Rd w1 (.slice p3 C.length c3) C := Rd.grow (by repeat (first | with_reducible exact h3x | with_reducible refine rd_drew ?_ | with_reducible refine rd_alloc ?_)) bu; have h4y : Rd w1 (.slice p4 D.length c4) D := Rd.grow (by repeat (first | with_reducible exact h4x | with_reducible refine rd_drew ?_ | with_reducible refine rd_alloc ?_)) bu; have K2c0y : w1.cell? ⟨w.heap.size, 0, none⟩ = some (.bool g1) := K2y.at 0; have K2c1y : w1.cell? ⟨w.heap.size, 1, none⟩ = some (.slice p1 A.length c1) := K2y.at 1; have K2c2y : w1.cell? ⟨w.heap.size, 2, none⟩ = some (.slice p2 B.length c2) := K2y.at 2; have K3c0y : w1.cell? ⟨w.heap.size + 1, 0, none⟩ = some (.bool g2) := K3y.at 0; have K3c1y : w1.cell? ⟨w.heap.size + 1, 1, none⟩ = some (.slice p3 C.length c3) := K3y.at 1; have K3c2y : w1.cell? ⟨w.heap.size + 1, 2, none⟩ = some (.slice p4 D.length c4) := K3y.at 2))
    | (go_at_call 60; ((with_reducible refine (Mul_any (.slice p3 C.length c3) (.slice p2 B.length c2) C B _ ?hr1 ?hr2 (by omega) (by omega)).mono ?_)); (case hr1 => exact (by repeat (first | with_reducible exact h3y | with_reducible refine rd_drew ?_ | with_reducible refine rd_alloc ?_))); (case hr2 => exact (by repeat (first | with_reducible exact h2y | with_reducible refine rd_drew ?_ | with_reducible refine rd_alloc ?_))); (rintro r w2 ⟨v', Y, rfl, hY, nY, vY', bv⟩; have vY : Hid (val Y = val C * val B) := vY'; clear vY'; have lY : Y.length ≤ C.length + B.length := mul_len (hcw) (hbw) hY.1 nY vY.out; obtain ⟨pv, cv, rfl⟩ := rd_form hY; have hvz := hY; have K2z : Blk w2 w.heap.size #[.bool g1, .slice p1 A.length c1, .slice p2 B.length c2] 43 := blk_keep bv (by repeat (first | with_reducible exact K2y | with_reducible refine blk_drew ?_ | with_reducible refine Blk.alloc ?_ _)); have K3z : Blk w2 (w.heap.size + 1) #[.bool g2, .slice p3 C.length c3, .slice p4 D.length c4] 43 := blk_keep bv (by repeat (first | with_reducible exact K3y | with_reducible refine blk_drew ?_ | with_reducible refine Blk.alloc ?_ _)); have K4z : Blk w2 (w.heap.size + 1 + 1) #[.bool false, .slice none 0 0, .slice none 0 0] 43 := blk_keep bv (by repeat (first | with_reducible exact K4y | with_reducible refine blk_drew ?_ | with_reducible refine Blk.alloc ?_ _)); have prz : Below w.heap.size w w2 := bel (by repeat (first | with_reducible exact pry | with_reducible refine bel_drw ?_ | with_reducible refine bel_alloc ?_)) bv; have h1z : Rd w2 (.slice p1 A.length c1) A := Rd.grow (by repeat (first | with_reducible exact h1y | with_reducible refine rd_drew ?_ | with_reducible refine rd_alloc ?_)) bv; have h2z : Rd w2 (.slice p2 B.length c2) B := Rd.grow (by repeat (first | with_reducible exact h2y | with_reducible refine rd_drew ?_ | with_reducible refine rd_alloc ?_)) bv; have h3z : Rd w2 (.slice p3 C.length c3) C := Rd.grow (by repeat (first | with_reducible exact h3y | with_reducible refine rd_drew ?_ | with_reducible refine rd_alloc ?_)) bv; have h4z : Rd w2 (.slice p4 D.length c4) D := Rd.grow (by repeat (first | with_reducible exact h4y | with_reducible refine rd_drew ?_ | with_reducible refine rd_alloc ?_)) bv; have huz : Rd w2 (.slice pu X.length cu) X := Rd.grow (by repeat (first | with_reducible exact huy | with_reducible refine rd_drew ?_ | with_reducible refine rd_alloc ?_)) bv; have K2c0z : w2.cell? ⟨w.heap.size, 0, none⟩ = some (.bool g1) := K2z.at 0; have K2c1z : w2.cell? ⟨w.heap.size, 1, none⟩ = some (.slice p1 A.length c1) := K2z.at 1; have K2c2z : w2.cell? ⟨w.heap.size, 2, none⟩ = some (.slice p2 B.length c2) := K2z.at 2; have K3c0z : w2.cell? ⟨w.heap.size + 1, 0, none⟩ = some (.bool g2) := K3z.at 0; have K3c1z : w2.cell? ⟨w.heap.size + 1, 1, none⟩ = some (.slice p3 C.length c3) := K3z.at 1; have K3c2z : w2.cell? ⟨w.heap.size + 1, 2, none⟩ = some (.slice p4 D.length c4) := K3z.at 2))
    | fail)
  go_wp2_with (first
    | (go_at_call 60; ((with_reducible refine (Mul_any (.slice p2 B.length c2) (.slice p4 D.length c4) B D _ ?hr1 ?hr2 (by omega) (by omega)).mono ?_)); (case hr1 => exact (by repeat (first | with_reducible exact h2z | with_reducible refine rd_drew ?_ | with_reducible refine rd_alloc ?_))); (case hr2 => exact (by repeat (first | with_reducible exact h4z | with_reducible refine rd_drew ?_ | with_reducible refine rd_alloc ?_))); (rintro r w3 ⟨t', Z, rfl, hZ, nZ, vZ', bt⟩; have vZ : Hid (val Z = val B * val D) := vZ'; clear vZ'; have lZ : Z.length ≤ B.length + D.length := mul_len (hbw) (hdw) hZ.1 nZ vZ.out; obtain ⟨pt, ct, rfl⟩ := rd_form hZ; have htk := hZ; have K2k : Blk w3 w.heap.size #[.bool g1, .slice p1 A.length c1, .slice p2 B.length c2] 43 := blk_keep bt (by repeat (first | with_reducible exact K2z | with_reducible refine blk_drew ?_ | with_reducible refine Blk.alloc ?_ _)); have K3k : Blk w3 (w.heap.size + 1) #[.bool g2, .slice p3 C.length c3, .slice p4 D.length c4] 43 := blk_keep bt (by repeat (first | with_reducible exact K3z | with_reducible refine blk_drew ?_ | with_reducible refine Blk.alloc ?_ _)); have K4k : Blk w3 (w.heap.size + 1 + 1) #[.bool false, .slice none 0 0, .slice none 0 0] 43 := blk_keep bt (by repeat (first | with_reducible exact K4z | with_reducible refine blk_drew ?_ | with_reducible refine Blk.alloc ?_ _)); have prk : Below w.heap.size w w3 := bel (by repeat (first | with_reducible exact prz | with_reducible refine bel_drw ?_ | with_reducible refine bel_alloc ?_)) bt; have h1k : Rd w3 (.slice p1 A.length c1) A := Rd.grow (by repeat (first | with_reducible exact h1z | with_reducible refine rd_drew ?_ | with_reducible refine rd_alloc ?_)) bt; have h2k : Rd w3 (.slice p2 B.length c2) B := Rd.grow (by repeat (first | with_reducible exact h2z | with_reducible refine rd_drew ?_ | with_reducible refine rd_alloc ?_)) bt; have h3k : Rd w3 (.slice p3 C.length c3) C := Rd.grow (by repeat (first | with_reducible exact h3z | with_reducible refine rd_drew ?_ | with_reducible refine rd_alloc ?_)) bt; have h4k : Rd w3 (.slice p4 D.length c4) D := Rd.grow (by repeat (first | with_reducible exact h4z | with_reducible refine rd_drew ?_ | with_reducible refine rd_alloc ?_)) bt; have huk : Rd w3 (.slice pu X.length cu) X := Rd.grow (by repeat (first | with_reducible exact huz | with_reducible refine rd_drew ?_ | with_reducible refine rd_alloc ?_)) bt; have hvk : Rd w3 (.slice pv Y.length cv) Y := Rd.grow (by repeat (first | with_reducible exact hvz | with_reducible refine rd_drew ?_ | with_reducible refine rd_alloc ?_)) bt; have K2c0k : w3.cell? ⟨w.heap.size, 0, none⟩ = some (.bool g1) := K2k.at 0; have K2c1k : w3.cell? ⟨w.heap.size, 1, none⟩ = some (.slice p1 A.length c1) := K2k.at 1; have K2c2k : w3.cell? ⟨w.heap.size, 2, none⟩ = some (.slice p2 B.length c2) := K2k.at 2; have K3c0k : w3.cell? ⟨w.heap.size + 1, 0, none⟩ = some (.bool g2) := K3k.at 0; have K3c1k : w3.cell? ⟨w.heap.size + 1, 1, none⟩ = some (.slice p3 C.length c3) := K3k.at 1; have K3c2k : w3.cell? ⟨w.heap.size + 1, 2, none⟩ = some (.slice p4 D.length c4) := K3k.at 2))
    | fail)
  have ZB : Hid (0 < val Z) := by show 0 < val Z; rw [vZ.out]; exact BD.out
  go_region_held3 (fun x => x.cell? ⟨w.heap.size, 0, none⟩ = some (.bool g1) ∧ x.cell? ⟨w.heap.size + 1, 0, none⟩ = some (.bool g2)) (first | ((try dsimp only); (refine ⟨?_, ?_⟩); (all_goals (repeat (first | with_reducible exact K2c0n | with_reducible exact K3c0n | with_reducible exact K2c0k | with_reducible exact K3c0k | with_reducible refine cell_drew ?_ | with_reducible refine cell_alloc ?_))); done) | exact ⟨set3_other (by omega) K2c06, set3_other (by omega) K3c06⟩ | go_keep) (first
    | (go_at_call 61; ((with_reducible refine (Add_any _ _ X Y _ ?hr1 ?hr2 (by omega) (by omega)).mono ?_)); (case hr1 => exact (by repeat (first | with_reducible exact huk | with_reducible refine rd_drew ?_ | with_reducible refine rd_alloc ?_))); (case hr2 => exact (by repeat (first | with_reducible exact hvk | with_reducible refine rd_drew ?_ | with_reducible refine rd_alloc ?_))); (rintro r w5 ⟨s', Q, rfl, hQ, nQ, vQ', bs⟩; have vQ : Hid (val Q = val X + val Y) := vQ'; clear vQ'; have lQ : Q.length ≤ 4000000001 := add_len hX.1 hY.1 hQ.1 nQ vQ.out (by omega) (by omega); obtain ⟨ps, cs, rfl⟩ := rd_form hQ; have K2n : Blk w5 w.heap.size #[.bool g1, .slice p1 A.length c1, .slice p2 B.length c2] 43 := blk_keep bs (by repeat (first | with_reducible exact K2k | with_reducible refine blk_drew ?_ | with_reducible refine Blk.alloc ?_ _)); have K3n : Blk w5 (w.heap.size + 1) #[.bool g2, .slice p3 C.length c3, .slice p4 D.length c4] 43 := blk_keep bs (by repeat (first | with_reducible exact K3k | with_reducible refine blk_drew ?_ | with_reducible refine Blk.alloc ?_ _)); have K4n : Blk w5 (w.heap.size + 1 + 1) #[.bool false, .slice none 0 0, .slice none 0 0] 43 := blk_keep bs (by repeat (first | with_reducible exact K4k | with_reducible refine blk_drew ?_ | with_reducible refine Blk.alloc ?_ _)); have prn : Below w.heap.size w w5 := bel (by repeat (first | with_reducible exact prk | with_reducible refine bel_drw ?_ | with_reducible refine bel_alloc ?_)) bs; have h1n : Rd w5 (.slice p1 A.length c1) A := Rd.grow (by repeat (first | with_reducible exact h1k | with_reducible refine rd_drew ?_ | with_reducible refine rd_alloc ?_)) bs; have h2n : Rd w5 (.slice p2 B.length c2) B := Rd.grow (by repeat (first | with_reducible exact h2k | with_reducible refine rd_drew ?_ | with_reducible refine rd_alloc ?_)) bs; have h3n : Rd w5 (.slice p3 C.length c3) C := Rd.grow (by repeat (first | with_reducible exact h3k | with_reducible refine rd_drew ?_ | with_reducible refine rd_alloc ?_)) bs; have h4n : Rd w5 (.slice p4 D.length c4) D := Rd.grow (by repeat (first | with_reducible exact h4k | with_reducible refine rd_drew ?_ | with_reducible refine rd_alloc ?_)) bs; have hun : Rd w5 (.slice pu X.length cu) X := Rd.grow (by repeat (first | with_reducible exact huk | with_reducible refine rd_drew ?_ | with_reducible refine rd_alloc ?_)) bs; have hvn : Rd w5 (.slice pv Y.length cv) Y := Rd.grow (by repeat (first | with_reducible exact hvk | with_reducible refine rd_drew ?_ | with_reducible refine rd_alloc ?_)) bs; have htn : Rd w5 (.slice pt Z.length ct) Z := Rd.grow (by repeat (first | with_reducible exact htk | with_reducible refine rd_drew ?_ | with_reducible refine rd_alloc ?_)) bs; have K2c0n : w5.cell? ⟨w.heap.size, 0, none⟩ = some (.bool g1) := K2n.at 0; have K2c1n : w5.cell? ⟨w.heap.size, 1, none⟩ = some (.slice p1 A.length c1) := K2n.at 1; have K2c2n : w5.cell? ⟨w.heap.size, 2, none⟩ = some (.slice p2 B.length c2) := K2n.at 2; have K3c0n : w5.cell? ⟨w.heap.size + 1, 0, none⟩ = some (.bool g2) := K3n.at 0; have K3c1n : w5.cell? ⟨w.heap.size + 1, 1, none⟩ = some (.slice p3 C.length c3) := K3n.at 1; have K3c2n : w5.cell? ⟨w.heap.size + 1, 2, none⟩ = some (.slice p4 D.length c4) := K3n.at 2))
    | (go_at_call 59; ((with_reducible refine (Make_q g1 _ _ Q Z 4000000001 _ ?hr1 ?hr2 nQ nZ lQ (by omega) (by decide) ZB.out).mono ?_)); (case hr1 => exact (by repeat (first | with_reducible exact hQ | with_reducible refine rd_drew ?_ | with_reducible refine rd_alloc ?_))); (case hr2 => exact (by repeat (first | with_reducible exact htn | with_reducible refine rd_drew ?_ | with_reducible refine rd_alloc ?_))); (rintro r w6 ⟨v, rfl, hv6, bm⟩; rw [vQ.out, vX.out, vY.out, vZ.out] at hv6; have pr6 : Below w.heap.size w w6 := bel (by repeat (first | with_reducible exact prn | with_reducible refine bel_drw ?_ | with_reducible refine bel_alloc ?_)) bm; have K26 : Blk w6 w.heap.size #[.bool g1, .slice p1 A.length c1, .slice p2 B.length c2] 43 := blk_keep bm (by repeat (first | with_reducible exact K2n | with_reducible refine blk_drew ?_ | with_reducible refine Blk.alloc ?_ _)); have K36 : Blk w6 (w.heap.size + 1) #[.bool g2, .slice p3 C.length c3, .slice p4 D.length c4] 43 := blk_keep bm (by repeat (first | with_reducible exact K3n | with_reducible refine blk_drew ?_ | with_reducible refine Blk.alloc ?_ _)); have K46 : Blk w6 (w.heap.size + 1 + 1) #[.bool false, .slice none 0 0, .slice none 0 0] 43 := blk_keep bm (by repeat (first | with_reducible exact K4n | with_reducible refine blk_drew ?_ | with_reducible refine Blk.alloc ?_ _)); obtain ⟨N, M, p7, p8, c7, c8, rfl, hN, nN, vN', hM, nM, vM'⟩ := hv6; have vN : Hid _ := vN'; have vM : Hid _ := vM'; clear vN' vM'; have kq0 : w6.cell? ⟨w.heap.size + 1 + 1, 0, none⟩ = some (.bool false) := K46.at 0; have kq1 : w6.cell? ⟨w.heap.size + 1 + 1, 1, none⟩ = some (.slice none 0 0) := K46.at 1; have kq2 : w6.cell? ⟨w.heap.size + 1 + 1, 2, none⟩ = some (.slice none 0 0) := K46.at 2; have kf0 := K46.free 0; have kf1 := K46.free 1; have kf2 := K46.free 2; have K2c06 : w6.cell? ⟨w.heap.size, 0, none⟩ = some (.bool g1) := K26.at 0; have K2c16 : w6.cell? ⟨w.heap.size, 1, none⟩ = some (.slice p1 A.length c1) := K26.at 1; have K2c26 : w6.cell? ⟨w.heap.size, 2, none⟩ = some (.slice p2 B.length c2) := K26.at 2; have K3c06 : w6.cell? ⟨w.heap.size + 1, 0, none⟩ = some (.bool g2) := K36.at 0; have K3c16 : w6.cell? ⟨w.heap.size + 1, 1, none⟩ = some (.slice p3 C.length c3) := K36.at 1; have K3c26 : w6.cell? ⟨w.heap.size + 1, 2, none⟩ = some (.slice p4 D.length c4) := K36.at 2))
    | fail)
  all_goals
    go_wp2_with fail
    obtain ⟨F0, F1, F2, FB⟩ := put3 (.bool _) (.slice p7 N.length c7) (.slice p8 M.length c8) kq0 kq1 kq2
    exact bodyPost_ret (v := .agg #[.bool _, .slice p7 N.length c7, .slice p8 M.length c8]) (by simp [results, Tryz.results37, go_sem, F0, F1, F2]) rfl ⟨_, rfl, ⟨N, M, _, _, _, _, rfl, hN.putQ K46, nN, vN.out, hM.putQ K46, nM, vM.out⟩, FB _ _ (by omega) pr6⟩
end Go.Proofs.YtejfnplhimfchaaGreatDoor.L
