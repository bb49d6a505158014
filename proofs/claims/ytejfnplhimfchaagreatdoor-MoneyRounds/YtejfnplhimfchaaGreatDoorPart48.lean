import Derived.Test.YtejfnplhimfchaaGreatDoorPart24
import Derived.Test.YtejfnplhimfchaaGreatDoorPart30
import Derived.Test.YtejfnplhimfchaaGreatDoorPart41
import Derived.Test.YtejfnplhimfchaaGreatDoorPart45

namespace Go.Proofs.YtejfnplhimfchaaGreatDoor.L
open Go.RowKit Tl Go.Lib

end Go.Proofs.YtejfnplhimfchaaGreatDoor.L

namespace Go.Proofs.YtejfnplhimfchaaGreatDoor.L
open Go.RowKit Tl Go.Lib

theorem drop_more1 (xs : List Int) (k : Nat) (h : k < xs.length) : val (xs.drop k) = nth xs k + 1073741824 * val (xs.drop (k + 1)) := by
  rw [drop_getD xs k h]
  rfl
theorem drop_le (xs : List Int) (hx : Wd xs) (k : Nat) : val (xs.drop k) ≤ val xs := by
  by_cases h : k ≤ xs.length
  · have e := val_split xs k h
    have a := val_nonneg (hx.take k)
    have b := val_nonneg (hx.drop k)
    have p := pw_pos k
    have q := Int.mul_le_mul_of_nonneg_right (show 1 ≤ pw k by omega) b
    omega
  · rw [List.drop_eq_nil_of_le (by omega)]
    exact val_nonneg hx

theorem pow2_le {a b : Nat} (h : a ≤ b) : (2 : Int) ^ a ≤ 2 ^ b := by
  have := Nat.pow_le_pow_right (show 0 < 2 by decide) h
  have e : ∀ n : Nat, ((2 ^ n : Nat) : Int) = (2 : Int) ^ n := fun n => by simp
  rw [← e, ← e]
  omega
theorem bl_62 {x : Int} (h0 : 0 ≤ x) : bl x ≤ 62 ↔ x < 4611686018427387904 := by
  have e : (2 : Int) ^ 62 = 4611686018427387904 := by decide
  rw [← e]
  by_cases hx : 0 < x
  · obtain ⟨a, b, c⟩ := bl_pos hx
    constructor
    · intro h
      have : (2 : Int) ^ bl x ≤ 2 ^ 62 := pow2_le h
      omega
    · intro h
      by_cases hb : bl x ≤ 62
      · exact hb
      · have : (2 : Int) ^ 62 ≤ 2 ^ (bl x - 1) := pow2_le (by omega)
        omega
  · have : bl x = 0 := by unfold bl; rw [if_pos (by omega)]
    rw [this]
    constructor
    · intro _; rw [e]; omega
    · intro _; omega

set_option maxHeartbeats 1600000 in
set_option maxRecDepth 100000 in
/-- (Nat).Int of the reference. -/
theorem NInt_any (v : Value) (xs : List Int) (w : World) (h : Rd w v xs) (hn : Nm xs) (hl : xs.length ≤ 1000000000) :
    Calls Tryz.prog 63 #[v] w fun e w' => e = .returned (.tuple #[.int .i64 (if val xs < 4611686018427387904 then val xs else 0), .bool (decide (val xs < 4611686018427387904))]) ∧ w' = w := by
  have hB := Bits_fn v xs w h hn (by omega)
  obtain ⟨hx, a, cap, rfl, _, _, g⟩ := h
  have v0 := val_nonneg hx
  have hb62 := bl_62 v0
  have HB : Hid _ := hB
  clear hB
  by_cases hlt : val xs < 4611686018427387904
  · rw [if_pos hlt, decide_eq_true hlt]
    have hL : ¬ (62 : Int) < ((bl (val xs) : Nat) : Int) := by have := hb62.2 hlt; omega
    have HX : Hid (val xs < 4611686018427387904) := hlt
    clear hlt hb62
    generalize hVV : val xs = VV at *
    have HE : Hid (val xs = VV) := hVV
    clear hVV
    generalize bl VV = L at *
    go_enter Tryz.func63, Tryz.ntmps63
    go_wp2_with (go_at_call 85; refine Calls.mono HB.out ?_; rintro e w' ⟨rfl, rfl⟩)
    go_loop [4, 5] (fun n i => ∃ (k : Nat) (x : Int), k ≤ xs.length ∧ i = .int .i64 ((k : Int) - 1) ∧ n = .int .i64 x ∧ x = val (xs.drop k)) (fun _ i => (intOf i + 1).toNat)
    case atStart => exact ⟨xs.length, 0, Nat.le_refl _, by go_num, rfl, by rw [List.drop_length]; rfl⟩
    case round =>
      obtain ⟨k, x, hk, rfl, rfl, ex⟩ := hrel
      by_cases k0 : 0 < k
      · obtain ⟨i, rfl⟩ : ∃ i, k = i + 1 := ⟨k - 1, by omega⟩
        obtain ⟨b, o, rfl, hc⟩ := g (by omega)
        have c1 := hc.at (i := i) (by omega)
        have bd := nth_bd hx i
        have e1 := drop_more1 xs i (by omega)
        rw [← ex] at e1
        have l1 := drop_le xs hx i
        have x0 : 0 ≤ x := by rw [ex]; exact val_nonneg (hx.drop _)
        have hX := HX.out
        rw [HE.out] at l1
        have E1 : Hid (x * 1073741824 + nth xs i = val (xs.drop i)) := by show _ = _; omega
        have s1 : x * 1073741824 + nth xs i < 4611686018427387904 := by omega
        have s2 : ((i + 1 : Nat) : Int) - 1 = i := by omega
        rw [s2]
        have w1 : IntKind.i64.wrap (x * 1073741824) = x * 1073741824 := wrap_self _ (by omega) (by omega)
        have w2 : IntKind.i64.wrap (x * 1073741824 + nth xs i) = x * 1073741824 + nth xs i := wrap_self _ (by omega) (by omega)
        clear e1 l1 ex s2 g
        go_wp2
        go_round
        case rel => exact ⟨i, _, by omega, by go_num, rfl, E1.out⟩
        case measure => simp [intOf]
      · obtain rfl : k = 0 := by omega
        rw [List.drop_zero, HE.out] at ex
        subst ex
        go_wp2
        go_ret2
        exact ⟨rfl, rfl⟩
  · rw [if_neg hlt, decide_eq_false hlt]
    have hL : (62 : Int) < ((bl (val xs) : Nat) : Int) := by
      by_cases c : bl (val xs) ≤ 62
      · exact absurd (hb62.1 c) hlt
      · omega
    clear hlt hb62 g
    generalize bl (val xs) = L at *
    go_enter Tryz.func63, Tryz.ntmps63
    go_wp2_with (go_at_call 85; refine Calls.mono HB.out ?_; rintro e w' ⟨rfl, rfl⟩)
    go_ret2
    exact ⟨rfl, rfl⟩

end Go.Proofs.YtejfnplhimfchaaGreatDoor.L

namespace Go.Proofs.YtejfnplhimfchaaGreatDoor.L
open Go.RowKit Tl

set_option maxHeartbeats 6400000 in
set_option maxRecDepth 100000 in
theorem qmul_raw (g1 g2 gx : Bool) (hg : (!(g1 == g2)) = gx) (p1 p2 p3 p4 : Option Addr) (c1 c2 c3 c4 : Nat) (A B C D : List Int) (w : World) (h1 : Rd w (.slice p1 A.length c1) A) (h2 : Rd w (.slice p2 B.length c2) B) (h3 : Rd w (.slice p3 C.length c3) C) (h4 : Rd w (.slice p4 D.length c4) D) (l1 : A.length ≤ 1000000000) (l2 : B.length ≤ 1000000000) (l3 : C.length ≤ 1000000000) (l4 : D.length ≤ 1000000000) (b0 : 0 < val B) (d0 : 0 < val D) :
    Calls Tryz.prog 25 #[.agg #[.bool g1, .slice p1 A.length c1, .slice p2 B.length c2], .agg #[.bool g2, .slice p3 C.length c3, .slice p4 D.length c4]] w fun e w' => ∃ v, e = .returned v ∧ IsQ w' v (mkRat (sgI gx (val A * val C)) (val B * val D).toNat) ∧ Below w.heap.size w w' := by
  have haw := h1.1
  have hbw := h2.1
  have hcw := h3.1
  have hdw := h4.1
  have BD : Hid (0 < val B * val D) := Int.mul_pos b0 d0
  clear b0 d0
  go_enter Tryz.func25, Tryz.ntmps25
  go_upto_region 1 with fail
  have K2x : Blk (((w.alloc (.cells #[.bool g1, .slice p1 A.length c1, .slice p2 B.length c2] 43)).alloc (.cells #[.bool g2, .slice p3 C.length c3, .slice p4 D.length c4] 43)).alloc (.cells #[.bool false, .slice none 0 0, .slice none 0 0] 43)) w.heap.size #[.bool g1, .slice p1 A.length c1, .slice p2 B.length c2] 43 := ((Blk.new w _ _).alloc _).alloc _
  have K3x : Blk (((w.alloc (.cells #[.bool g1, .slice p1 A.length c1, .slice p2 B.length c2] 43)).alloc (.cells #[.bool g2, .slice p3 C.length c3, .slice p4 D.length c4] 43)).alloc (.cells #[.bool false, .slice none 0 0, .slice none 0 0] 43)) (w.heap.size + 1) #[.bool g2, .slice p3 C.length c3, .slice p4 D.length c4] 43 := (blk_at (by simp)).alloc _
  have K4x : Blk (((w.alloc (.cells #[.bool g1, .slice p1 A.length c1, .slice p2 B.length c2] 43)).alloc (.cells #[.bool g2, .slice p3 C.length c3, .slice p4 D.length c4] 43)).alloc (.cells #[.bool false, .slice none 0 0, .slice none 0 0] 43)) (w.heap.size + 1 + 1) #[.bool false, .slice none 0 0, .slice none 0 0] 43 := blk_at (by simp)
  have prx : Below w.heap.size w (((w.alloc (.cells #[.bool g1, .slice p1 A.length c1, .slice p2 B.length c2] 43)).alloc (.cells #[.bool g2, .slice p3 C.length c3, .slice p4 D.length c4] 43)).alloc (.cells #[.bool false, .slice none 0 0, .slice none 0 0] 43)) := (((Below.refl _ _).alloc (Nat.le_refl _) _).alloc (by simp) _).alloc (by simp; omega) _
  have h1x := h1.grow prx
  have h2x := h2.grow prx
  have h3x := h3.grow prx
  have h4x := h4.grow prx
  clear h1 h2 h3 h4
  generalize (((w.alloc (.cells #[.bool g1, .slice p1 A.length c1, .slice p2 B.length c2] 43)).alloc (.cells #[.bool g2, .slice p3 C.length c3, .slice p4 D.length c4] 43)).alloc (.cells #[.bool false, .slice none 0 0, .slice none 0 0] 43)) = W at *
  have K2c0x : W.cell? ⟨w.heap.size, 0, none⟩ = some (.bool g1) := K2x.at 0
  have K2c1x : W.cell? ⟨w.heap.size, 1, none⟩ = some (.slice p1 A.length c1) := K2x.at 1
  have K2c2x : W.cell? ⟨w.heap.size, 2, none⟩ = some (.slice p2 B.length c2) := K2x.at 2
  have K3c0x : W.cell? ⟨w.heap.size + 1, 0, none⟩ = some (.bool g2) := K3x.at 0
  have K3c1x : W.cell? ⟨w.heap.size + 1, 1, none⟩ = some (.slice p3 C.length c3) := K3x.at 1
  have K3c2x : W.cell? ⟨w.heap.size + 1, 2, none⟩ = some (.slice p4 D.length c4) := K3x.at 2
  have nqa : w.heap.size ≠ w.heap.size + 1 + 1 := by omega
  have nqb : w.heap.size + 1 ≠ w.heap.size + 1 + 1 := by omega
  go_region_held3 (fun x => x.cell? ⟨w.heap.size, 0, none⟩ = some (.bool g1) ∧ x.cell? ⟨w.heap.size, 1, none⟩ = some (.slice p1 A.length c1) ∧ x.cell? ⟨w.heap.size, 2, none⟩ = some (.slice p2 B.length c2) ∧ x.cell? ⟨w.heap.size + 1, 0, none⟩ = some (.bool g2) ∧ x.cell? ⟨w.heap.size + 1, 1, none⟩ = some (.slice p3 C.length c3) ∧ x.cell? ⟨w.heap.size + 1, 2, none⟩ = some (.slice p4 D.length c4)) (first | ((try dsimp only); (refine ⟨?_, ?_, ?_, ?_, ?_, ?_⟩); (all_goals (repeat (first | with_reducible exact K2c0z | with_reducible exact K2c1z | with_reducible exact K2c2z | with_reducible exact K3c0z | with_reducible exact K3c1z | with_reducible exact K3c2z | with_reducible exact K2c0y | with_reducible exact K2c1y | with_reducible exact K2c2y | with_reducible exact K3c0y | with_reducible exact K3c1y | with_reducible exact K3c2y | with_reducible exact K2c0x | with_reducible exact K2c1x | with_reducible exact K2c2x | with_reducible exact K3c0x | with_reducible exact K3c1x | with_reducible exact K3c2x | with_reducible refine cell_drew ?_ | with_reducible refine cell_alloc ?_))); done) | exact ⟨set3_other nqa K2c06, set3_other nqa K2c16, set3_other nqa K2c26, set3_other nqb K3c06, set3_other nqb K3c16, set3_other nqb K3c26⟩ | go_keep) (first
    | (go_at_call 60; ((with_reducible refine (Mul_any (.slice p1 A.length c1) (.slice p3 C.length c3) A C _ ?hr1 ?hr2 (by omega) (by omega)).mono ?_)); (case hr1 => exact (by repeat (first | with_reducible exact h1x | with_reducible refine rd_drew ?_ | with_reducible refine rd_alloc ?_))); (case hr2 => exact (by repeat (first | with_reducible exact h3x | with_reducible refine rd_drew ?_ | with_reducible refine rd_alloc ?_))); (rintro r w1 ⟨u', X, rfl, hX, nX, vX', bu⟩; have vX : Hid (val X = val A * val C) := vX'; clear vX'; have lX : X.length ≤ A.length + C.length := mul_len (haw) (hcw) hX.1 nX vX.out; obtain ⟨pu, cu, rfl⟩ := rd_form hX; have huy := hX; have K2y : Blk w1 w.heap.size #[.bool g1, .slice p1 A.length c1, .slice p2 B.length c2] 43 := blk_keep bu (by repeat (first | with_reducible exact K2x | with_reducible refine blk_drew ?_ | with_reducible refine Blk.alloc ?_ _)); have K3y : Blk w1 (w.heap.size + 1) #[.bool g2, .slice p3 C.length c3, .slice p4 D.length c4] 43 := blk_keep bu (by repeat (first | with_reducible exact K3x | with_reducible refine blk_drew ?_ | with_reducible refine Blk.alloc ?_ _)); have K4y : Blk w1 (w.heap.size + 1 + 1) #[.bool false, .slice none 0 0, .slice none 0 0] 43 := blk_keep bu (by repeat (first | with_reducible exact K4x | with_reducible refine blk_drew ?_ | with_reducible refine Blk.alloc ?_ _)); have pry : Below w.heap.size w w1 := bel (by repeat (first | with_reducible exact prx | with_reducible refine bel_drw ?_ | with_reducible refine bel_alloc ?_)) bu; have h1y : Rd w1 (.slice p1 A.length c1) A := Rd.grow (by repeat (first | with_reducible exact h1x | with_reducible refine rd_drew ?_ | with_reducible refine rd_alloc ?_)) bu; have h2y : Rd w1 (.slice p2 B.length c2) B := Rd.grow (by repeat (first | with_reducible exact h2x | with_reducible refine rd_drew ?_ | with_reducible refine rd_alloc ?_)) bu; have h3y : Rd w1 (.slice p3 C.length c3) C := Rd.grow (by repeat (first | with_reducible exact h3x | with_reducible refine rd_drew ?_ | with_reducible refine rd_alloc ?_)) bu; have h4y : Rd w1 (.slice p4 D.length c4) D := Rd.grow (by repeat (first | with_reducible exact h4x | with_reducible refine rd_drew ?_ | with_reducible refine rd_alloc ?_)) bu; have K2c0y : w1.cell? ⟨w.heap.size, 0, none⟩ = some (.bool g1) := K2y.at 0; have K2c1y : w1.cell? ⟨w.heap.size, 1, none⟩ = some (.slice p1 A.length c1) := K2y.at 1; have K2c2y : w1.cell? ⟨w.heap.size, 2, none⟩ = some (.slice p2 B.length c2) := K2y.at 2; have K3c0y : w1.cell? ⟨w.heap.size + 1, 0, none⟩ = some (.bool g2) := K3y.at 0; have K3c1y : w1.cell? ⟨w.heap.size + 1, 1, none⟩ = some (.slice p3 C.length c3) := K3y.at 1; have K3c2y : w1.cell? ⟨w.heap.size + 1, 2, none⟩ = some (.slice p4 D.length c4) := K3y.at 2))
    | (go_at_call 60; ((with_reducible refine (Mul_any (.slice p2 B.length c2) (.slice p4 D.length c4) B D _ ?hr1 ?hr2 (by omega) (by omega)).mono ?_)); (case hr1 => exact (by repeat (first | with_reducible exact h2y | with_reducible refine rd_drew ?_ | with_reducible refine rd_alloc ?_))); (case hr2 => exact (by repeat (first | with_reducible exact h4y | with_reducible refine rd_drew ?_ | with_reducible refine rd_alloc ?_))); (rintro r w2 ⟨v', Y, rfl, hY, nY, vY', bv⟩; have vY : Hid (val Y = val B * val D) := vY'; clear vY'; have lY : Y.length ≤ B.length + D.length := mul_len (hbw) (hdw) hY.1 nY vY.out; obtain ⟨pv, cv, rfl⟩ := rd_form hY; have hvz := hY; have K2z : Blk w2 w.heap.size #[.bool g1, .slice p1 A.length c1, .slice p2 B.length c2] 43 := blk_keep bv (by repeat (first | with_reducible exact K2y | with_reducible refine blk_drew ?_ | with_reducible refine Blk.alloc ?_ _)); have K3z : Blk w2 (w.heap.size + 1) #[.bool g2, .slice p3 C.length c3, .slice p4 D.length c4] 43 := blk_keep bv (by repeat (first | with_reducible exact K3y | with_reducible refine blk_drew ?_ | with_reducible refine Blk.alloc ?_ _)); have K4z : Blk w2 (w.heap.size + 1 + 1) #[.bool false, .slice none 0 0, .slice none 0 0] 43 := blk_keep bv (by repeat (first | with_reducible exact K4y | with_reducible refine blk_drew ?_ | with_reducible refine Blk.alloc ?_ _)); have prz : Below w.heap.size w w2 := bel (by repeat (first | with_reducible exact pry | with_reducible refine bel_drw ?_ | with_reducible refine bel_alloc ?_)) bv; have h1z : Rd w2 (.slice p1 A.length c1) A := Rd.grow (by repeat (first | with_reducible exact h1y | with_reducible refine rd_drew ?_ | with_reducible refine rd_alloc ?_)) bv; have h2z : Rd w2 (.slice p2 B.length c2) B := Rd.grow (by repeat (first | with_reducible exact h2y | with_reducible refine rd_drew ?_ | with_reducible refine rd_alloc ?_)) bv; have h3z : Rd w2 (.slice p3 C.length c3) C := Rd.grow (by repeat (first | with_reducible exact h3y | with_reducible refine rd_drew ?_ | with_reducible refine rd_alloc ?_)) bv; have h4z : Rd w2 (.slice p4 D.length c4) D := Rd.grow (by repeat (first | with_reducible exact h4y | with_reducible refine rd_drew ?_ | with_reducible refine rd_alloc ?_)) bv; have huz : Rd w2 (.slice pu X.length cu) X := Rd.grow (by repeat (first | with_reducible exact huy | with_reducible refine rd_drew ?_ | with_reducible refine rd_alloc ?_)) bv; have K2c0z : w2.cell? ⟨w.heap.size, 0, none⟩ = some (.bool g1) := K2z.at 0; have K2c1z : w2.cell? ⟨w.heap.size, 1, none⟩ = some (.slice p1 A.length c1) := K2z.at 1; have K2c2z : w2.cell? ⟨w.heap.size, 2, none⟩ = some (.slice p2 B.length c2) := K2z.at 2; have K3c0z : w2.cell? ⟨w.heap.size + 1, 0, none⟩ = some (.bool g2) := K3z.at 0; have K3c1z : w2.cell? ⟨w.heap.size + 1, 1, none⟩ = some (.slice p3 C.length c3) := K3z.at 1; have K3c2z : w2.cell? ⟨w.heap.size + 1, 2, none⟩ = some (.slice p4 D.length c4) := K3z.at 2))
    | (go_at_call 59; ((with_reducible refine (Make_q gx (.slice pu X.length cu) (.slice pv Y.length cv) X Y 4000000001 _ ?hr1 ?hr2 nX nY (by omega) (by omega) (by decide) (by rw [vY.out]; exact BD.out)).mono ?_)); (case hr1 => exact (by repeat (first | with_reducible exact huz | with_reducible refine rd_drew ?_ | with_reducible refine rd_alloc ?_))); (case hr2 => exact (by repeat (first | with_reducible exact hvz | with_reducible refine rd_drew ?_ | with_reducible refine rd_alloc ?_))); (rintro r w6 ⟨v, rfl, hv6, bm⟩; rw [vX.out, vY.out] at hv6; have pr6 : Below w.heap.size w w6 := bel (by repeat (first | with_reducible exact prz | with_reducible refine bel_drw ?_ | with_reducible refine bel_alloc ?_)) bm; have K26 : Blk w6 w.heap.size #[.bool g1, .slice p1 A.length c1, .slice p2 B.length c2] 43 := blk_keep bm (by repeat (first | with_reducible exact K2z | with_reducible refine blk_drew ?_ | with_reducible refine Blk.alloc ?_ _)); have K36 : Blk w6 (w.heap.size + 1) #[.bool g2, .slice p3 C.length c3, .slice p4 D.length c4] 43 := blk_keep bm (by repeat (first | with_reducible exact K3z | with_reducible refine blk_drew ?_ | with_reducible refine Blk.alloc ?_ _)); have K46 : Blk w6 (w.heap.size + 1 + 1) #[.bool false, .slice none 0 0, .slice none 0 0] 43 := blk_keep bm (by repeat (first | with_reducible exact K4z | with_reducible refine blk_drew ?_ | with_reducible refine Blk.alloc ?_ _)); obtain ⟨N, M, p7, p8, c7, c8, rfl, hN, nN, vN', hM, nM, vM'⟩ := hv6; have vN : Hid _ := vN'; have vM : Hid _ := vM'; clear vN' vM'; have kq0 : w6.cell? ⟨w.heap.size + 1 + 1, 0, none⟩ = some (.bool false) := K46.at 0; have kq1 : w6.cell? ⟨w.heap.size + 1 + 1, 1, none⟩ = some (.slice none 0 0) := K46.at 1; have kq2 : w6.cell? ⟨w.heap.size + 1 + 1, 2, none⟩ = some (.slice none 0 0) := K46.at 2; have kf0 := K46.free 0; have kf1 := K46.free 1; have kf2 := K46.free 2; have K2c06 : w6.cell? ⟨w.heap.size, 0, none⟩ = some (.bool g1) := K26.at 0; have K2c16 : w6.cell? ⟨w.heap.size, 1, none⟩ = some (.slice p1 A.length c1) := K26.at 1; have K2c26 : w6.cell? ⟨w.heap.size, 2, none⟩ = some (.slice p2 B.length c2) := K26.at 2; have K3c06 : w6.cell? ⟨w.heap.size + 1, 0, none⟩ = some (.bool g2) := K36.at 0; have K3c16 : w6.cell? ⟨w.heap.size + 1, 1, none⟩ = some (.slice p3 C.length c3) := K36.at 1; have K3c26 : w6.cell? ⟨w.heap.size + 1, 2, none⟩ = some (.slice p4 D.length c4) := K36.at 2))
    | fail)
  all_goals
    go_wp2_with fail
    obtain ⟨F0, F1, F2, FB⟩ := put3 (.bool _) (.slice p7 N.length c7) (.slice p8 M.length c8) kq0 kq1 kq2
    exact bodyPost_ret (v := .agg #[.bool _, .slice p7 N.length c7, .slice p8 M.length c8]) (by simp [results, Tryz.results25, go_sem, F0, F1, F2]) rfl ⟨_, rfl, ⟨N, M, _, _, _, _, rfl, hN.putQ K46, nN, vN.out, hM.putQ K46, nM, vM.out⟩, FB _ _ (by omega) pr6⟩
end Go.Proofs.YtejfnplhimfchaaGreatDoor.L

namespace Go.Proofs.YtejfnplhimfchaaGreatDoor.L
open Go.RowKit Tl

/-- Q's Mul of the reference. -/
theorem QMul_any (a b : Value) (r s : Rat) (K : Nat) (w : World) (ha : IsQ w a r) (hb : IsQ w b s) (hr : QS r K) (hs : QS s K) (hK : K ≤ 1000000000) :
    Calls Tryz.prog 25 #[a, b] w fun e w' => ∃ v, e = .returned v ∧ IsQ w' v (r * s) ∧ Below w.heap.size w w' := by
  obtain ⟨A, B, p1, p2, c1, c2, rfl, h1, n1, v1, h2, n2, v2⟩ := ha
  obtain ⟨C, D, p3, p4, c3, c4, rfl, h3, n3, v3, h4, n4, v4⟩ := hb
  have l1 : A.length ≤ K := len_of_lt h1.1 n1 (by rw [v1]; exact hr.1)
  have l2 : B.length ≤ K := len_of_lt h2.1 n2 (by rw [v2]; exact hr.2)
  have l3 : C.length ≤ K := len_of_lt h3.1 n3 (by rw [v3]; exact hs.1)
  have l4 : D.length ≤ K := len_of_lt h4.1 n4 (by rw [v4]; exact hs.2)
  have b0 : 0 < val B := by rw [v2]; exact den_pos' r
  have d0 : 0 < val D := by rw [v4]; exact den_pos' s
  have er := num_sg r
  have es := num_sg s
  have := qmul_raw (decide (r.num < 0)) (decide (s.num < 0)) _ rfl p1 p2 p3 p4 c1 c2 c3 c4 A B C D w h1 h2 h3 h4 (by omega) (by omega) (by omega) (by omega) b0 d0
  rw [v1, v2, v3, v4] at this
  have e : mkRat (sgI (!(decide (r.num < 0) == decide (s.num < 0))) ((r.num.natAbs : Int) * s.num.natAbs)) ((r.den : Int) * s.den).toNat = r * s := by
    rw [Rat.mul_def']
    congr 1
    generalize decide (r.num < 0) = g at *
    generalize decide (s.num < 0) = g' at *
    rw [er, es]
    cases g <;> cases g'
    · show sgI false _ = _
      simp only [sgI, Bool.false_eq_true, if_false]; simp
    · show sgI true _ = _
      simp only [sgI, Bool.false_eq_true, if_false, if_true]; grind
    · show sgI true _ = _
      simp only [sgI, Bool.false_eq_true, if_false, if_true]; grind
    · show sgI false _ = _
      simp only [sgI, Bool.false_eq_true, if_false, if_true]; grind
  rw [e] at this
  exact this
end Go.Proofs.YtejfnplhimfchaaGreatDoor.L

namespace Go.Proofs.YtejfnplhimfchaaGreatDoor.L
open Go.RowKit Tl
set_option maxHeartbeats 800000 in
set_option maxRecDepth 100000 in
theorem frac_pos (p q : Int) (w : World) (p0 : -9223372036854775808 ≤ p) (p1 : p < 9223372036854775808) (hp : 0 ≤ p) (q0 : 0 < q) (q1 : q < 9223372036854775808) :
    Calls Tryz.prog 27 #[.int .i64 p, .int .i64 q] w fun e w' => ∃ v, e = .returned v ∧ IsQ w' v (mkRat (sgI false (p.natAbs : Int)) q.toNat) ∧ Below w.heap.size w w' := by
  have O1 : ∀ w, Calls Tryz.prog 24 #[.int .i64 p] w fun e w' => ∃ a1 a2 c1 l2 c2 ns, e = .returned (.agg #[.bool false, .slice a1 ns.length c1, .slice a2 l2 c2]) ∧ Rd w' (.slice a1 ns.length c1) ns ∧ Nm ns ∧ val ns = (p.natAbs : Int) ∧ Below w.heap.size w w' := fun w => (Of_q p w p0 p1).mono (fun e w' ⟨v, he, hq, b⟩ => by
    obtain ⟨ns, ds, a1, a2, c1, c2, rfl, h1, n1, v1, _⟩ := hq
    have e0 : decide (((p : Rat)).num < 0) = false := by rw [show ((p : Rat)).num = p from rfl]; simp; omega
    rw [e0] at he
    exact ⟨a1, a2, c1, _, c2, ns, he, h1, n1, v1, b⟩)
  have O2 : ∀ w, Calls Tryz.prog 24 #[.int .i64 q] w fun e w' => ∃ a1 a2 c1 l2 c2 ns, e = .returned (.agg #[.bool false, .slice a1 ns.length c1, .slice a2 l2 c2]) ∧ Rd w' (.slice a1 ns.length c1) ns ∧ Nm ns ∧ val ns = q ∧ Below w.heap.size w w' := fun w => (Of_q q w (by omega) q1).mono (fun e w' ⟨v, he, hq, b⟩ => by
    obtain ⟨ns, ds, a1, a2, c1, c2, rfl, h1, n1, v1, _⟩ := hq
    have e0 : decide (((q : Rat)).num < 0) = false := by rw [show ((q : Rat)).num = q from rfl]; simp; omega
    rw [e0] at he
    have v1' : val ns = q := by rw [v1, show ((q : Rat)).num = q from rfl]; omega
    exact ⟨a1, a2, c1, _, c2, ns, he, h1, n1, v1', b⟩)
  obtain ⟨A, hA⟩ : ∃ A, (p.natAbs : Int) = A := ⟨_, rfl⟩
  have hA1 : A ≤ 9223372036854775808 := by omega
  rw [hA] at O1 ⊢
  have K0 := Blk.new w #[.bool false, .slice none 0 0, .slice none 0 0] 43
  have pr : Below w.heap.size w (w.alloc (.cells #[.bool false, .slice none 0 0, .slice none 0 0] 43)) := (Below.refl _ _).alloc (Nat.le_refl _) _
  have pw3 : pw 3 = 1237940039285380274899124224 := by decide
  have Q0 : Hid (0 < q) := q0
  have Q1 : Hid (q < 9223372036854775808) := q1
  have A1 : Hid (A ≤ 9223372036854775808) := hA1
  have W3 : Hid (pw 3 = 1237940039285380274899124224) := pw3
  clear q0 q1 hA1 pw3 hA p0 p1 hp
  go_enter Tryz.func27, Tryz.ntmps27
  go_wp2_with (first
    | (go_at_call 24; have q' := V1; ((refine (O2 _).mono ?_)); (rintro e w2 ⟨a3, a4, c3, l4, c4, ys, rfl, h2, n2, v2, b2⟩; replace K0 := ((K0.below b2 K0.lt).alloc (.cells #[.bool false, .slice a1 xs.length c1, .slice a2 l2 c2] 43)).alloc (.cells #[.bool false, .slice a3 ys.length c3, .slice a4 l4 c4] 43); replace pr := bel_alloc (ob := (.cells #[.bool false, .slice a3 ys.length c3, .slice a4 l4 c4] 43)) (bel_alloc (ob := (.cells #[.bool false, .slice a1 xs.length c1, .slice a2 l2 c2] 43)) (bel pr b2)); replace h1 := rd_alloc (ob := (.cells #[.bool false, .slice a3 ys.length c3, .slice a4 l4 c4] 43)) (rd_alloc (ob := (.cells #[.bool false, .slice a1 xs.length c1, .slice a2 l2 c2] 43)) (h1.grow b2)); replace h2 := rd_alloc (ob := (.cells #[.bool false, .slice a3 ys.length c3, .slice a4 l4 c4] 43)) (rd_alloc (ob := (.cells #[.bool false, .slice a1 xs.length c1, .slice a2 l2 c2] 43)) h2); have V2 : Hid (val ys = q) := v2; have L2 : ys.length ≤ 3 := (len_of_lt (K := 3) h2.1 n2 (by rw [v2]; have := Q1.out; have := W3.out; omega)); clear v2 b2))
    | (go_at_call 24; ((refine (O1 _).mono ?_)); (rintro e w1 ⟨a1, a2, c1, l2, c2, xs, rfl, h1, n1, v1, b1⟩; replace K0 := K0.below b1 K0.lt; replace pr := bel pr b1; have V1 : Hid (val xs = A) := v1; have L1 : xs.length ≤ 3 := (len_of_lt (K := 3) h1.1 n1 (by rw [v1]; have := A1.out; have := W3.out; omega)); clear v1 b1))
    | (go_at_call 59; ((with_reducible refine (Make_q false (.slice a1 xs.length c1) (.slice a3 ys.length c3) xs ys 3 _ h1 h2 n1 n2 L1 L2 (by decide) (by rw [V2.out]; exact Q0.out)).mono ?_)); (rintro e w3 ⟨v, rfl, hv, b3⟩; rw [V1.out, V2.out] at hv; replace K0 := K0.below b3 K0.lt; replace pr := bel pr b3; have HV := hv; obtain ⟨N, M, p7, p8, c7, c8, rfl, hN, nN, vN', hM, nM, vM'⟩ := hv; have vN : Hid _ := vN'; have vM : Hid _ := vM'; clear vN' vM' b3 HV; have e0 : w3.cell? ⟨w.heap.size, 0, none⟩ = some (.bool false) := K0.at 0; have e1 : w3.cell? ⟨w.heap.size, 1, none⟩ = some (.slice none 0 0) := K0.at 1; have e2 : w3.cell? ⟨w.heap.size, 2, none⟩ = some (.slice none 0 0) := K0.at 2; have z0 := K0.free 0; have z1 := K0.free 1; have z2 := K0.free 2))
    | fail)
  obtain ⟨F0, F1, F2, FB⟩ := put3 (.bool _) (.slice p7 N.length c7) (.slice p8 M.length c8) e0 e1 e2
  exact bodyPost_ret (v := .agg #[.bool _, .slice p7 N.length c7, .slice p8 M.length c8]) (by simp [results, Tryz.results27, go_sem, F0, F1, F2]) rfl ⟨_, rfl, ⟨N, M, _, _, _, _, rfl, hN.putQ K0, nN, vN.out, hM.putQ K0, nM, vM.out⟩, FB _ _ (Nat.le_refl _) pr⟩
set_option maxHeartbeats 800000 in
set_option maxRecDepth 100000 in
theorem frac_neg (p q : Int) (w : World) (p0 : -9223372036854775808 ≤ p) (p1 : p < 9223372036854775808) (hp : p < 0) (q0 : 0 < q) (q1 : q < 9223372036854775808) :
    Calls Tryz.prog 27 #[.int .i64 p, .int .i64 q] w fun e w' => ∃ v, e = .returned v ∧ IsQ w' v (mkRat (sgI true (p.natAbs : Int)) q.toNat) ∧ Below w.heap.size w w' := by
  have O1 : ∀ w, Calls Tryz.prog 24 #[.int .i64 p] w fun e w' => ∃ a1 a2 c1 l2 c2 ns, e = .returned (.agg #[.bool true, .slice a1 ns.length c1, .slice a2 l2 c2]) ∧ Rd w' (.slice a1 ns.length c1) ns ∧ Nm ns ∧ val ns = (p.natAbs : Int) ∧ Below w.heap.size w w' := fun w => (Of_q p w p0 p1).mono (fun e w' ⟨v, he, hq, b⟩ => by
    obtain ⟨ns, ds, a1, a2, c1, c2, rfl, h1, n1, v1, _⟩ := hq
    have e0 : decide (((p : Rat)).num < 0) = true := by rw [show ((p : Rat)).num = p from rfl]; simp; omega
    rw [e0] at he
    exact ⟨a1, a2, c1, _, c2, ns, he, h1, n1, v1, b⟩)
  have O2 : ∀ w, Calls Tryz.prog 24 #[.int .i64 q] w fun e w' => ∃ a1 a2 c1 l2 c2 ns, e = .returned (.agg #[.bool false, .slice a1 ns.length c1, .slice a2 l2 c2]) ∧ Rd w' (.slice a1 ns.length c1) ns ∧ Nm ns ∧ val ns = q ∧ Below w.heap.size w w' := fun w => (Of_q q w (by omega) q1).mono (fun e w' ⟨v, he, hq, b⟩ => by
    obtain ⟨ns, ds, a1, a2, c1, c2, rfl, h1, n1, v1, _⟩ := hq
    have e0 : decide (((q : Rat)).num < 0) = false := by rw [show ((q : Rat)).num = q from rfl]; simp; omega
    rw [e0] at he
    have v1' : val ns = q := by rw [v1, show ((q : Rat)).num = q from rfl]; omega
    exact ⟨a1, a2, c1, _, c2, ns, he, h1, n1, v1', b⟩)
  obtain ⟨A, hA⟩ : ∃ A, (p.natAbs : Int) = A := ⟨_, rfl⟩
  have hA1 : A ≤ 9223372036854775808 := by omega
  rw [hA] at O1 ⊢
  have K0 := Blk.new w #[.bool false, .slice none 0 0, .slice none 0 0] 43
  have pr : Below w.heap.size w (w.alloc (.cells #[.bool false, .slice none 0 0, .slice none 0 0] 43)) := (Below.refl _ _).alloc (Nat.le_refl _) _
  have pw3 : pw 3 = 1237940039285380274899124224 := by decide
  have Q0 : Hid (0 < q) := q0
  have Q1 : Hid (q < 9223372036854775808) := q1
  have A1 : Hid (A ≤ 9223372036854775808) := hA1
  have W3 : Hid (pw 3 = 1237940039285380274899124224) := pw3
  clear q0 q1 hA1 pw3 hA p0 p1 hp
  go_enter Tryz.func27, Tryz.ntmps27
  go_wp2_with (first
    | (go_at_call 24; have q' := V1; ((refine (O2 _).mono ?_)); (rintro e w2 ⟨a3, a4, c3, l4, c4, ys, rfl, h2, n2, v2, b2⟩; replace K0 := ((K0.below b2 K0.lt).alloc (.cells #[.bool true, .slice a1 xs.length c1, .slice a2 l2 c2] 43)).alloc (.cells #[.bool false, .slice a3 ys.length c3, .slice a4 l4 c4] 43); replace pr := bel_alloc (ob := (.cells #[.bool false, .slice a3 ys.length c3, .slice a4 l4 c4] 43)) (bel_alloc (ob := (.cells #[.bool true, .slice a1 xs.length c1, .slice a2 l2 c2] 43)) (bel pr b2)); replace h1 := rd_alloc (ob := (.cells #[.bool false, .slice a3 ys.length c3, .slice a4 l4 c4] 43)) (rd_alloc (ob := (.cells #[.bool true, .slice a1 xs.length c1, .slice a2 l2 c2] 43)) (h1.grow b2)); replace h2 := rd_alloc (ob := (.cells #[.bool false, .slice a3 ys.length c3, .slice a4 l4 c4] 43)) (rd_alloc (ob := (.cells #[.bool true, .slice a1 xs.length c1, .slice a2 l2 c2] 43)) h2); have V2 : Hid (val ys = q) := v2; have L2 : ys.length ≤ 3 := (len_of_lt (K := 3) h2.1 n2 (by rw [v2]; have := Q1.out; have := W3.out; omega)); clear v2 b2))
    | (go_at_call 24; ((refine (O1 _).mono ?_)); (rintro e w1 ⟨a1, a2, c1, l2, c2, xs, rfl, h1, n1, v1, b1⟩; replace K0 := K0.below b1 K0.lt; replace pr := bel pr b1; have V1 : Hid (val xs = A) := v1; have L1 : xs.length ≤ 3 := (len_of_lt (K := 3) h1.1 n1 (by rw [v1]; have := A1.out; have := W3.out; omega)); clear v1 b1))
    | (go_at_call 59; ((with_reducible refine (Make_q true (.slice a1 xs.length c1) (.slice a3 ys.length c3) xs ys 3 _ h1 h2 n1 n2 L1 L2 (by decide) (by rw [V2.out]; exact Q0.out)).mono ?_)); (rintro e w3 ⟨v, rfl, hv, b3⟩; rw [V1.out, V2.out] at hv; replace K0 := K0.below b3 K0.lt; replace pr := bel pr b3; have HV := hv; obtain ⟨N, M, p7, p8, c7, c8, rfl, hN, nN, vN', hM, nM, vM'⟩ := hv; have vN : Hid _ := vN'; have vM : Hid _ := vM'; clear vN' vM' b3 HV; have e0 : w3.cell? ⟨w.heap.size, 0, none⟩ = some (.bool false) := K0.at 0; have e1 : w3.cell? ⟨w.heap.size, 1, none⟩ = some (.slice none 0 0) := K0.at 1; have e2 : w3.cell? ⟨w.heap.size, 2, none⟩ = some (.slice none 0 0) := K0.at 2; have z0 := K0.free 0; have z1 := K0.free 1; have z2 := K0.free 2))
    | fail)
  obtain ⟨F0, F1, F2, FB⟩ := put3 (.bool _) (.slice p7 N.length c7) (.slice p8 M.length c8) e0 e1 e2
  exact bodyPost_ret (v := .agg #[.bool _, .slice p7 N.length c7, .slice p8 M.length c8]) (by simp [results, Tryz.results27, go_sem, F0, F1, F2]) rfl ⟨_, rfl, ⟨N, M, _, _, _, _, rfl, hN.putQ K0, nN, vN.out, hM.putQ K0, nM, vM.out⟩, FB _ _ (Nat.le_refl _) pr⟩
theorem Frac_q (p q : Int) (w : World) (p0 : -9223372036854775808 ≤ p) (p1 : p < 9223372036854775808) (q0 : 0 < q) (q1 : q < 9223372036854775808) :
    Calls Tryz.prog 27 #[.int .i64 p, .int .i64 q] w fun e w' => ∃ v, e = .returned v ∧ IsQ w' v ((p : Rat) / (q : Rat)) ∧ Below w.heap.size w w' := by
  have e : ((p : Rat) / (q : Rat)) = mkRat p q.toNat := by
    rw [Rat.mkRat_eq_div]
    congr 1
    have : ((q.toNat : Int) : Rat) = (q : Rat) := by rw [Int.toNat_of_nonneg (by omega)]
    rw [← this]; rfl
  rw [e]
  by_cases c : p < 0
  · have := frac_neg p q w p0 p1 c q0 q1
    rw [show sgI true (p.natAbs : Int) = p by unfold sgI; rw [if_pos rfl]; omega] at this
    exact this
  · have := frac_pos p q w p0 p1 (by omega) q0 q1
    rw [show sgI false (p.natAbs : Int) = p by unfold sgI; rw [if_neg (by simp)]; omega] at this
    exact this
end Go.Proofs.YtejfnplhimfchaaGreatDoor.L
