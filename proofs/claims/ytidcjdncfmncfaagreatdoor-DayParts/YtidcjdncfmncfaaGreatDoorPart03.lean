import Derived.Test.YtidcjdncfmncfaaGreatDoorPart02
import Derived.Deep.DeepCutAuto

namespace Go.Proofs.YtidcjdncfmncfaaGreatDoor.Dy
open Go.RowKit Tn
/-- What Months tells. -/
def mns (y m d n : Int) : Value :=
  if good y m d then (if 0 ≤ mo y m + n ∧ mo y m + n ≤ 119987 then .tuple #[dt ((mo y m + n) / 12 + 1) ((mo y m + n) % 12 + 1) (min d (mk (mo y m + n))), .int .i64 0] else .tuple #[dt 0 0 0, .int .i64 1]) else .tuple #[dt 0 0 0, .int .i64 70]
theorem good_on {d a : Int} (hd : 1 ≤ d) (ha : 0 ≤ a) : good (a / 12 + 1) (a % 12 + 1) (min d (mk a)) = decide (a ≤ 119987) := by
  have := mk_bd a
  have e : ml (lp (a / 12 + 1)) (a % 12 + 1) = mk a := rfl
  rw [Bool.eq_iff_iff, good_iff, decide_eq_true_iff, e]
  omega
theorem good_0 : good 0 0 0 = false := by decide
set_option maxHeartbeats 400000 in
theorem Months_any (y m d n : Int) (w : World) (G : Gl w) : Calls Tryz.prog 49 #[dt y m d, .int .i64 n] w fun e w' => e = .returned (mns y m d n) ∧ Below w.heap.size w w' := by
  have Ka0 := (Blk.new w #[.int .i64 y, .int .i64 m, .int .i64 d] 38).alloc (.cells #[.int .i64 0, .int .i64 0, .int .i64 0] 38)
  have R0 := Blk.new (w.alloc (.cells #[.int .i64 y, .int .i64 m, .int .i64 d] 38)) #[.int .i64 0, .int .i64 0, .int .i64 0] 38
  rw [show (w.alloc (.cells #[.int .i64 y, .int .i64 m, .int .i64 d] 38)).heap.size = w.heap.size + 1 by simp] at R0
  have pr := belT (bl (w := w) #[.int .i64 y, .int .i64 m, .int .i64 d] 38) (bl (w := (w.alloc (.cells #[.int .i64 y, .int .i64 m, .int .i64 d] 38))) #[.int .i64 0, .int .i64 0, .int .i64 0] 38)
  have G0 := ((G).alloc (.cells #[.int .i64 y, .int .i64 m, .int .i64 d] 38)).alloc (.cells #[.int .i64 0, .int .i64 0, .int .i64 0] 38)
  have C := Check_any y m d
  clear G
  unfold mns
  cases g : good y m d
  · rw [g] at C
    unfold dt er at *
    go_enter Tryz.func49, Tryz.ntmps49
    go_wp2_with (first
      | (go_at_call 52; refine (C _ G0).mono ?_; rintro x w1 ⟨rfl, b1⟩; have Ka1 := Ka0.below b1 Ka0.lt; have ka10 := Ka1.c0; have ka11 := Ka1.c1; have ka12 := Ka1.c2; have R1 := R0.below b1 R0.lt; have r10 := R1.c0; have r11 := R1.c1; have r12 := R1.c2; have rf10 := R1.free 0; have rf11 := R1.free 1; have rf12 := R1.free 2; have G1 := G0.grow b1; have p1 := belT pr b1)
      | fail)
    have KE := dput3 R1 (0) (0) (0)
    have bE := dset3 (x := .int .i64 (0)) (y := .int .i64 (0)) (z := .int .i64 (0)) p1 (show w.heap.size ≤ w.heap.size + 1 by omega)
    generalize ((w1.setCell ⟨w.heap.size + 1, 0, none⟩ (.int .i64 (0))).setCell ⟨w.heap.size + 1, 1, none⟩ (.int .i64 (0))).setCell ⟨w.heap.size + 1, 2, none⟩ (.int .i64 (0)) = WE at *
    have z0 := KE.c0
    have z1 := KE.c1
    have z2 := KE.c2
    exact bodyPost_ret (v := .tuple #[.agg #[.int .i64 0, .int .i64 0, .int .i64 0], .int .i64 70]) (by simp [results, Tryz.results49, go_sem, z0, z1, z2]) rfl ⟨rfl, bE⟩
  · rw [g] at C
    obtain ⟨g1, g2, g3, g4, g5, g6⟩ := good_iff.1 g
    have A := monthsAhead_any y m d (by omega) (by omega) (by omega) (by omega)
    have mb : 0 ≤ mo y m ∧ mo y m ≤ 119987 := by unfold mo; omega
    have I := isWithin_any (mo y m) n 0 119987 (by omega) (by omega) (by omega) (by omega) (by omega) (by omega)
    have O := fun k0 k1 => monthsOn_any y m d n (by omega) (by omega) (by omega) (by omega) k0 k1
    clear g
    by_cases h : 0 ≤ mo y m + n ∧ mo y m + n ≤ 119987
    · rw [if_pos rfl, if_pos h]
      rw [decide_eq_true h] at I
      replace O := O (by omega) (by omega)
      clear g1 g2 g3 g4 g5 g6 mb
      generalize mo y m = b at *
      generalize (b + n) / 12 + 1 = Y at *
      generalize (b + n) % 12 + 1 = M at *
      generalize min d (mk (b + n)) = D at *
      clear h
      unfold dt er at *
      go_enter Tryz.func49, Tryz.ntmps49
      go_wp2_with (first
        | (go_at_call 52; refine (C _ G0).mono ?_; rintro x w1 ⟨rfl, b1⟩; have Ka1 := Ka0.below b1 Ka0.lt; have ka10 := Ka1.c0; have ka11 := Ka1.c1; have ka12 := Ka1.c2; have R1 := R0.below b1 R0.lt; have r10 := R1.c0; have r11 := R1.c1; have r12 := R1.c2; have rf10 := R1.free 0; have rf11 := R1.free 1; have rf12 := R1.free 2; have G1 := G0.grow b1; have p1 := belT pr b1)
        | (go_at_call 100; refine (A _).mono ?_; rintro x w2 ⟨rfl, b2⟩; have Ka2 := Ka1.below b2 Ka1.lt; have ka20 := Ka2.c0; have ka21 := Ka2.c1; have ka22 := Ka2.c2; have R2 := R1.below b2 R1.lt; have r20 := R2.c0; have r21 := R2.c1; have r22 := R2.c2; have rf20 := R2.free 0; have rf21 := R2.free 1; have rf22 := R2.free 2; have G2 := G1.grow b2; have p2 := belT p1 b2)
        | (go_at_call 108; refine (I _).mono ?_; rintro x w3 ⟨rfl, rfl⟩)
        | (go_at_call 109; refine (O _ G2).mono ?_; rintro x w4 ⟨rfl, b3⟩; have Ka3 := Ka2.below b3 Ka2.lt; have ka30 := Ka3.c0; have ka31 := Ka3.c1; have ka32 := Ka3.c2; have R3 := R2.below b3 R2.lt; have r30 := R3.c0; have r31 := R3.c1; have r32 := R3.c2; have rf30 := R3.free 0; have rf31 := R3.free 1; have rf32 := R3.free 2; have G3 := G2.grow b3; have p3 := belT p2 b3)
        | fail)
      have KE := dput3 R3 (Y) (M) (D)
      have bE := dset3 (x := .int .i64 (Y)) (y := .int .i64 (M)) (z := .int .i64 (D)) p3 (show w.heap.size ≤ w.heap.size + 1 by omega)
      generalize ((w4.setCell ⟨w.heap.size + 1, 0, none⟩ (.int .i64 (Y))).setCell ⟨w.heap.size + 1, 1, none⟩ (.int .i64 (M))).setCell ⟨w.heap.size + 1, 2, none⟩ (.int .i64 (D)) = WE at *
      have z0 := KE.c0
      have z1 := KE.c1
      have z2 := KE.c2
      exact bodyPost_ret (v := .tuple #[.agg #[.int .i64 Y, .int .i64 M, .int .i64 D], .int .i64 0]) (by simp [results, Tryz.results49, go_sem, z0, z1, z2]) rfl ⟨rfl, bE⟩
    · rw [if_pos rfl, if_neg h]
      rw [decide_eq_false h] at I
      clear O g1 g2 g3 g4 g5 g6 mb h
      generalize mo y m = b at *
      unfold dt er at *
      go_enter Tryz.func49, Tryz.ntmps49
      go_wp2_with (first
        | (go_at_call 52; refine (C _ G0).mono ?_; rintro x w1 ⟨rfl, b1⟩; have Ka1 := Ka0.below b1 Ka0.lt; have ka10 := Ka1.c0; have ka11 := Ka1.c1; have ka12 := Ka1.c2; have R1 := R0.below b1 R0.lt; have r10 := R1.c0; have r11 := R1.c1; have r12 := R1.c2; have rf10 := R1.free 0; have rf11 := R1.free 1; have rf12 := R1.free 2; have G1 := G0.grow b1; have p1 := belT pr b1)
        | (go_at_call 100; refine (A _).mono ?_; rintro x w2 ⟨rfl, b2⟩; have Ka2 := Ka1.below b2 Ka1.lt; have ka20 := Ka2.c0; have ka21 := Ka2.c1; have ka22 := Ka2.c2; have R2 := R1.below b2 R1.lt; have r20 := R2.c0; have r21 := R2.c1; have r22 := R2.c2; have rf20 := R2.free 0; have rf21 := R2.free 1; have rf22 := R2.free 2; have G2 := G1.grow b2; have p2 := belT p1 b2)
        | (go_at_call 108; refine (I _).mono ?_; rintro x w3 ⟨rfl, rfl⟩)
        | fail)
      have KE := dput3 R2 (0) (0) (0)
      have bE := dset3 (x := .int .i64 (0)) (y := .int .i64 (0)) (z := .int .i64 (0)) p2 (show w.heap.size ≤ w.heap.size + 1 by omega)
      generalize ((w3.setCell ⟨w.heap.size + 1, 0, none⟩ (.int .i64 (0))).setCell ⟨w.heap.size + 1, 1, none⟩ (.int .i64 (0))).setCell ⟨w.heap.size + 1, 2, none⟩ (.int .i64 (0)) = WE at *
      have z0 := KE.c0
      have z1 := KE.c1
      have z2 := KE.c2
      exact bodyPost_ret (v := .tuple #[.agg #[.int .i64 0, .int .i64 0, .int .i64 0], .int .i64 1]) (by simp [results, Tryz.results49, go_sem, z0, z1, z2]) rfl ⟨rfl, bE⟩
end Go.Proofs.YtidcjdncfmncfaaGreatDoor.Dy

/- Plain: months past, birthdays, ages. -/
namespace Go.Proofs.YtidcjdncfmncfaaGreatDoor.Dy
theorem mp_ge {j d k e n : Int} (hd : 1 ≤ d) (he : 1 ≤ e) (hk : e ≤ mk k) (h : nu (j + n) d ≤ mn k + e) : n ≤ mp j d k e := (mp_iff hd he hk).1 h
theorem nu_0 {j d : Int} (h : d ≤ mk j) : nu j d = mn j + d := by unfold nu; omega
theorem mp_0 {j d k e : Int} (hd : 1 ≤ d) (hj : d ≤ mk j) (he : 1 ≤ e) (hk : e ≤ mk k) (h : mn j + d ≤ mn k + e) : 0 ≤ mp j d k e := by
  refine mp_ge hd he hk ?_
  rw [show j + 0 = j by omega, nu_0 hj]
  exact h
theorem mp_le (j d k e : Int) : k - j - 1 ≤ mp j d k e ∧ mp j d k e ≤ k - j := by
  unfold mp; split <;> omega
/-- Birthdays rise. -/
theorem nu_lt {j k d : Int} (hd : 1 ≤ d) (h : j < k) : nu j d < nu k d := by
  have := mn_lt h
  have := mk_bd k
  unfold nu; omega
/-- The reference's way to the years. -/
theorem born_eq {yj mj d yk mk' e : Int} (m1 : 1 ≤ mj) (m2 : mj ≤ 12) (k1 : 1 ≤ mk') (k2 : mk' ≤ 12) (hd : 1 ≤ d) (he : 1 ≤ e) (hk : e ≤ mk (mo yk mk')) :
    (if mn (mo yk mk') + e < nu (mo yj mj + 12 * (yk - yj)) d then yk - yj - 1 else yk - yj) = mp (mo yj mj) d (mo yk mk') e / 12 := by
  have f := mp_iff (j := mo yj mj) (n := 12 * (yk - yj)) hd he hk
  have b := mp_le (mo yj mj) d (mo yk mk') e
  have hj : mo yj mj = 12 * (yj - 1) + (mj - 1) := rfl
  have hk' : mo yk mk' = 12 * (yk - 1) + (mk' - 1) := rfl
  generalize mp (mo yj mj) d (mo yk mk') e = P at *
  generalize mn (mo yk mk') + e = Q at *
  generalize nu (mo yj mj + 12 * (yk - yj)) d = R at *
  split <;> omega
/-- An age. -/
def agB (j d k e n : Int) : Int := mn k + e - nu (j + 12 * n) d
def agU (j d k e n : Int) : Int := nu (j + 12 * (n + 1)) d - (mn k + e)
def age (j d k e how : Int) : Int :=
  if how = 1 then mp j d k e / 12 else if how = 2 then (if agB j d k e (mp j d k e / 12) > 0 then mp j d k e / 12 + 1 else mp j d k e / 12) else (if agU j d k e (mp j d k e / 12) ≤ agB j d k e (mp j d k e / 12) then mp j d k e / 12 + 1 else mp j d k e / 12)
end Go.Proofs.YtidcjdncfmncfaaGreatDoor.Dy

namespace Go.Proofs.YtidcjdncfmncfaaGreatDoor.Dy
open Go.RowKit Tn
theorem undr {V w2 : World} {n : Nat} (k : Below (V.drewN n).heap.size (V.drewN n) w2) : Below V.heap.size V w2 := ⟨k.os, k.tape, k.output, k.size, k.block⟩
/-- Two dates in their boxes. -/
def Tb (w W : World) (y m d u v e : Int) : Prop :=
  Blk W w.heap.size #[.int .i64 y, .int .i64 m, .int .i64 d] 38 ∧ Blk W (w.heap.size + 1) #[.int .i64 u, .int .i64 v, .int .i64 e] 38 ∧ Gl W ∧ Below w.heap.size w W
theorem Tb.grow {w W W' : World} {y m d u v e : Int} (h : Tb w W y m d u v e) (k : Below W.heap.size W W') : Tb w W' y m d u v e :=
  ⟨h.1.below k h.1.lt, h.2.1.below k h.2.1.lt, h.2.2.1.grow k, belT h.2.2.2 k⟩
theorem Tb.drew {w W : World} {y m d u v e : Int} (h : Tb w W y m d u v e) (n : Nat) : Tb w (W.drewN n) y m d u v e := ⟨h.1, h.2.1, h.2.2.1.drew n, blN h.2.2.2⟩
theorem Tb.new (w : World) (y m d u v e : Int) (G : Gl w) : Tb w ((w.alloc (.cells #[.int .i64 y, .int .i64 m, .int .i64 d] 38)).alloc (.cells #[.int .i64 u, .int .i64 v, .int .i64 e] 38)) y m d u v e := by
  have Ka0 := (Blk.new w #[.int .i64 y, .int .i64 m, .int .i64 d] 38).alloc (.cells #[.int .i64 u, .int .i64 v, .int .i64 e] 38)
  have Kb0 := Blk.new (w.alloc (.cells #[.int .i64 y, .int .i64 m, .int .i64 d] 38)) #[.int .i64 u, .int .i64 v, .int .i64 e] 38
  rw [show (w.alloc (.cells #[.int .i64 y, .int .i64 m, .int .i64 d] 38)).heap.size = w.heap.size + 1 by simp] at Kb0
  have pr := belT (bl (w := w) #[.int .i64 y, .int .i64 m, .int .i64 d] 38) (bl (w := (w.alloc (.cells #[.int .i64 y, .int .i64 m, .int .i64 d] 38))) #[.int .i64 u, .int .i64 v, .int .i64 e] 38)
  have G0 := ((G).alloc (.cells #[.int .i64 y, .int .i64 m, .int .i64 d] 38)).alloc (.cells #[.int .i64 u, .int .i64 v, .int .i64 e] 38)
  exact ⟨Ka0, Kb0, G0, pr⟩
/-- What is wrong with two dates. -/
def tw (y m d u v e : Int) : Int := if good y m d && good u v e then (if num u v e < num y m d then 1 else 0) else 70
def td (y m d u v e : Int) : Int := if tw y m d u v e = 0 then num u v e - num y m d else 0
set_option maxHeartbeats 800000 in
theorem daysFrom_any (y m d u v e : Int) (w : World) (G : Gl w) : Calls Tryz.prog 38 #[dt y m d, dt u v e] w fun x w' => x = .returned (.tuple #[.int .i64 (td y m d u v e), .int .i64 (tw y m d u v e)]) ∧ Below w.heap.size w w' := by
  have T0 := Tb.new w y m d u v e G
  have G0 := T0.2.2.1
  have N1 := Number_any y m d
  have N2 := Number_any u v e
  clear G
  cases g : good y m d
  · have t1 : tw y m d u v e = 70 := by unfold tw; rw [g]; rfl
    have t2 : td y m d u v e = 0 := by unfold td; rw [t1]; rfl
    rw [t1, t2]
    rw [g] at N1
    clear N2 t1 t2
    unfold dt er at *
    go_enter Tryz.func38, Tryz.ntmps38
    go_wp2_with (first
      | (go_at_call 48; (with_reducible refine (N1 _ G0).mono ?_); rintro x w1 ⟨rfl, b1⟩; have T1 := T0.grow b1; have G1 := T1.2.2.1; have a10 := T1.1.c0; have a11 := T1.1.c1; have a12 := T1.1.c2; have b10 := T1.2.1.c0; have b11 := T1.2.1.c1; have b12 := T1.2.1.c2)
      | fail)
    go_ret2
    exact ⟨rfl, T1.2.2.2⟩
  cases h : good u v e
  · have t1 : tw y m d u v e = 70 := by unfold tw; rw [g, h]; rfl
    have t2 : td y m d u v e = 0 := by unfold td; rw [t1]; rfl
    rw [t1, t2]
    clear t1 t2
    rw [g] at N1
    rw [h] at N2
    unfold dt er at *
    go_enter Tryz.func38, Tryz.ntmps38
    go_wp2_with (first
      | (go_at_call 48; (with_reducible refine (N1 _ G0).mono ?_); rintro x w1 ⟨rfl, b1⟩; have T1 := T0.grow b1; have G1 := T1.2.2.1; have a10 := T1.1.c0; have a11 := T1.1.c1; have a12 := T1.1.c2; have b10 := T1.2.1.c0; have b11 := T1.2.1.c1; have b12 := T1.2.1.c2)
      | (go_at_call 48; (with_reducible refine (N2 _ G1).mono ?_); rintro x w2 ⟨rfl, b2⟩; have T2 := T1.grow b2; have a20 := T2.1.c0; have a21 := T2.1.c1; have a22 := T2.1.c2; have b20 := T2.2.1.c0; have b21 := T2.2.1.c1; have b22 := T2.2.1.c2)
      | fail)
    go_ret2
    exact ⟨rfl, T2.2.2.2⟩
  · have l1 := num_lo g
    have l2 := num_hi g
    have l3 := num_lo h
    have l4 := num_hi h
    have t0 : tw y m d u v e = if num u v e < num y m d then 1 else 0 := by unfold tw; rw [g, h]; rfl
    have t3 : td y m d u v e = if tw y m d u v e = 0 then num u v e - num y m d else 0 := rfl
    rw [g] at N1
    rw [h] at N2
    clear g h
    generalize num y m d = A at *
    generalize num u v e = B at *
    by_cases c : B < A
    · rw [if_pos c] at t0
      rw [t0, if_neg (by decide)] at t3
      rw [t0, t3]
      clear t0 t3
      unfold dt er at *
      go_enter Tryz.func38, Tryz.ntmps38
      go_wp2_with (first
        | (go_at_call 48; (with_reducible refine (N1 _ G0).mono ?_); rintro x w1 ⟨rfl, b1⟩; have T1 := T0.grow b1; have G1 := T1.2.2.1; have a10 := T1.1.c0; have a11 := T1.1.c1; have a12 := T1.1.c2; have b10 := T1.2.1.c0; have b11 := T1.2.1.c1; have b12 := T1.2.1.c2)
        | (go_at_call 48; (with_reducible refine (N2 _ G1).mono ?_); rintro x w2 ⟨rfl, b2⟩; have T2 := T1.grow b2; have a20 := T2.1.c0; have a21 := T2.1.c1; have a22 := T2.1.c2; have b20 := T2.2.1.c0; have b21 := T2.2.1.c1; have b22 := T2.2.1.c2)
        | fail)
      go_ret2
      exact ⟨rfl, T2.2.2.2⟩
    · rw [if_neg c] at t0
      rw [t0, if_pos rfl] at t3
      rw [t0, t3]
      clear t0 t3
      have e1 : IntKind.i64.wrap (B - A) = B - A := wrapI _ (by omega) (by omega)
      unfold dt er at *
      go_enter Tryz.func38, Tryz.ntmps38
      go_wp2_with (first
        | (go_at_call 48; (with_reducible refine (N1 _ G0).mono ?_); rintro x w1 ⟨rfl, b1⟩; have T1 := T0.grow b1; have G1 := T1.2.2.1; have a10 := T1.1.c0; have a11 := T1.1.c1; have a12 := T1.1.c2; have b10 := T1.2.1.c0; have b11 := T1.2.1.c1; have b12 := T1.2.1.c2)
        | (go_at_call 48; (with_reducible refine (N2 _ G1).mono ?_); rintro x w2 ⟨rfl, b2⟩; have T2 := T1.grow b2; have a20 := T2.1.c0; have a21 := T2.1.c1; have a22 := T2.1.c2; have b20 := T2.2.1.c0; have b21 := T2.2.1.c1; have b22 := T2.2.1.c2)
        | fail)
      go_ret2
      exact ⟨rfl, T2.2.2.2⟩
theorem field_day (y m d : Int) (w : World) : (Instr.field 38 (.agg #[.int .i64 y, .int .i64 m, .int .i64 d]) 2).run Tryz.prog w = .ok (.int .i64 d) w := by
  simp [Instr.field, run_underlying Tryz.underlying38, asAgg, part, Tryz.sizeOf3, go_sem]
set_option maxHeartbeats 1600000 in
theorem monthsPast_any (y m d u v e : Int) (g : good y m d = true) (h : good u v e = true) (w : World) (G : Gl w) : Calls Tryz.prog 110 #[dt y m d, dt u v e] w fun x w' => x = .returned (.int .i64 (mp (mo y m) d (mo u v) e)) ∧ Below w.heap.size w w' := by
  have T0 := Tb.new w y m d u v e G
  obtain ⟨g1, g2, g3, g4, g5, g6⟩ := good_iff.1 g
  obtain ⟨h1, h2, h3, h4, h5, h6⟩ := good_iff.1 h
  have A1 := monthsAhead_any y m d (by omega) (by omega) (by omega) (by omega)
  have A2 := monthsAhead_any u v e (by omega) (by omega) (by omega) (by omega)
  have k1 : 0 ≤ mo y m ∧ mo y m ≤ 119987 := by unfold mo; omega
  have k2 : 0 ≤ mo u v ∧ mo u v ≤ 119987 := by unfold mo; omega
  obtain ⟨n, hn⟩ : ∃ n, mo u v - mo y m = n := ⟨_, rfl⟩
  have O := monthsOn_any y m d n (by omega) (by omega) (by omega) (by omega) (by omega) (by omega)
  rw [show mo y m + n = mo u v by omega] at O
  have e1 : IntKind.i64.wrap (mo u v - mo y m) = n := by rw [wrapI _ (by omega) (by omega)]; exact hn
  have e2 : IntKind.i64.wrap (n - 1) = n - 1 := wrapI _ (by omega) (by omega)
  have P : mp (mo y m) d (mo u v) e = if min d (mk (mo u v)) > e then n - 1 else n := by unfold mp; rw [hn]
  rw [P]
  clear P
  generalize min d (mk (mo u v)) = D at *
  generalize mo u v / 12 + 1 = Y at *
  generalize mo u v % 12 + 1 = M at *
  clear g h g1 g2 g3 g4 g5 g6 h1 h2 h3 h4 h5 h6 k1 k2 hn
  generalize mo y m = p at *
  generalize mo u v = q at *
  have FD := fun W => field_day Y M D W
  obtain ⟨Z0, hZ⟩ : ∃ Z0, (if D > e then n - 1 else n) = Z0 := ⟨_, rfl⟩
  rw [hZ]
  have HZ : Hid _ := hZ
  clear G hZ
  unfold dt at *
  go_enter Tryz.func110, Tryz.ntmps110
  go_wp2_with fail
  generalize ((w.alloc (.cells #[.int .i64 y, .int .i64 m, .int .i64 d] 38)).alloc (.cells #[.int .i64 u, .int .i64 v, .int .i64 e] 38)) = W at *
  go_cut [5] from 6 to 10 (fun x wc => x = .int .i64 n ∧ Tb w wc y m d u v e)
  case first =>
    have a00 := T0.1.c0
    have a01 := T0.1.c1
    have a02 := T0.1.c2
    have b00 := T0.2.1.c0
    have b01 := T0.2.1.c1
    have b02 := T0.2.1.c2
    go_region_with (first
      | (go_at_call 100; (with_reducible refine (A2 _).mono ?_); rintro x w1 ⟨rfl, b1⟩; have T1 := T0.grow (undr b1); have a10 := T1.1.c0; have a11 := T1.1.c1; have a12 := T1.1.c2; have b10 := T1.2.1.c0; have b11 := T1.2.1.c1; have b12 := T1.2.1.c2)
      | (go_at_call 100; (with_reducible refine (A1 _).mono ?_); rintro x w2 ⟨rfl, b2⟩; have T2 : Tb w w2 y m d u v e := (by first | exact T1.grow b2 | exact T1.grow (undr b2))))
    all_goals
      go_wp2_with fail
      go_meet
      case rel => exact ⟨rfl, T2⟩
  case rest =>
    obtain ⟨rfl, T3⟩ := hcut
    have a30 := T3.1.c0
    have a31 := T3.1.c1
    have a32 := T3.1.c2
    have b30 := T3.2.1.c0
    have b31 := T3.2.1.c1
    have b32 := T3.2.1.c2
    have G3 := T3.2.2.1
    by_cases c : e < D
    · have hz := HZ.out
      rw [if_pos c] at hz
      subst hz
      go_wp2_with fail
      go_region_with (first
        | (go_at_call 109; refine (O _ (G3.drew _)).mono ?_; rintro x w4 ⟨rfl, b4⟩; have T4 := T3.grow (undr b4); have a40 := T4.1.c0; have a41 := T4.1.c1; have a42 := T4.1.c2; have b40 := T4.2.1.c0; have b41 := T4.2.1.c1; have b42 := T4.2.1.c2))
      all_goals
        go_wp2_with fail
        go_ret
        exact ⟨rfl, T4.2.2.2⟩
    · have hz := HZ.out
      rw [if_neg c] at hz
      subst hz
      go_wp2_with fail
      go_region_with (first
        | (go_at_call 109; refine (O _ (G3.drew _)).mono ?_; rintro x w4 ⟨rfl, b4⟩; have T4 := T3.grow (undr b4); have a40 := T4.1.c0; have a41 := T4.1.c1; have a42 := T4.1.c2; have b40 := T4.2.1.c0; have b41 := T4.2.1.c1; have b42 := T4.2.1.c2))
      all_goals
        go_wp2_with fail
        go_ret
        exact ⟨rfl, T4.2.2.2⟩
end Go.Proofs.YtidcjdncfmncfaaGreatDoor.Dy
