import Derived.Test.YtapdhadpdbmkcaaGreatDoorPart40
import Derived.Deep.LoopGhost

namespace Go.Proofs.YtapdhadpdbmkcaaGreatDoor.Mo
open Go.RowKit Fu Tn Go.Lib Dc

structure NR7 (W x : World) (S1 : Int) (V0 : Value) (V1 : Value) (V2 : Value) (V3 : Value) (V4 : Value) (V5 : Value) (V6 : Value) (V7 : Value) (V8 : Value) (V9 : Value) (V10 : Value) (V12 : Value) (V13 : Value) (V14 : Value) (V15 : Value) (V16 : Value) (V17 : Value) (N11 : Int) (N18 : Int) (N19 : Int) (y0 y1 y2 y3 y4 y5 y6 y7 y8 y9 y10 y11 y12 y13 y14 y15 y16 y17 y18 y19 y20 : Bool) (t37 t38 t39 t40 t41 t42 t43 t44 t45 t46 t47 t48 t49 t50 t51 t52 t53 t54 t55 t56 t8 : Value) : Prop where
 bel : Below W.heap.size W x
 o0 : y0 = true → t37 = V0
 o1 : y1 = true → t38 = V1
 o2 : y2 = true → t39 = V2
 o3 : y3 = true → t40 = V3
 o4 : y4 = true → t41 = V4
 o5 : y5 = true → t42 = V5
 o6 : y6 = true → t43 = V6
 o7 : y7 = true → t44 = V7
 o8 : y8 = true → t45 = V8
 o9 : y9 = true → t46 = V9
 o10 : y10 = true → t47 = V10
 o12 : y12 = true → t49 = V12
 o13 : y13 = true → t50 = V13
 o14 : y14 = true → t51 = V14
 o15 : y15 = true → t52 = V15
 o16 : y16 = true → t53 = V16
 o17 : y17 = true → t54 = V17
 o11 : y11 = true → NV N11 t48 x
 o18 : y18 = true → NV N18 t55 x
 o19 : y19 = true → UR false S1 N19 t56 x
 o20 : y20 = true → ∃ X, t8 = .pointer (some ⟨X, 0, none⟩) ∧ W.heap.size ≤ X ∧ Blk x X #[.bool false, .slice none 0 0, .slice none 0 0] 44
theorem NR7.grow {W x x' : World} {S1 : Int} {V0 : Value} {V1 : Value} {V2 : Value} {V3 : Value} {V4 : Value} {V5 : Value} {V6 : Value} {V7 : Value} {V8 : Value} {V9 : Value} {V10 : Value} {V12 : Value} {V13 : Value} {V14 : Value} {V15 : Value} {V16 : Value} {V17 : Value} {N11 : Int} {N18 : Int} {N19 : Int} {y0 y1 y2 y3 y4 y5 y6 y7 y8 y9 y10 y11 y12 y13 y14 y15 y16 y17 y18 y19 y20 : Bool} {t37 t38 t39 t40 t41 t42 t43 t44 t45 t46 t47 t48 t49 t50 t51 t52 t53 t54 t55 t56 t8 : Value} (h : NR7 W x S1 V0 V1 V2 V3 V4 V5 V6 V7 V8 V9 V10 V12 V13 V14 V15 V16 V17 N11 N18 N19 y0 y1 y2 y3 y4 y5 y6 y7 y8 y9 y10 y11 y12 y13 y14 y15 y16 y17 y18 y19 y20 t37 t38 t39 t40 t41 t42 t43 t44 t45 t46 t47 t48 t49 t50 t51 t52 t53 t54 t55 t56 t8) (b : Below x.heap.size x x') : NR7 W x' S1 V0 V1 V2 V3 V4 V5 V6 V7 V8 V9 V10 V12 V13 V14 V15 V16 V17 N11 N18 N19 y0 y1 y2 y3 y4 y5 y6 y7 y8 y9 y10 y11 y12 y13 y14 y15 y16 y17 y18 y19 y20 t37 t38 t39 t40 t41 t42 t43 t44 t45 t46 t47 t48 t49 t50 t51 t52 t53 t54 t55 t56 t8 where
 bel := bel' h.bel b
 o0 := h.o0
 o1 := h.o1
 o2 := h.o2
 o3 := h.o3
 o4 := h.o4
 o5 := h.o5
 o6 := h.o6
 o7 := h.o7
 o8 := h.o8
 o9 := h.o9
 o10 := h.o10
 o12 := h.o12
 o13 := h.o13
 o14 := h.o14
 o15 := h.o15
 o16 := h.o16
 o17 := h.o17
 o11 := fun u => (h.o11 u).grow b
 o18 := fun u => (h.o18 u).grow b
 o19 := fun u => (h.o19 u).grow b
 o20 := fun u => by obtain ⟨k, e, l, K⟩ := h.o20 u; exact ⟨k, e, l, K.below b K.lt⟩
theorem blk_set2 {x : World} {n : Nat} {a b : Value} {t : TypeId} (h : Blk x n #[a, b] t) (p q : Value) : Blk ((x.setCell ⟨n, 0, none⟩ p).setCell ⟨n, 1, none⟩ q) n #[p, q] t := by
 have := bput (bput h 0 p) 1 q
 simpa using this
theorem wr2c (x : World) (n : Nat) (p q : Value) : Wr n 0 2 x ((x.setCell ⟨n, 0, none⟩ p).setCell ⟨n, 1, none⟩ q) := ((Wr.refl n 0 2 x).setCell 0 (by omega) p).setCell 1 (by omega) q
theorem NL.setL {w x : World} {U V : Wl} {a b c d : Nat} (h : NL w x U V a b c d) (p q : Nat) : NL w ((x.setCell ⟨w.heap.size + 1 + 1, 0, none⟩ (.int .u64 (p : Int))).setCell ⟨w.heap.size + 1 + 1, 1, none⟩ (.int .u64 (q : Int))) U V p q c d :=
 ⟨h.kF.wr (wr2c _ _ _ _) (by omega), h.kR.wr (wr2c _ _ _ _) (by omega), blk_set2 h.kL _ _, h.kH.wr (wr2c _ _ _ _) (by omega), (h.bel.setCell (p := ⟨w.heap.size + 1 + 1, 0, none⟩) (by show w.heap.size ≤ w.heap.size + 1 + 1; omega) _).setCell (p := ⟨w.heap.size + 1 + 1, 1, none⟩) (by show w.heap.size ≤ w.heap.size + 1 + 1; omega) _⟩
theorem NL.setH {w x : World} {U V : Wl} {a b c d : Nat} (h : NL w x U V a b c d) (p q : Nat) : NL w ((x.setCell ⟨w.heap.size + 1 + 1 + 1, 0, none⟩ (.int .u64 (p : Int))).setCell ⟨w.heap.size + 1 + 1 + 1, 1, none⟩ (.int .u64 (q : Int))) U V a b p q :=
 ⟨h.kF.wr (wr2c _ _ _ _) (by omega), h.kR.wr (wr2c _ _ _ _) (by omega), h.kL.wr (wr2c _ _ _ _) (by omega), blk_set2 h.kH _ _, (h.bel.setCell (p := ⟨w.heap.size + 1 + 1 + 1, 0, none⟩) (by show w.heap.size ≤ w.heap.size + 1 + 1 + 1; omega) _).setCell (p := ⟨w.heap.size + 1 + 1 + 1, 1, none⟩) (by show w.heap.size ≤ w.heap.size + 1 + 1 + 1; omega) _⟩
theorem cmp_plain {a1 a2 a3 a4 : Option Addr} {l1 c1 l2 c2 l3 c3 l4 c4 : Nat} {A B C D : Int} {w : World} (h1 : Nn w a1 l1 c1 A) (h2 : Nn w a2 l2 c2 B) (h3 : Nn w a3 l3 c3 C) (h4 : Nn w a4 l4 c4 D) {m : Nat} (hm : m < 80) (k1 : A < pw m) (k2 : B < pw m) (k3 : C < pw m) (k4 : D < pw m) :
  Calls Tryz.prog 28 #[.agg #[.bool false, .slice a1 l1 c1, .slice a2 l2 c2], .agg #[.bool false, .slice a3 l3 c3, .slice a4 l4 c4]] w fun e w' => e = .returned (.int .i64 (cmp3 (A * D) (C * B))) ∧ Below w.heap.size w w' := by
 obtain ⟨xs, r1, n1, rfl⟩ := h1
 obtain ⟨ys, r2, n2, rfl⟩ := h2
 obtain ⟨zs, r3, n3, rfl⟩ := h3
 obtain ⟨us, r4, n4, rfl⟩ := h4
 have e1 := len_of r1.1 n1 k1
 have e2 := len_of r2.1 n2 k2
 have e3 := len_of r3.1 n3 k3
 have e4 := len_of r4.1 n4 k4
 exact compare_plain _ _ _ _ xs ys zs us w r1 r2 r3 r4 (by omega) (by omega) (by omega) (by omega)
set_option maxHeartbeats 6400000 in
set_option maxRecDepth 100000 in
theorem nearest_loop (U V : Wl) (A B M m : Nat) (a1 b1 d1 e1 P1 P2 : Nat) (w : World) (h1 : Nn w U.a U.l U.c (A : Int)) (h2 : Nn w V.a V.l V.c (B : Int)) (kA : (A : Int) < pw m) (kB : (B : Int) < pw m) (hm : m < 80) (m1 : 1 ≤ m) (hAB : A < B) (cp : A.Coprime B) (hMB : M < B) (hM : M ≤ 4096) (M1 : 1 ≤ M) (hS : sb A B M M 0 1 1 1 = ((a1, b1), (d1, e1))) (hP : Hid (pk A B ((a1, b1), (d1, e1)) = (P1, P2))) :
  Calls Tryz.prog 20 #[.agg #[.bool false, .slice U.a U.l U.c, .slice V.a V.l V.c], .int .u64 (M : Int)] w fun e w' => ∃ (a : Option Addr × Option Addr) (l c : Nat × Nat), e = .returned (.agg #[.bool false, .slice a.1 l.1 c.1, .slice a.2 l.2 c.2]) ∧ (Nn w' a.1 l.1 c.1 (P1 : Int) ∧ Nn w' a.2 l.2 c.2 (P2 : Int)) ∧ Below w.heap.size w w' := by
 have KF := ((Rb.new w (.bool false) (.slice U.a U.l U.c) (.slice V.a V.l V.c) 44).alloc (.cells #[.bool false, .slice none 0 0, .slice none 0 0] 44))
 have KR := Rb.new (w.alloc (.cells #[.bool false, .slice U.a U.l U.c, .slice V.a V.l V.c] 44)) (.bool false) (.slice none 0 0) (.slice none 0 0) 44
 have pr : Below w.heap.size w ((w.alloc (.cells #[.bool false, .slice U.a U.l U.c, .slice V.a V.l V.c] 44)).alloc (.cells #[.bool false, .slice none 0 0, .slice none 0 0] 44)) := ((Below.refl _ _).alloc (Nat.le_refl _) _).alloc (by simp) _
 have sz : ((w.alloc (.cells #[.bool false, .slice U.a U.l U.c, .slice V.a V.l V.c] 44)).alloc (.cells #[.bool false, .slice none 0 0, .slice none 0 0] 44)).heap.size = w.heap.size + 1 + 1 := by simp
 simp only [World.size_alloc] at KR
 have s0 : SB A B M 0 1 1 1 := ⟨rfl, by have : A ≠ 0 := (by rintro rfl; rw [Nat.coprime_zero_left] at cp; omega); omega, by omega, by omega, by omega, M1, M1⟩
 have KL := (Blk.new ((w.alloc (.cells #[.bool false, .slice U.a U.l U.c, .slice V.a V.l V.c] 44)).alloc (.cells #[.bool false, .slice none 0 0, .slice none 0 0] 44)) #[.int .u64 0, .int .u64 1] 77).alloc (.cells #[.int .u64 1, .int .u64 1] 77)
 have KH := Blk.new (((w.alloc (.cells #[.bool false, .slice U.a U.l U.c, .slice V.a V.l V.c] 44)).alloc (.cells #[.bool false, .slice none 0 0, .slice none 0 0] 44)).alloc (.cells #[.int .u64 0, .int .u64 1] 77)) #[.int .u64 1, .int .u64 1] 77
 simp only [World.size_alloc] at KL KH
 have ST : NL w ((((w.alloc (.cells #[.bool false, .slice U.a U.l U.c, .slice V.a V.l V.c] 44)).alloc (.cells #[.bool false, .slice none 0 0, .slice none 0 0] 44)).alloc (.cells #[.int .u64 0, .int .u64 1] 77)).alloc (.cells #[.int .u64 1, .int .u64 1] 77)) U V 0 1 1 1 := ⟨(KF.alloc _).alloc _, (KR.alloc _).alloc _, KL, KH, (pr.alloc (by simp; omega) _).alloc (by simp; omega) _⟩
 clear KF KR pr KL KH sz
 go_enter Tryz.func20, Tryz.ntmps20
 go_wp2_with fail
 generalize ((((w.alloc (.cells #[.bool false, .slice U.a U.l U.c, .slice V.a V.l V.c] 44)).alloc (.cells #[.bool false, .slice none 0 0, .slice none 0 0] 44)).alloc (.cells #[.int .u64 0, .int .u64 1] 77)).alloc (.cells #[.int .u64 1, .int .u64 1] 77)) = W at *
 go_loopg [7] M (fun k _ wr => ∃ (a b c d f : Nat), M + 1 - (b + d) ≤ k ∧ M + 1 ≤ f + b + d ∧ NL w wr U V a b c d ∧ SB A B M a b c d ∧ sb A B M f a b c d = ((a1, b1), (d1, e1)))
 case atStart => exact ⟨0, 1, 1, 1, M, by omega, by omega, ST, s0, hS⟩
 case round =>
  clear ST s0 hS
  obtain ⟨na, nb, nc, nd, f, hk, hf, S0, sB, fu⟩ := hrel
  obtain ⟨sa, sc⟩ := sB.small hAB
  have db := sB.bM
  have dd := sB.dM
  have b0 := sB.b0
  have d0 := sB.d0
  obtain ⟨k0, k1, k2, k3, k4⟩ := S0.cells
  obtain ⟨k5, k6, k7⟩ := S0.three
  obtain ⟨p, hp⟩ : ∃ p : Nat, na + nc = p := ⟨_, rfl⟩
  obtain ⟨q, hq⟩ : ∃ q : Nat, nb + nd = q := ⟨_, rfl⟩
  have w1 : IntKind.u64.wrap ((na : Int) + (nc : Int)) = (p : Int) := by rw [wrap_u64]; omega
  have w2 : IntKind.u64.wrap ((nb : Int) + (nd : Int)) = (q : Int) := by rw [wrap_u64]; omega
  by_cases cq : q ≤ M
  ·have tq : ((q : Int) ≤ (M : Int)) := by omega
   obtain ⟨f, rfl⟩ : ∃ g, f = g + 1 := ⟨f - 1, by omega⟩
   unfold sb at fu
   rw [if_pos (by omega)] at fu
   go_wp2_with fail
   have al := (Below.refl wr.heap.size wr).alloc (Nat.le_refl _) (.cells #[.int .u64 (p : Int), .int .u64 (q : Int)] 77)
   have KM := Blk.new wr #[.int .u64 (p : Int), .int .u64 (q : Int)] 77
   have S1 := S0.grow al
   have ne : w.heap.size + 1 + 1 + 1 < wr.heap.size := k4
   obtain ⟨j0, j1⟩ := cel2 KM
   obtain ⟨j5, j6, j7⟩ := S1.three
   have CC : ∀ y (fa : Option Addr × Option Addr) (fl fc : Nat × Nat), Below w.heap.size w y → Nn y fa.1 fl.1 fc.1 (p : Int) → Nn y fa.2 fl.2 fc.2 (q : Int) → Calls Tryz.prog 28 #[.agg #[.bool false, .slice U.a U.l U.c, .slice V.a V.l V.c], .agg #[.bool false, .slice fa.1 fl.1 fc.1, .slice fa.2 fl.2 fc.2]] y fun e w' => e = .returned (.int .i64 (cmp3 ((A : Int) * (q : Int)) ((p : Int) * (B : Int)))) ∧ Below y.heap.size y w' := fun y fa fl fc bb n1 n2 => cmp_plain (h1.grow bb) (h2.grow bb) n1 n2 hm kA kB (by omega) (by omega)
   have CF : ∀ y, Calls Tryz.prog 51 #[.agg #[.int .u64 (p : Int), .int .u64 (q : Int)]] y fun e w' => ∃ (fa : Option Addr × Option Addr) (fl fc : Nat × Nat), e = .returned (.agg #[.bool false, .slice fa.1 fl.1 fc.1, .slice fa.2 fl.2 fc.2]) ∧ (Nn w' fa.1 fl.1 fc.1 (p : Int) ∧ Nn w' fa.2 fl.2 fc.2 (q : Int)) ∧ Below y.heap.size y w' := fun y => fraction_n p q y (by omega) (by omega) (by omega) (by omega)
   have pc : (cmp3 ((A : Int) * (q : Int)) ((p : Int) * (B : Int)) = 1 ∧ (na + nc) * B < A * (nb + nd)) ∨ (¬ cmp3 ((A : Int) * (q : Int)) ((p : Int) * (B : Int)) > 0 ∧ ¬ (na + nc) * B < A * (nb + nd)) := by
    rw [hp, hq]
    by_cases cc : p * B < A * q
    ·exact Or.inl ⟨cmp3_gt (by exact_mod_cast cc), cc⟩
    ·refine Or.inr ⟨?_, cc⟩
     have : ¬ ((p : Int) * (B : Int) < (A : Int) * (q : Int)) := fun g => cc (by exact_mod_cast g)
     unfold cmp3
     split <;> (try split) <;> omega
   obtain ⟨cm, hcm⟩ : ∃ z, cmp3 ((A : Int) * (q : Int)) ((p : Int) * (B : Int)) = z := ⟨_, rfl⟩
   rw [hcm] at CC pc
   clear hcm k0 k1 k2 k3 k5 k6 k7 w1 w2
   generalize wr.alloc (.cells #[.int .u64 (p : Int), .int .u64 (q : Int)] 77) = WM at *
   go_region_held3 (fun x => x.cell? ⟨w.heap.size, 0, none⟩ = some (.bool false) ∧ x.cell? ⟨w.heap.size, 1, none⟩ = some (.slice U.a U.l U.c) ∧ x.cell? ⟨w.heap.size, 2, none⟩ = some (.slice V.a V.l V.c) ∧ x.cell? ⟨wr.heap.size, 0, none⟩ = some (.int .u64 (p : Int)) ∧ x.cell? ⟨wr.heap.size, 1, none⟩ = some (.int .u64 (q : Int))) (go_keep) (first
    | (go_at_call 51; refine (CF _).mono ?_; rintro e x1 ⟨fa, fl, fc, rfl, ⟨n1, n2⟩, e1⟩; have e1 := undrew e1; have T1 := S1.grow e1; have ⟨r5, r6, r7⟩ := T1.three; have ⟨r0, r1⟩ := cel2 (KM.below e1 KM.lt))
    | (go_at_call 28; refine (CC _ fa fl fc T1.bel n1 n2).mono ?_; rintro e x2 ⟨rfl, e2⟩; have e3 := bel' e1 e2; have S2 := S1.grow e3; have ⟨q5, q6, q7⟩ := S2.three; have ⟨q0, q1⟩ := cel2 (KM.below e3 KM.lt); have ⟨m0, m1, m2, m3, m4⟩ := S2.cells)
    | fail)
   rcases pc with ⟨rfl, cc⟩ | ⟨cn, cc⟩
   ·rw [if_pos cc] at fu
    have kk := (S2.kL).free 0
    have kk' := (S2.kL).free 1
    go_wp2_with fail
    go_roundg (gk - 1)
    case measure => omega
    case rel => exact ⟨p, q, nc, nd, f, by omega, by omega, S2.setL p q, by rw [← hp, ← hq]; exact sB.low (by omega) cc, by rw [← hp, ← hq]; exact fu⟩
   ·rw [if_neg cc] at fu
    have kk := (S2.kH).free 0
    have kk' := (S2.kH).free 1
    go_wp2_with fail
    go_roundg (gk - 1)
    case measure => omega
    case rel => exact ⟨na, nb, p, q, f, by omega, by omega, S2.setH p q, by rw [← hp, ← hq]; exact sB.high cp hMB (by omega) cc, by rw [← hp, ← hq]; exact fu⟩
  ·have tq : ¬ ((q : Int) ≤ (M : Int)) := by omega
   go_wp2_with fail
   have fu : ((na, nb), (nc, nd)) = ((a1, b1), (d1, e1)) := by
    cases f with
    | zero => exact fu
    | succ f => unfold sb at fu; rw [if_neg (by omega)] at fu; exact fu
   obtain ⟨rfl, rfl, rfl, rfl⟩ : na = a1 ∧ nb = b1 ∧ nc = d1 ∧ nd = e1 := by injection fu with u1 u2; injection u1 with u3 u4; injection u2 with u5 u6; exact ⟨u3, u4, u5, u6⟩
   obtain ⟨D1, hD1⟩ : ∃ D : Int, (na : Int) * (nd : Int) = D := ⟨_, rfl⟩
   obtain ⟨D2, hD2⟩ : ∃ D : Int, (nc : Int) * (nb : Int) = D := ⟨_, rfl⟩
   obtain ⟨D3, hD3⟩ : ∃ D : Int, 2 * (nb : Int) = D := ⟨_, rfl⟩
   obtain ⟨S1, hS1⟩ : ∃ D : Int, D1 + D2 = D := ⟨_, rfl⟩
   obtain ⟨S2, hS2⟩ : ∃ D : Int, D3 * (nd : Int) = D := ⟨_, rfl⟩
   have q1 : 0 ≤ D1 ∧ D1 ≤ 4096 * 4096 := by
    rw [← hD1]
    exact ⟨Int.mul_nonneg (by omega) (by omega), Int.mul_le_mul (by omega) (by omega) (by omega) (by omega)⟩
   have q2 : 0 ≤ D2 ∧ D2 ≤ 4096 * 4096 := by
    rw [← hD2]
    exact ⟨Int.mul_nonneg (by omega) (by omega), Int.mul_le_mul (by omega) (by omega) (by omega) (by omega)⟩
   have q3 : 0 ≤ S2 ∧ S2 ≤ 8192 * 4096 := by
    rw [← hS2]
    exact ⟨Int.mul_nonneg (by omega) (by omega), Int.mul_le_mul (by omega) (by omega) (by omega) (by omega)⟩
   have p1 : pw 1 = 18446744073709551616 := by decide
   have pm := pw_mono m1
   have s10 : 0 ≤ S1 := by omega
   have s11 : S1 < 18446744073709551616 := by omega
   have s20 : 0 ≤ S2 := q3.1
   have s21 : S2 < 18446744073709551616 := by omega
   have v1 : IntKind.u64.wrap ((na : Int) * (nd : Int)) = D1 := by rw [hD1, wrap_u64]; omega
   have v2 : IntKind.u64.wrap ((nc : Int) * (nb : Int)) = D2 := by rw [hD2, wrap_u64]; omega
   have v3 : IntKind.u64.wrap (D1 + D2) = S1 := by rw [hS1, wrap_u64]; omega
   have v4 : IntKind.u64.wrap (2 * (nb : Int)) = D3 := by rw [hD3, wrap_u64]; omega
   have v5 : IntKind.u64.wrap (D3 * (nd : Int)) = S2 := by rw [hS2, wrap_u64]; omega
   have CC : ∀ y (fa : Option Addr × Option Addr) (fl fc : Nat × Nat), Below w.heap.size w y → Nn y fa.1 fl.1 fc.1 S1 → Nn y fa.2 fl.2 fc.2 S2 → Calls Tryz.prog 28 #[.agg #[.bool false, .slice U.a U.l U.c, .slice V.a V.l V.c], .agg #[.bool false, .slice fa.1 fl.1 fc.1, .slice fa.2 fl.2 fc.2]] y fun e w' => e = .returned (.int .i64 (cmp3 ((A : Int) * S2) (S1 * (B : Int)))) ∧ Below y.heap.size y w' := fun y fa fl fc bb n1 n2 => cmp_plain (h1.grow bb) (h2.grow bb) n1 n2 hm kA kB (by omega) (by omega)
   have CL : ∀ y, Calls Tryz.prog 51 #[.agg #[.int .u64 (na : Int), .int .u64 (nb : Int)]] y fun e w' => ∃ (fa : Option Addr × Option Addr) (fl fc : Nat × Nat), e = .returned (.agg #[.bool false, .slice fa.1 fl.1 fc.1, .slice fa.2 fl.2 fc.2]) ∧ (Nn w' fa.1 fl.1 fc.1 (na : Int) ∧ Nn w' fa.2 fl.2 fc.2 (nb : Int)) ∧ Below y.heap.size y w' := fun y => fraction_n na nb y (by omega) (by omega) (by omega) (by omega)
   have CH : ∀ y, Calls Tryz.prog 51 #[.agg #[.int .u64 (nc : Int), .int .u64 (nd : Int)]] y fun e w' => ∃ (fa : Option Addr × Option Addr) (fl fc : Nat × Nat), e = .returned (.agg #[.bool false, .slice fa.1 fl.1 fc.1, .slice fa.2 fl.2 fc.2]) ∧ (Nn w' fa.1 fl.1 fc.1 (nc : Int) ∧ Nn w' fa.2 fl.2 fc.2 (nd : Int)) ∧ Below y.heap.size y w' := fun y => fraction_n nc nd y (by omega) (by omega) (by omega) (by omega)
   have ez : (A : Int) * S2 = ((A * (2 * nb * nd) : Nat) : Int) := by rw [← hS2, ← hD3]; simp
   have ey : S1 * (B : Int) = (((na * nd + nc * nb) * B : Nat) : Int) := by rw [← hS1, ← hD1, ← hD2]; simp
   have side : Hid ((cmp3 ((A : Int) * S2) (S1 * (B : Int)) < 0 ∧ (na, nb) = (P1, P2)) ∨ (cmp3 ((A : Int) * S2) (S1 * (B : Int)) = 0 ∧ nb ≤ nd ∧ (na, nb) = (P1, P2)) ∨ (cmp3 ((A : Int) * S2) (S1 * (B : Int)) = 0 ∧ ¬ nb ≤ nd ∧ (nc, nd) = (P1, P2)) ∨ (0 < cmp3 ((A : Int) * S2) (S1 * (B : Int)) ∧ (nc, nd) = (P1, P2))) := by
    show _ ∨ _
    rw [ez, ey]
    have hP := hP.out
    unfold pk at hP
    simp only at hP
    unfold cmp3
    rcases Nat.lt_trichotomy (A * (2 * nb * nd)) ((na * nd + nc * nb) * B) with l | l | l
    ·left; rw [if_pos (Or.inl l)] at hP; rw [if_pos (by exact_mod_cast l)]; exact ⟨by decide, hP⟩
    ·right
     by_cases le : nb ≤ nd
     ·left; rw [if_pos (Or.inr ⟨l, le⟩)] at hP; rw [l, if_neg (by omega), if_neg (by omega)]; exact ⟨rfl, le, hP⟩
     ·right; left; rw [if_neg (by omega)] at hP; rw [l, if_neg (by omega), if_neg (by omega)]; exact ⟨rfl, le, hP⟩
    ·right; right; right; rw [if_neg (by omega)] at hP; rw [if_neg (by omega), if_pos (by omega)]; exact ⟨by decide, hP⟩
   obtain ⟨sd, hsd⟩ : ∃ z, cmp3 ((A : Int) * S2) (S1 * (B : Int)) = z := ⟨_, rfl⟩
   rw [hsd] at CC side
   clear hsd ez ey hD1 hD2 hD3 hS1 hS2 w1 w2
   refine Code.wp_mono (Q := fun ex a x => ex = .normal ∧ (fun a x => ∃ t8 t37 t38 t39 t40 t41 t42 t43 t44 t45 t46 t47 t48 t49 t50 t51 t52 t53 t54 t55 t56, a = ⟨#[.agg #[.bool false, .slice U.a U.l U.c, .slice V.a V.l V.c], .int .u64 (M : Int), .pointer (some ⟨w.heap.size, 0, none⟩), undef, .pointer (some ⟨w.heap.size + 1, 0, none⟩), .pointer (some ⟨w.heap.size + 1 + 1, 0, none⟩), .pointer (some ⟨w.heap.size + 1 + 1 + 1, 0, none⟩), u7, t8, undef, .agg #[.int .u64 0, .int .u64 1], .agg #[.int .u64 1, .int .u64 1], .pointer (some ⟨w.heap.size + 1 + 1, 1, none⟩), .int .u64 (nb : Int), .pointer (some ⟨w.heap.size + 1 + 1 + 1, 1, none⟩), .int .u64 (nd : Int), .int .u64 (q : Int), .int .u64 (M : Int), .bool false, u19, u20, u21, u22, u23, u24, u25, u26, u27, u28, u29, u30, u31, u32, u33, u34, u35, u36, t37, t38, t39, t40, t41, t42, t43, t44, t45, t46, t47, t48, t49, t50, t51, t52, t53, t54, t55, t56, undef, undef, undef, undef, undef, undef, undef, undef, undef, undef, undef, undef, undef, undef, undef, undef, undef, undef, undef, undef], []⟩ ∧ (∃ (x0 : World) (X : Nat) (xa : Option Addr × Option Addr) (xl xc : Nat × Nat), Below wr.heap.size wr x0 ∧ (wr.heap.size ≤ X ∧ Rb x0 X (.bool false) (.slice none 0 0) (.slice none 0 0)) ∧ (Nn x0 xa.1 xl.1 xc.1 S1 ∧ Nn x0 xa.2 xl.2 xc.2 S2) ∧ t8 = .pointer (some ⟨X, 0, none⟩) ∧ x = (((x0.setCell ⟨X, 0, none⟩ (.bool false)).setCell ⟨X, 1, none⟩ (.slice xa.1 xl.1 xc.1)).setCell ⟨X, 2, none⟩ (.slice xa.2 xl.2 xc.2)))) a x) ?_ ?_
   rotate_left
   ·refine wp_region_held (S := fun _ => True) (by kernel_rfl) (any_inv (fun listed a x => ∃ (y0 y1 y2 y3 y4 y5 y6 y7 y8 y9 y10 y11 y12 y13 y14 y15 y16 y17 y18 y19 y20 : Bool) (t37 t38 t39 t40 t41 t42 t43 t44 t45 t46 t47 t48 t49 t50 t51 t52 t53 t54 t55 t56 t8 : Value), a = ⟨#[.agg #[.bool false, .slice U.a U.l U.c, .slice V.a V.l V.c], .int .u64 (M : Int), .pointer (some ⟨w.heap.size, 0, none⟩), undef, .pointer (some ⟨w.heap.size + 1, 0, none⟩), .pointer (some ⟨w.heap.size + 1 + 1, 0, none⟩), .pointer (some ⟨w.heap.size + 1 + 1 + 1, 0, none⟩), u7, t8, undef, .agg #[.int .u64 0, .int .u64 1], .agg #[.int .u64 1, .int .u64 1], .pointer (some ⟨w.heap.size + 1 + 1, 1, none⟩), .int .u64 (nb : Int), .pointer (some ⟨w.heap.size + 1 + 1 + 1, 1, none⟩), .int .u64 (nd : Int), .int .u64 (q : Int), .int .u64 (M : Int), .bool false, u19, u20, u21, u22, u23, u24, u25, u26, u27, u28, u29, u30, u31, u32, u33, u34, u35, u36, t37, t38, t39, t40, t41, t42, t43, t44, t45, t46, t47, t48, t49, t50, t51, t52, t53, t54, t55, t56, undef, undef, undef, undef, undef, undef, undef, undef, undef, undef, undef, undef, undef, undef, undef, undef, undef, undef, undef, undef], []⟩ ∧ ((listed = #[y0, y1, y2, y3, y4, y5, y6, y7, y8, y9, y10, y11, y12, y13, y14, y15, y16, y17, y18, y19, y20, false] ∧ NR7 wr x S1 (.pointer (some ⟨w.heap.size + 1 + 1, 0, none⟩)) (.int .u64 (na : Int)) (.pointer (some ⟨w.heap.size + 1 + 1 + 1, 1, none⟩)) (.int .u64 (nd : Int)) (.int .u64 D1) (.pointer (some ⟨w.heap.size + 1 + 1 + 1, 0, none⟩)) (.int .u64 (nc : Int)) (.pointer (some ⟨w.heap.size + 1 + 1, 1, none⟩)) (.int .u64 (nb : Int)) (.int .u64 D2) (.int .u64 S1) (.pointer (some ⟨w.heap.size + 1 + 1, 1, none⟩)) (.int .u64 (nb : Int)) (.int .u64 D3) (.pointer (some ⟨w.heap.size + 1 + 1 + 1, 1, none⟩)) (.int .u64 (nd : Int)) (.int .u64 S2) (S1) (S2) (S2) y0 y1 y2 y3 y4 y5 y6 y7 y8 y9 y10 y11 y12 y13 y14 y15 y16 y17 y18 y19 y20 t37 t38 t39 t40 t41 t42 t43 t44 t45 t46 t47 t48 t49 t50 t51 t52 t53 t54 t55 t56 t8) ∨ (listed = #[true, true, true, true, true, true, true, true, true, true, true, true, true, true, true, true, true, true, true, true, true, true] ∧ ∃ (x0 : World) (X : Nat) (xa : Option Addr × Option Addr) (xl xc : Nat × Nat), Below wr.heap.size wr x0 ∧ (wr.heap.size ≤ X ∧ Rb x0 X (.bool false) (.slice none 0 0) (.slice none 0 0)) ∧ (Nn x0 xa.1 xl.1 xc.1 S1 ∧ Nn x0 xa.2 xl.2 xc.2 S2) ∧ t8 = .pointer (some ⟨X, 0, none⟩) ∧ x = (((x0.setCell ⟨X, 0, none⟩ (.bool false)).setCell ⟨X, 1, none⟩ (.slice xa.1 xl.1 xc.1)).setCell ⟨X, 2, none⟩ (.slice xa.2 xl.2 xc.2))))) ?_ ?_ _ _ _ _ (by decide) ?_)
    ·rintro listed a x i ⟨y0, y1, y2, y3, y4, y5, y6, y7, y8, y9, y10, y11, y12, y13, y14, y15, y16, y17, y18, y19, y20, t37, t38, t39, t40, t41, t42, t43, t44, t45, t46, t47, t48, t49, t50, t51, t52, t53, t54, t55, t56, t8, rfl, h⟩ hi
     have hr : i < 22 := List.mem_range.1 (List.mem_filter.1 hi).1
     have hc := (List.mem_filter.1 hi).2
     rcases h with ⟨rfl, h⟩ | ⟨rfl, h⟩
     ·rcases (show i = 0 ∨ i = 1 ∨ i = 2 ∨ i = 3 ∨ i = 4 ∨ i = 5 ∨ i = 6 ∨ i = 7 ∨ i = 8 ∨ i = 9 ∨ i = 10 ∨ i = 11 ∨ i = 12 ∨ i = 13 ∨ i = 14 ∨ i = 15 ∨ i = 16 ∨ i = 17 ∨ i = 18 ∨ i = 19 ∨ i = 20 ∨ i = 21 by omega) with rfl | rfl | rfl | rfl | rfl | rfl | rfl | rfl | rfl | rfl | rfl | rfl | rfl | rfl | rfl | rfl | rfl | rfl | rfl | rfl | rfl | rfl
      ·clear hc hi
       refine wpOp_step rfl (fun K hK0 => ?_)
       have hK : Hid _ := hK0
       clear hK0
       rw [if_pos (by rfl)]
       go_wp2_with fail
       exact hK.out _ _ ⟨true, y1, y2, y3, y4, y5, y6, y7, y8, y9, y10, y11, y12, y13, y14, y15, y16, y17, y18, y19, y20, .pointer (some ⟨w.heap.size + 1 + 1, 0, none⟩), t38, t39, t40, t41, t42, t43, t44, t45, t46, t47, t48, t49, t50, t51, t52, t53, t54, t55, t56, t8, rfl, Or.inl ⟨rfl, { h with o0 := fun _ => rfl }⟩⟩
      ·have e0 : y0 = true := by
        revert hc
        cases y0 <;> simp [Region.binds]
       have r0 := h.o0 e0
       subst r0
       clear hc hi
       have kc := ((S0.grow h.bel).cells).1
       refine wpOp_step rfl (fun K hK0 => ?_)
       have hK : Hid _ := hK0
       clear hK0
       rw [if_pos (by rfl)]
       go_wp2_with fail
       exact hK.out _ _ ⟨y0, true, y2, y3, y4, y5, y6, y7, y8, y9, y10, y11, y12, y13, y14, y15, y16, y17, y18, y19, y20, _, .int .u64 (na : Int), t39, t40, t41, t42, t43, t44, t45, t46, t47, t48, t49, t50, t51, t52, t53, t54, t55, t56, t8, rfl, Or.inl ⟨rfl, { h with o1 := fun _ => rfl }⟩⟩
      ·clear hc hi
       refine wpOp_step rfl (fun K hK0 => ?_)
       have hK : Hid _ := hK0
       clear hK0
       rw [if_pos (by rfl)]
       go_wp2_with fail
       exact hK.out _ _ ⟨y0, y1, true, y3, y4, y5, y6, y7, y8, y9, y10, y11, y12, y13, y14, y15, y16, y17, y18, y19, y20, t37, t38, .pointer (some ⟨w.heap.size + 1 + 1 + 1, 1, none⟩), t40, t41, t42, t43, t44, t45, t46, t47, t48, t49, t50, t51, t52, t53, t54, t55, t56, t8, rfl, Or.inl ⟨rfl, { h with o2 := fun _ => rfl }⟩⟩
      ·have e2 : y2 = true := by
        revert hc
        cases y2 <;> simp [Region.binds]
       have r2 := h.o2 e2
       subst r2
       clear hc hi
       have kc := ((S0.grow h.bel).cells).2.2.2.1
       refine wpOp_step rfl (fun K hK0 => ?_)
       have hK : Hid _ := hK0
       clear hK0
       rw [if_pos (by rfl)]
       go_wp2_with fail
       exact hK.out _ _ ⟨y0, y1, y2, true, y4, y5, y6, y7, y8, y9, y10, y11, y12, y13, y14, y15, y16, y17, y18, y19, y20, t37, t38, _, .int .u64 (nd : Int), t41, t42, t43, t44, t45, t46, t47, t48, t49, t50, t51, t52, t53, t54, t55, t56, t8, rfl, Or.inl ⟨rfl, { h with o3 := fun _ => rfl }⟩⟩
      ·have e1 : y1 = true := by
        revert hc
        cases y1 <;> simp [Region.binds]
       have e3 : y3 = true := by
        revert hc
        cases y3 <;> simp [Region.binds]
       have r1 := h.o1 e1
       subst r1
       have r3 := h.o3 e3
       subst r3
       clear hc hi
       refine wpOp_step rfl (fun K hK0 => ?_)
       have hK : Hid _ := hK0
       clear hK0
       rw [if_pos (by rfl)]
       go_wp2_with fail
       exact hK.out _ _ ⟨y0, y1, y2, y3, true, y5, y6, y7, y8, y9, y10, y11, y12, y13, y14, y15, y16, y17, y18, y19, y20, t37, _, t39, _, .int .u64 D1, t42, t43, t44, t45, t46, t47, t48, t49, t50, t51, t52, t53, t54, t55, t56, t8, rfl, Or.inl ⟨rfl, { h with o4 := fun _ => rfl }⟩⟩
      ·clear hc hi
       refine wpOp_step rfl (fun K hK0 => ?_)
       have hK : Hid _ := hK0
       clear hK0
       rw [if_pos (by rfl)]
       go_wp2_with fail
       exact hK.out _ _ ⟨y0, y1, y2, y3, y4, true, y6, y7, y8, y9, y10, y11, y12, y13, y14, y15, y16, y17, y18, y19, y20, t37, t38, t39, t40, t41, .pointer (some ⟨w.heap.size + 1 + 1 + 1, 0, none⟩), t43, t44, t45, t46, t47, t48, t49, t50, t51, t52, t53, t54, t55, t56, t8, rfl, Or.inl ⟨rfl, { h with o5 := fun _ => rfl }⟩⟩
      ·have e5 : y5 = true := by
        revert hc
        cases y5 <;> simp [Region.binds]
       have r5 := h.o5 e5
       subst r5
       clear hc hi
       have kc := ((S0.grow h.bel).cells).2.2.1
       refine wpOp_step rfl (fun K hK0 => ?_)
       have hK : Hid _ := hK0
       clear hK0
       rw [if_pos (by rfl)]
       go_wp2_with fail
       exact hK.out _ _ ⟨y0, y1, y2, y3, y4, y5, true, y7, y8, y9, y10, y11, y12, y13, y14, y15, y16, y17, y18, y19, y20, t37, t38, t39, t40, t41, _, .int .u64 (nc : Int), t44, t45, t46, t47, t48, t49, t50, t51, t52, t53, t54, t55, t56, t8, rfl, Or.inl ⟨rfl, { h with o6 := fun _ => rfl }⟩⟩
      ·clear hc hi
       refine wpOp_step rfl (fun K hK0 => ?_)
       have hK : Hid _ := hK0
       clear hK0
       rw [if_pos (by rfl)]
       go_wp2_with fail
       exact hK.out _ _ ⟨y0, y1, y2, y3, y4, y5, y6, true, y8, y9, y10, y11, y12, y13, y14, y15, y16, y17, y18, y19, y20, t37, t38, t39, t40, t41, t42, t43, .pointer (some ⟨w.heap.size + 1 + 1, 1, none⟩), t45, t46, t47, t48, t49, t50, t51, t52, t53, t54, t55, t56, t8, rfl, Or.inl ⟨rfl, { h with o7 := fun _ => rfl }⟩⟩
      ·have e7 : y7 = true := by
        revert hc
        cases y7 <;> simp [Region.binds]
       have r7 := h.o7 e7
       subst r7
       clear hc hi
       have kc := ((S0.grow h.bel).cells).2.1
       refine wpOp_step rfl (fun K hK0 => ?_)
       have hK : Hid _ := hK0
       clear hK0
       rw [if_pos (by rfl)]
       go_wp2_with fail
       exact hK.out _ _ ⟨y0, y1, y2, y3, y4, y5, y6, y7, true, y9, y10, y11, y12, y13, y14, y15, y16, y17, y18, y19, y20, t37, t38, t39, t40, t41, t42, t43, _, .int .u64 (nb : Int), t46, t47, t48, t49, t50, t51, t52, t53, t54, t55, t56, t8, rfl, Or.inl ⟨rfl, { h with o8 := fun _ => rfl }⟩⟩
      ·have e6 : y6 = true := by
        revert hc
        cases y6 <;> simp [Region.binds]
       have e8 : y8 = true := by
        revert hc
        cases y8 <;> simp [Region.binds]
       have r6 := h.o6 e6
       subst r6
       have r8 := h.o8 e8
       subst r8
       clear hc hi
       refine wpOp_step rfl (fun K hK0 => ?_)
       have hK : Hid _ := hK0
       clear hK0
       rw [if_pos (by rfl)]
       go_wp2_with fail
       exact hK.out _ _ ⟨y0, y1, y2, y3, y4, y5, y6, y7, y8, true, y10, y11, y12, y13, y14, y15, y16, y17, y18, y19, y20, t37, t38, t39, t40, t41, t42, _, t44, _, .int .u64 D2, t47, t48, t49, t50, t51, t52, t53, t54, t55, t56, t8, rfl, Or.inl ⟨rfl, { h with o9 := fun _ => rfl }⟩⟩
      ·have e4 : y4 = true := by
        revert hc
        cases y4 <;> simp [Region.binds]
       have e9 : y9 = true := by
        revert hc
        cases y9 <;> simp [Region.binds]
       have r4 := h.o4 e4
       subst r4
       have r9 := h.o9 e9
       subst r9
       clear hc hi
       refine wpOp_step rfl (fun K hK0 => ?_)
       have hK : Hid _ := hK0
       clear hK0
       rw [if_pos (by rfl)]
       go_wp2_with fail
       exact hK.out _ _ ⟨y0, y1, y2, y3, y4, y5, y6, y7, y8, y9, true, y11, y12, y13, y14, y15, y16, y17, y18, y19, y20, t37, t38, t39, t40, _, t42, t43, t44, t45, _, .int .u64 S1, t48, t49, t50, t51, t52, t53, t54, t55, t56, t8, rfl, Or.inl ⟨rfl, { h with o10 := fun _ => rfl }⟩⟩
      ·have e10 : y10 = true := by
        revert hc
        cases y10 <;> simp [Region.binds]
       have r10 := h.o10 e10
       subst r10
       clear hc hi
       refine wpOp_step rfl (fun K hK0 => ?_)
       have hK : Hid _ := hK0
       clear hK0
       rw [if_pos (by rfl)]
       go_wp2_with (first | (go_at_call 19; go_must (refine (Of_n S1 _ s10 s11).mono ?_; rintro e x2 ⟨a9, l9, c9, rfl, H9, bb⟩)) | fail)
       exact hK.out _ _ ⟨y0, y1, y2, y3, y4, y5, y6, y7, y8, y9, y10, true, y12, y13, y14, y15, y16, y17, y18, y19, y20, t37, t38, t39, t40, t41, t42, t43, t44, t45, t46, _, _, t49, t50, t51, t52, t53, t54, t55, t56, t8, rfl, Or.inl ⟨rfl, { h.grow bb with o11 := fun _ => ⟨a9, l9, c9, rfl, H9⟩ }⟩⟩
      ·clear hc hi
       refine wpOp_step rfl (fun K hK0 => ?_)
       have hK : Hid _ := hK0
       clear hK0
       rw [if_pos (by rfl)]
       go_wp2_with fail
       exact hK.out _ _ ⟨y0, y1, y2, y3, y4, y5, y6, y7, y8, y9, y10, y11, true, y13, y14, y15, y16, y17, y18, y19, y20, t37, t38, t39, t40, t41, t42, t43, t44, t45, t46, t47, t48, .pointer (some ⟨w.heap.size + 1 + 1, 1, none⟩), t50, t51, t52, t53, t54, t55, t56, t8, rfl, Or.inl ⟨rfl, { h with o12 := fun _ => rfl }⟩⟩
      ·have e12 : y12 = true := by
        revert hc
        cases y12 <;> simp [Region.binds]
       have r12 := h.o12 e12
       subst r12
       clear hc hi
       have kc := ((S0.grow h.bel).cells).2.1
       refine wpOp_step rfl (fun K hK0 => ?_)
       have hK : Hid _ := hK0
       clear hK0
       rw [if_pos (by rfl)]
       go_wp2_with fail
       exact hK.out _ _ ⟨y0, y1, y2, y3, y4, y5, y6, y7, y8, y9, y10, y11, y12, true, y14, y15, y16, y17, y18, y19, y20, t37, t38, t39, t40, t41, t42, t43, t44, t45, t46, t47, t48, _, .int .u64 (nb : Int), t51, t52, t53, t54, t55, t56, t8, rfl, Or.inl ⟨rfl, { h with o13 := fun _ => rfl }⟩⟩
      ·have e13 : y13 = true := by
        revert hc
        cases y13 <;> simp [Region.binds]
       have r13 := h.o13 e13
       subst r13
       clear hc hi
       refine wpOp_step rfl (fun K hK0 => ?_)
       have hK : Hid _ := hK0
       clear hK0
       rw [if_pos (by rfl)]
       go_wp2_with fail
       exact hK.out _ _ ⟨y0, y1, y2, y3, y4, y5, y6, y7, y8, y9, y10, y11, y12, y13, true, y15, y16, y17, y18, y19, y20, t37, t38, t39, t40, t41, t42, t43, t44, t45, t46, t47, t48, t49, _, .int .u64 D3, t52, t53, t54, t55, t56, t8, rfl, Or.inl ⟨rfl, { h with o14 := fun _ => rfl }⟩⟩
      ·clear hc hi
       refine wpOp_step rfl (fun K hK0 => ?_)
       have hK : Hid _ := hK0
       clear hK0
       rw [if_pos (by rfl)]
       go_wp2_with fail
       exact hK.out _ _ ⟨y0, y1, y2, y3, y4, y5, y6, y7, y8, y9, y10, y11, y12, y13, y14, true, y16, y17, y18, y19, y20, t37, t38, t39, t40, t41, t42, t43, t44, t45, t46, t47, t48, t49, t50, t51, .pointer (some ⟨w.heap.size + 1 + 1 + 1, 1, none⟩), t53, t54, t55, t56, t8, rfl, Or.inl ⟨rfl, { h with o15 := fun _ => rfl }⟩⟩
      ·have e15 : y15 = true := by
        revert hc
        cases y15 <;> simp [Region.binds]
       have r15 := h.o15 e15
       subst r15
       clear hc hi
       have kc := ((S0.grow h.bel).cells).2.2.2.1
       refine wpOp_step rfl (fun K hK0 => ?_)
       have hK : Hid _ := hK0
       clear hK0
       rw [if_pos (by rfl)]
       go_wp2_with fail
       exact hK.out _ _ ⟨y0, y1, y2, y3, y4, y5, y6, y7, y8, y9, y10, y11, y12, y13, y14, y15, true, y17, y18, y19, y20, t37, t38, t39, t40, t41, t42, t43, t44, t45, t46, t47, t48, t49, t50, t51, _, .int .u64 (nd : Int), t54, t55, t56, t8, rfl, Or.inl ⟨rfl, { h with o16 := fun _ => rfl }⟩⟩
      ·have e14 : y14 = true := by
        revert hc
        cases y14 <;> simp [Region.binds]
       have e16 : y16 = true := by
        revert hc
        cases y16 <;> simp [Region.binds]
       have r14 := h.o14 e14
       subst r14
       have r16 := h.o16 e16
       subst r16
       clear hc hi
       refine wpOp_step rfl (fun K hK0 => ?_)
       have hK : Hid _ := hK0
       clear hK0
       rw [if_pos (by rfl)]
       go_wp2_with fail
       exact hK.out _ _ ⟨y0, y1, y2, y3, y4, y5, y6, y7, y8, y9, y10, y11, y12, y13, y14, y15, y16, true, y18, y19, y20, t37, t38, t39, t40, t41, t42, t43, t44, t45, t46, t47, t48, t49, t50, _, t52, _, .int .u64 S2, t55, t56, t8, rfl, Or.inl ⟨rfl, { h with o17 := fun _ => rfl }⟩⟩
      ·have e17 : y17 = true := by
        revert hc
        cases y17 <;> simp [Region.binds]
       have r17 := h.o17 e17
       subst r17
       clear hc hi
       refine wpOp_step rfl (fun K hK0 => ?_)
       have hK : Hid _ := hK0
       clear hK0
       rw [if_pos (by rfl)]
       go_wp2_with (first | (go_at_call 19; go_must (refine (Of_n S2 _ s20 s21).mono ?_; rintro e x2 ⟨a9, l9, c9, rfl, H9, bb⟩)) | fail)
       exact hK.out _ _ ⟨y0, y1, y2, y3, y4, y5, y6, y7, y8, y9, y10, y11, y12, y13, y14, y15, y16, y17, true, y19, y20, t37, t38, t39, t40, t41, t42, t43, t44, t45, t46, t47, t48, t49, t50, t51, t52, t53, _, _, t56, t8, rfl, Or.inl ⟨rfl, { h.grow bb with o18 := fun _ => ⟨a9, l9, c9, rfl, H9⟩ }⟩⟩
      ·have e11 : y11 = true := by
        revert hc
        cases y11 <;> simp [Region.binds]
       have e18 : y18 = true := by
        revert hc
        cases y18 <;> simp [Region.binds]
       obtain ⟨a11, l11, c11, rfl, H11⟩ := h.o11 e11
       obtain ⟨a18, l18, c18, rfl, H18⟩ := h.o18 e18
       clear hc hi
       refine wpOp_step rfl (fun K hK0 => ?_)
       have hK : Hid _ := hK0
       clear hK0
       rw [if_pos (by rfl)]
       go_wp2_with fail
       exact hK.out _ _ ⟨y0, y1, y2, y3, y4, y5, y6, y7, y8, y9, y10, y11, y12, y13, y14, y15, y16, y17, y18, true, y20, t37, t38, t39, t40, t41, t42, t43, t44, t45, t46, t47, _, t49, t50, t51, t52, t53, t54, _, _, t8, rfl, Or.inl ⟨rfl, { h with o19 := fun _ => ⟨(a11, a18), (l11, l18), (c11, c18), rfl, H11, H18⟩ }⟩⟩
      ·clear hc hi
       refine wpOp_step rfl (fun K hK0 => ?_)
       have hK : Hid _ := hK0
       clear hK0
       rw [if_pos (by rfl)]
       go_wp2_with fail
       exact hK.out _ _ ⟨y0, y1, y2, y3, y4, y5, y6, y7, y8, y9, y10, y11, y12, y13, y14, y15, y16, y17, y18, y19, true, t37, t38, t39, t40, t41, t42, t43, t44, t45, t46, t47, t48, t49, t50, t51, t52, t53, t54, t55, t56, _, rfl, Or.inl ⟨rfl, { h.grow ((Below.refl _ _).alloc (Nat.le_refl _) _) with o20 := fun _ => ⟨_, rfl, h.bel.size, Blk.new _ _ _⟩ }⟩⟩
      ·have e0 : y0 = true := by
        revert hc
        cases y0 <;> simp [Region.binds]
       have e1 : y1 = true := by
        revert hc
        cases y1 <;> simp [Region.binds]
       have e2 : y2 = true := by
        revert hc
        cases y2 <;> simp [Region.binds]
       have e3 : y3 = true := by
        revert hc
        cases y3 <;> simp [Region.binds]
       have e4 : y4 = true := by
        revert hc
        cases y4 <;> simp [Region.binds]
       have e5 : y5 = true := by
        revert hc
        cases y5 <;> simp [Region.binds]
       have e6 : y6 = true := by
        revert hc
        cases y6 <;> simp [Region.binds]
       have e7 : y7 = true := by
        revert hc
        cases y7 <;> simp [Region.binds]
       have e8 : y8 = true := by
        revert hc
        cases y8 <;> simp [Region.binds]
       have e9 : y9 = true := by
        revert hc
        cases y9 <;> simp [Region.binds]
       have e10 : y10 = true := by
        revert hc
        cases y10 <;> simp [Region.binds]
       have e11 : y11 = true := by
        revert hc
        cases y11 <;> simp [Region.binds]
       have e12 : y12 = true := by
        revert hc
        cases y12 <;> simp [Region.binds]
       have e13 : y13 = true := by
        revert hc
        cases y13 <;> simp [Region.binds]
       have e14 : y14 = true := by
        revert hc
        cases y14 <;> simp [Region.binds]
       have e15 : y15 = true := by
        revert hc
        cases y15 <;> simp [Region.binds]
       have e16 : y16 = true := by
        revert hc
        cases y16 <;> simp [Region.binds]
       have e17 : y17 = true := by
        revert hc
        cases y17 <;> simp [Region.binds]
       have e18 : y18 = true := by
        revert hc
        cases y18 <;> simp [Region.binds]
       have e19 : y19 = true := by
        revert hc
        cases y19 <;> simp [Region.binds]
       have e20 : y20 = true := by
        revert hc
        cases y20 <;> simp [Region.binds]
       obtain ⟨a19, l19, c19, rfl, H19⟩ := h.o19 e19
       obtain ⟨X20, rfl, lX20, K20⟩ := h.o20 e20
       clear hc hi
       subst e0 e1 e2 e3 e4 e5 e6 e7 e8 e9 e10 e11 e12 e13 e14 e15 e16 e17 e18 e19 e20
       have bl := h.bel
       have KQ := Rb.ofB K20
       have z0 := KQ.c0
       have z1 := KQ.c1
       have z2 := KQ.c2
       have z3 := KQ.f0
       have z4 := KQ.f1
       have z5 := KQ.f2
       clear h
       refine wpOp_step rfl (fun K hK0 => ?_)
       have hK : Hid _ := hK0
       clear hK0
       rw [if_pos (by rfl)]
       go_wp2_with fail
       exact hK.out _ _ ⟨true, true, true, true, true, true, true, true, true, true, true, true, true, true, true, true, true, true, true, true, true, t37, t38, t39, t40, t41, t42, t43, t44, t45, t46, t47, t48, t49, t50, t51, t52, t53, t54, t55, _, _, rfl, Or.inr (⟨rfl, x, X20, a19, l19, c19, bl, ⟨lX20, KQ⟩, H19, rfl, rfl⟩)⟩
     ·rcases (show i = 0 ∨ i = 1 ∨ i = 2 ∨ i = 3 ∨ i = 4 ∨ i = 5 ∨ i = 6 ∨ i = 7 ∨ i = 8 ∨ i = 9 ∨ i = 10 ∨ i = 11 ∨ i = 12 ∨ i = 13 ∨ i = 14 ∨ i = 15 ∨ i = 16 ∨ i = 17 ∨ i = 18 ∨ i = 19 ∨ i = 20 ∨ i = 21 by omega) with rfl | rfl | rfl | rfl | rfl | rfl | rfl | rfl | rfl | rfl | rfl | rfl | rfl | rfl | rfl | rfl | rfl | rfl | rfl | rfl | rfl | rfl <;> simp at hc
    ·rintro listed a x ⟨y0, y1, y2, y3, y4, y5, y6, y7, y8, y9, y10, y11, y12, y13, y14, y15, y16, y17, y18, y19, y20, t37, t38, t39, t40, t41, t42, t43, t44, t45, t46, t47, t48, t49, t50, t51, t52, t53, t54, t55, t56, t8, rfl, h⟩ hn
     have al := all_listed2 (by decide +kernel) hn
     rcases h with ⟨rfl, h⟩ | ⟨rfl, h⟩
     ·have z := al 21 (by decide)
      simp at z
     ·obtain ⟨x0, X, xa, xl, xc, bl, ⟨lX, KX⟩, HH, rfl, rfl⟩ := h
      refine ⟨rfl, ?_⟩
      exact ⟨_, _, _, _, _, _, _, _, _, _, _, _, _, _, _, _, _, _, _, _, _, rfl, x0, X, xa, xl, xc, bl, ⟨lX, KX⟩, HH, rfl, rfl⟩
    ·exact ⟨false, false, false, false, false, false, false, false, false, false, false, false, false, false, false, false, false, false, false, false, false, undef, undef, undef, undef, undef, undef, undef, undef, undef, undef, undef, undef, undef, undef, undef, undef, undef, undef, undef, undef, undef, rfl, Or.inl ⟨rfl, { bel := (Below.refl _ _).drew, o0 := (by intro q; cases q), o1 := (by intro q; cases q), o2 := (by intro q; cases q), o3 := (by intro q; cases q), o4 := (by intro q; cases q), o5 := (by intro q; cases q), o6 := (by intro q; cases q), o7 := (by intro q; cases q), o8 := (by intro q; cases q), o9 := (by intro q; cases q), o10 := (by intro q; cases q), o11 := (by intro q; cases q), o12 := (by intro q; cases q), o13 := (by intro q; cases q), o14 := (by intro q; cases q), o15 := (by intro q; cases q), o16 := (by intro q; cases q), o17 := (by intro q; cases q), o18 := (by intro q; cases q), o19 := (by intro q; cases q), o20 := (by intro q; cases q) }⟩⟩
   rintro _ act x ⟨rfl, t8, t37, t38, t39, t40, t41, t42, t43, t44, t45, t46, t47, t48, t49, t50, t51, t52, t53, t54, t55, t56, rfl, x0, X, xa, xl, xc, bl, ⟨lX, KX⟩, HH, rfl, rfl⟩
   have wq := wr3 x0 X (.bool false) (.slice xa.1 xl.1 xc.1) (.slice xa.2 xl.2 xc.2)
   have S5 := S0.grow bl
   have S6 := (⟨S5.kF.wr wq (by omega), S5.kR.wr wq (by omega), S5.kL.wr wq (by omega), S5.kH.wr wq (by omega), bset3 S5.bel (by omega)⟩ : NL w _ U V na nb nc nd)
   have N1 := HH.1.putF (x := .bool false) (y := .slice xa.1 xl.1 xc.1) (z := .slice xa.2 xl.2 xc.2) KX
   have N2 := HH.2.putF (x := .bool false) (y := .slice xa.1 xl.1 xc.1) (z := .slice xa.2 xl.2 xc.2) KX
   obtain ⟨y0, y1, y2⟩ := KX.put (.bool false) (.slice xa.1 xl.1 xc.1) (.slice xa.2 xl.2 xc.2)
   clear wq S5 KX HH bl k0 k1 k2 k3 k5 k6 k7 v1 v2 v3 v4 v5 s10 s11 s20 s21 q1 q2 q3
   generalize ((x0.setCell ⟨X, 0, none⟩ (.bool false)).setCell ⟨X, 1, none⟩ (.slice xa.1 xl.1 xc.1)).setCell ⟨X, 2, none⟩ (.slice xa.2 xl.2 xc.2) = WE at *
   obtain ⟨c0, c1, c2, c3, c4⟩ := S6.cells
   obtain ⟨c5, c6, c7⟩ := S6.three
   rcases side.out with ⟨s1, hx⟩ | ⟨rfl, le, hx⟩ | ⟨rfl, le, hx⟩ | ⟨s1, hx⟩
   ·have CL := fun y => (CL y).mono (R' := fun e w' => ∃ (fa : Option Addr × Option Addr) (fl fc : Nat × Nat), e = .returned (.agg #[.bool false, .slice fa.1 fl.1 fc.1, .slice fa.2 fl.2 fc.2]) ∧ (Nn w' fa.1 fl.1 fc.1 (P1 : Int) ∧ Nn w' fa.2 fl.2 fc.2 (P2 : Int)) ∧ Below y.heap.size y w') (by rintro e w' ⟨ga, gl, gc, rfl, ⟨n1, n2⟩, gb⟩; injection hx with e1 e2; exact ⟨ga, gl, gc, rfl, ⟨e1 ▸ n1, e2 ▸ n2⟩, gb⟩)
    clear hx side hP
    go_wp2_with (first
     | (go_at_call 28; go_must (refine (CC _ xa xl xc S6.bel N1 N2).mono ?_; rintro e x3 ⟨rfl, f3⟩; have S7 := S6.grow f3; have ⟨d0, d1, d2, d3, d4⟩ := S7.cells))
     | (go_at_call 51; go_must (refine (CL _).mono ?_; rintro e x4 ⟨ga, gl, gc, rfl, ⟨n1, n2⟩, f4⟩; have S8 := S7.grow f4; have RR := S8.kR; have r0 := RR.c0; have r1 := RR.c1; have r2 := RR.c2; have r3 := RR.f0; have r4 := RR.f1; have r5 := RR.f2))
     | fail)
    have M1' := n1.putF (x := .bool false) (y := .slice ga.1 gl.1 gc.1) (z := .slice ga.2 gl.2 gc.2) RR
    have M2' := n2.putF (x := .bool false) (y := .slice ga.1 gl.1 gc.1) (z := .slice ga.2 gl.2 gc.2) RR
    obtain ⟨z0, z1, z2⟩ := RR.put (.bool false) (.slice ga.1 gl.1 gc.1) (.slice ga.2 gl.2 gc.2)
    have BE := bset3 (n := w.heap.size + 1) (x := .bool false) (y := .slice ga.1 gl.1 gc.1) (z := .slice ga.2 gl.2 gc.2) S8.bel (by omega)
    generalize ((x4.setCell ⟨w.heap.size + 1, 0, none⟩ (.bool false)).setCell ⟨w.heap.size + 1, 1, none⟩ (.slice ga.1 gl.1 gc.1)).setCell ⟨w.heap.size + 1, 2, none⟩ (.slice ga.2 gl.2 gc.2) = WF at *
    exact bodyPost_ret (v := .agg #[.bool false, .slice ga.1 gl.1 gc.1, .slice ga.2 gl.2 gc.2]) (by simp [results, Tryz.results20, go_sem, z0, z1, z2]) rfl ⟨ga, gl, gc, rfl, ⟨M1', M2'⟩, BE⟩
   ·have CL := fun y => (CL y).mono (R' := fun e w' => ∃ (fa : Option Addr × Option Addr) (fl fc : Nat × Nat), e = .returned (.agg #[.bool false, .slice fa.1 fl.1 fc.1, .slice fa.2 fl.2 fc.2]) ∧ (Nn w' fa.1 fl.1 fc.1 (P1 : Int) ∧ Nn w' fa.2 fl.2 fc.2 (P2 : Int)) ∧ Below y.heap.size y w') (by rintro e w' ⟨ga, gl, gc, rfl, ⟨n1, n2⟩, gb⟩; injection hx with e1 e2; exact ⟨ga, gl, gc, rfl, ⟨e1 ▸ n1, e2 ▸ n2⟩, gb⟩)
    have le2 : (nb : Int) ≤ (nd : Int) := by omega
    clear hx side hP
    go_wp2_with (first
     | (go_at_call 28; go_must (refine (CC _ xa xl xc S6.bel N1 N2).mono ?_; rintro e x3 ⟨rfl, f3⟩; have S7 := S6.grow f3; have ⟨d0, d1, d2, d3, d4⟩ := S7.cells))
     | (go_at_call 51; go_must (refine (CL _).mono ?_; rintro e x4 ⟨ga, gl, gc, rfl, ⟨n1, n2⟩, f4⟩; have S8 := S7.grow f4; have RR := S8.kR; have r0 := RR.c0; have r1 := RR.c1; have r2 := RR.c2; have r3 := RR.f0; have r4 := RR.f1; have r5 := RR.f2))
     | fail)
    have M1' := n1.putF (x := .bool false) (y := .slice ga.1 gl.1 gc.1) (z := .slice ga.2 gl.2 gc.2) RR
    have M2' := n2.putF (x := .bool false) (y := .slice ga.1 gl.1 gc.1) (z := .slice ga.2 gl.2 gc.2) RR
    obtain ⟨z0, z1, z2⟩ := RR.put (.bool false) (.slice ga.1 gl.1 gc.1) (.slice ga.2 gl.2 gc.2)
    have BE := bset3 (n := w.heap.size + 1) (x := .bool false) (y := .slice ga.1 gl.1 gc.1) (z := .slice ga.2 gl.2 gc.2) S8.bel (by omega)
    generalize ((x4.setCell ⟨w.heap.size + 1, 0, none⟩ (.bool false)).setCell ⟨w.heap.size + 1, 1, none⟩ (.slice ga.1 gl.1 gc.1)).setCell ⟨w.heap.size + 1, 2, none⟩ (.slice ga.2 gl.2 gc.2) = WF at *
    exact bodyPost_ret (v := .agg #[.bool false, .slice ga.1 gl.1 gc.1, .slice ga.2 gl.2 gc.2]) (by simp [results, Tryz.results20, go_sem, z0, z1, z2]) rfl ⟨ga, gl, gc, rfl, ⟨M1', M2'⟩, BE⟩
   ·have CH := fun y => (CH y).mono (R' := fun e w' => ∃ (fa : Option Addr × Option Addr) (fl fc : Nat × Nat), e = .returned (.agg #[.bool false, .slice fa.1 fl.1 fc.1, .slice fa.2 fl.2 fc.2]) ∧ (Nn w' fa.1 fl.1 fc.1 (P1 : Int) ∧ Nn w' fa.2 fl.2 fc.2 (P2 : Int)) ∧ Below y.heap.size y w') (by rintro e w' ⟨ga, gl, gc, rfl, ⟨n1, n2⟩, gb⟩; injection hx with e1 e2; exact ⟨ga, gl, gc, rfl, ⟨e1 ▸ n1, e2 ▸ n2⟩, gb⟩)
    have le2 : ¬ (nb : Int) ≤ (nd : Int) := by omega
    clear hx side hP
    go_wp2_with (first
     | (go_at_call 28; go_must (refine (CC _ xa xl xc S6.bel N1 N2).mono ?_; rintro e x3 ⟨rfl, f3⟩; have S7 := S6.grow f3; have ⟨d0, d1, d2, d3, d4⟩ := S7.cells))
     | (go_at_call 51; go_must (refine (CH _).mono ?_; rintro e x4 ⟨ga, gl, gc, rfl, ⟨n1, n2⟩, f4⟩; have S8 := S7.grow f4; have RR := S8.kR; have r0 := RR.c0; have r1 := RR.c1; have r2 := RR.c2; have r3 := RR.f0; have r4 := RR.f1; have r5 := RR.f2))
     | fail)
    have M1' := n1.putF (x := .bool false) (y := .slice ga.1 gl.1 gc.1) (z := .slice ga.2 gl.2 gc.2) RR
    have M2' := n2.putF (x := .bool false) (y := .slice ga.1 gl.1 gc.1) (z := .slice ga.2 gl.2 gc.2) RR
    obtain ⟨z0, z1, z2⟩ := RR.put (.bool false) (.slice ga.1 gl.1 gc.1) (.slice ga.2 gl.2 gc.2)
    have BE := bset3 (n := w.heap.size + 1) (x := .bool false) (y := .slice ga.1 gl.1 gc.1) (z := .slice ga.2 gl.2 gc.2) S8.bel (by omega)
    generalize ((x4.setCell ⟨w.heap.size + 1, 0, none⟩ (.bool false)).setCell ⟨w.heap.size + 1, 1, none⟩ (.slice ga.1 gl.1 gc.1)).setCell ⟨w.heap.size + 1, 2, none⟩ (.slice ga.2 gl.2 gc.2) = WF at *
    exact bodyPost_ret (v := .agg #[.bool false, .slice ga.1 gl.1 gc.1, .slice ga.2 gl.2 gc.2]) (by simp [results, Tryz.results20, go_sem, z0, z1, z2]) rfl ⟨ga, gl, gc, rfl, ⟨M1', M2'⟩, BE⟩
   ·have CH := fun y => (CH y).mono (R' := fun e w' => ∃ (fa : Option Addr × Option Addr) (fl fc : Nat × Nat), e = .returned (.agg #[.bool false, .slice fa.1 fl.1 fc.1, .slice fa.2 fl.2 fc.2]) ∧ (Nn w' fa.1 fl.1 fc.1 (P1 : Int) ∧ Nn w' fa.2 fl.2 fc.2 (P2 : Int)) ∧ Below y.heap.size y w') (by rintro e w' ⟨ga, gl, gc, rfl, ⟨n1, n2⟩, gb⟩; injection hx with e1 e2; exact ⟨ga, gl, gc, rfl, ⟨e1 ▸ n1, e2 ▸ n2⟩, gb⟩)
    have s2 : ¬ sd < 0 := by omega
    have s3 : (sd == 0) = false := by simp; omega
    clear hx side hP
    go_wp2_with (first
     | (go_at_call 28; go_must (refine (CC _ xa xl xc S6.bel N1 N2).mono ?_; rintro e x3 ⟨rfl, f3⟩; have S7 := S6.grow f3; have ⟨d0, d1, d2, d3, d4⟩ := S7.cells))
     | (go_at_call 51; go_must (refine (CH _).mono ?_; rintro e x4 ⟨ga, gl, gc, rfl, ⟨n1, n2⟩, f4⟩; have S8 := S7.grow f4; have RR := S8.kR; have r0 := RR.c0; have r1 := RR.c1; have r2 := RR.c2; have r3 := RR.f0; have r4 := RR.f1; have r5 := RR.f2))
     | fail)
    have M1' := n1.putF (x := .bool false) (y := .slice ga.1 gl.1 gc.1) (z := .slice ga.2 gl.2 gc.2) RR
    have M2' := n2.putF (x := .bool false) (y := .slice ga.1 gl.1 gc.1) (z := .slice ga.2 gl.2 gc.2) RR
    obtain ⟨z0, z1, z2⟩ := RR.put (.bool false) (.slice ga.1 gl.1 gc.1) (.slice ga.2 gl.2 gc.2)
    have BE := bset3 (n := w.heap.size + 1) (x := .bool false) (y := .slice ga.1 gl.1 gc.1) (z := .slice ga.2 gl.2 gc.2) S8.bel (by omega)
    generalize ((x4.setCell ⟨w.heap.size + 1, 0, none⟩ (.bool false)).setCell ⟨w.heap.size + 1, 1, none⟩ (.slice ga.1 gl.1 gc.1)).setCell ⟨w.heap.size + 1, 2, none⟩ (.slice ga.2 gl.2 gc.2) = WF at *
    exact bodyPost_ret (v := .agg #[.bool false, .slice ga.1 gl.1 gc.1, .slice ga.2 gl.2 gc.2]) (by simp [results, Tryz.results20, go_sem, z0, z1, z2]) rfl ⟨ga, gl, gc, rfl, ⟨M1', M2'⟩, BE⟩
end Go.Proofs.YtapdhadpdbmkcaaGreatDoor.Mo
