import Derived.Test.YtapdhadpdbmkcaaGreatDoorPart42
import Derived.Test.YtapdhadpdbmkcaaGreatDoorPart43
import Derived.Test.YtapdhadpdbmkcaaGreatDoorPart44
import Derived.Test.YtapdhadpdbmkcaaGreatDoorPart27
import Derived.Test.YtapdhadpdbmkcaaGreatDoorPart47
import Derived.Test.YtapdhadpdbmkcaaGreatDoorPart45
import Derived.Test.YtapdhadpdbmkcaaGreatDoorPart39
import Derived.Test.YtapdhadpdbmkcaaGreatDoorPart41
import Derived.Test.YtapdhadpdbmkcaaGreatDoorPart30
import Derived.Test.YtapdhadpdbmkcaaGreatDoorPart23
import Derived.Test.YtapdhadpdbmkcaaGreatDoorPart13

namespace Go.Proofs.YtapdhadpdbmkcaaGreatDoor.Mo
open Go.RowKit Fu Tn Go.Lib Dc

theorem fl_neg {A B : Int} (B0 : 0 < B) (h : A % B = 0) : (-A) / B = -(A / B) ∧ (-A) % B = 0 := by
 have e := Int.mul_ediv_add_emod A B
 refine (Int.ediv_emod_unique B0).2 ⟨?_, by omega, by omega⟩
 rw [h] at e
 rw [Int.mul_neg]; omega
theorem fl_neg' {A B : Int} (B0 : 0 < B) (h : A % B ≠ 0) : (-A) / B = -(A / B + 1) ∧ (-A) % B = B - A % B := by
 have e := Int.mul_ediv_add_emod A B
 have p := Int.emod_nonneg A (show B ≠ 0 by omega)
 have q := Int.emod_lt_of_pos A B0
 refine (Int.ediv_emod_unique B0).2 ⟨?_, by omega, by omega⟩
 rw [Int.mul_neg, Int.mul_add]; omega
theorem rest_rat (r : Rat) : (r - (r.floor : Rat)).num = r.num % r.den ∧ (r - (r.floor : Rat)).den = r.den := by
 obtain ⟨p1, p2, _, p4⟩ := rest_parts r
 have e : r - (r.floor : Rat) = ⟨r.num % r.den, r.den, r.den_nz, by rw [show (r.num % (r.den : Int)).natAbs = (r.num % (r.den : Int)).toNat by omega]; exact p4⟩ := by
  have h2 := rat_mul_den ⟨r.num % r.den, r.den, r.den_nz, by rw [show (r.num % (r.den : Int)).natAbs = (r.num % (r.den : Int)).toNat by omega]; exact p4⟩
  simp only at h2
  generalize r - (r.floor : Rat) = x at *
  rw [← h2] at p1
  have hk : (r.den : Rat) ≠ 0 := by exact_mod_cast r.den_nz
  grind
 rw [e]
 exact ⟨rfl, rfl⟩
/-- A fraction's whole part and what is left. -/
theorem Floor_p (r : Rat) (m : Nat) (U V : Wl) (w : World) (h1 : Nn w U.a U.l U.c (r.num.natAbs : Int)) (h2 : Nn w V.a V.l V.c (r.den : Int)) (s : PS r m) (hm : m ≤ 900000) (m1 : 1 ≤ m) :
  Calls Tryz.prog 17 #[.agg #[.bool (decide (r.num < 0)), .slice U.a U.l U.c, .slice V.a V.l V.c]] w fun e w' => ∃ (xa : Option Addr × Option Addr) (xl xc : Nat × Nat) (ya : Option Addr) (yl yc : Nat), e = .returned (.tuple #[.agg #[.bool (decide (r.floor < 0)), .slice xa.1 xl.1 xc.1, .slice xa.2 xl.2 xc.2], .agg #[.bool false, .slice ya yl yc, .slice V.a V.l V.c]]) ∧ ((Nn w' xa.1 xl.1 xc.1 (r.floor.natAbs : Int) ∧ Nn w' xa.2 xl.2 xc.2 1) ∧ Nn w' ya yl yc (r.num % r.den) ∧ Nn w' V.a V.l V.c (r.den : Int)) ∧ Below w.heap.size w w' := by
 have f : r.floor = r.num / (r.den : Int) := by rw [Rat.floor_def]
 have d0 := den_p r
 rw [f]
 have k1 := s.1
 have k2 := s.2
 clear s f
 obtain ⟨A, eA⟩ : ∃ A : Nat, r.num.natAbs = A := ⟨_, rfl⟩
 rw [eA] at h1 k1
 have q0 : 0 ≤ (A : Int) / (r.den : Int) := Int.ediv_nonneg (by omega) (by omega)
 by_cases g : r.num < 0
 ·rw [decide_eq_true g]
  have en : r.num = -(A : Int) := by omega
  by_cases z : (A : Int) % (r.den : Int) = 0
  ·obtain ⟨e1, e2⟩ := fl_neg d0 z
   have := Floor_even U V _ _ ((r.num / (r.den : Int)).natAbs : Int) (r.num % r.den) (decide (r.num / (r.den : Int) < 0)) m w h1 h2 k1 k2 d0 hm m1 (by rw [en, e1]; omega) (by rw [en, e2]; omega) z (by
    rw [en, e1]
    simp only [Bool.true_and]
    rw [← decide_not, decide_eq_decide]
    omega)
   exact this
  ·obtain ⟨e1, e2⟩ := fl_neg' d0 z
   have := Floor_more U V _ _ ((r.num / (r.den : Int)).natAbs : Int) (r.num % r.den) (decide (r.num / (r.den : Int) < 0)) m w h1 h2 k1 k2 d0 hm m1 (by rw [en, e1]; omega) (by rw [en, e2]) z (by
    rw [en, e1]
    simp only [Bool.true_and]
    rw [← decide_not, decide_eq_decide]
    omega)
   exact this
 ·rw [decide_eq_false g]
  have en : r.num = (A : Int) := by omega
  have := Floor_low U V _ _ ((r.num / (r.den : Int)).natAbs : Int) (r.num % r.den) (decide (r.num / (r.den : Int) < 0)) m w h1 h2 k1 k2 d0 hm m1 (by rw [en]; omega) (by rw [en]) (by
    rw [Bool.false_and]
    symm
    rw [decide_eq_false_iff_not, en]
    omega)
  exact this
end Go.Proofs.YtapdhadpdbmkcaaGreatDoor.Mo

namespace Go.Proofs.YtapdhadpdbmkcaaGreatDoor.Mo
open Go.RowKit Fu Tn Go.Lib Dc

set_option maxHeartbeats 6400000 in
set_option maxRecDepth 100000 in
theorem Near_far (s t u v : ByteArray) (g gz : Bool) (O D Z Y N2 D2 er M : Int) (w : World) (M1 : 1 ≤ M) (M2 : M ≤ 4096)
  (CR' : ∀ x, Below w.heap.size w x → Calls Tryz.prog 16 #[.agg #[.string s, .string t]] x fun e w' => ∃ (a : Option Addr × Option Addr) (l c : Nat × Nat), e = .returned (.tuple #[.agg #[.bool g, .slice a.1 l.1 c.1, .slice a.2 l.2 c.2], .int .i64 0]) ∧ (Nn w' a.1 l.1 c.1 O ∧ Nn w' a.2 l.2 c.2 D) ∧ Below x.heap.size x w')
  (CF : ∀ x (a : Option Addr × Option Addr) (l c : Nat × Nat), Nn x a.1 l.1 c.1 O → Nn x a.2 l.2 c.2 D → Calls Tryz.prog 17 #[.agg #[.bool g, .slice a.1 l.1 c.1, .slice a.2 l.2 c.2]] x fun e w' => ∃ (xa : Option Addr × Option Addr) (xl xc : Nat × Nat) (ya : Option Addr × Option Addr) (yl yc : Nat × Nat), e = .returned (.tuple #[.agg #[.bool gz, .slice xa.1 xl.1 xc.1, .slice xa.2 xl.2 xc.2], .agg #[.bool false, .slice ya.1 yl.1 yc.1, .slice ya.2 yl.2 yc.2]]) ∧ ((Nn w' xa.1 xl.1 xc.1 Z ∧ Nn w' xa.2 xl.2 xc.2 1) ∧ (Nn w' ya.1 yl.1 yc.1 Y ∧ Nn w' ya.2 yl.2 yc.2 D)) ∧ Below x.heap.size x w')
  (CO : ∀ x, Calls Tryz.prog 19 #[.int .u64 M] x fun e w' => ∃ a l c, e = .returned (.agg #[.slice a l c]) ∧ Nn w' a l c M ∧ Below x.heap.size x w')
  (CC : ∀ x (a b : Option Addr) (l c m d : Nat), Nn x a l c D → Nn x b m d M → Calls Tryz.prog 18 #[.agg #[.slice a l c], .agg #[.slice b m d]] x fun e w' => e = .returned (.int .i64 1) ∧ Below x.heap.size x w')
  (CN : ∀ x (ya : Option Addr × Option Addr) (yl yc : Nat × Nat), Nn x ya.1 yl.1 yc.1 Y → Nn x ya.2 yl.2 yc.2 D → Calls Tryz.prog 20 #[.agg #[.bool false, .slice ya.1 yl.1 yc.1, .slice ya.2 yl.2 yc.2], .int .u64 M] x fun e w' => ∃ (na : Option Addr × Option Addr) (nl nc : Nat × Nat), e = .returned (.agg #[.bool false, .slice na.1 nl.1 nc.1, .slice na.2 nl.2 nc.2]) ∧ (Nn w' na.1 nl.1 nc.1 N2 ∧ Nn w' na.2 nl.2 nc.2 D2) ∧ Below x.heap.size x w')
  (CP : ∀ x (xa : Option Addr × Option Addr) (xl xc : Nat × Nat) (ya : Option Addr × Option Addr) (yl yc : Nat × Nat), (Nn x xa.1 xl.1 xc.1 Z ∧ Nn x xa.2 xl.2 xc.2 1) → (Nn x ya.1 yl.1 yc.1 N2 ∧ Nn x ya.2 yl.2 yc.2 D2) → Calls Tryz.prog 21 #[.agg #[.bool gz, .slice xa.1 xl.1 xc.1, .slice xa.2 xl.2 xc.2], .agg #[.bool false, .slice ya.1 yl.1 yc.1, .slice ya.2 yl.2 yc.2]] x fun e w' => ∃ z, e = .returned z ∧ (∀ x', Below w'.heap.size w' x' → Below w.heap.size w x' → Calls Tryz.prog 22 #[z] x' fun e w' => e = .returned (.tuple #[.agg #[.string u, .string v], .int .i64 er]) ∧ Below x'.heap.size x' w') ∧ Below x.heap.size x w') :
  Calls Tryz.prog 6 #[.agg #[.string s, .string t], .int .i64 M] w fun e w' => e = .returned (.tuple #[.agg #[.string u, .string v], .int .i64 er]) ∧ Below w.heap.size w w' := by
 have KA := (Blk.new w #[.string s, .string t] 23).alloc (.cells #[.string ⟨#[]⟩, .string ⟨#[]⟩] 23)
 have KR := Blk.new (w.alloc (.cells #[.string s, .string t] 23)) #[.string ⟨#[]⟩, .string ⟨#[]⟩] 23
 simp only [World.size_alloc] at KR
 have pr : Below w.heap.size w ((w.alloc (.cells #[.string s, .string t] 23)).alloc (.cells #[.string ⟨#[]⟩, .string ⟨#[]⟩] 23)) := ((Below.refl _ _).alloc (Nat.le_refl _) _).alloc (by simp) _
 have em : IntKind.u64.wrap M = M := by rw [wrap_u64]; omega
 have m0 : ¬ M < 1 := by omega
 have m1 : ¬ M > 4096 := by omega
 go_enter Tryz.func6, Tryz.ntmps6
 go_wp2_with fail
 have ka0 := KA.at 0
 have ka1 := KA.at 1
 simp at ka0 ka1
 generalize (w.alloc (.cells #[.string s, .string t] 23)).alloc (.cells #[.string ⟨#[]⟩, .string ⟨#[]⟩] 23) = W at *
 go_wp2_with (first
  | (go_at_call 16; go_must (refine (CR' _ pr).mono ?_; rintro e w1 ⟨fa, fl, fc, rfl, ⟨n1, n2⟩, b1⟩; (have al := (Below.refl w1.heap.size w1).alloc (Nat.le_refl _) (.cells #[.bool g, .slice fa.1 fl.1 fc.1, .slice fa.2 fl.2 fc.2] 44)); (have b2 := bel' b1 al); (have pB := bel' pr b2); (have n1 := n1.grow al); (have n2 := n2.grow al); (have KF := Rb.new w1 (.bool g) (.slice fa.1 fl.1 fc.1) (.slice fa.2 fl.2 fc.2) 44); (have kf0 := KF.c0); (have kf1 := KF.c1); (have kf2 := KF.c2); (have KR1 := KR.below b2 KR.lt)))
  | (go_at_call 17; go_must (refine (CF _ fa fl fc n1 n2).mono ?_; rintro e w2 ⟨xa, xl, xc, ya, yl, yc, rfl, ⟨x1, y1⟩, b3⟩; (have al2 := ((Below.refl w2.heap.size w2).alloc (Nat.le_refl _) (.cells #[.bool gz, .slice xa.1 xl.1 xc.1, .slice xa.2 xl.2 xc.2] 44)).alloc (by simp) (.cells #[.bool false, .slice ya.1 yl.1 yc.1, .slice ya.2 yl.2 yc.2] 44)); (have b4 := bel' b3 al2); (have pC := bel' pB b4); (have KR2 := KR1.below b4 KR1.lt); (have KX := (Rb.new w2 (.bool gz) (.slice xa.1 xl.1 xc.1) (.slice xa.2 xl.2 xc.2) 44).alloc (.cells #[.bool false, .slice ya.1 yl.1 yc.1, .slice ya.2 yl.2 yc.2] 44)); (have KY := Rb.new (w2.alloc (.cells #[.bool gz, .slice xa.1 xl.1 xc.1, .slice xa.2 xl.2 xc.2] 44)) (.bool false) (.slice ya.1 yl.1 yc.1) (.slice ya.2 yl.2 yc.2) 44); (have sz : (w2.alloc (.cells #[.bool gz, .slice xa.1 xl.1 xc.1, .slice xa.2 xl.2 xc.2] 44)).heap.size = w2.heap.size + 1 := World.size_alloc _ _); (rw [sz] at KY); (have x1 := (⟨x1.1.grow al2, x1.2.grow al2⟩ : _ ∧ _)); (have y1 := (⟨y1.1.grow al2, y1.2.grow al2⟩ : _ ∧ _)); (have lw := pB.size); (have lw2 := b3.size); (have lr := KR1.lt); clear kf0 kf1 kf2 ka0 ka1 KF))
  | fail)
 have z0 := KY.c2
 generalize ((w2.alloc (.cells #[.bool gz, .slice xa.1 xl.1 xc.1, .slice xa.2 xl.2 xc.2] 44)).alloc (.cells #[.bool false, .slice ya.1 yl.1 yc.1, .slice ya.2 yl.2 yc.2] 44)) = WD at *
 go_region_held3 (fun x => x.cell? ⟨w2.heap.size + 1, 2, none⟩ = some (.slice ya.2 yl.2 yc.2)) (go_keep) (first
  | (go_at_call 19; refine (CO _).mono ?_; rintro e w3 ⟨oa, ol, oc, rfl, on, b5⟩; have b5 := undrew b5; have z1 := (KY.grow b5).c2)
  | (go_at_call 18; refine (CC _ _ _ _ _ _ _ (y1.2.grow b5) on).mono ?_; rintro e w4 ⟨rfl, b6⟩; have b7 := bel' b5 b6; have KX4 := KX.grow b7; have KY4 := KY.grow b7; have KR4 := KR2.below b7 KR2.lt; have x4 := (⟨x1.1.grow b7, x1.2.grow b7⟩ : _ ∧ _); have y4 := (⟨y1.1.grow b7, y1.2.grow b7⟩ : _ ∧ _); have pD := bel' pC b7; have z1 := KY4.c2; have z2 := KY4.c0; have z3 := KY4.c1; have q0 := KX4.c0; have q1 := KX4.c1; have q2 := KX4.c2)
  | fail)
 go_wp2_with (first
  | (go_at_call 20; go_must (refine (CN _ ya yl yc y4.1 y4.2).mono ?_; rintro e w5 ⟨na, nl, nc, rfl, n5, b8⟩; (have KX5 := KX4.grow b8); (have KY5 := KY4.grow b8); (have KR5 := KR4.below b8 KR4.lt); (have wq := wr3 w5 (w2.heap.size + 1) (.bool false) (.slice na.1 nl.1 nc.1) (.slice na.2 nl.2 nc.2)); (have KX := KX5.wr wq (by omega)); (have KR6 := KR5.wr wq (by omega)); (have KN := KY5.sets (.bool false) (.slice na.1 nl.1 nc.1) (.slice na.2 nl.2 nc.2)); (have x5 := (⟨(x4.1.grow b8).putF (x := .bool false) (y := .slice na.1 nl.1 nc.1) (z := .slice na.2 nl.2 nc.2) KY5, (x4.2.grow b8).putF (x := .bool false) (y := .slice na.1 nl.1 nc.1) (z := .slice na.2 nl.2 nc.2) KY5⟩ : _ ∧ _)); (have n6 := (⟨n5.1.putF (x := .bool false) (y := .slice na.1 nl.1 nc.1) (z := .slice na.2 nl.2 nc.2) KY5, n5.2.putF (x := .bool false) (y := .slice na.1 nl.1 nc.1) (z := .slice na.2 nl.2 nc.2) KY5⟩ : _ ∧ _)); (have pE := bset3 (n := w2.heap.size + 1) (x := .bool false) (y := .slice na.1 nl.1 nc.1) (z := .slice na.2 nl.2 nc.2) (bel' pD b8) (by omega)); (have r0 := KY5.c0); (have r1 := KY5.c1); (have r2 := KY5.c2); (have r3 := KY5.f0); (have r4 := KY5.f1); (have r5 := KY5.f2); (have i0 := KX.c0); (have i1 := KX.c1); (have i2 := KX.c2); (have j0 := KN.c0); (have j1 := KN.c1); (have j2 := KN.c2)))
  | (go_at_call 21; go_must (refine (CP _ xa xl xc na nl nc x5 n6).mono ?_; rintro e w6 ⟨z, rfl, CT, b9⟩; (have pF := bel' pE b9)))
  | (go_at_call 22; go_must (refine (CT _ (Below.refl _ _) pF).mono ?_; rintro e w9 ⟨rfl, c9⟩; (have d9 := bel' b9 c9); (have pG := bel' pE d9); (have KR9 := KR6.below d9 KR6.lt); (have m0 := KR9.at 0); (have m1 := KR9.at 1); (have m2 := KR9.free 0); (have m3 := KR9.free 1); (simp at m0 m1)))
  | fail)
 have kE := bput (bput KR9 0 (.string u)) 1 (.string v)
 have bE : Below w.heap.size w ((w9.setCell ⟨w.heap.size + 1, 0, none⟩ (.string u)).setCell ⟨w.heap.size + 1, 1, none⟩ (.string v)) := (pG.setCell (p := ⟨w.heap.size + 1, 0, none⟩) (by show w.heap.size ≤ w.heap.size + 1; omega) _).setCell (p := ⟨w.heap.size + 1, 1, none⟩) (by show w.heap.size ≤ w.heap.size + 1; omega) _
 generalize (w9.setCell ⟨w.heap.size + 1, 0, none⟩ (.string u)).setCell ⟨w.heap.size + 1, 1, none⟩ (.string v) = WE at *
 have e0 := kE.at 0
 have e1 := kE.at 1
 simp at e0 e1
 exact bodyPost_ret (v := .tuple #[.agg #[.string u, .string v], .int .i64 er]) (by simp [results, Tryz.results6, go_sem, e0, e1]) rfl ⟨rfl, bE⟩
set_option maxHeartbeats 6400000 in
set_option maxRecDepth 100000 in
theorem Near_own (s t u v : ByteArray) (g gz : Bool) (O D Z Y er M k : Int) (w : World) (M1 : 1 ≤ M) (M2 : M ≤ 4096) (hk : ¬ k > 0)
  (CR' : ∀ x, Below w.heap.size w x → Calls Tryz.prog 16 #[.agg #[.string s, .string t]] x fun e w' => ∃ (a : Option Addr × Option Addr) (l c : Nat × Nat), e = .returned (.tuple #[.agg #[.bool g, .slice a.1 l.1 c.1, .slice a.2 l.2 c.2], .int .i64 0]) ∧ (Nn w' a.1 l.1 c.1 O ∧ Nn w' a.2 l.2 c.2 D) ∧ Below x.heap.size x w')
  (CF : ∀ x (a : Option Addr × Option Addr) (l c : Nat × Nat), Nn x a.1 l.1 c.1 O → Nn x a.2 l.2 c.2 D → Calls Tryz.prog 17 #[.agg #[.bool g, .slice a.1 l.1 c.1, .slice a.2 l.2 c.2]] x fun e w' => ∃ (xa : Option Addr × Option Addr) (xl xc : Nat × Nat) (ya : Option Addr × Option Addr) (yl yc : Nat × Nat), e = .returned (.tuple #[.agg #[.bool gz, .slice xa.1 xl.1 xc.1, .slice xa.2 xl.2 xc.2], .agg #[.bool false, .slice ya.1 yl.1 yc.1, .slice ya.2 yl.2 yc.2]]) ∧ ((Nn w' xa.1 xl.1 xc.1 Z ∧ Nn w' xa.2 xl.2 xc.2 1) ∧ (Nn w' ya.1 yl.1 yc.1 Y ∧ Nn w' ya.2 yl.2 yc.2 D)) ∧ Below x.heap.size x w')
  (CO : ∀ x, Calls Tryz.prog 19 #[.int .u64 M] x fun e w' => ∃ a l c, e = .returned (.agg #[.slice a l c]) ∧ Nn w' a l c M ∧ Below x.heap.size x w')
  (CC : ∀ x (a b : Option Addr) (l c m d : Nat), Nn x a l c D → Nn x b m d M → Calls Tryz.prog 18 #[.agg #[.slice a l c], .agg #[.slice b m d]] x fun e w' => e = .returned (.int .i64 k) ∧ Below x.heap.size x w')
  (CP : ∀ x (xa : Option Addr × Option Addr) (xl xc : Nat × Nat) (ya : Option Addr × Option Addr) (yl yc : Nat × Nat), (Nn x xa.1 xl.1 xc.1 Z ∧ Nn x xa.2 xl.2 xc.2 1) → (Nn x ya.1 yl.1 yc.1 Y ∧ Nn x ya.2 yl.2 yc.2 D) → Calls Tryz.prog 21 #[.agg #[.bool gz, .slice xa.1 xl.1 xc.1, .slice xa.2 xl.2 xc.2], .agg #[.bool false, .slice ya.1 yl.1 yc.1, .slice ya.2 yl.2 yc.2]] x fun e w' => ∃ z, e = .returned z ∧ (∀ x', Below w'.heap.size w' x' → Below w.heap.size w x' → Calls Tryz.prog 22 #[z] x' fun e w' => e = .returned (.tuple #[.agg #[.string u, .string v], .int .i64 er]) ∧ Below x'.heap.size x' w') ∧ Below x.heap.size x w') :
  Calls Tryz.prog 6 #[.agg #[.string s, .string t], .int .i64 M] w fun e w' => e = .returned (.tuple #[.agg #[.string u, .string v], .int .i64 er]) ∧ Below w.heap.size w w' := by
 have KA := (Blk.new w #[.string s, .string t] 23).alloc (.cells #[.string ⟨#[]⟩, .string ⟨#[]⟩] 23)
 have KR := Blk.new (w.alloc (.cells #[.string s, .string t] 23)) #[.string ⟨#[]⟩, .string ⟨#[]⟩] 23
 simp only [World.size_alloc] at KR
 have pr : Below w.heap.size w ((w.alloc (.cells #[.string s, .string t] 23)).alloc (.cells #[.string ⟨#[]⟩, .string ⟨#[]⟩] 23)) := ((Below.refl _ _).alloc (Nat.le_refl _) _).alloc (by simp) _
 have em : IntKind.u64.wrap M = M := by rw [wrap_u64]; omega
 have m0 : ¬ M < 1 := by omega
 have m1 : ¬ M > 4096 := by omega
 go_enter Tryz.func6, Tryz.ntmps6
 go_wp2_with fail
 have ka0 := KA.at 0
 have ka1 := KA.at 1
 simp at ka0 ka1
 generalize (w.alloc (.cells #[.string s, .string t] 23)).alloc (.cells #[.string ⟨#[]⟩, .string ⟨#[]⟩] 23) = W at *
 go_wp2_with (first
  | (go_at_call 16; go_must (refine (CR' _ pr).mono ?_; rintro e w1 ⟨fa, fl, fc, rfl, ⟨n1, n2⟩, b1⟩; (have al := (Below.refl w1.heap.size w1).alloc (Nat.le_refl _) (.cells #[.bool g, .slice fa.1 fl.1 fc.1, .slice fa.2 fl.2 fc.2] 44)); (have b2 := bel' b1 al); (have pB := bel' pr b2); (have n1 := n1.grow al); (have n2 := n2.grow al); (have KF := Rb.new w1 (.bool g) (.slice fa.1 fl.1 fc.1) (.slice fa.2 fl.2 fc.2) 44); (have kf0 := KF.c0); (have kf1 := KF.c1); (have kf2 := KF.c2); (have KR1 := KR.below b2 KR.lt)))
  | (go_at_call 17; go_must (refine (CF _ fa fl fc n1 n2).mono ?_; rintro e w2 ⟨xa, xl, xc, ya, yl, yc, rfl, ⟨x1, y1⟩, b3⟩; (have al2 := ((Below.refl w2.heap.size w2).alloc (Nat.le_refl _) (.cells #[.bool gz, .slice xa.1 xl.1 xc.1, .slice xa.2 xl.2 xc.2] 44)).alloc (by simp) (.cells #[.bool false, .slice ya.1 yl.1 yc.1, .slice ya.2 yl.2 yc.2] 44)); (have b4 := bel' b3 al2); (have pC := bel' pB b4); (have KR2 := KR1.below b4 KR1.lt); (have KX := (Rb.new w2 (.bool gz) (.slice xa.1 xl.1 xc.1) (.slice xa.2 xl.2 xc.2) 44).alloc (.cells #[.bool false, .slice ya.1 yl.1 yc.1, .slice ya.2 yl.2 yc.2] 44)); (have KY := Rb.new (w2.alloc (.cells #[.bool gz, .slice xa.1 xl.1 xc.1, .slice xa.2 xl.2 xc.2] 44)) (.bool false) (.slice ya.1 yl.1 yc.1) (.slice ya.2 yl.2 yc.2) 44); (have sz : (w2.alloc (.cells #[.bool gz, .slice xa.1 xl.1 xc.1, .slice xa.2 xl.2 xc.2] 44)).heap.size = w2.heap.size + 1 := World.size_alloc _ _); (rw [sz] at KY); (have x1 := (⟨x1.1.grow al2, x1.2.grow al2⟩ : _ ∧ _)); (have y1 := (⟨y1.1.grow al2, y1.2.grow al2⟩ : _ ∧ _)); (have lw := pB.size); (have lw2 := b3.size); (have lr := KR1.lt); clear kf0 kf1 kf2 ka0 ka1 KF))
  | fail)
 have z0 := KY.c2
 generalize ((w2.alloc (.cells #[.bool gz, .slice xa.1 xl.1 xc.1, .slice xa.2 xl.2 xc.2] 44)).alloc (.cells #[.bool false, .slice ya.1 yl.1 yc.1, .slice ya.2 yl.2 yc.2] 44)) = WD at *
 go_region_held3 (fun x => x.cell? ⟨w2.heap.size + 1, 2, none⟩ = some (.slice ya.2 yl.2 yc.2)) (go_keep) (first
  | (go_at_call 19; refine (CO _).mono ?_; rintro e w3 ⟨oa, ol, oc, rfl, on, b5⟩; have b5 := undrew b5; have z1 := (KY.grow b5).c2)
  | (go_at_call 18; refine (CC _ _ _ _ _ _ _ (y1.2.grow b5) on).mono ?_; rintro e w4 ⟨rfl, b6⟩; have b7 := bel' b5 b6; have KX4 := KX.grow b7; have KY4 := KY.grow b7; have KR4 := KR2.below b7 KR2.lt; have x4 := (⟨x1.1.grow b7, x1.2.grow b7⟩ : _ ∧ _); have y4 := (⟨y1.1.grow b7, y1.2.grow b7⟩ : _ ∧ _); have pD := bel' pC b7; have z1 := KY4.c2; have z2 := KY4.c0; have z3 := KY4.c1; have q0 := KX4.c0; have q1 := KX4.c1; have q2 := KX4.c2)
  | fail)
 go_wp2_with (first
  | (go_at_call 21; go_must (refine (CP _ xa xl xc ya yl yc x4 y4).mono ?_; rintro e w6 ⟨z, rfl, CT, b9⟩; (have pF := bel' pD b9)))
  | (go_at_call 22; go_must (refine (CT _ (Below.refl _ _) pF).mono ?_; rintro e w9 ⟨rfl, c9⟩; (have d9 := bel' b9 c9); (have pG := bel' pD d9); (have KR9 := KR4.below d9 KR4.lt); (have m0 := KR9.at 0); (have m1 := KR9.at 1); (have m2 := KR9.free 0); (have m3 := KR9.free 1); (simp at m0 m1)))
  | fail)
 have kE := bput (bput KR9 0 (.string u)) 1 (.string v)
 have bE : Below w.heap.size w ((w9.setCell ⟨w.heap.size + 1, 0, none⟩ (.string u)).setCell ⟨w.heap.size + 1, 1, none⟩ (.string v)) := (pG.setCell (p := ⟨w.heap.size + 1, 0, none⟩) (by show w.heap.size ≤ w.heap.size + 1; omega) _).setCell (p := ⟨w.heap.size + 1, 1, none⟩) (by show w.heap.size ≤ w.heap.size + 1; omega) _
 generalize (w9.setCell ⟨w.heap.size + 1, 0, none⟩ (.string u)).setCell ⟨w.heap.size + 1, 1, none⟩ (.string v) = WE at *
 have e0 := kE.at 0
 have e1 := kE.at 1
 simp at e0 e1
 exact bodyPost_ret (v := .tuple #[.agg #[.string u, .string v], .int .i64 er]) (by simp [results, Tryz.results6, go_sem, e0, e1]) rfl ⟨rfl, bE⟩
end Go.Proofs.YtapdhadpdbmkcaaGreatDoor.Mo

namespace Go.Proofs.YtapdhadpdbmkcaaGreatDoor.Mo
open Go.RowKit Fu Tn Go.Lib Dc

theorem pcm_lt {r s : Rat} (h : r < s) : pcm r s = -1 := by unfold pcm; rw [if_pos h]
theorem pcm_gt {r s : Rat} (h : s < r) : pcm r s = 1 := by unfold pcm; rw [if_neg (by grind), if_pos h]
theorem pcm_self (r : Rat) : pcm r r = 0 := by unfold pcm; rw [if_neg (by grind), if_neg (by grind)]
theorem psg_pos {r : Rat} (h : 0 < r) : psg r = 1 := by
 have : 0 < r.num := by rw [Rat.lt_iff] at h; simpa using h
 unfold psg; rw [if_neg (by omega), if_neg (by omega)]
theorem psg_neg {r : Rat} (h : r < 0) : psg r = -1 := by
 have : r.num < 0 := by rw [Rat.lt_iff] at h; simpa using h
 unfold psg; rw [if_pos this]
theorem psg_zero : psg 0 = 0 := by decide +kernel
theorem psg_bd (r : Rat) : -1 ≤ psg r ∧ psg r ≤ 1 := by unfold psg; split <;> (try split) <;> omega
theorem sB_inj {a b : List UInt8} (h : sB a = sB b) : a = b := by
 have := congrArg (fun s : ByteArray => s.data.toList) h
 simpa [sB] using this
theorem tx_inj {r s : Rat} (h1 : tn r = tn s) (h2 : td r = td s) : r = s := by
 have e1 : decide (r.num < 0) = decide (s.num < 0) := by
  have := congrArg neg h1
  unfold tn at this
  rwa [sg_neg, sg_neg] at this
 have e2 : r.num.natAbs = s.num.natAbs := by
  have := congrArg rest h1
  unfold tn at this
  rw [sg_rest, sg_rest] at this
  have := congrArg Dc.num (sB_inj this)
  rwa [dec_num, dec_num] at this
 have e3 : r.den = s.den := by
  have := congrArg Dc.num (sB_inj h2)
  rwa [dec_num, dec_num] at this
 have e4 : r.num = s.num := by
  rw [decide_eq_decide] at e1
  omega
 exact Rat.ext e4 e3
theorem cmp_c {r s : Rat} {m n : Nat} (h1 : PS r m) (h2 : PS s n) (hm : m < 80) (hn : n < 80) (W : World) : Calls Tryz.prog 10 #[wrt r, wrt s] W fun x w' => x = .returned (.tuple #[.int .i64 (pcm r s), .int .i64 0]) ∧ Below W.heap.size W w' := Cmp_r (h1.rdy (by omega)) (h2.rdy (by omega)) h1 h2 hm hn W
end Go.Proofs.YtapdhadpdbmkcaaGreatDoor.Mo

namespace Go.Proofs.YtapdhadpdbmkcaaGreatDoor.Mo
open Go.RowKit Fu Tn Go.Lib Dc

theorem wrt_nat (n : Nat) : wrt ((n : Int) : Rat) = .agg #[.string (sB (decDigits n)), .string ⟨#[49]⟩] := by
 have e1 : (((n : Int) : Rat)).num = n := rfl
 have e2 : (((n : Int) : Rat)).den = 1 := rfl
 unfold wrt
 rw [e1, e2, decide_eq_false (by omega), show decDigits 1 = [49] by simp [decDigits]]
 simp [sg, sB]
theorem PS.nat {n m : Nat} (h : (n : Int) < pw m) (h1 : 1 ≤ m) : PS ((n : Int) : Rat) m := by
 have e1 : (((n : Int) : Rat)).num = n := rfl
 have e2 : (((n : Int) : Rat)).den = 1 := rfl
 have p1 : pw 1 = 18446744073709551616 := by decide
 have := pw_mono h1
 unfold PS
 rw [e1, e2]
 exact ⟨by simpa using h, by omega⟩
theorem pcm_nat (a b : Nat) : pcm ((a : Int) : Rat) ((b : Int) : Rat) = if a < b then -1 else if b < a then 1 else 0 := by
 unfold pcm
 simp only [Rat.intCast_lt_intCast]
 have e : ∀ u v : Nat, ((u : Int) < (v : Int)) ↔ u < v := fun u v => by omega
 simp only [e]
end Go.Proofs.YtapdhadpdbmkcaaGreatDoor.Mo

namespace Go.Proofs.YtapdhadpdbmkcaaGreatDoor.Mo
open Go.RowKit Fu Tn Go.Lib Dc

theorem int_parts (k : Int) : ((k : Rat)).num = k ∧ ((k : Rat)).den = 1 := ⟨rfl, rfl⟩
theorem floor_size (r : Rat) : (r.floor.natAbs : Int) ≤ (r.num.natAbs : Int) + 1 := by
 have f : r.floor = r.num / (r.den : Int) := by rw [Rat.floor_def]
 have d0 := den_p r
 rw [f]
 by_cases g : 0 ≤ r.num
 ·have a := Int.ediv_nonneg g (show 0 ≤ (r.den : Int) by omega)
  have b := Int.ediv_le_self (r.den : Int) g
  omega
 ·have a : r.num / (r.den : Int) < 0 := Int.ediv_neg_of_neg_of_pos (by omega) d0
  have b : r.num ≤ r.num / (r.den : Int) := by
   rw [Int.le_ediv_iff_mul_le d0]
   have := Int.mul_le_mul_of_nonpos_left (a := r.num) (b := r.den) (c := 1) (by omega) (by omega)
   omega
  omega
theorem sb_cop {a b c d : Nat} (h : c * b = a * d + 1) : a.Coprime b ∧ c.Coprime d := by
 constructor
 ·refine Nat.eq_one_of_dvd_one ?_
  have h1 : a.gcd b ∣ c * b := Nat.dvd_trans (Nat.gcd_dvd_right a b) (Nat.dvd_mul_left b c)
  have h2 : a.gcd b ∣ a * d := Nat.dvd_trans (Nat.gcd_dvd_left a b) (Nat.dvd_mul_right a d)
  rw [h] at h1
  exact (Nat.dvd_add_right h2).1 h1
 ·refine Nat.eq_one_of_dvd_one ?_
  have h1 : c.gcd d ∣ c * b := Nat.dvd_trans (Nat.gcd_dvd_left c d) (Nat.dvd_mul_right c b)
  have h2 : c.gcd d ∣ a * d := Nat.dvd_trans (Nat.gcd_dvd_right c d) (Nat.dvd_mul_left d a)
  rw [h] at h1
  exact (Nat.dvd_add_right h2).1 h1
theorem mk_parts {p q : Nat} (h : p.Coprime q) (q0 : 0 < q) : (mkRat p q).num = p ∧ (mkRat p q).den = q := by
 have e : mkRat p q = ⟨p, q, by omega, by simpa using h⟩ := (Rat.mk_eq_mkRat (p : Int) q (by omega) (by simpa using h)).symm
 rw [e]
 exact ⟨rfl, rfl⟩
theorem floor_ps {r : Rat} (p : PS r 16) : PS (r.floor : Rat) 17 := by
 obtain ⟨e1, e2⟩ := int_parts r.floor
 have := floor_size r
 have := p.1
 have h17 : pw 17 = 18446744073709551616 * pw 16 := rfl
 have h16 : pw 1 ≤ pw 16 := pw_mono (by omega)
 have h1 : pw 1 = 18446744073709551616 := by decide
 unfold PS
 rw [e1, e2]
 exact ⟨by omega, by omega⟩
/-- What the tree comes to. -/
theorem nr_far {r : Rat} {M : Nat} (M1 : 1 ≤ M) (c1 : ¬ r.den ≤ M) : ∃ a1 b1 d1 e1 P1 P2, sb (r.num % r.den).toNat r.den M M 0 1 1 1 = ((a1, b1), (d1, e1)) ∧ pk (r.num % r.den).toNat r.den ((a1, b1), (d1, e1)) = (P1, P2) ∧ nr r M = (r.floor : Rat) + mkRat P1 P2 ∧ P1.Coprime P2 ∧ 0 < P2 ∧ P2 ≤ M ∧ P1 ≤ P2 := by
 obtain ⟨p1, p2, p3, p4⟩ := rest_parts r
 have hD : M < r.den := by omega
 have N0 : 0 < (r.num % r.den).toNat := by
  rcases Nat.eq_zero_or_pos (r.num % r.den).toNat with z | z
  ·rw [z, Nat.coprime_zero_left] at p4; omega
  ·exact z
 have s0 : SB (r.num % r.den).toNat r.den M 0 1 1 1 := ⟨rfl, by omega, by omega, by omega, by omega, M1, M1⟩
 obtain ⟨s1, s2⟩ := sb_end p4 hD M 0 1 1 1 s0 (by omega)
 have en : nr r M = (r.floor : Rat) + mkRat (pk (r.num % r.den).toNat r.den (sb (r.num % r.den).toNat r.den M M 0 1 1 1)).1 (pk (r.num % r.den).toNat r.den (sb (r.num % r.den).toNat r.den M M 0 1 1 1)).2 := by unfold nr; rw [if_neg c1]
 obtain ⟨S, hS⟩ : ∃ S, sb (r.num % r.den).toNat r.den M M 0 1 1 1 = S := ⟨_, rfl⟩
 rw [hS] at s1 s2 en
 obtain ⟨⟨a1, b1⟩, ⟨d1, e1⟩⟩ := S
 simp only at s1 s2
 obtain ⟨T, hT⟩ : ∃ T, pk (r.num % r.den).toNat r.den ((a1, b1), (d1, e1)) = T := ⟨_, rfl⟩
 rw [hT] at en
 obtain ⟨P1, P2⟩ := T
 obtain ⟨k1, k2⟩ := sb_cop s1.h
 have sm := s1.small p3
 refine ⟨a1, b1, d1, e1, P1, P2, hS, hT, en, ?_⟩
 unfold pk at hT
 simp only at hT
 split at hT
 ·injection hT with u1 u2; subst u1 u2; exact ⟨k1, s1.b0, s1.bM, by omega⟩
 ·injection hT with u1 u2; subst u1 u2; exact ⟨k2, s1.d0, s1.dM, by omega⟩
theorem mk_ps {P1 P2 M : Nat} (h : P1.Coprime P2) (h0 : 0 < P2) (h1 : P2 ≤ M) (h2 : P1 ≤ P2) (hM : M ≤ 4096) : PS (mkRat P1 P2) 1 := by
 obtain ⟨m1, m2⟩ := mk_parts h h0
 have h1 : pw 1 = 18446744073709551616 := by decide
 unfold PS
 rw [m1, m2, h1]
 exact ⟨by omega, by omega⟩
theorem nr_ps {r : Rat} {M : Nat} (p : PS r 16) (M1 : 1 ≤ M) (M2 : M ≤ 4096) : PS (nr r M) 19 := by
 by_cases c1 : r.den ≤ M
 ·unfold nr
  rw [if_pos c1]
  exact p.mono (by decide)
 ·obtain ⟨_, _, _, _, P1, P2, _, _, e, h1, h2, h3, h4⟩ := nr_far M1 c1
  rw [e]
  exact ((floor_ps p).add (mk_ps h1 h2 h3 h4 M2)).mono (by decide)
/-- Near of a small number. -/
theorem near_c {r : Rat} {M : Nat} (p : PS r 16) (M1 : 1 ≤ M) (M2 : M ≤ 4096) (w : World) (G : Gw w) :
  Calls Tryz.prog 6 #[wrt r, .int .i64 (M : Int)] w fun x w' => x = .returned (.tuple #[wrt (nr r M), .int .i64 0]) ∧ Below w.heap.size w w' := by
 obtain ⟨p1, p2, p3, p4⟩ := rest_parts r
 obtain ⟨q1, q2⟩ := rest_rat r
 have d0 := den_p r
 have pf := floor_ps p
 have CF : ∀ x (a : Option Addr × Option Addr) (l c : Nat × Nat), Nn x a.1 l.1 c.1 (r.num.natAbs : Int) → Nn x a.2 l.2 c.2 (r.den : Int) → Calls Tryz.prog 17 #[.agg #[.bool (decide (r.num < 0)), .slice a.1 l.1 c.1, .slice a.2 l.2 c.2]] x fun e w' => ∃ (xa : Option Addr × Option Addr) (xl xc : Nat × Nat) (ya : Option Addr × Option Addr) (yl yc : Nat × Nat), e = .returned (.tuple #[.agg #[.bool (decide (r.floor < 0)), .slice xa.1 xl.1 xc.1, .slice xa.2 xl.2 xc.2], .agg #[.bool false, .slice ya.1 yl.1 yc.1, .slice ya.2 yl.2 yc.2]]) ∧ ((Nn w' xa.1 xl.1 xc.1 (r.floor.natAbs : Int) ∧ Nn w' xa.2 xl.2 xc.2 1) ∧ (Nn w' ya.1 yl.1 yc.1 (r.num % r.den) ∧ Nn w' ya.2 yl.2 yc.2 (r.den : Int))) ∧ Below x.heap.size x w' := fun x a l c k1 k2 => by
  refine (Floor_p r 16 ⟨a.1, l.1, c.1⟩ ⟨a.2, l.2, c.2⟩ x k1 k2 p (by decide) (by decide)).mono ?_
  rintro e w' ⟨xa, xl, xc, ya, yl, yc, rfl, ⟨h1, h2, h3⟩, b⟩
  exact ⟨xa, xl, xc, (ya, a.2), (yl, l.2), (yc, c.2), rfl, ⟨h1, h2, h3⟩, b⟩
 have CO := fun x => Of_n (M : Int) x (by omega) (by omega)
 have PL : ∀ (t : Rat) (m : Nat) (_ : PS t m) (_ : m ≤ 16) (_ : 0 ≤ t.num), ∀ x (xa : Option Addr × Option Addr) (xl xc : Nat × Nat) (ya : Option Addr × Option Addr) (yl yc : Nat × Nat), (Nn x xa.1 xl.1 xc.1 (r.floor.natAbs : Int) ∧ Nn x xa.2 xl.2 xc.2 1) → (Nn x ya.1 yl.1 yc.1 (t.num.natAbs : Int) ∧ Nn x ya.2 yl.2 yc.2 (t.den : Int)) → Calls Tryz.prog 21 #[.agg #[.bool (decide (r.floor < 0)), .slice xa.1 xl.1 xc.1, .slice xa.2 xl.2 xc.2], .agg #[.bool false, .slice ya.1 yl.1 yc.1, .slice ya.2 yl.2 yc.2]] x fun e w' => ∃ z, e = .returned z ∧ (∀ x', Below w'.heap.size w' x' → Below w.heap.size w x' → Calls Tryz.prog 22 #[z] x' fun e w' => e = .returned (.tuple #[.agg #[.string (tn ((r.floor : Rat) + t)), .string (td ((r.floor : Rat) + t))], .int .i64 0]) ∧ Below x'.heap.size x' w') ∧ Below x.heap.size x w' := by
  intro t m pt hm t0 x xa xl xc ya yl yc h1 h2
  have f1 : PF x (.agg #[.bool (decide (r.floor < 0)), .slice xa.1 xl.1 xc.1, .slice xa.2 xl.2 xc.2]) (r.floor : Rat) := ⟨_, _, _, _, _, _, rfl, h1.1, h1.2⟩
  have f2 : PF x (.agg #[.bool false, .slice ya.1 yl.1 yc.1, .slice ya.2 yl.2 yc.2]) t := ⟨_, _, _, _, _, _, by rw [decide_eq_false (by omega)], h2.1, h2.2⟩
  refine (Plus_p _ _ _ _ 17 m x f1 f2 pf pt (by unfold MulOK; omega) (by omega)).mono ?_
  rintro e w' ⟨z, rfl, hz, b⟩
  refine ⟨z, rfl, fun x' b1 b2 => ?_, b⟩
  have ps := pf.add pt
  have := Ratio_any z _ x' (hz.grow b1) (ps.mono (n := 1000000) (by omega)) (G.grow b2)
  rw [ps.short (by omega)] at this
  exact this
 by_cases c1 : r.den ≤ M
 ·have e : nr r M = (r.floor : Rat) + (r - (r.floor : Rat)) := by
   unfold nr
   rw [if_pos c1]
   grind
  rw [e]
  have hp : PS (r - (r.floor : Rat)) 16 := by
   unfold PS
   rw [q1, q2]
   have := p.2
   exact ⟨by omega, p.2⟩
  have eY : (r.num % (r.den : Int)) = ((r - (r.floor : Rat)).num.natAbs : Int) := by rw [q1]; omega
  have eD : (r.den : Int) = ((r - (r.floor : Rat)).den : Int) := by rw [q2]
  refine Near_own _ _ _ _ _ _ _ _ _ _ _ _ (cmp3 (r.den : Int) (M : Int)) w (by omega) (by omega) ?_ (fun x _ => Read_r (p.rdy (by decide)) x) CF CO (fun x a b l c m d k1 k2 => Cmp_n k1 k2 p.2 (by decide)) (fun x xa xl xc ya yl yc h1 h2 => PL (r - (r.floor : Rat)) 16 hp (by decide) (by rw [q1]; omega) x xa xl xc ya yl yc h1 ⟨by rw [← eY]; exact h2.1, by rw [← eD]; exact h2.2⟩)
  unfold cmp3
  split <;> (try split) <;> omega
 ·have hD : M < r.den := by omega
  obtain ⟨a1, b1, d1, e1, P1, P2, hS, hT, en, cq⟩ := nr_far M1 c1
  rw [en]
  obtain ⟨m1, m2⟩ := mk_parts cq.1 cq.2.1
  have hp := mk_ps cq.1 cq.2.1 cq.2.2.1 cq.2.2.2 M2
  have eY : (P1 : Int) = ((mkRat P1 P2).num.natAbs : Int) := by rw [m1]; omega
  have eD : (P2 : Int) = ((mkRat P1 P2).den : Int) := by rw [m2]
  refine Near_far _ _ _ _ _ _ _ _ _ _ (P1 : Int) (P2 : Int) _ _ w (by omega) (by omega) (fun x _ => Read_r (p.rdy (by decide)) x) CF CO (fun x a b l c m d k1 k2 => by have := Cmp_n k1 k2 p.2 (show 16 ≤ 1000000 by decide); rw [cmp3_gt (by omega)] at this; exact this) (fun x ya yl yc n1 n2 => ?_) (fun x xa xl xc ya yl yc h1 h2 => PL (mkRat P1 P2) 1 hp (by decide) (by rw [m1]; omega) x xa xl xc ya yl yc h1 ⟨by rw [← eY]; exact h2.1, by rw [← eD]; exact h2.2⟩)
  rw [← p2] at n1
  have kA : (((r.num % r.den).toNat : Nat) : Int) < pw 16 := by have := p.2; omega
  exact nearest_loop ⟨ya.1, yl.1, yc.1⟩ ⟨ya.2, yl.2, yc.2⟩ _ _ M 16 a1 b1 d1 e1 P1 P2 x n1 n2 kA p.2 (by decide) (by decide) p3 p4 hD M2 M1 hS hT
end Go.Proofs.YtapdhadpdbmkcaaGreatDoor.Mo

namespace Go.Proofs.YtapdhadpdbmkcaaGreatDoor.Mo
open Go.RowKit Tn Go.Lib Fu

set_option maxHeartbeats 800000 in
set_option maxRecDepth 100000 in
theorem OfInt_below (k : Int) (w : World) (h0 : -9223372036854775808 ≤ k) (hk : k < 0) :
  Calls Tryz.prog 23 #[.int .i64 k] w fun e w' => ∃ v1 v2 xs ys, e = .returned (.agg #[.bool (decide (k < 0)), v1, v2]) ∧ Rd w' v1 xs ∧ Nm xs ∧ val xs = (k.natAbs : Int) ∧ Rd w' v2 ys ∧ Nm ys ∧ val ys = 1 ∧ Below w.heap.size w w' := by
 have O := fun W => Of_any (k.natAbs : Int) W (by omega) (by omega)
 have e1 : IntKind.u64.wrap k = k + 18446744073709551616 := by rw [wrap_u64]; omega
 have e2 : IntKind.u64.wrap (-(k + 18446744073709551616)) = (k.natAbs : Int) := by rw [wrap_u64]; omega
 have HK : Hid (decide (k < 0) = true ∧ k.natAbs ≠ 0) := ⟨decide_eq_true hk, by omega⟩
 clear h0
 generalize k.natAbs = q at *
 have K1 := Rb.new w (.bool false) (.slice none 0 0) (.slice none 0 0) 44
 have pr : Below w.heap.size w (w.alloc (.cells #[.bool false, .slice none 0 0, .slice none 0 0] 44)) := (Below.refl _ _).alloc (Nat.le_refl _) _
 go_enter Tryz.func23, Tryz.ntmps23
 go_wp2_with (first
  | (go_at_call 19; go_must (refine (O _).mono ?_; rintro e w1 ⟨r, xs, rfl, hr, hn, hv, b1⟩; obtain ⟨a1, m1, c1, rfl⟩ := hr.shape; have HVX : Hid (val xs = (q : Int)) := hv; clear hv))
  | (go_at_call 48; go_must (refine (OfWhole_any true _ xs _ hr hn).mono ?_; rw [show (true && !decide (val xs = 0)) = true from (by rw [HVX.out]; simp; try exact HK.out.2)]; rintro e w2 ⟨r2, ys, rfl, hr1, hr2, hn2, hv2, b2⟩; obtain ⟨a2, m2, c2, rfl⟩ := hr2.shape; have HV2 : Hid (val ys = 1) := hv2; clear hv2; have bb := bel' b1 b2; have R := K1.grow bb; replace pr := bel' pr bb; have r0 := R.c0; have r1 := R.c1; have r2 := R.c2; have s0 := R.f0; have s1 := R.f1; have s2 := R.f2))
  | fail)
 obtain ⟨F0, F1, F2⟩ := R.put (.bool true) (.slice a1 m1 c1) (.slice a2 m2 c2)
 exact bodyPost_ret (v := .agg #[.bool true, .slice a1 m1 c1, .slice a2 m2 c2]) (by simp [results, Tryz.results23, go_sem, F0, F1, F2]) rfl ⟨_, _, xs, ys, by rw [HK.out.1], Rd.putF hr1 R, hn, HVX.out, Rd.putF hr2 R, hn2, HV2.out, bset3 pr (by omega)⟩
theorem OfInt_all (k : Int) (w : World) (h0 : -9223372036854775808 ≤ k) (h1 : k ≤ 9223372036854775807) :
  Calls Tryz.prog 23 #[.int .i64 k] w fun e w' => ∃ v, e = .returned v ∧ PF w' v (k : Rat) ∧ Below w.heap.size w w' := by
 by_cases hk : k < 0
 ·refine (OfInt_below k w h0 hk).mono ?_
  rintro e w' ⟨v1, v2, xs, ys, rfl, r1, n1, q1, r2, n2, q2, b⟩
  obtain ⟨a, l, c, rfl⟩ := r1.shape
  obtain ⟨a', l', c', rfl⟩ := r2.shape
  exact ⟨_, rfl, ⟨a, l, c, a', l', c', rfl, ⟨xs, r1, n1, q1⟩, ⟨ys, r2, n2, q2⟩⟩, b⟩
 ·exact OfInt_p k w (by omega) h1
set_option maxRecDepth 100000 in
set_option maxHeartbeats 1600000 in
/-- ratio.Of of two ints, any one above. -/
theorem Of_all (p q : Int) (w : World) (hp0 : -9223372036854775808 ≤ p) (hp1 : p ≤ 9223372036854775807) (hq0 : -9223372036854775807 ≤ q) (hq1 : q ≤ 9223372036854775807) (hq : q ≠ 0) (G : Gw w) :
  Calls Tryz.prog 7 #[.int .i64 p, .int .i64 q] w fun e w' => e = .returned (.tuple #[wrt ((p : Rat) / (q : Rat)), .int .i64 0]) ∧ Below w.heap.size w w' := by
 have q0 : (q : Rat) ≠ 0 := by simpa using hq
 have hqb : (q == 0) = false := by simpa using hq
 have O1 := fun x => OfInt_all p x hp0 hp1
 have O2 := fun x => OfInt_p q x hq0 hq1
 have IV := fun v x h => Inverse_p v (q : Rat) x h q0
 have TM := fun v1 v2 x h1 h2 => Times_p v1 v2 (p : Rat) ((q : Rat))⁻¹ 1 1 x h1 h2 (int_ps p (by omega)) (inv_ps (int_ps q (by omega)) q0) ⟨by omega, by decide, by decide⟩
 have RT := fun v x h g => Ratio_one v ((p : Rat) * ((q : Rat))⁻¹) x h (quot_small p q hq (by omega) (by omega)) g
 rw [Rat.div_def]
 have WF : ∃ s t, wrt ((p : Rat) * ((q : Rat))⁻¹) = .agg #[.string s, .string t] := ⟨_, _, rfl⟩
 obtain ⟨s, t, e⟩ := WF
 rw [e] at RT ⊢
 generalize (p : Rat) * ((q : Rat))⁻¹ = z at *
 generalize ((q : Rat))⁻¹ = qi at *
 generalize (p : Rat) = pr at *
 generalize (q : Rat) = qr at *
 clear e q0 hp0 hp1 hq0 hq1 hq
 have KR := Blk.new w #[.string ⟨#[]⟩, .string ⟨#[]⟩] 23
 have pr0 : Below w.heap.size w (w.alloc (.cells #[.string ⟨#[]⟩, .string ⟨#[]⟩] 23)) := (Below.refl _ _).alloc (Nat.le_refl _) _
 go_enter Tryz.func7, Tryz.ntmps7
 go_wp2_with (first
  | (go_at_call 22; refine (RT _ _ f4 (G.grow p4)).mono ?_; rintro e w5 ⟨rfl, b5⟩; have p5 := bel' p4 b5; have KR5 := KR4.below b5 KR4.lt; have kr0 := KR5.at 0; have kr1 := KR5.at 1; have kf0 := KR5.free 0; have kf1 := KR5.free 1; simp at kr0 kr1)
  | (go_at_call 24; refine (TM _ _ _ (f1.grow (bel' b2 b3)) f3).mono ?_; rintro e w4 ⟨v4, rfl, f4, b4⟩; have p4 := bel' p3 b4; have KR4 := KR3.below b4 KR3.lt)
  | (go_at_call 25; refine (IV _ _ f2).mono ?_; rintro e w3 ⟨v3, rfl, f3, b3⟩; have p3 := bel' p2 b3; have KR3 := KR2.below b3 KR2.lt)
  | (go_at_call 23; have q := b1; refine (O2 _).mono ?_; rintro e w2 ⟨v2, rfl, f2, b2⟩; have p2 := bel' p1 b2; have KR2 := KR1.below b2 KR1.lt)
  | (go_at_call 23; refine (O1 _).mono ?_; rintro e w1 ⟨v1, rfl, f1, b1⟩; have p1 := bel' pr0 b1; have KR1 := KR.below b1 KR.lt)
  | fail)
 have KE := bput (bput KR5 0 (.string s)) 1 (.string t)
 have bE := (p5.setCell (p := ⟨w.heap.size, 0, none⟩) (Nat.le_refl _) (.string s)).setCell (p := ⟨w.heap.size, 1, none⟩) (Nat.le_refl _) (.string t)
 generalize (w5.setCell ⟨w.heap.size, 0, none⟩ (.string s)).setCell ⟨w.heap.size, 1, none⟩ (.string t) = WE at *
 have z0 := KE.at 0
 have z1 := KE.at 1
 simp at z0 z1
 exact bodyPost_ret (v := .tuple #[.agg #[.string s, .string t], .int .i64 0]) (by simp [results, Tryz.results7, go_sem, z0, z1]) rfl ⟨rfl, bE⟩
end Go.Proofs.YtapdhadpdbmkcaaGreatDoor.Mo

namespace Go.Proofs.YtapdhadpdbmkcaaGreatDoor.Mo
open Go.RowKit Fu Tn Go.Lib

/-- A mark on the way. -/
def Tk (_ : Nat) : Prop := True
theorem rcells {W : World} {n : Nat} {s t : ByteArray} (h : Blk W n #[.string s, .string t] 23) : W.cell? ⟨n, 0, none⟩ = some (.string s) ∧ W.cell? ⟨n, 1, none⟩ = some (.string t) ∧ n < W.heap.size := ⟨by simpa using h.at 0, by simpa using h.at 1, h.lt⟩
/-- Three exact numbers in their boxes. -/
structure R3 (w W : World) (an ad bn bd cn cd : ByteArray) : Prop where
 k0 : Blk W w.heap.size #[.string an, .string ad] 23
 k1 : Blk W (w.heap.size + 1) #[.string bn, .string bd] 23
 k2 : Blk W (w.heap.size + 1 + 1) #[.string cn, .string cd] 23
 gw : Gw W
 bel : Below w.heap.size w W
theorem R3.grow {w W W' : World} {an ad bn bd cn cd : ByteArray} (h : R3 w W an ad bn bd cn cd) (b : Below W.heap.size W W') : R3 w W' an ad bn bd cn cd := ⟨h.k0.below b h.k0.lt, h.k1.below b h.k1.lt, h.k2.below b h.k2.lt, h.gw.grow b, bel' h.bel b⟩
theorem R3.cells {w W : World} {an ad bn bd cn cd : ByteArray} (h : R3 w W an ad bn bd cn cd) : W.cell? ⟨w.heap.size, 0, none⟩ = some (.string an) ∧ W.cell? ⟨w.heap.size, 1, none⟩ = some (.string ad) ∧ W.cell? ⟨w.heap.size + 1, 0, none⟩ = some (.string bn) ∧ W.cell? ⟨w.heap.size + 1, 1, none⟩ = some (.string bd) ∧ W.cell? ⟨w.heap.size + 1 + 1, 0, none⟩ = some (.string cn) ∧ W.cell? ⟨w.heap.size + 1 + 1, 1, none⟩ = some (.string cd) ∧ w.heap.size + 1 + 1 < W.heap.size := ⟨by simpa using h.k0.at 0, by simpa using h.k0.at 1, by simpa using h.k1.at 0, by simpa using h.k1.at 1, by simpa using h.k2.at 0, by simpa using h.k2.at 1, h.k2.lt⟩
theorem R3.new (w : World) (an ad bn bd cn cd : ByteArray) (H : Gw w) : R3 w (((w.alloc (.cells #[.string an, .string ad] 23)).alloc (.cells #[.string bn, .string bd] 23)).alloc (.cells #[.string cn, .string cd] 23)) an ad bn bd cn cd := by
 have K1 := Blk.new (w.alloc (.cells #[.string an, .string ad] 23)) #[.string bn, .string bd] 23
 have K2 := Blk.new ((w.alloc (.cells #[.string an, .string ad] 23)).alloc (.cells #[.string bn, .string bd] 23)) #[.string cn, .string cd] 23
 simp only [World.size_alloc] at K1 K2
 exact ⟨((Blk.new w _ _).alloc _).alloc _, K1.alloc _, K2, ((H.alloc _).alloc _).alloc _, (((Below.refl _ _).alloc (Nat.le_refl _) _).alloc (by simp) _).alloc (by simp; omega) _⟩
end Go.Proofs.YtapdhadpdbmkcaaGreatDoor.Mo
