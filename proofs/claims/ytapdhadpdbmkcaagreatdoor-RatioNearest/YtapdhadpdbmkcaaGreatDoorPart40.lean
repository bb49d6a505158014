import Derived.Test.YtapdhadpdbmkcaaGreatDoorPart27
import Derived.Test.YtapdhadpdbmkcaaGreatDoorPart39
import Derived.Test.YtapdhadpdbmkcaaGreatDoorPart33

namespace Go.Proofs.YtapdhadpdbmkcaaGreatDoor.Mo
open Go.RowKit Fu Tn Go.Lib Dc

theorem cel2 {x : World} {n : Nat} {a b : Value} {t : TypeId} (h : Blk x n #[a, b] t) : x.cell? ⟨n, 0, none⟩ = some a ∧ x.cell? ⟨n, 1, none⟩ = some b := ⟨by simpa using h.at 0, by simpa using h.at 1⟩
set_option maxHeartbeats 3200000 in
set_option maxRecDepth 100000 in
/-- A small fraction as one. -/
theorem fraction_n (p q : Int) (w : World) (p0 : 0 ≤ p) (p1 : p ≤ 9223372036854775807) (q0 : 0 ≤ q) (q1 : q ≤ 9223372036854775807) :
  Calls Tryz.prog 51 #[.agg #[.int .u64 p, .int .u64 q]] w fun e w' => ∃ (a : Option Addr × Option Addr) (l c : Nat × Nat), e = .returned (.agg #[.bool false, .slice a.1 l.1 c.1, .slice a.2 l.2 c.2]) ∧ (Nn w' a.1 l.1 c.1 p ∧ Nn w' a.2 l.2 c.2 q) ∧ Below w.heap.size w w' := by
 have K0 := (Blk.new w #[.int .u64 p, .int .u64 q] 77).alloc (.cells #[.bool false, .slice none 0 0, .slice none 0 0] 44)
 have KR := Rb.new (w.alloc (.cells #[.int .u64 p, .int .u64 q] 77)) (.bool false) (.slice none 0 0) (.slice none 0 0) 44
 have pr : Below w.heap.size w ((w.alloc (.cells #[.int .u64 p, .int .u64 q] 77)).alloc (.cells #[.bool false, .slice none 0 0, .slice none 0 0] 44)) := ((Below.refl _ _).alloc (Nat.le_refl _) _).alloc (by simp) _
 simp only [World.size_alloc] at KR
 have O1 := fun W => Of_n p W p0 (by omega)
 have O2 := fun W => Of_n q W q0 (by omega)
 clear p0 p1 q0 q1
 go_enter Tryz.func51, Tryz.ntmps51
 go_wp2_with fail
 obtain ⟨k0, k1⟩   := cel2 K0
 generalize (w.alloc (.cells #[.int .u64 p, .int .u64 q] 77)).alloc (.cells #[.bool false, .slice none 0 0, .slice none 0 0] 44) = W at *
 go_region_held3 (fun x => x.cell? ⟨w.heap.size, 0, none⟩ = some (.int .u64 p) ∧ x.cell? ⟨w.heap.size, 1, none⟩ = some (.int .u64 q)) (go_keep) (first
  | (go_at_call 19; (have z := b1); refine (O2 _).mono ?_; rintro e w2 ⟨a2, l2, c2, rfl, n2, b2⟩; have b2' := bel' b1 b2; have K2 := K0.below b2' K0.lt; have ⟨g0, g1⟩   := cel2 K2; have R := KR.grow b2'; have r0 := R.c0; have r1 := R.c1; have r2 := R.c2; have s0 := R.f0; have s1 := R.f1; have s2 := R.f2)
  | (go_at_call 19; refine (O1 _).mono ?_; rintro e w1 ⟨a1, l1, c1, rfl, n1, b1⟩; have b1 := undrew b1; have K1 := K0.below b1 K0.lt; have ⟨g0, g1⟩ := cel2 K1)
  | fail)
 go_wp2_with fail
 have N1 := (n1.grow b2).putF (x := .bool false) (y := .slice a1 l1 c1) (z := .slice a2 l2 c2) R
 have N2 := n2.putF (x := .bool false) (y := .slice a1 l1 c1) (z := .slice a2 l2 c2) R
 obtain ⟨z0, z1, z2⟩ := R.put (.bool false) (.slice a1 l1 c1) (.slice a2 l2 c2)
 have BE := bset3 (n := w.heap.size + 1) (x := .bool false) (y := .slice a1 l1 c1) (z := .slice a2 l2 c2) (bel' pr b2') (by omega)
 generalize ((w2.setCell ⟨w.heap.size + 1, 0, none⟩ (.bool false)).setCell ⟨w.heap.size + 1, 1, none⟩ (.slice a1 l1 c1)).setCell ⟨w.heap.size + 1, 2, none⟩ (.slice a2 l2 c2) = WE at *
 exact bodyPost_ret (v := .agg #[.bool false, .slice a1 l1 c1, .slice a2 l2 c2]) (by simp [results, Tryz.results51, go_sem, z0, z1, z2]) rfl ⟨(a1, a2), (l1, l2), (c1, c2), rfl, ⟨N1, N2⟩, BE⟩
/-- What the loop's variables hold. -/
structure NL (w x : World) (U V : Wl) (a b c d : Nat) : Prop where
 kF : Rb x w.heap.size (.bool false) (.slice U.a U.l U.c) (.slice V.a V.l V.c)
 kR : Rb x (w.heap.size + 1) (.bool false) (.slice none 0 0) (.slice none 0 0)
 kL : Blk x (w.heap.size + 1 + 1) #[.int .u64 (a : Int), .int .u64 (b : Int)] 77
 kH : Blk x (w.heap.size + 1 + 1 + 1) #[.int .u64 (c : Int), .int .u64 (d : Int)] 77
 bel : Below w.heap.size w x
theorem NL.grow {w x x' : World} {U V : Wl} {a b c d : Nat} (h : NL w x U V a b c d) (k : Below x.heap.size x x') : NL w x' U V a b c d :=
 ⟨h.kF.grow k, h.kR.grow k, h.kL.below k h.kL.lt, h.kH.below k h.kH.lt, bel' h.bel k⟩
theorem NL.cells {w x : World} {U V : Wl} {a b c d : Nat} (h : NL w x U V a b c d) : x.cell? ⟨w.heap.size + 1 + 1, 0, none⟩ = some (.int .u64 (a : Int)) ∧ x.cell? ⟨w.heap.size + 1 + 1, 1, none⟩ = some (.int .u64 (b : Int)) ∧ x.cell? ⟨w.heap.size + 1 + 1 + 1, 0, none⟩ = some (.int .u64 (c : Int)) ∧ x.cell? ⟨w.heap.size + 1 + 1 + 1, 1, none⟩ = some (.int .u64 (d : Int)) ∧ w.heap.size + 1 + 1 + 1 < x.heap.size :=
 ⟨(cel2 h.kL).1, (cel2 h.kL).2, (cel2 h.kH).1, (cel2 h.kH).2, h.kH.lt⟩
theorem NL.three {w x : World} {U V : Wl} {a b c d : Nat} (h : NL w x U V a b c d) : x.cell? ⟨w.heap.size, 0, none⟩ = some (.bool false) ∧ x.cell? ⟨w.heap.size, 1, none⟩ = some (.slice U.a U.l U.c) ∧ x.cell? ⟨w.heap.size, 2, none⟩ = some (.slice V.a V.l V.c) := ⟨h.kF.c0, h.kF.c1, h.kF.c2⟩
theorem SB.small {N D M a b c d : Nat} (s : SB N D M a b c d) (h : N < D) : a < b ∧ c ≤ d := by
 have h1 : a < b := by
  have l := s.lo
  have : N * b ≤ D * b := Nat.mul_le_mul_right b (by omega)
  have : a * D < b * D := by rw [Nat.mul_comm b D]; omega
  exact Nat.lt_of_mul_lt_mul_right this
 refine ⟨h1, ?_⟩
 have e := s.h
 have : a * d + d ≤ b * d := by have := Nat.mul_le_mul_right d (show a + 1 ≤ b by omega); rw [Nat.add_mul] at this; omega
 have d0 := s.d0
 have : c * b ≤ d * b := by rw [Nat.mul_comm d b]; omega
 exact Nat.le_of_mul_le_mul_right this s.b0
end Go.Proofs.YtapdhadpdbmkcaaGreatDoor.Mo
