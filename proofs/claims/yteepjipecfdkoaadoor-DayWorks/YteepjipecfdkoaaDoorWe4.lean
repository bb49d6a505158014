import Derived.Test.YteepjipecfdkoaaDoorWe3
import Derived.Test.YteepjipecfdkoaaDoorDy10
import Derived.Deep.RegionHeld3
namespace Go.Proofs.YteepjipecfdkoaaDoor.Dy
open Go.RowKit Tn
set_option maxHeartbeats 1600000 in
theorem Work_bad (y m d N : Int) (v : Value) (f : Nat → Int × Int × Int) (n : Nat) (w : World) (G : Gl w) (S : Rs w v n f) (h : Int) (NU : ∀ W, Gl W → Calls Tryd.prog 6 #[.agg #[.int .i64 y, .int .i64 m, .int .i64 d]] W fun e w' => e = .returned (.tuple #[.int .i64 N, .int .i64 70]) ∧ Below W.heap.size W w') : Calls Tryd.prog 4 #[.agg #[.int .i64 y, .int .i64 m, .int .i64 d], v, .int .i64 h] w fun x w' => x = .returned (.tuple #[.agg #[.int .i64 0, .int .i64 0, .int .i64 0], .int .i64 70]) ∧ Below w.heap.size w w' := by
  have Ka0 := (Blk.new w #[.int .i64 y, .int .i64 m, .int .i64 d] 23).alloc (.cells #[.int .i64 0, .int .i64 0, .int .i64 0] 23)
  have R0 := Blk.new (w.alloc (.cells #[.int .i64 y, .int .i64 m, .int .i64 d] 23)) #[.int .i64 0, .int .i64 0, .int .i64 0] 23
  rw [show (w.alloc (.cells #[.int .i64 y, .int .i64 m, .int .i64 d] 23)).heap.size = w.heap.size + 1 by simp] at R0
  have pr := belT (bl (w := w) #[.int .i64 y, .int .i64 m, .int .i64 d] 23) (bl (w := (w.alloc (.cells #[.int .i64 y, .int .i64 m, .int .i64 d] 23))) #[.int .i64 0, .int .i64 0, .int .i64 0] 23)
  have G0 := ((G).alloc (.cells #[.int .i64 y, .int .i64 m, .int .i64 d] 23)).alloc (.cells #[.int .i64 0, .int .i64 0, .int .i64 0] 23)
  clear G
  go_enter Tryd.func4, Tryd.ntmps4
  go_wp2_with (first
    | (go_at_call 6; refine (NU _ G0).mono ?_; rintro x w1 ⟨rfl, b1⟩; have Ka1 := Ka0.below b1 Ka0.lt; have ka10 := Ka1.c0; have ka11 := Ka1.c1; have ka12 := Ka1.c2; have ka1l := Ka1.lt; have R1 := R0.below b1 R0.lt; have r10 := R1.c0; have r11 := R1.c1; have r12 := R1.c2; have r1l := R1.lt; have G1 := G0.grow b1; have p1 := belT pr b1; have rf10 := R1.free 0; have rf11 := R1.free 1; have rf12 := R1.free 2; have S1 := S.grow p1)
    | fail)
  have KE := dput3 R1 (0) (0) (0)
  have bE := dset3 (x := .int .i64 (0)) (y := .int .i64 (0)) (z := .int .i64 (0)) p1 (show w.heap.size ≤ (w.heap.size + 1) by omega)
  generalize ((w1.setCell ⟨(w.heap.size + 1), 0, none⟩ (.int .i64 (0))).setCell ⟨(w.heap.size + 1), 1, none⟩ (.int .i64 (0))).setCell ⟨(w.heap.size + 1), 2, none⟩ (.int .i64 (0)) = WE at *
  have z0 := KE.c0
  have z1 := KE.c1
  have z2 := KE.c2
  exact bodyPost_ret (v := .tuple #[.agg #[.int .i64 0, .int .i64 0, .int .i64 0], .int .i64 70]) (by simp [results, Tryd.results4, go_sem, z0, z1, z2]) rfl ⟨rfl, bE⟩
set_option maxHeartbeats 1600000 in
theorem Work_free (y m d N : Int) (v : Value) (f : Nat → Int × Int × Int) (n : Nat) (w : World) (G : Gl w) (S : Rs w v n f) (h E : Int) (NU : ∀ W, Gl W → Calls Tryd.prog 6 #[.agg #[.int .i64 y, .int .i64 m, .int .i64 d]] W fun e w' => e = .returned (.tuple #[.int .i64 N, .int .i64 0]) ∧ Below W.heap.size W w') (FN : ∀ W, Rs W v n f → Gl W → Calls Tryd.prog 7 #[v] W fun e w' => ∃ v', e = .returned (.tuple #[v', .int .i64 E]) ∧ True ∧ Below W.heap.size W w') (hE : E ≠ 0) : Calls Tryd.prog 4 #[.agg #[.int .i64 y, .int .i64 m, .int .i64 d], v, .int .i64 h] w fun x w' => x = .returned (.tuple #[.agg #[.int .i64 0, .int .i64 0, .int .i64 0], .int .i64 E]) ∧ Below w.heap.size w w' := by
  have Ka0 := (Blk.new w #[.int .i64 y, .int .i64 m, .int .i64 d] 23).alloc (.cells #[.int .i64 0, .int .i64 0, .int .i64 0] 23)
  have R0 := Blk.new (w.alloc (.cells #[.int .i64 y, .int .i64 m, .int .i64 d] 23)) #[.int .i64 0, .int .i64 0, .int .i64 0] 23
  rw [show (w.alloc (.cells #[.int .i64 y, .int .i64 m, .int .i64 d] 23)).heap.size = w.heap.size + 1 by simp] at R0
  have pr := belT (bl (w := w) #[.int .i64 y, .int .i64 m, .int .i64 d] 23) (bl (w := (w.alloc (.cells #[.int .i64 y, .int .i64 m, .int .i64 d] 23))) #[.int .i64 0, .int .i64 0, .int .i64 0] 23)
  have G0 := ((G).alloc (.cells #[.int .i64 y, .int .i64 m, .int .i64 d] 23)).alloc (.cells #[.int .i64 0, .int .i64 0, .int .i64 0] 23)
  clear G
  go_enter Tryd.func4, Tryd.ntmps4
  go_wp2_with (first
    | (go_at_call 6; refine (NU _ G0).mono ?_; rintro x w1 ⟨rfl, b1⟩; have Ka1 := Ka0.below b1 Ka0.lt; have ka10 := Ka1.c0; have ka11 := Ka1.c1; have ka12 := Ka1.c2; have ka1l := Ka1.lt; have R1 := R0.below b1 R0.lt; have r10 := R1.c0; have r11 := R1.c1; have r12 := R1.c2; have r1l := R1.lt; have G1 := G0.grow b1; have p1 := belT pr b1; have rf10 := R1.free 0; have rf11 := R1.free 1; have rf12 := R1.free 2; have S1 := S.grow p1)
    | (go_at_call 7; refine (FN _ S1 G1).mono ?_; rintro x w2 ⟨vv, rfl, so2, b2⟩; have Ka2 := Ka1.below b2 Ka1.lt; have ka20 := Ka2.c0; have ka21 := Ka2.c1; have ka22 := Ka2.c2; have ka2l := Ka2.lt; have R2 := R1.below b2 R1.lt; have r20 := R2.c0; have r21 := R2.c1; have r22 := R2.c2; have r2l := R2.lt; have G2 := G1.grow b2; have p2 := belT p1 b2; have rf20 := R2.free 0; have rf21 := R2.free 1; have rf22 := R2.free 2)
    | fail)
  have KE := dput3 R2 (0) (0) (0)
  have bE := dset3 (x := .int .i64 (0)) (y := .int .i64 (0)) (z := .int .i64 (0)) p2 (show w.heap.size ≤ (w.heap.size + 1) by omega)
  generalize ((w2.setCell ⟨(w.heap.size + 1), 0, none⟩ (.int .i64 (0))).setCell ⟨(w.heap.size + 1), 1, none⟩ (.int .i64 (0))).setCell ⟨(w.heap.size + 1), 2, none⟩ (.int .i64 (0)) = WE at *
  have z0 := KE.c0
  have z1 := KE.c1
  have z2 := KE.c2
  exact bodyPost_ret (v := .tuple #[.agg #[.int .i64 0, .int .i64 0, .int .i64 0], .int .i64 E]) (by simp [results, Tryd.results4, go_sem, z0, z1, z2]) rfl ⟨rfl, bE⟩
set_option maxHeartbeats 1600000 in
theorem Work_on (y m d N : Int) (v : Value) (f : Nat → Int × Int × Int) (n : Nat) (w : World) (G : Gl w) (S : Rs w v n f) (X a b c r : Int) (L : List Int) (NU : ∀ W, Gl W → Calls Tryd.prog 6 #[.agg #[.int .i64 y, .int .i64 m, .int .i64 d]] W fun e w' => e = .returned (.tuple #[.int .i64 N, .int .i64 0]) ∧ Below W.heap.size W w') (FN : ∀ W, Rs W v n f → Gl W → Calls Tryd.prog 7 #[v] W fun e w' => ∃ v', e = .returned (.tuple #[v', .int .i64 0]) ∧ So w' v' L ∧ Below W.heap.size W w') (WF : ∀ v' W, So W v' L → Calls Tryd.prog 9 #[.int .i64 N, .int .i64 1, v'] W fun e w' => e = .returned (.int .i64 X) ∧ Below W.heap.size W w') (FR : ∀ W, Gl W → Calls Tryd.prog 8 #[.int .i64 X] W fun e w' => e = .returned (.tuple #[.agg #[.int .i64 a, .int .i64 b, .int .i64 c], .int .i64 r]) ∧ Below W.heap.size W w') : Calls Tryd.prog 4 #[.agg #[.int .i64 y, .int .i64 m, .int .i64 d], v, .int .i64 1] w fun x w' => x = .returned (.tuple #[.agg #[.int .i64 a, .int .i64 b, .int .i64 c], .int .i64 r]) ∧ Below w.heap.size w w' := by
  have Ka0 := (Blk.new w #[.int .i64 y, .int .i64 m, .int .i64 d] 23).alloc (.cells #[.int .i64 0, .int .i64 0, .int .i64 0] 23)
  have R0 := Blk.new (w.alloc (.cells #[.int .i64 y, .int .i64 m, .int .i64 d] 23)) #[.int .i64 0, .int .i64 0, .int .i64 0] 23
  rw [show (w.alloc (.cells #[.int .i64 y, .int .i64 m, .int .i64 d] 23)).heap.size = w.heap.size + 1 by simp] at R0
  have pr := belT (bl (w := w) #[.int .i64 y, .int .i64 m, .int .i64 d] 23) (bl (w := (w.alloc (.cells #[.int .i64 y, .int .i64 m, .int .i64 d] 23))) #[.int .i64 0, .int .i64 0, .int .i64 0] 23)
  have G0 := ((G).alloc (.cells #[.int .i64 y, .int .i64 m, .int .i64 d] 23)).alloc (.cells #[.int .i64 0, .int .i64 0, .int .i64 0] 23)
  clear G
  go_enter Tryd.func4, Tryd.ntmps4
  go_wp2_with (first
    | (go_at_call 6; refine (NU _ G0).mono ?_; rintro x w1 ⟨rfl, b1⟩; have Ka1 := Ka0.below b1 Ka0.lt; have ka10 := Ka1.c0; have ka11 := Ka1.c1; have ka12 := Ka1.c2; have ka1l := Ka1.lt; have R1 := R0.below b1 R0.lt; have r10 := R1.c0; have r11 := R1.c1; have r12 := R1.c2; have r1l := R1.lt; have G1 := G0.grow b1; have p1 := belT pr b1; have rf10 := R1.free 0; have rf11 := R1.free 1; have rf12 := R1.free 2; have S1 := S.grow p1)
    | (go_at_call 7; refine (FN _ S1 G1).mono ?_; rintro x w2 ⟨vv, rfl, so2, b2⟩; have Ka2 := Ka1.below b2 Ka1.lt; have ka20 := Ka2.c0; have ka21 := Ka2.c1; have ka22 := Ka2.c2; have ka2l := Ka2.lt; have R2 := R1.below b2 R1.lt; have r20 := R2.c0; have r21 := R2.c1; have r22 := R2.c2; have r2l := R2.lt; have G2 := G1.grow b2; have p2 := belT p1 b2)
    | (go_at_call 9; refine (WF _ _ so2).mono ?_; rintro x w3 ⟨rfl, b3⟩; have Ka3 := Ka2.below b3 Ka2.lt; have ka30 := Ka3.c0; have ka31 := Ka3.c1; have ka32 := Ka3.c2; have ka3l := Ka3.lt; have R3 := R2.below b3 R2.lt; have r30 := R3.c0; have r31 := R3.c1; have r32 := R3.c2; have r3l := R3.lt; have G3 := G2.grow b3; have p3 := belT p2 b3; have so3 := so2.grow b3)
    | (go_at_call 8; refine (FR _ G3).mono ?_; rintro x w4 ⟨rfl, b4⟩; have Ka4 := Ka3.below b4 Ka3.lt; have ka40 := Ka4.c0; have ka41 := Ka4.c1; have ka42 := Ka4.c2; have ka4l := Ka4.lt; have R4 := R3.below b4 R3.lt; have r40 := R4.c0; have r41 := R4.c1; have r42 := R4.c2; have r4l := R4.lt; have G4 := G3.grow b4; have p4 := belT p3 b4; have rf40 := R4.free 0; have rf41 := R4.free 1; have rf42 := R4.free 2; have so4 := so3.grow b4)
    | fail)
  have KE := dput3 R4 (a) (b) (c)
  have bE := dset3 (x := .int .i64 (a)) (y := .int .i64 (b)) (z := .int .i64 (c)) p4 (show w.heap.size ≤ (w.heap.size + 1) by omega)
  generalize ((w4.setCell ⟨(w.heap.size + 1), 0, none⟩ (.int .i64 (a))).setCell ⟨(w.heap.size + 1), 1, none⟩ (.int .i64 (b))).setCell ⟨(w.heap.size + 1), 2, none⟩ (.int .i64 (c)) = WE at *
  have z0 := KE.c0
  have z1 := KE.c1
  have z2 := KE.c2
  exact bodyPost_ret (v := .tuple #[.agg #[.int .i64 a, .int .i64 b, .int .i64 c], .int .i64 r]) (by simp [results, Tryd.results4, go_sem, z0, z1, z2]) rfl ⟨rfl, bE⟩
set_option maxHeartbeats 1600000 in
theorem Work_back (y m d N : Int) (v : Value) (f : Nat → Int × Int × Int) (n : Nat) (w : World) (G : Gl w) (S : Rs w v n f) (X a b c r : Int) (L : List Int) (NU : ∀ W, Gl W → Calls Tryd.prog 6 #[.agg #[.int .i64 y, .int .i64 m, .int .i64 d]] W fun e w' => e = .returned (.tuple #[.int .i64 N, .int .i64 0]) ∧ Below W.heap.size W w') (FN : ∀ W, Rs W v n f → Gl W → Calls Tryd.prog 7 #[v] W fun e w' => ∃ v', e = .returned (.tuple #[v', .int .i64 0]) ∧ So w' v' L ∧ Below W.heap.size W w') (WF : ∀ v' W, So W v' L → Calls Tryd.prog 9 #[.int .i64 N, .int .i64 (-1), v'] W fun e w' => e = .returned (.int .i64 X) ∧ Below W.heap.size W w') (FR : ∀ W, Gl W → Calls Tryd.prog 8 #[.int .i64 X] W fun e w' => e = .returned (.tuple #[.agg #[.int .i64 a, .int .i64 b, .int .i64 c], .int .i64 r]) ∧ Below W.heap.size W w') : Calls Tryd.prog 4 #[.agg #[.int .i64 y, .int .i64 m, .int .i64 d], v, .int .i64 2] w fun x w' => x = .returned (.tuple #[.agg #[.int .i64 a, .int .i64 b, .int .i64 c], .int .i64 r]) ∧ Below w.heap.size w w' := by
  have Ka0 := (Blk.new w #[.int .i64 y, .int .i64 m, .int .i64 d] 23).alloc (.cells #[.int .i64 0, .int .i64 0, .int .i64 0] 23)
  have R0 := Blk.new (w.alloc (.cells #[.int .i64 y, .int .i64 m, .int .i64 d] 23)) #[.int .i64 0, .int .i64 0, .int .i64 0] 23
  rw [show (w.alloc (.cells #[.int .i64 y, .int .i64 m, .int .i64 d] 23)).heap.size = w.heap.size + 1 by simp] at R0
  have pr := belT (bl (w := w) #[.int .i64 y, .int .i64 m, .int .i64 d] 23) (bl (w := (w.alloc (.cells #[.int .i64 y, .int .i64 m, .int .i64 d] 23))) #[.int .i64 0, .int .i64 0, .int .i64 0] 23)
  have G0 := ((G).alloc (.cells #[.int .i64 y, .int .i64 m, .int .i64 d] 23)).alloc (.cells #[.int .i64 0, .int .i64 0, .int .i64 0] 23)
  clear G
  go_enter Tryd.func4, Tryd.ntmps4
  go_wp2_with (first
    | (go_at_call 6; refine (NU _ G0).mono ?_; rintro x w1 ⟨rfl, b1⟩; have Ka1 := Ka0.below b1 Ka0.lt; have ka10 := Ka1.c0; have ka11 := Ka1.c1; have ka12 := Ka1.c2; have ka1l := Ka1.lt; have R1 := R0.below b1 R0.lt; have r10 := R1.c0; have r11 := R1.c1; have r12 := R1.c2; have r1l := R1.lt; have G1 := G0.grow b1; have p1 := belT pr b1; have rf10 := R1.free 0; have rf11 := R1.free 1; have rf12 := R1.free 2; have S1 := S.grow p1)
    | (go_at_call 7; refine (FN _ S1 G1).mono ?_; rintro x w2 ⟨vv, rfl, so2, b2⟩; have Ka2 := Ka1.below b2 Ka1.lt; have ka20 := Ka2.c0; have ka21 := Ka2.c1; have ka22 := Ka2.c2; have ka2l := Ka2.lt; have R2 := R1.below b2 R1.lt; have r20 := R2.c0; have r21 := R2.c1; have r22 := R2.c2; have r2l := R2.lt; have G2 := G1.grow b2; have p2 := belT p1 b2)
    | (go_at_call 9; refine (WF _ _ so2).mono ?_; rintro x w3 ⟨rfl, b3⟩; have Ka3 := Ka2.below b3 Ka2.lt; have ka30 := Ka3.c0; have ka31 := Ka3.c1; have ka32 := Ka3.c2; have ka3l := Ka3.lt; have R3 := R2.below b3 R2.lt; have r30 := R3.c0; have r31 := R3.c1; have r32 := R3.c2; have r3l := R3.lt; have G3 := G2.grow b3; have p3 := belT p2 b3; have so3 := so2.grow b3)
    | (go_at_call 8; refine (FR _ G3).mono ?_; rintro x w4 ⟨rfl, b4⟩; have Ka4 := Ka3.below b4 Ka3.lt; have ka40 := Ka4.c0; have ka41 := Ka4.c1; have ka42 := Ka4.c2; have ka4l := Ka4.lt; have R4 := R3.below b4 R3.lt; have r40 := R4.c0; have r41 := R4.c1; have r42 := R4.c2; have r4l := R4.lt; have G4 := G3.grow b4; have p4 := belT p3 b4; have rf40 := R4.free 0; have rf41 := R4.free 1; have rf42 := R4.free 2; have so4 := so3.grow b4)
    | fail)
  have KE := dput3 R4 (a) (b) (c)
  have bE := dset3 (x := .int .i64 (a)) (y := .int .i64 (b)) (z := .int .i64 (c)) p4 (show w.heap.size ≤ (w.heap.size + 1) by omega)
  generalize ((w4.setCell ⟨(w.heap.size + 1), 0, none⟩ (.int .i64 (a))).setCell ⟨(w.heap.size + 1), 1, none⟩ (.int .i64 (b))).setCell ⟨(w.heap.size + 1), 2, none⟩ (.int .i64 (c)) = WE at *
  have z0 := KE.c0
  have z1 := KE.c1
  have z2 := KE.c2
  exact bodyPost_ret (v := .tuple #[.agg #[.int .i64 a, .int .i64 b, .int .i64 c], .int .i64 r]) (by simp [results, Tryd.results4, go_sem, z0, z1, z2]) rfl ⟨rfl, bE⟩
set_option maxHeartbeats 1600000 in
theorem Work_none (y m d N : Int) (v : Value) (f : Nat → Int × Int × Int) (n : Nat) (w : World) (G : Gl w) (S : Rs w v n f) (h : Int) (h1 : h ≠ 1) (h2 : h ≠ 2) (h3 : h ≠ 3) (L : List Int) (NU : ∀ W, Gl W → Calls Tryd.prog 6 #[.agg #[.int .i64 y, .int .i64 m, .int .i64 d]] W fun e w' => e = .returned (.tuple #[.int .i64 N, .int .i64 0]) ∧ Below W.heap.size W w') (FN : ∀ W, Rs W v n f → Gl W → Calls Tryd.prog 7 #[v] W fun e w' => ∃ v', e = .returned (.tuple #[v', .int .i64 0]) ∧ So w' v' L ∧ Below W.heap.size W w') : Calls Tryd.prog 4 #[.agg #[.int .i64 y, .int .i64 m, .int .i64 d], v, .int .i64 h] w fun x w' => x = .returned (.tuple #[.agg #[.int .i64 0, .int .i64 0, .int .i64 0], .int .i64 1]) ∧ Below w.heap.size w w' := by
  have Ka0 := (Blk.new w #[.int .i64 y, .int .i64 m, .int .i64 d] 23).alloc (.cells #[.int .i64 0, .int .i64 0, .int .i64 0] 23)
  have R0 := Blk.new (w.alloc (.cells #[.int .i64 y, .int .i64 m, .int .i64 d] 23)) #[.int .i64 0, .int .i64 0, .int .i64 0] 23
  rw [show (w.alloc (.cells #[.int .i64 y, .int .i64 m, .int .i64 d] 23)).heap.size = w.heap.size + 1 by simp] at R0
  have pr := belT (bl (w := w) #[.int .i64 y, .int .i64 m, .int .i64 d] 23) (bl (w := (w.alloc (.cells #[.int .i64 y, .int .i64 m, .int .i64 d] 23))) #[.int .i64 0, .int .i64 0, .int .i64 0] 23)
  have G0 := ((G).alloc (.cells #[.int .i64 y, .int .i64 m, .int .i64 d] 23)).alloc (.cells #[.int .i64 0, .int .i64 0, .int .i64 0] 23)
  clear G
  go_enter Tryd.func4, Tryd.ntmps4
  go_wp2_with (first
    | (go_at_call 6; refine (NU _ G0).mono ?_; rintro x w1 ⟨rfl, b1⟩; have Ka1 := Ka0.below b1 Ka0.lt; have ka10 := Ka1.c0; have ka11 := Ka1.c1; have ka12 := Ka1.c2; have ka1l := Ka1.lt; have R1 := R0.below b1 R0.lt; have r10 := R1.c0; have r11 := R1.c1; have r12 := R1.c2; have r1l := R1.lt; have G1 := G0.grow b1; have p1 := belT pr b1; have rf10 := R1.free 0; have rf11 := R1.free 1; have rf12 := R1.free 2; have S1 := S.grow p1)
    | (go_at_call 7; refine (FN _ S1 G1).mono ?_; rintro x w2 ⟨vv, rfl, so2, b2⟩; have Ka2 := Ka1.below b2 Ka1.lt; have ka20 := Ka2.c0; have ka21 := Ka2.c1; have ka22 := Ka2.c2; have ka2l := Ka2.lt; have R2 := R1.below b2 R1.lt; have r20 := R2.c0; have r21 := R2.c1; have r22 := R2.c2; have r2l := R2.lt; have G2 := G1.grow b2; have p2 := belT p1 b2; have rf20 := R2.free 0; have rf21 := R2.free 1; have rf22 := R2.free 2)
    | fail)
  have KE := dput3 R2 (0) (0) (0)
  have bE := dset3 (x := .int .i64 (0)) (y := .int .i64 (0)) (z := .int .i64 (0)) p2 (show w.heap.size ≤ (w.heap.size + 1) by omega)
  generalize ((w2.setCell ⟨(w.heap.size + 1), 0, none⟩ (.int .i64 (0))).setCell ⟨(w.heap.size + 1), 1, none⟩ (.int .i64 (0))).setCell ⟨(w.heap.size + 1), 2, none⟩ (.int .i64 (0)) = WE at *
  have z0 := KE.c0
  have z1 := KE.c1
  have z2 := KE.c2
  exact bodyPost_ret (v := .tuple #[.agg #[.int .i64 0, .int .i64 0, .int .i64 0], .int .i64 1]) (by simp [results, Tryd.results4, go_sem, z0, z1, z2]) rfl ⟨rfl, bE⟩
end Go.Proofs.YteepjipecfdkoaaDoor.Dy
