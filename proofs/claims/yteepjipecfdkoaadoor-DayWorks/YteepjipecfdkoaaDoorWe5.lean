import Derived.Test.YteepjipecfdkoaaDoorWe4
import Derived.Test.YteepjipecfdkoaaDoorDy15
import Derived.Deep.DeepCutAuto
namespace Go.Proofs.YteepjipecfdkoaaDoor.Dy
open Go.RowKit Tn
/-- What lies where, behind the first way. -/
def Ws (w W : World) (y m d a b c : Int) (B : Nat) (vv : Value) (L : List Int) : Prop :=
  Blk W w.heap.size #[.int .i64 y, .int .i64 m, .int .i64 d] 23 ∧ Blk W (w.heap.size + 1) #[.int .i64 0, .int .i64 0, .int .i64 0] 23 ∧ Blk W B #[.int .i64 a, .int .i64 b, .int .i64 c] 23 ∧ Gl W ∧ So W vv L ∧ Below w.heap.size w W
theorem Ws.grow {w W W' : World} {y m d a b c : Int} {B : Nat} {vv : Value} {L : List Int} (h : Ws w W y m d a b c B vv L) (k : Below W.heap.size W W') : Ws w W' y m d a b c B vv L :=
  ⟨h.1.below k h.1.lt, h.2.1.below k h.2.1.lt, h.2.2.1.below k h.2.2.1.lt, h.2.2.2.1.grow k, h.2.2.2.2.1.grow k, belT h.2.2.2.2.2 k⟩
theorem Ws.new {w W : World} {y m d : Int} {vv : Value} {L : List Int} (a b c : Int) (h1 : Blk W w.heap.size #[.int .i64 y, .int .i64 m, .int .i64 d] 23) (h2 : Blk W (w.heap.size + 1) #[.int .i64 0, .int .i64 0, .int .i64 0] 23) (h3 : Gl W) (h4 : So W vv L) (h5 : Below w.heap.size w W) :
    Ws w (W.alloc (.cells #[.int .i64 a, .int .i64 b, .int .i64 c] 23)) y m d a b c W.heap.size vv L :=
  ⟨h1.alloc _, h2.alloc _, Blk.new W _ _, h3.alloc _, h4.alloc _, belT h5 (bl _ _)⟩
set_option maxHeartbeats 3200000 in
theorem Work_in (y m d N : Int) (v : Value) (f : Nat → Int × Int × Int) (n : Nat) (w : World) (G : Gl w) (S : Rs w v n f) (X a b c r : Int) (L : List Int) (NU : ∀ W, Gl W → Calls Tryd.prog 6 #[.agg #[.int .i64 y, .int .i64 m, .int .i64 d]] W fun e w' => e = .returned (.tuple #[.int .i64 N, .int .i64 0]) ∧ Below W.heap.size W w') (FN : ∀ W, Rs W v n f → Gl W → Calls Tryd.prog 7 #[v] W fun e w' => ∃ v', e = .returned (.tuple #[v', .int .i64 0]) ∧ So w' v' L ∧ Below W.heap.size W w') (WF : ∀ v' W, So W v' L → Calls Tryd.prog 9 #[.int .i64 N, .int .i64 1, v'] W fun e w' => e = .returned (.int .i64 X) ∧ Below W.heap.size W w') (FR : ∀ W, Gl W → Calls Tryd.prog 8 #[.int .i64 X] W fun e w' => e = .returned (.tuple #[.agg #[.int .i64 a, .int .i64 b, .int .i64 c], .int .i64 r]) ∧ Below W.heap.size W w') (k1 : Int) (M1 : ∀ W, Calls Tryd.prog 10 #[.agg #[.int .i64 a, .int .i64 b, .int .i64 c]] W fun e w' => e = .returned (.int .i64 k1) ∧ Below W.heap.size W w') (M2 : ∀ W, Calls Tryd.prog 10 #[.agg #[.int .i64 y, .int .i64 m, .int .i64 d]] W fun e w' => e = .returned (.int .i64 k1) ∧ Below W.heap.size W w') (hr : r = 0) : Calls Tryd.prog 4 #[.agg #[.int .i64 y, .int .i64 m, .int .i64 d], v, .int .i64 3] w fun x w' => x = .returned (.tuple #[.agg #[.int .i64 a, .int .i64 b, .int .i64 c], .int .i64 0]) ∧ Below w.heap.size w w' := by
  have Ka0 := (Blk.new w #[.int .i64 y, .int .i64 m, .int .i64 d] 23).alloc (.cells #[.int .i64 0, .int .i64 0, .int .i64 0] 23)
  have R0 := Blk.new (w.alloc (.cells #[.int .i64 y, .int .i64 m, .int .i64 d] 23)) #[.int .i64 0, .int .i64 0, .int .i64 0] 23
  rw [show (w.alloc (.cells #[.int .i64 y, .int .i64 m, .int .i64 d] 23)).heap.size = w.heap.size + 1 by simp] at R0
  have pr := belT (bl (w := w) #[.int .i64 y, .int .i64 m, .int .i64 d] 23) (bl (w := (w.alloc (.cells #[.int .i64 y, .int .i64 m, .int .i64 d] 23))) #[.int .i64 0, .int .i64 0, .int .i64 0] 23)
  have G0 := ((G).alloc (.cells #[.int .i64 y, .int .i64 m, .int .i64 d] 23)).alloc (.cells #[.int .i64 0, .int .i64 0, .int .i64 0] 23)
  clear G
  go_enter Tryd.func4, Tryd.ntmps4
  go_wp2_with (first
    | (go_at_call 6; refine (NU _ G0).mono ?_; rintro x w1 ⟨rfl, b1⟩; have Ka1 := Ka0.below b1 Ka0.lt; have ka10 := Ka1.c0; have ka11 := Ka1.c1; have ka12 := Ka1.c2; have ka1l := Ka1.lt; have R1 := R0.below b1 R0.lt; have r10 := R1.c0; have r11 := R1.c1; have r12 := R1.c2; have r1l := R1.lt; have G1 := G0.grow b1; have p1 := belT pr b1; have rf10 := R1.free 0; have rf11 := R1.free 1; have rf12 := R1.free 2; have S1 := S.grow p1)
    | (go_at_call 7; refine (FN _ S1 G1).mono ?_; rintro x w2 ⟨vv, rfl, so2, b2⟩; have Ka2 := Ka1.below b2 Ka1.lt; have ka20 := Ka2.c0; have ka21 := Ka2.c1; have ka22 := Ka2.c2; have ka2l := Ka2.lt; have R2 := R1.below b2 R1.lt; have r20 := R2.c0; have r21 := R2.c1; have r22 := R2.c2; have r2l := R2.lt; have G2 := G1.grow b2; have p2 := belT p1 b2)
    | (go_at_call 9; refine (WF _ _ so2).mono ?_; rintro x w3 ⟨rfl, b3⟩; have Ka3 := Ka2.below b3 Ka2.lt; have ka30 := Ka3.c0; have ka31 := Ka3.c1; have ka32 := Ka3.c2; have ka3l := Ka3.lt; have R3 := R2.below b3 R2.lt; have r30 := R3.c0; have r31 := R3.c1; have r32 := R3.c2; have r3l := R3.lt; have G3 := G2.grow b3; have p3 := belT p2 b3; have so3 := so2.grow b3)
    | (go_at_call 8; refine (FR _ G3).mono ?_; rintro x w4 ⟨rfl, b4⟩; have Ka4 := Ka3.below b4 Ka3.lt; have ka40 := Ka4.c0; have ka41 := Ka4.c1; have ka42 := Ka4.c2; have ka4l := Ka4.lt; have R4 := R3.below b4 R3.lt; have r40 := R4.c0; have r41 := R4.c1; have r42 := R4.c2; have r4l := R4.lt; have G4 := G3.grow b4; have p4 := belT p3 b4; have rf40 := R4.free 0; have rf41 := R4.free 1; have rf42 := R4.free 2; have so4 := so3.grow b4)
    | fail)
  have T5 := Ws.new a b c Ka4 R4 G4 so4 p4
  generalize w4.heap.size = B at *
  generalize w4.alloc (.cells #[.int .i64 a, .int .i64 b, .int .i64 c] 23) = W5 at *
  have ka50 := T5.1.c0
  have ka51 := T5.1.c1
  have ka52 := T5.1.c2
  have r50 := T5.2.1.c0
  have r51 := T5.2.1.c1
  have r52 := T5.2.1.c2
  have q50 := T5.2.2.1.c0
  have q51 := T5.2.2.1.c1
  have q52 := T5.2.2.1.c2
  have rf50 := T5.2.1.free 0
  have rf51 := T5.2.1.free 1
  have rf52 := T5.2.1.free 2
  have l5a := T5.1.lt
  have l5b := T5.2.1.lt
  have l5c := T5.2.2.1.lt
  subst hr
  clear Ka0 R0 Ka1 R1 Ka2 R2 Ka3 R3 Ka4 R4 G0 G1 G2 G3 G4 so2 so3 so4 p1 p2 p3 p4 pr S S1 b1 b2 b3 b4 NU FN WF FR
  go_cut [59] from 51 to 58 (fun x wc => x = .bool true ∧ Ws w wc y m d a b c B vv L)
  case first =>
    go_region_with (first
      | (go_at_call 10; have T6' := T6; (refine (M2 _).mono ?_); rintro x w7 ⟨rfl, b7⟩; have T7 := T6.grow (undr b7))
      | (go_at_call 10; have T6' := T6; (refine (M2 _).mono ?_); rintro x w7 ⟨rfl, b7⟩; have T7 := T6.grow b7)
      | (go_at_call 10; (refine (M1 _).mono ?_); rintro x w6 ⟨rfl, b6⟩; have T6 := T5.grow (undr b6); have ka60 := T6.1.c0; have ka61 := T6.1.c1; have ka62 := T6.1.c2; have r60 := T6.2.1.c0; have r61 := T6.2.1.c1; have r62 := T6.2.1.c2; have q60 := T6.2.2.1.c0; have q61 := T6.2.2.1.c1; have q62 := T6.2.2.1.c2; have rf60 := T6.2.1.free 0; have rf61 := T6.2.1.free 1; have rf62 := T6.2.1.free 2; have l6a := T6.1.lt; have l6b := T6.2.1.lt; have l6c := T6.2.2.1.lt))
    all_goals
      go_wp2_with fail
      go_meet
      case rel => exact ⟨rfl, T7⟩
  case rest =>
    rename_i wc
    obtain ⟨rfl, T8⟩ := hcut
    have ka80 := T8.1.c0
    have ka81 := T8.1.c1
    have ka82 := T8.1.c2
    have r80 := T8.2.1.c0
    have r81 := T8.2.1.c1
    have r82 := T8.2.1.c2
    have q80 := T8.2.2.1.c0
    have q81 := T8.2.2.1.c1
    have q82 := T8.2.2.1.c2
    have rf80 := T8.2.1.free 0
    have rf81 := T8.2.1.free 1
    have rf82 := T8.2.1.free 2
    have l8a := T8.1.lt
    have l8b := T8.2.1.lt
    have l8c := T8.2.2.1.lt
    have G8 := T8.2.2.2.1
    have so8 := T8.2.2.2.2.1
    have p8 := T8.2.2.2.2.2
    have R8 := T8.2.1
    have Ka8 := T8.1
    go_wp2_with fail
    have KE := dput3 R8 (a) (b) (c)
    have bE := dset3 (x := .int .i64 (a)) (y := .int .i64 (b)) (z := .int .i64 (c)) p8 (show w.heap.size ≤ (w.heap.size + 1) by omega)
    generalize ((wc.setCell ⟨(w.heap.size + 1), 0, none⟩ (.int .i64 (a))).setCell ⟨(w.heap.size + 1), 1, none⟩ (.int .i64 (b))).setCell ⟨(w.heap.size + 1), 2, none⟩ (.int .i64 (c)) = WE at *
    have z0 := KE.c0
    have z1 := KE.c1
    have z2 := KE.c2
    exact bodyPost_ret (v := .tuple #[.agg #[.int .i64 a, .int .i64 b, .int .i64 c], .int .i64 0]) (by simp [results, Tryd.results4, go_sem, z0, z1, z2]) rfl ⟨rfl, bE⟩
set_option maxHeartbeats 3200000 in
theorem Work_out (y m d N : Int) (v : Value) (f : Nat → Int × Int × Int) (n : Nat) (w : World) (G : Gl w) (S : Rs w v n f) (X a b c r : Int) (L : List Int) (NU : ∀ W, Gl W → Calls Tryd.prog 6 #[.agg #[.int .i64 y, .int .i64 m, .int .i64 d]] W fun e w' => e = .returned (.tuple #[.int .i64 N, .int .i64 0]) ∧ Below W.heap.size W w') (FN : ∀ W, Rs W v n f → Gl W → Calls Tryd.prog 7 #[v] W fun e w' => ∃ v', e = .returned (.tuple #[v', .int .i64 0]) ∧ So w' v' L ∧ Below W.heap.size W w') (WF : ∀ v' W, So W v' L → Calls Tryd.prog 9 #[.int .i64 N, .int .i64 1, v'] W fun e w' => e = .returned (.int .i64 X) ∧ Below W.heap.size W w') (FR : ∀ W, Gl W → Calls Tryd.prog 8 #[.int .i64 X] W fun e w' => e = .returned (.tuple #[.agg #[.int .i64 a, .int .i64 b, .int .i64 c], .int .i64 r]) ∧ Below W.heap.size W w') (k1 k2 : Int) (M1 : ∀ W, Calls Tryd.prog 10 #[.agg #[.int .i64 a, .int .i64 b, .int .i64 c]] W fun e w' => e = .returned (.int .i64 k1) ∧ Below W.heap.size W w') (M2 : ∀ W, Calls Tryd.prog 10 #[.agg #[.int .i64 y, .int .i64 m, .int .i64 d]] W fun e w' => e = .returned (.int .i64 k2) ∧ Below W.heap.size W w') (X2 a2 b2 c2 r2 : Int) (WB : ∀ v' W, So W v' L → Calls Tryd.prog 9 #[.int .i64 N, .int .i64 (-1), v'] W fun e w' => e = .returned (.int .i64 X2) ∧ Below W.heap.size W w') (FB : ∀ W, Gl W → Calls Tryd.prog 8 #[.int .i64 X2] W fun e w' => e = .returned (.tuple #[.agg #[.int .i64 a2, .int .i64 b2, .int .i64 c2], .int .i64 r2]) ∧ Below W.heap.size W w') (hr : r = 0) (hk : (k1 == k2) = false) : Calls Tryd.prog 4 #[.agg #[.int .i64 y, .int .i64 m, .int .i64 d], v, .int .i64 3] w fun x w' => x = .returned (.tuple #[.agg #[.int .i64 a2, .int .i64 b2, .int .i64 c2], .int .i64 r2]) ∧ Below w.heap.size w w' := by
  have Ka0 := (Blk.new w #[.int .i64 y, .int .i64 m, .int .i64 d] 23).alloc (.cells #[.int .i64 0, .int .i64 0, .int .i64 0] 23)
  have R0 := Blk.new (w.alloc (.cells #[.int .i64 y, .int .i64 m, .int .i64 d] 23)) #[.int .i64 0, .int .i64 0, .int .i64 0] 23
  rw [show (w.alloc (.cells #[.int .i64 y, .int .i64 m, .int .i64 d] 23)).heap.size = w.heap.size + 1 by simp] at R0
  have pr := belT (bl (w := w) #[.int .i64 y, .int .i64 m, .int .i64 d] 23) (bl (w := (w.alloc (.cells #[.int .i64 y, .int .i64 m, .int .i64 d] 23))) #[.int .i64 0, .int .i64 0, .int .i64 0] 23)
  have G0 := ((G).alloc (.cells #[.int .i64 y, .int .i64 m, .int .i64 d] 23)).alloc (.cells #[.int .i64 0, .int .i64 0, .int .i64 0] 23)
  clear G
  go_enter Tryd.func4, Tryd.ntmps4
  go_wp2_with (first
    | (go_at_call 6; refine (NU _ G0).mono ?_; rintro x w1 ⟨rfl, b1⟩; have Ka1 := Ka0.below b1 Ka0.lt; have ka10 := Ka1.c0; have ka11 := Ka1.c1; have ka12 := Ka1.c2; have ka1l := Ka1.lt; have R1 := R0.below b1 R0.lt; have r10 := R1.c0; have r11 := R1.c1; have r12 := R1.c2; have r1l := R1.lt; have G1 := G0.grow b1; have p1 := belT pr b1; have rf10 := R1.free 0; have rf11 := R1.free 1; have rf12 := R1.free 2; have S1 := S.grow p1)
    | (go_at_call 7; refine (FN _ S1 G1).mono ?_; rintro x w2 ⟨vv, rfl, so2, b2⟩; have Ka2 := Ka1.below b2 Ka1.lt; have ka20 := Ka2.c0; have ka21 := Ka2.c1; have ka22 := Ka2.c2; have ka2l := Ka2.lt; have R2 := R1.below b2 R1.lt; have r20 := R2.c0; have r21 := R2.c1; have r22 := R2.c2; have r2l := R2.lt; have G2 := G1.grow b2; have p2 := belT p1 b2)
    | (go_at_call 9; refine (WF _ _ so2).mono ?_; rintro x w3 ⟨rfl, b3⟩; have Ka3 := Ka2.below b3 Ka2.lt; have ka30 := Ka3.c0; have ka31 := Ka3.c1; have ka32 := Ka3.c2; have ka3l := Ka3.lt; have R3 := R2.below b3 R2.lt; have r30 := R3.c0; have r31 := R3.c1; have r32 := R3.c2; have r3l := R3.lt; have G3 := G2.grow b3; have p3 := belT p2 b3; have so3 := so2.grow b3)
    | (go_at_call 8; refine (FR _ G3).mono ?_; rintro x w4 ⟨rfl, b4⟩; have Ka4 := Ka3.below b4 Ka3.lt; have ka40 := Ka4.c0; have ka41 := Ka4.c1; have ka42 := Ka4.c2; have ka4l := Ka4.lt; have R4 := R3.below b4 R3.lt; have r40 := R4.c0; have r41 := R4.c1; have r42 := R4.c2; have r4l := R4.lt; have G4 := G3.grow b4; have p4 := belT p3 b4; have rf40 := R4.free 0; have rf41 := R4.free 1; have rf42 := R4.free 2; have so4 := so3.grow b4)
    | fail)
  have T5 := Ws.new a b c Ka4 R4 G4 so4 p4
  generalize w4.heap.size = B at *
  generalize w4.alloc (.cells #[.int .i64 a, .int .i64 b, .int .i64 c] 23) = W5 at *
  have ka50 := T5.1.c0
  have ka51 := T5.1.c1
  have ka52 := T5.1.c2
  have r50 := T5.2.1.c0
  have r51 := T5.2.1.c1
  have r52 := T5.2.1.c2
  have q50 := T5.2.2.1.c0
  have q51 := T5.2.2.1.c1
  have q52 := T5.2.2.1.c2
  have rf50 := T5.2.1.free 0
  have rf51 := T5.2.1.free 1
  have rf52 := T5.2.1.free 2
  have l5a := T5.1.lt
  have l5b := T5.2.1.lt
  have l5c := T5.2.2.1.lt
  subst hr
  clear Ka0 R0 Ka1 R1 Ka2 R2 Ka3 R3 Ka4 R4 G0 G1 G2 G3 G4 so2 so3 so4 p1 p2 p3 p4 pr S S1 b1 b2 b3 b4 NU FN WF FR
  go_cut [59] from 51 to 58 (fun x wc => x = .bool false ∧ Ws w wc y m d a b c B vv L)
  case first =>
    go_region_with (first
      | (go_at_call 10; have T6' := T6; (refine (M2 _).mono ?_); rintro x w7 ⟨rfl, b7⟩; have T7 := T6.grow (undr b7))
      | (go_at_call 10; have T6' := T6; (refine (M2 _).mono ?_); rintro x w7 ⟨rfl, b7⟩; have T7 := T6.grow b7)
      | (go_at_call 10; (refine (M1 _).mono ?_); rintro x w6 ⟨rfl, b6⟩; have T6 := T5.grow (undr b6); have ka60 := T6.1.c0; have ka61 := T6.1.c1; have ka62 := T6.1.c2; have r60 := T6.2.1.c0; have r61 := T6.2.1.c1; have r62 := T6.2.1.c2; have q60 := T6.2.2.1.c0; have q61 := T6.2.2.1.c1; have q62 := T6.2.2.1.c2; have rf60 := T6.2.1.free 0; have rf61 := T6.2.1.free 1; have rf62 := T6.2.1.free 2; have l6a := T6.1.lt; have l6b := T6.2.1.lt; have l6c := T6.2.2.1.lt))
    all_goals
      go_wp2_with fail
      go_meet
      case rel => exact ⟨rfl, T7⟩
  case rest =>
    obtain ⟨rfl, T8⟩ := hcut
    have ka80 := T8.1.c0
    have ka81 := T8.1.c1
    have ka82 := T8.1.c2
    have r80 := T8.2.1.c0
    have r81 := T8.2.1.c1
    have r82 := T8.2.1.c2
    have q80 := T8.2.2.1.c0
    have q81 := T8.2.2.1.c1
    have q82 := T8.2.2.1.c2
    have rf80 := T8.2.1.free 0
    have rf81 := T8.2.1.free 1
    have rf82 := T8.2.1.free 2
    have l8a := T8.1.lt
    have l8b := T8.2.1.lt
    have l8c := T8.2.2.1.lt
    have G8 := T8.2.2.2.1
    have so8 := T8.2.2.2.2.1
    have p8 := T8.2.2.2.2.2
    have R8 := T8.2.1
    have Ka8 := T8.1
    go_wp2_with (first
      | (go_at_call 9; refine (WB _ _ so8).mono ?_; rintro x w9 ⟨rfl, b9⟩; have R9 := R8.below b9 R8.lt; have G9 := G8.grow b9; have p9 := belT p8 b9)
      | (go_at_call 8; refine (FB _ G9).mono ?_; rintro x w10 ⟨rfl, b10⟩; have R10 := R9.below b10 R9.lt; have p10 := belT p9 b10; have r100 := R10.c0; have rf100 := R10.free 0; have r101 := R10.c1; have rf101 := R10.free 1; have r102 := R10.c2; have rf102 := R10.free 2; have r10l := R10.lt)
      | fail)
    have KE := dput3 R10 (a2) (b2) (c2)
    have bE := dset3 (x := .int .i64 (a2)) (y := .int .i64 (b2)) (z := .int .i64 (c2)) p10 (show w.heap.size ≤ (w.heap.size + 1) by omega)
    generalize ((w10.setCell ⟨(w.heap.size + 1), 0, none⟩ (.int .i64 (a2))).setCell ⟨(w.heap.size + 1), 1, none⟩ (.int .i64 (b2))).setCell ⟨(w.heap.size + 1), 2, none⟩ (.int .i64 (c2)) = WE at *
    have z0 := KE.c0
    have z1 := KE.c1
    have z2 := KE.c2
    exact bodyPost_ret (v := .tuple #[.agg #[.int .i64 a2, .int .i64 b2, .int .i64 c2], .int .i64 r2]) (by simp [results, Tryd.results4, go_sem, z0, z1, z2]) rfl ⟨rfl, bE⟩
set_option maxHeartbeats 3200000 in
theorem Work_beyond (y m d N : Int) (v : Value) (f : Nat → Int × Int × Int) (n : Nat) (w : World) (G : Gl w) (S : Rs w v n f) (X a b c r : Int) (L : List Int) (NU : ∀ W, Gl W → Calls Tryd.prog 6 #[.agg #[.int .i64 y, .int .i64 m, .int .i64 d]] W fun e w' => e = .returned (.tuple #[.int .i64 N, .int .i64 0]) ∧ Below W.heap.size W w') (FN : ∀ W, Rs W v n f → Gl W → Calls Tryd.prog 7 #[v] W fun e w' => ∃ v', e = .returned (.tuple #[v', .int .i64 0]) ∧ So w' v' L ∧ Below W.heap.size W w') (WF : ∀ v' W, So W v' L → Calls Tryd.prog 9 #[.int .i64 N, .int .i64 1, v'] W fun e w' => e = .returned (.int .i64 X) ∧ Below W.heap.size W w') (FR : ∀ W, Gl W → Calls Tryd.prog 8 #[.int .i64 X] W fun e w' => e = .returned (.tuple #[.agg #[.int .i64 a, .int .i64 b, .int .i64 c], .int .i64 r]) ∧ Below W.heap.size W w') (X2 a2 b2 c2 r2 : Int) (WB : ∀ v' W, So W v' L → Calls Tryd.prog 9 #[.int .i64 N, .int .i64 (-1), v'] W fun e w' => e = .returned (.int .i64 X2) ∧ Below W.heap.size W w') (FB : ∀ W, Gl W → Calls Tryd.prog 8 #[.int .i64 X2] W fun e w' => e = .returned (.tuple #[.agg #[.int .i64 a2, .int .i64 b2, .int .i64 c2], .int .i64 r2]) ∧ Below W.heap.size W w') (hr : r = 1) : Calls Tryd.prog 4 #[.agg #[.int .i64 y, .int .i64 m, .int .i64 d], v, .int .i64 3] w fun x w' => x = .returned (.tuple #[.agg #[.int .i64 a2, .int .i64 b2, .int .i64 c2], .int .i64 r2]) ∧ Below w.heap.size w w' := by
  have Ka0 := (Blk.new w #[.int .i64 y, .int .i64 m, .int .i64 d] 23).alloc (.cells #[.int .i64 0, .int .i64 0, .int .i64 0] 23)
  have R0 := Blk.new (w.alloc (.cells #[.int .i64 y, .int .i64 m, .int .i64 d] 23)) #[.int .i64 0, .int .i64 0, .int .i64 0] 23
  rw [show (w.alloc (.cells #[.int .i64 y, .int .i64 m, .int .i64 d] 23)).heap.size = w.heap.size + 1 by simp] at R0
  have pr := belT (bl (w := w) #[.int .i64 y, .int .i64 m, .int .i64 d] 23) (bl (w := (w.alloc (.cells #[.int .i64 y, .int .i64 m, .int .i64 d] 23))) #[.int .i64 0, .int .i64 0, .int .i64 0] 23)
  have G0 := ((G).alloc (.cells #[.int .i64 y, .int .i64 m, .int .i64 d] 23)).alloc (.cells #[.int .i64 0, .int .i64 0, .int .i64 0] 23)
  clear G
  go_enter Tryd.func4, Tryd.ntmps4
  go_wp2_with (first
    | (go_at_call 6; refine (NU _ G0).mono ?_; rintro x w1 ⟨rfl, b1⟩; have Ka1 := Ka0.below b1 Ka0.lt; have ka10 := Ka1.c0; have ka11 := Ka1.c1; have ka12 := Ka1.c2; have ka1l := Ka1.lt; have R1 := R0.below b1 R0.lt; have r10 := R1.c0; have r11 := R1.c1; have r12 := R1.c2; have r1l := R1.lt; have G1 := G0.grow b1; have p1 := belT pr b1; have rf10 := R1.free 0; have rf11 := R1.free 1; have rf12 := R1.free 2; have S1 := S.grow p1)
    | (go_at_call 7; refine (FN _ S1 G1).mono ?_; rintro x w2 ⟨vv, rfl, so2, b2⟩; have Ka2 := Ka1.below b2 Ka1.lt; have ka20 := Ka2.c0; have ka21 := Ka2.c1; have ka22 := Ka2.c2; have ka2l := Ka2.lt; have R2 := R1.below b2 R1.lt; have r20 := R2.c0; have r21 := R2.c1; have r22 := R2.c2; have r2l := R2.lt; have G2 := G1.grow b2; have p2 := belT p1 b2)
    | (go_at_call 9; refine (WF _ _ so2).mono ?_; rintro x w3 ⟨rfl, b3⟩; have Ka3 := Ka2.below b3 Ka2.lt; have ka30 := Ka3.c0; have ka31 := Ka3.c1; have ka32 := Ka3.c2; have ka3l := Ka3.lt; have R3 := R2.below b3 R2.lt; have r30 := R3.c0; have r31 := R3.c1; have r32 := R3.c2; have r3l := R3.lt; have G3 := G2.grow b3; have p3 := belT p2 b3; have so3 := so2.grow b3)
    | (go_at_call 8; refine (FR _ G3).mono ?_; rintro x w4 ⟨rfl, b4⟩; have Ka4 := Ka3.below b4 Ka3.lt; have ka40 := Ka4.c0; have ka41 := Ka4.c1; have ka42 := Ka4.c2; have ka4l := Ka4.lt; have R4 := R3.below b4 R3.lt; have r40 := R4.c0; have r41 := R4.c1; have r42 := R4.c2; have r4l := R4.lt; have G4 := G3.grow b4; have p4 := belT p3 b4; have rf40 := R4.free 0; have rf41 := R4.free 1; have rf42 := R4.free 2; have so4 := so3.grow b4)
    | fail)
  have T5 := Ws.new a b c Ka4 R4 G4 so4 p4
  generalize w4.heap.size = B at *
  generalize w4.alloc (.cells #[.int .i64 a, .int .i64 b, .int .i64 c] 23) = W5 at *
  have ka50 := T5.1.c0
  have ka51 := T5.1.c1
  have ka52 := T5.1.c2
  have r50 := T5.2.1.c0
  have r51 := T5.2.1.c1
  have r52 := T5.2.1.c2
  have q50 := T5.2.2.1.c0
  have q51 := T5.2.2.1.c1
  have q52 := T5.2.2.1.c2
  have rf50 := T5.2.1.free 0
  have rf51 := T5.2.1.free 1
  have rf52 := T5.2.1.free 2
  have l5a := T5.1.lt
  have l5b := T5.2.1.lt
  have l5c := T5.2.2.1.lt
  subst hr
  clear Ka0 R0 Ka1 R1 Ka2 R2 Ka3 R3 Ka4 R4 G0 G1 G2 G3 G4 so2 so3 so4 p1 p2 p3 p4 pr S S1 b1 b2 b3 b4 NU FN WF FR
  go_cut [59] from 51 to 58 (fun x wc => x = .bool false ∧ Ws w wc y m d a b c B vv L)
  case first =>
    go_quiet (fail)
    go_wp2_with fail
    go_meet
    case rel => exact ⟨rfl, T5.grow (blD _)⟩
  case rest =>
    obtain ⟨rfl, T8⟩ := hcut
    have ka80 := T8.1.c0
    have ka81 := T8.1.c1
    have ka82 := T8.1.c2
    have r80 := T8.2.1.c0
    have r81 := T8.2.1.c1
    have r82 := T8.2.1.c2
    have q80 := T8.2.2.1.c0
    have q81 := T8.2.2.1.c1
    have q82 := T8.2.2.1.c2
    have rf80 := T8.2.1.free 0
    have rf81 := T8.2.1.free 1
    have rf82 := T8.2.1.free 2
    have l8a := T8.1.lt
    have l8b := T8.2.1.lt
    have l8c := T8.2.2.1.lt
    have G8 := T8.2.2.2.1
    have so8 := T8.2.2.2.2.1
    have p8 := T8.2.2.2.2.2
    have R8 := T8.2.1
    have Ka8 := T8.1
    go_wp2_with (first
      | (go_at_call 9; refine (WB _ _ so8).mono ?_; rintro x w9 ⟨rfl, b9⟩; have R9 := R8.below b9 R8.lt; have G9 := G8.grow b9; have p9 := belT p8 b9)
      | (go_at_call 8; refine (FB _ G9).mono ?_; rintro x w10 ⟨rfl, b10⟩; have R10 := R9.below b10 R9.lt; have p10 := belT p9 b10; have r100 := R10.c0; have rf100 := R10.free 0; have r101 := R10.c1; have rf101 := R10.free 1; have r102 := R10.c2; have rf102 := R10.free 2; have r10l := R10.lt)
      | fail)
    have KE := dput3 R10 (a2) (b2) (c2)
    have bE := dset3 (x := .int .i64 (a2)) (y := .int .i64 (b2)) (z := .int .i64 (c2)) p10 (show w.heap.size ≤ (w.heap.size + 1) by omega)
    generalize ((w10.setCell ⟨(w.heap.size + 1), 0, none⟩ (.int .i64 (a2))).setCell ⟨(w.heap.size + 1), 1, none⟩ (.int .i64 (b2))).setCell ⟨(w.heap.size + 1), 2, none⟩ (.int .i64 (c2)) = WE at *
    have z0 := KE.c0
    have z1 := KE.c1
    have z2 := KE.c2
    exact bodyPost_ret (v := .tuple #[.agg #[.int .i64 a2, .int .i64 b2, .int .i64 c2], .int .i64 r2]) (by simp [results, Tryd.results4, go_sem, z0, z1, z2]) rfl ⟨rfl, bE⟩
end Go.Proofs.YteepjipecfdkoaaDoor.Dy
