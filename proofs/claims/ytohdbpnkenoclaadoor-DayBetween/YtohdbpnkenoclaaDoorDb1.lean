import Derived.Test.YtohdbpnkenoclaaDoorDv1
namespace Go.Proofs.YtohdbpnkenoclaaDoor.Dy
open Go.RowKit Tn
set_option maxHeartbeats 800000 in
theorem bt_w0 (y m d u v e : Int) (w : World) (G : Gl w) (WK : ∀ W, Gl W → Calls Tryd.prog 32 #[] W fun x w' => x = .returned (.bool true) ∧ Below W.heap.size W w') (RA : ∀ W, Gl W → Calls Tryd.prog 33 #[dt y m d] W fun x w' => x = .returned (.bool false) ∧ Below W.heap.size W w') : Calls Tryd.prog 8 #[dt y m d, dt u v e] w fun x w' => x = .returned (.bool true) ∧ Below w.heap.size w w' := by
  have Ka0 := (Blk.new w #[.int .i64 y, .int .i64 m, .int .i64 d] 29).alloc (.cells #[.int .i64 u, .int .i64 v, .int .i64 e] 29)
  have Kb0 := Blk.new (w.alloc (.cells #[.int .i64 y, .int .i64 m, .int .i64 d] 29)) #[.int .i64 u, .int .i64 v, .int .i64 e] 29
  rw [show (w.alloc (.cells #[.int .i64 y, .int .i64 m, .int .i64 d] 29)).heap.size = w.heap.size + 1 by simp] at Kb0
  have pr := belT (bl (w := w) #[.int .i64 y, .int .i64 m, .int .i64 d] 29) (bl (w := (w.alloc (.cells #[.int .i64 y, .int .i64 m, .int .i64 d] 29))) #[.int .i64 u, .int .i64 v, .int .i64 e] 29)
  have G0 := ((G).alloc (.cells #[.int .i64 y, .int .i64 m, .int .i64 d] 29)).alloc (.cells #[.int .i64 u, .int .i64 v, .int .i64 e] 29)
  clear G
  unfold dt at *
  go_enter Tryd.func8, Tryd.ntmps8
  go_wp2_with (first
    | (go_at_call 32; refine (WK _ G0).mono ?_; rintro x w1 ⟨rfl, b1⟩; have Ka1 := Ka0.below b1 Ka0.lt; have ka10 := Ka1.c0; have ka11 := Ka1.c1; have ka12 := Ka1.c2; have ka1l := Ka1.lt; have Kb1 := Kb0.below b1 Kb0.lt; have kb10 := Kb1.c0; have kb11 := Kb1.c1; have kb12 := Kb1.c2; have kb1l := Kb1.lt; have G1 := G0.grow b1; have p1 := belT pr b1)
    | (go_at_call 33; refine (RA _ G1).mono ?_; rintro x w2 ⟨rfl, b2⟩; have Ka2 := Ka1.below b2 Ka1.lt; have ka20 := Ka2.c0; have ka21 := Ka2.c1; have ka22 := Ka2.c2; have ka2l := Ka2.lt; have Kb2 := Kb1.below b2 Kb1.lt; have kb20 := Kb2.c0; have kb21 := Kb2.c1; have kb22 := Kb2.c2; have kb2l := Kb2.lt; have G2 := G1.grow b2; have p2 := belT p1 b2)
    | fail)
  go_ret
  exact ⟨rfl, p2⟩
set_option maxHeartbeats 800000 in
theorem bt_w1 (y m d u v e : Int) (w : World) (G : Gl w) (WK : ∀ W, Gl W → Calls Tryd.prog 32 #[] W fun x w' => x = .returned (.bool true) ∧ Below W.heap.size W w') (RA : ∀ W, Gl W → Calls Tryd.prog 33 #[dt y m d] W fun x w' => x = .returned (.bool true) ∧ Below W.heap.size W w') (RB : ∀ W, Gl W → Calls Tryd.prog 33 #[dt u v e] W fun x w' => x = .returned (.bool false) ∧ Below W.heap.size W w') : Calls Tryd.prog 8 #[dt y m d, dt u v e] w fun x w' => x = .returned (.bool true) ∧ Below w.heap.size w w' := by
  have Ka0 := (Blk.new w #[.int .i64 y, .int .i64 m, .int .i64 d] 29).alloc (.cells #[.int .i64 u, .int .i64 v, .int .i64 e] 29)
  have Kb0 := Blk.new (w.alloc (.cells #[.int .i64 y, .int .i64 m, .int .i64 d] 29)) #[.int .i64 u, .int .i64 v, .int .i64 e] 29
  rw [show (w.alloc (.cells #[.int .i64 y, .int .i64 m, .int .i64 d] 29)).heap.size = w.heap.size + 1 by simp] at Kb0
  have pr := belT (bl (w := w) #[.int .i64 y, .int .i64 m, .int .i64 d] 29) (bl (w := (w.alloc (.cells #[.int .i64 y, .int .i64 m, .int .i64 d] 29))) #[.int .i64 u, .int .i64 v, .int .i64 e] 29)
  have G0 := ((G).alloc (.cells #[.int .i64 y, .int .i64 m, .int .i64 d] 29)).alloc (.cells #[.int .i64 u, .int .i64 v, .int .i64 e] 29)
  clear G
  unfold dt at *
  go_enter Tryd.func8, Tryd.ntmps8
  go_wp2_with (first
    | (go_at_call 32; refine (WK _ G0).mono ?_; rintro x w1 ⟨rfl, b1⟩; have Ka1 := Ka0.below b1 Ka0.lt; have ka10 := Ka1.c0; have ka11 := Ka1.c1; have ka12 := Ka1.c2; have ka1l := Ka1.lt; have Kb1 := Kb0.below b1 Kb0.lt; have kb10 := Kb1.c0; have kb11 := Kb1.c1; have kb12 := Kb1.c2; have kb1l := Kb1.lt; have G1 := G0.grow b1; have p1 := belT pr b1)
    | (go_at_call 33; refine (RB _ G2).mono ?_; rintro x w3 ⟨rfl, b3⟩; have Ka3 := Ka2.below b3 Ka2.lt; have ka30 := Ka3.c0; have ka31 := Ka3.c1; have ka32 := Ka3.c2; have ka3l := Ka3.lt; have Kb3 := Kb2.below b3 Kb2.lt; have kb30 := Kb3.c0; have kb31 := Kb3.c1; have kb32 := Kb3.c2; have kb3l := Kb3.lt; have G3 := G2.grow b3; have p3 := belT p2 b3)
    | (go_at_call 33; refine (RA _ G1).mono ?_; rintro x w2 ⟨rfl, b2⟩; have Ka2 := Ka1.below b2 Ka1.lt; have ka20 := Ka2.c0; have ka21 := Ka2.c1; have ka22 := Ka2.c2; have ka2l := Ka2.lt; have Kb2 := Kb1.below b2 Kb1.lt; have kb20 := Kb2.c0; have kb21 := Kb2.c1; have kb22 := Kb2.c2; have kb2l := Kb2.lt; have G2 := G1.grow b2; have p2 := belT p1 b2)
    | fail)
  go_ret
  exact ⟨rfl, p3⟩
set_option maxHeartbeats 800000 in
theorem bt_w2 (y m d u v e A B : Int) (w : World) (G : Gl w) (h : B < A) (WK : ∀ W, Gl W → Calls Tryd.prog 32 #[] W fun x w' => x = .returned (.bool true) ∧ Below W.heap.size W w') (RA : ∀ W, Gl W → Calls Tryd.prog 33 #[dt y m d] W fun x w' => x = .returned (.bool true) ∧ Below W.heap.size W w') (RB : ∀ W, Gl W → Calls Tryd.prog 33 #[dt u v e] W fun x w' => x = .returned (.bool true) ∧ Below W.heap.size W w') (BT : ∀ W, Gl W → Calls Tryd.prog 30 #[dt y m d, dt u v e] W fun x w' => x = .returned (.tuple #[.int .i64 0, .int .i64 0, .int .i64 0, .int .i64 1]) ∧ Below W.heap.size W w') (NA : ∀ W, Gl W → Calls Tryd.prog 16 #[dt y m d] W fun x w' => x = .returned (.tuple #[.int .i64 A, .int .i64 0]) ∧ Below W.heap.size W w') (NB : ∀ W, Gl W → Calls Tryd.prog 16 #[dt u v e] W fun x w' => x = .returned (.tuple #[.int .i64 B, .int .i64 0]) ∧ Below W.heap.size W w') : Calls Tryd.prog 8 #[dt y m d, dt u v e] w fun x w' => x = .returned (.bool true) ∧ Below w.heap.size w w' := by
  have Ka0 := (Blk.new w #[.int .i64 y, .int .i64 m, .int .i64 d] 29).alloc (.cells #[.int .i64 u, .int .i64 v, .int .i64 e] 29)
  have Kb0 := Blk.new (w.alloc (.cells #[.int .i64 y, .int .i64 m, .int .i64 d] 29)) #[.int .i64 u, .int .i64 v, .int .i64 e] 29
  rw [show (w.alloc (.cells #[.int .i64 y, .int .i64 m, .int .i64 d] 29)).heap.size = w.heap.size + 1 by simp] at Kb0
  have pr := belT (bl (w := w) #[.int .i64 y, .int .i64 m, .int .i64 d] 29) (bl (w := (w.alloc (.cells #[.int .i64 y, .int .i64 m, .int .i64 d] 29))) #[.int .i64 u, .int .i64 v, .int .i64 e] 29)
  have G0 := ((G).alloc (.cells #[.int .i64 y, .int .i64 m, .int .i64 d] 29)).alloc (.cells #[.int .i64 u, .int .i64 v, .int .i64 e] 29)
  clear G
  unfold dt at *
  go_enter Tryd.func8, Tryd.ntmps8
  go_wp2_with (first
    | (go_at_call 32; refine (WK _ G0).mono ?_; rintro x w1 ⟨rfl, b1⟩; have Ka1 := Ka0.below b1 Ka0.lt; have ka10 := Ka1.c0; have ka11 := Ka1.c1; have ka12 := Ka1.c2; have ka1l := Ka1.lt; have Kb1 := Kb0.below b1 Kb0.lt; have kb10 := Kb1.c0; have kb11 := Kb1.c1; have kb12 := Kb1.c2; have kb1l := Kb1.lt; have G1 := G0.grow b1; have p1 := belT pr b1)
    | (go_at_call 33; refine (RB _ G2).mono ?_; rintro x w3 ⟨rfl, b3⟩; have Ka3 := Ka2.below b3 Ka2.lt; have ka30 := Ka3.c0; have ka31 := Ka3.c1; have ka32 := Ka3.c2; have ka3l := Ka3.lt; have Kb3 := Kb2.below b3 Kb2.lt; have kb30 := Kb3.c0; have kb31 := Kb3.c1; have kb32 := Kb3.c2; have kb3l := Kb3.lt; have G3 := G2.grow b3; have p3 := belT p2 b3)
    | (go_at_call 33; refine (RA _ G1).mono ?_; rintro x w2 ⟨rfl, b2⟩; have Ka2 := Ka1.below b2 Ka1.lt; have ka20 := Ka2.c0; have ka21 := Ka2.c1; have ka22 := Ka2.c2; have ka2l := Ka2.lt; have Kb2 := Kb1.below b2 Kb1.lt; have kb20 := Kb2.c0; have kb21 := Kb2.c1; have kb22 := Kb2.c2; have kb2l := Kb2.lt; have G2 := G1.grow b2; have p2 := belT p1 b2)
    | (go_at_call 30; refine (BT _ G3).mono ?_; rintro x w4 ⟨rfl, b4⟩; have Ka4 := Ka3.below b4 Ka3.lt; have ka40 := Ka4.c0; have ka41 := Ka4.c1; have ka42 := Ka4.c2; have ka4l := Ka4.lt; have Kb4 := Kb3.below b4 Kb3.lt; have kb40 := Kb4.c0; have kb41 := Kb4.c1; have kb42 := Kb4.c2; have kb4l := Kb4.lt; have G4 := G3.grow b4; have p4 := belT p3 b4)
    | (go_at_call 16; refine (NB _ G5).mono ?_; rintro x w6 ⟨rfl, b6⟩; have Ka6 := Ka5.below b6 Ka5.lt; have ka60 := Ka6.c0; have ka61 := Ka6.c1; have ka62 := Ka6.c2; have ka6l := Ka6.lt; have Kb6 := Kb5.below b6 Kb5.lt; have kb60 := Kb6.c0; have kb61 := Kb6.c1; have kb62 := Kb6.c2; have kb6l := Kb6.lt; have G6 := G5.grow b6; have p6 := belT p5 b6)
    | (go_at_call 16; refine (NA _ G4).mono ?_; rintro x w5 ⟨rfl, b5⟩; have Ka5 := Ka4.below b5 Ka4.lt; have ka50 := Ka5.c0; have ka51 := Ka5.c1; have ka52 := Ka5.c2; have ka5l := Ka5.lt; have Kb5 := Kb4.below b5 Kb4.lt; have kb50 := Kb5.c0; have kb51 := Kb5.c1; have kb52 := Kb5.c2; have kb5l := Kb5.lt; have G5 := G4.grow b5; have p5 := belT p4 b5)
    | fail)
  go_ret
  exact ⟨rfl, p6⟩
set_option maxHeartbeats 800000 in
theorem bt_w3 (y m d u v e A B P r t K Y M D : Int) (w : World) (G : Gl w) (h : ¬ B < A) (p0 : 0 ≤ P) (p1 : P ≤ 9999) (r0 : 0 ≤ r) (r1 : r ≤ 11) (t0 : 0 ≤ t) (t1 : t ≤ 31) (hk : IntKind.i64.wrap (12 * P + r) = K) (WK : ∀ W, Gl W → Calls Tryd.prog 32 #[] W fun x w' => x = .returned (.bool true) ∧ Below W.heap.size W w') (RA : ∀ W, Gl W → Calls Tryd.prog 33 #[dt y m d] W fun x w' => x = .returned (.bool true) ∧ Below W.heap.size W w') (RB : ∀ W, Gl W → Calls Tryd.prog 33 #[dt u v e] W fun x w' => x = .returned (.bool true) ∧ Below W.heap.size W w') (BT : ∀ W, Gl W → Calls Tryd.prog 30 #[dt y m d, dt u v e] W fun x w' => x = .returned (.tuple #[.int .i64 P, .int .i64 r, .int .i64 t, .int .i64 0]) ∧ Below W.heap.size W w') (NA : ∀ W, Gl W → Calls Tryd.prog 16 #[dt y m d] W fun x w' => x = .returned (.tuple #[.int .i64 A, .int .i64 0]) ∧ Below W.heap.size W w') (NB : ∀ W, Gl W → Calls Tryd.prog 16 #[dt u v e] W fun x w' => x = .returned (.tuple #[.int .i64 B, .int .i64 0]) ∧ Below W.heap.size W w') (MM : ∀ W, Gl W → Calls Tryd.prog 26 #[dt y m d, .int .i64 K] W fun x w' => x = .returned (.tuple #[dt Y M D, .int .i64 0]) ∧ Below W.heap.size W w') (DD : ∀ W, Gl W → Calls Tryd.prog 24 #[dt Y M D, .int .i64 t] W fun x w' => x = .returned (.tuple #[dt u v e, .int .i64 0]) ∧ Below W.heap.size W w') : Calls Tryd.prog 8 #[dt y m d, dt u v e] w fun x w' => x = .returned (.bool true) ∧ Below w.heap.size w w' := by
  have Ka0 := (Blk.new w #[.int .i64 y, .int .i64 m, .int .i64 d] 29).alloc (.cells #[.int .i64 u, .int .i64 v, .int .i64 e] 29)
  have Kb0 := Blk.new (w.alloc (.cells #[.int .i64 y, .int .i64 m, .int .i64 d] 29)) #[.int .i64 u, .int .i64 v, .int .i64 e] 29
  rw [show (w.alloc (.cells #[.int .i64 y, .int .i64 m, .int .i64 d] 29)).heap.size = w.heap.size + 1 by simp] at Kb0
  have pr := belT (bl (w := w) #[.int .i64 y, .int .i64 m, .int .i64 d] 29) (bl (w := (w.alloc (.cells #[.int .i64 y, .int .i64 m, .int .i64 d] 29))) #[.int .i64 u, .int .i64 v, .int .i64 e] 29)
  have G0 := ((G).alloc (.cells #[.int .i64 y, .int .i64 m, .int .i64 d] 29)).alloc (.cells #[.int .i64 u, .int .i64 v, .int .i64 e] 29)
  clear G
  have hp : IntKind.i64.wrap (12 * P) = 12 * P := wrapI _ (by omega) (by omega)
  unfold dt at *
  go_enter Tryd.func8, Tryd.ntmps8
  go_wp2_with (first
    | (go_at_call 32; refine (WK _ G0).mono ?_; rintro x w1 ⟨rfl, b1⟩; have Ka1 := Ka0.below b1 Ka0.lt; have ka10 := Ka1.c0; have ka11 := Ka1.c1; have ka12 := Ka1.c2; have ka1l := Ka1.lt; have Kb1 := Kb0.below b1 Kb0.lt; have kb10 := Kb1.c0; have kb11 := Kb1.c1; have kb12 := Kb1.c2; have kb1l := Kb1.lt; have G1 := G0.grow b1; have p1 := belT pr b1)
    | (go_at_call 33; refine (RB _ G2).mono ?_; rintro x w3 ⟨rfl, b3⟩; have Ka3 := Ka2.below b3 Ka2.lt; have ka30 := Ka3.c0; have ka31 := Ka3.c1; have ka32 := Ka3.c2; have ka3l := Ka3.lt; have Kb3 := Kb2.below b3 Kb2.lt; have kb30 := Kb3.c0; have kb31 := Kb3.c1; have kb32 := Kb3.c2; have kb3l := Kb3.lt; have G3 := G2.grow b3; have p3 := belT p2 b3)
    | (go_at_call 33; refine (RA _ G1).mono ?_; rintro x w2 ⟨rfl, b2⟩; have Ka2 := Ka1.below b2 Ka1.lt; have ka20 := Ka2.c0; have ka21 := Ka2.c1; have ka22 := Ka2.c2; have ka2l := Ka2.lt; have Kb2 := Kb1.below b2 Kb1.lt; have kb20 := Kb2.c0; have kb21 := Kb2.c1; have kb22 := Kb2.c2; have kb2l := Kb2.lt; have G2 := G1.grow b2; have p2 := belT p1 b2)
    | (go_at_call 30; refine (BT _ G3).mono ?_; rintro x w4 ⟨rfl, b4⟩; have Ka4 := Ka3.below b4 Ka3.lt; have ka40 := Ka4.c0; have ka41 := Ka4.c1; have ka42 := Ka4.c2; have ka4l := Ka4.lt; have Kb4 := Kb3.below b4 Kb3.lt; have kb40 := Kb4.c0; have kb41 := Kb4.c1; have kb42 := Kb4.c2; have kb4l := Kb4.lt; have G4 := G3.grow b4; have p4 := belT p3 b4)
    | (go_at_call 16; refine (NB _ G5).mono ?_; rintro x w6 ⟨rfl, b6⟩; have Ka6 := Ka5.below b6 Ka5.lt; have ka60 := Ka6.c0; have ka61 := Ka6.c1; have ka62 := Ka6.c2; have ka6l := Ka6.lt; have Kb6 := Kb5.below b6 Kb5.lt; have kb60 := Kb6.c0; have kb61 := Kb6.c1; have kb62 := Kb6.c2; have kb6l := Kb6.lt; have G6 := G5.grow b6; have p6 := belT p5 b6)
    | (go_at_call 16; refine (NA _ G4).mono ?_; rintro x w5 ⟨rfl, b5⟩; have Ka5 := Ka4.below b5 Ka4.lt; have ka50 := Ka5.c0; have ka51 := Ka5.c1; have ka52 := Ka5.c2; have ka5l := Ka5.lt; have Kb5 := Kb4.below b5 Kb4.lt; have kb50 := Kb5.c0; have kb51 := Kb5.c1; have kb52 := Kb5.c2; have kb5l := Kb5.lt; have G5 := G4.grow b5; have p5 := belT p4 b5)
    | (go_at_call 26; refine (MM _ G6).mono ?_; rintro x w7 ⟨rfl, b7⟩; have Ka7 := Ka6.below b7 Ka6.lt; have ka70 := Ka7.c0; have ka71 := Ka7.c1; have ka72 := Ka7.c2; have ka7l := Ka7.lt; have Kb7 := Kb6.below b7 Kb6.lt; have kb70 := Kb7.c0; have kb71 := Kb7.c1; have kb72 := Kb7.c2; have kb7l := Kb7.lt; have G7 := G6.grow b7; have p7 := belT p6 b7)
    | (go_at_call 24; refine (DD _ (G7.alloc _)).mono ?_; rintro x w8 ⟨rfl, b8⟩; have Ka8 := (Ka7.alloc (.cells #[.int .i64 Y, .int .i64 M, .int .i64 D] 29)).below b8 (Ka7.alloc (.cells #[.int .i64 Y, .int .i64 M, .int .i64 D] 29)).lt; have ka80 := Ka8.c0; have ka81 := Ka8.c1; have ka82 := Ka8.c2; have ka8l := Ka8.lt; have Kb8 := (Kb7.alloc (.cells #[.int .i64 Y, .int .i64 M, .int .i64 D] 29)).below b8 (Kb7.alloc (.cells #[.int .i64 Y, .int .i64 M, .int .i64 D] 29)).lt; have kb80 := Kb8.c0; have kb81 := Kb8.c1; have kb82 := Kb8.c2; have kb8l := Kb8.lt; have G8 := (G7.alloc (.cells #[.int .i64 Y, .int .i64 M, .int .i64 D] 29)).grow b8; have p8 := belT (belT p7 (bl _ _)) b8; have C8 := (Blk.new w7 #[.int .i64 Y, .int .i64 M, .int .i64 D] 29).below b8 (Blk.new w7 #[.int .i64 Y, .int .i64 M, .int .i64 D] 29).lt; have c80 := C8.c0; have c81 := C8.c1; have c82 := C8.c2; have c8l := C8.lt)
    | fail)
  go_ret
  exact ⟨rfl, belT p8 (bl _ _)⟩
theorem mo_on' {a : Int} : mo (a / 12 + 1) (a % 12 + 1) = a := by unfold mo; omega
theorem between_law (y m d u v e : Int) (w : World) (G : Gl w) : Calls Tryd.prog 8 #[dt y m d, dt u v e] w fun x w' => x = .returned (.bool true) ∧ Below w.heap.size w w' := by
  have RA := right_any y m d
  have RB := right_any u v e
  have BT := Between_any y m d u v e
  have NA := Number_any y m d
  have NB := Number_any u v e
  cases g : good y m d
  · rw [g] at RA
    exact bt_w0 y m d u v e w G works_any RA
  rw [g] at RA NA
  cases k : good u v e
  · rw [k] at RB
    exact bt_w1 y m d u v e w G works_any RA RB
  rw [k] at RB NB
  obtain ⟨g1, g2, g3, g4, g5, g6⟩ := good_iff.1 g
  obtain ⟨h1, h2, h3, h4, h5, h6⟩ := good_iff.1 k
  have tt : tw y m d u v e = if num u v e < num y m d then 1 else 0 := by unfold tw; rw [g, k]; rfl
  unfold btR at BT
  by_cases c : num u v e < num y m d
  · rw [if_pos c] at tt
    rw [tt, if_neg (by decide)] at BT
    exact bt_w2 y m d u v e _ _ w G c works_any RA RB BT NA NB
  · rw [if_neg c] at tt
    rw [tt, if_pos rfl] at BT
    obtain ⟨p0, p1, p2⟩ := mp_good tt
    have I := fun n => mp_iff (j := mo y m) (d := d) (k := mo u v) (e := e) (n := n) g5 h5 (by rw [mk_mo h3 h4]; exact h6)
    have I0 := (I (mp (mo y m) d (mo u v) e)).2 (Int.le_refl _)
    have I1 := (I (mp (mo y m) d (mo u v) e + 1)).1
    have nm : num u v e = mn (mo u v) + e := num_mo h3 h4
    generalize mp (mo y m) d (mo u v) e = Q at *
    have MM := Months_any y m d Q
    unfold mns at MM
    rw [g, if_pos rfl, if_pos (by omega)] at MM
    have ga := good_on (d := d) (a := mo y m + Q) g5 (by omega)
    rw [decide_eq_true (by omega)] at ga
    have DD := Days_any ((mo y m + Q) / 12 + 1) ((mo y m + Q) % 12 + 1) (min d (mk (mo y m + Q))) (num u v e - nu (mo y m + Q) d)
    unfold dys at DD
    rw [ga, if_pos rfl, num_on, show nu (mo y m + Q) d + (num u v e - nu (mo y m + Q) d) = num u v e by omega, nr_num k] at DD
    obtain ⟨f1, f2, f3⟩ := fr_num k
    rw [f1, f2, f3] at DD
    have s := mn_succ (mo y m + Q)
    have b1 := mk_bd (mo y m + Q)
    have b2 := mk_bd (mo y m + Q + 1)
    have I2 : mn (mo u v) + e < nu (mo y m + Q + 1) d := by
      by_cases hc : nu (mo y m + (Q + 1)) d ≤ mn (mo u v) + e
      · have := I1 hc; omega
      · rw [show mo y m + Q + 1 = mo y m + (Q + 1) by omega]; omega
    have I3 : nu (mo y m + Q + 1) d ≤ nu (mo y m + Q) d + 31 := by
      unfold nu; rw [s]; omega
    refine bt_w3 y m d u v e _ _ (Q / 12) (Q % 12) _ Q _ _ _ w G c (by omega) (by omega) (by omega) (by omega) (by omega) (by omega) ?_ works_any RA RB BT NA NB MM DD
    rw [wrapI _ (by omega) (by omega)]
    omega
end Go.Proofs.YtohdbpnkenoclaaDoor.Dy
