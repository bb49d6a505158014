import Derived.Test.YtohdbpnkenoclaaDoorDv1
namespace Go.Proofs.YtohdbpnkenoclaaDoor.Dy
open Go.RowKit Tn
set_option maxHeartbeats 800000 in
theorem mo_w0 (y m d p q U V M U' V' N : Int) (w : World) (G : Gl w) (u1 : IntKind.u64.wrap p = U) (u2 : U.tmod 4000 = V) (u3 : IntKind.i64.wrap V = V) (u4 : IntKind.i64.wrap (V - 2000) = M) (v1 : IntKind.u64.wrap q = U') (v2 : U'.tmod 4000 = V') (v3 : IntKind.i64.wrap V' = V') (v4 : IntKind.i64.wrap (V' - 2000) = N) (WK : ∀ W, Gl W → Calls Tryd.prog 32 #[] W fun e w' => e = .returned (.bool true) ∧ Below W.heap.size W w') (RT : ∀ W, Gl W → Calls Tryd.prog 33 #[dt y m d] W fun e w' => e = .returned (.bool false) ∧ Below W.heap.size W w') : Calls Tryd.prog 7 #[dt y m d, .int .i64 p, .int .i64 q] w fun e w' => e = .returned (.bool true) ∧ Below w.heap.size w w' := by
  have Ka0 := Blk.new w #[.int .i64 y, .int .i64 m, .int .i64 d] 29
  have pr := bl (w := w) #[.int .i64 y, .int .i64 m, .int .i64 d] 29
  have G0 := (G).alloc (.cells #[.int .i64 y, .int .i64 m, .int .i64 d] 29)
  clear G
  unfold dt at *
  go_enter Tryd.func7, Tryd.ntmps7
  go_wp2_with (first
    | (go_at_call 32; refine (WK _ G0).mono ?_; rintro x w1 ⟨rfl, b1⟩; have Ka1 := Ka0.below b1 Ka0.lt; have ka10 := Ka1.c0; have ka11 := Ka1.c1; have ka12 := Ka1.c2; have ka1l := Ka1.lt; have G1 := G0.grow b1; have p1 := belT pr b1)
    | (go_at_call 33; refine (RT _ G1).mono ?_; rintro x w2 ⟨rfl, b2⟩; have Ka2 := Ka1.below b2 Ka1.lt; have ka20 := Ka2.c0; have ka21 := Ka2.c1; have ka22 := Ka2.c2; have ka2l := Ka2.lt; have G2 := G1.grow b2; have p2 := belT p1 b2)
    | fail)
  go_ret
  exact ⟨rfl, p2⟩
set_option maxHeartbeats 800000 in
theorem mo_w1 (y m d p q U V M U' V' N : Int) (w : World) (G : Gl w) (u1 : IntKind.u64.wrap p = U) (u2 : U.tmod 4000 = V) (u3 : IntKind.i64.wrap V = V) (u4 : IntKind.i64.wrap (V - 2000) = M) (v1 : IntKind.u64.wrap q = U') (v2 : U'.tmod 4000 = V') (v3 : IntKind.i64.wrap V' = V') (v4 : IntKind.i64.wrap (V' - 2000) = N) (WK : ∀ W, Gl W → Calls Tryd.prog 32 #[] W fun e w' => e = .returned (.bool true) ∧ Below W.heap.size W w') (RT : ∀ W, Gl W → Calls Tryd.prog 33 #[dt y m d] W fun e w' => e = .returned (.bool true) ∧ Below W.heap.size W w') (M1 : ∀ W, Gl W → Calls Tryd.prog 26 #[dt y m d, .int .i64 M] W fun e w' => e = .returned (.tuple #[dt 0 0 0, .int .i64 1]) ∧ Below W.heap.size W w') : Calls Tryd.prog 7 #[dt y m d, .int .i64 p, .int .i64 q] w fun e w' => e = .returned (.bool true) ∧ Below w.heap.size w w' := by
  have Ka0 := Blk.new w #[.int .i64 y, .int .i64 m, .int .i64 d] 29
  have pr := bl (w := w) #[.int .i64 y, .int .i64 m, .int .i64 d] 29
  have G0 := (G).alloc (.cells #[.int .i64 y, .int .i64 m, .int .i64 d] 29)
  clear G
  unfold dt at *
  go_enter Tryd.func7, Tryd.ntmps7
  go_wp2_with (first
    | (go_at_call 32; refine (WK _ G0).mono ?_; rintro x w1 ⟨rfl, b1⟩; have Ka1 := Ka0.below b1 Ka0.lt; have ka10 := Ka1.c0; have ka11 := Ka1.c1; have ka12 := Ka1.c2; have ka1l := Ka1.lt; have G1 := G0.grow b1; have p1 := belT pr b1)
    | (go_at_call 33; refine (RT _ G1).mono ?_; rintro x w2 ⟨rfl, b2⟩; have Ka2 := Ka1.below b2 Ka1.lt; have ka20 := Ka2.c0; have ka21 := Ka2.c1; have ka22 := Ka2.c2; have ka2l := Ka2.lt; have G2 := G1.grow b2; have p2 := belT p1 b2)
    | (go_at_call 26; refine (M1 _ G2).mono ?_; rintro x w3 ⟨rfl, b3⟩; have Ka3 := Ka2.below b3 Ka2.lt; have ka30 := Ka3.c0; have ka31 := Ka3.c1; have ka32 := Ka3.c2; have ka3l := Ka3.lt; have G3 := G2.grow b3; have p3 := belT p2 b3)
    | fail)
  go_ret
  exact ⟨rfl, belT p3 (bl _ _)⟩
set_option maxHeartbeats 800000 in
theorem mo_w2 (y m d p q U V M U' V' N : Int) (w : World) (G : Gl w) (u1 : IntKind.u64.wrap p = U) (u2 : U.tmod 4000 = V) (u3 : IntKind.i64.wrap V = V) (u4 : IntKind.i64.wrap (V - 2000) = M) (v1 : IntKind.u64.wrap q = U') (v2 : U'.tmod 4000 = V') (v3 : IntKind.i64.wrap V' = V') (v4 : IntKind.i64.wrap (V' - 2000) = N) (Y1 M1' D1 S : Int) (hs : IntKind.i64.wrap (M + N) = S) (WK : ∀ W, Gl W → Calls Tryd.prog 32 #[] W fun e w' => e = .returned (.bool true) ∧ Below W.heap.size W w') (RT : ∀ W, Gl W → Calls Tryd.prog 33 #[dt y m d] W fun e w' => e = .returned (.bool true) ∧ Below W.heap.size W w') (M1 : ∀ W, Gl W → Calls Tryd.prog 26 #[dt y m d, .int .i64 M] W fun e w' => e = .returned ((.tuple #[dt Y1 M1' D1, .int .i64 0])) ∧ Below W.heap.size W w') (M2 : ∀ W, Gl W → Calls Tryd.prog 26 #[dt Y1 M1' D1, .int .i64 N] W fun e w' => e = .returned (.tuple #[dt 0 0 0, .int .i64 1]) ∧ Below W.heap.size W w') (M3 : ∀ W, Gl W → Calls Tryd.prog 26 #[dt y m d, .int .i64 S] W fun e w' => e = .returned (.tuple #[dt 0 0 0, .int .i64 1]) ∧ Below W.heap.size W w') : Calls Tryd.prog 7 #[dt y m d, .int .i64 p, .int .i64 q] w fun e w' => e = .returned (.bool true) ∧ Below w.heap.size w w' := by
  have Ka0 := Blk.new w #[.int .i64 y, .int .i64 m, .int .i64 d] 29
  have pr := bl (w := w) #[.int .i64 y, .int .i64 m, .int .i64 d] 29
  have G0 := (G).alloc (.cells #[.int .i64 y, .int .i64 m, .int .i64 d] 29)
  clear G
  unfold dt at *
  go_enter Tryd.func7, Tryd.ntmps7
  go_wp2_with (first
    | (go_at_call 32; refine (WK _ G0).mono ?_; rintro x w1 ⟨rfl, b1⟩; have Ka1 := Ka0.below b1 Ka0.lt; have ka10 := Ka1.c0; have ka11 := Ka1.c1; have ka12 := Ka1.c2; have ka1l := Ka1.lt; have G1 := G0.grow b1; have p1 := belT pr b1)
    | (go_at_call 33; refine (RT _ G1).mono ?_; rintro x w2 ⟨rfl, b2⟩; have Ka2 := Ka1.below b2 Ka1.lt; have ka20 := Ka2.c0; have ka21 := Ka2.c1; have ka22 := Ka2.c2; have ka2l := Ka2.lt; have G2 := G1.grow b2; have p2 := belT p1 b2)
    | (go_at_call 26; refine (M3 _ (G4.alloc _)).mono ?_; rintro x w5 ⟨rfl, b5⟩; have Ka5 := (Ka4.alloc (.cells #[.int .i64 0, .int .i64 0, .int .i64 0] 29)).below b5 (Ka4.alloc (.cells #[.int .i64 0, .int .i64 0, .int .i64 0] 29)).lt; have ka50 := Ka5.c0; have ka51 := Ka5.c1; have ka52 := Ka5.c2; have ka5l := Ka5.lt; have A5 := (A4.alloc (.cells #[.int .i64 0, .int .i64 0, .int .i64 0] 29)).below b5 (A4.alloc (.cells #[.int .i64 0, .int .i64 0, .int .i64 0] 29)).lt; have a50 := A5.c0; have a51 := A5.c1; have a52 := A5.c2; have a5l := A5.lt; have G5 := (G4.alloc (.cells #[.int .i64 0, .int .i64 0, .int .i64 0] 29)).grow b5; have p5 := belT (belT p4 (bl _ _)) b5; have B5 := (Blk.new w4 #[.int .i64 0, .int .i64 0, .int .i64 0] 29).below b5 (Blk.new w4 #[.int .i64 0, .int .i64 0, .int .i64 0] 29).lt; have b50 := B5.c0; have b51 := B5.c1; have b52 := B5.c2; have b5l := B5.lt)
    | (go_at_call 26; refine (M2 _ (G3.alloc _)).mono ?_; rintro x w4 ⟨rfl, b4⟩; have Ka4 := (Ka3.alloc (.cells #[.int .i64 Y1, .int .i64 M1', .int .i64 D1] 29)).below b4 (Ka3.alloc (.cells #[.int .i64 Y1, .int .i64 M1', .int .i64 D1] 29)).lt; have ka40 := Ka4.c0; have ka41 := Ka4.c1; have ka42 := Ka4.c2; have ka4l := Ka4.lt; have G4 := (G3.alloc (.cells #[.int .i64 Y1, .int .i64 M1', .int .i64 D1] 29)).grow b4; have p4 := belT (belT p3 (bl _ _)) b4; have A4 := (Blk.new w3 #[.int .i64 Y1, .int .i64 M1', .int .i64 D1] 29).below b4 (Blk.new w3 #[.int .i64 Y1, .int .i64 M1', .int .i64 D1] 29).lt; have a40 := A4.c0; have a41 := A4.c1; have a42 := A4.c2; have a4l := A4.lt)
    | (go_at_call 26; refine (M1 _ G2).mono ?_; rintro x w3 ⟨rfl, b3⟩; have Ka3 := Ka2.below b3 Ka2.lt; have ka30 := Ka3.c0; have ka31 := Ka3.c1; have ka32 := Ka3.c2; have ka3l := Ka3.lt; have G3 := G2.grow b3; have p3 := belT p2 b3)
    | fail)
  go_ret
  exact ⟨rfl, belT p5 (bl _ _)⟩
set_option maxHeartbeats 1600000 in
theorem mo_w3 (y m d p q U V M U' V' N : Int) (w : World) (G : Gl w) (u1 : IntKind.u64.wrap p = U) (u2 : U.tmod 4000 = V) (u3 : IntKind.i64.wrap V = V) (u4 : IntKind.i64.wrap (V - 2000) = M) (v1 : IntKind.u64.wrap q = U') (v2 : U'.tmod 4000 = V') (v3 : IntKind.i64.wrap V' = V') (v4 : IntKind.i64.wrap (V' - 2000) = N) (Y1 M1' D1 S Y2 M2' B2 C2 : Int) (hs : IntKind.i64.wrap (M + N) = S) (WK : ∀ W, Gl W → Calls Tryd.prog 32 #[] W fun e w' => e = .returned (.bool true) ∧ Below W.heap.size W w') (RT : ∀ W, Gl W → Calls Tryd.prog 33 #[dt y m d] W fun e w' => e = .returned (.bool true) ∧ Below W.heap.size W w') (M1 : ∀ W, Gl W → Calls Tryd.prog 26 #[dt y m d, .int .i64 M] W fun e w' => e = .returned ((.tuple #[dt Y1 M1' D1, .int .i64 0])) ∧ Below W.heap.size W w') (M2 : ∀ W, Gl W → Calls Tryd.prog 26 #[dt Y1 M1' D1, .int .i64 N] W fun e w' => e = .returned ((.tuple #[dt Y2 M2' B2, .int .i64 0])) ∧ Below W.heap.size W w') (M3 : ∀ W, Gl W → Calls Tryd.prog 26 #[dt y m d, .int .i64 S] W fun e w' => e = .returned ((.tuple #[dt Y2 M2' C2, .int .i64 0])) ∧ Below W.heap.size W w')
    (x1 : B2 ≤ C2) (a b : Bool) (x2 : decide (D1 < d) = a) (x3 : decide (28 < d) = b) (x4 : a = false ∨ b = false → B2 = C2) (x5 : min d 28 ≤ C2) : Calls Tryd.prog 7 #[dt y m d, .int .i64 p, .int .i64 q] w fun e w' => e = .returned (.bool true) ∧ Below w.heap.size w w' := by
  have Ka0 := Blk.new w #[.int .i64 y, .int .i64 m, .int .i64 d] 29
  have pr := bl (w := w) #[.int .i64 y, .int .i64 m, .int .i64 d] 29
  have G0 := (G).alloc (.cells #[.int .i64 y, .int .i64 m, .int .i64 d] 29)
  clear G
  unfold dt at *
  have k1 : decide (B2 ≤ C2) = true := decide_eq_true x1
  by_cases h : d ≤ 28
  · obtain rfl : b = false := by rw [← x3]; exact decide_eq_false (by omega)
    obtain rfl := x4 (Or.inr rfl)
    have k2' : decide (d ≤ B2) = true := decide_eq_true (by omega)
    have k3 : d ≤ B2 := by omega
    clear x4 x5
    cases a
    all_goals
      go_enter Tryd.func7, Tryd.ntmps7
      go_wp2_with (first
        | (go_at_call 32; refine (WK _ G0).mono ?_; rintro x w1 ⟨rfl, b1⟩; have Ka1 := Ka0.below b1 Ka0.lt; have ka10 := Ka1.c0; have ka11 := Ka1.c1; have ka12 := Ka1.c2; have ka1l := Ka1.lt; have G1 := G0.grow b1; have p1 := belT pr b1)
        | (go_at_call 33; refine (RT _ G1).mono ?_; rintro x w2 ⟨rfl, b2⟩; have Ka2 := Ka1.below b2 Ka1.lt; have ka20 := Ka2.c0; have ka21 := Ka2.c1; have ka22 := Ka2.c2; have ka2l := Ka2.lt; have G2 := G1.grow b2; have p2 := belT p1 b2)
        | (go_at_call 26; refine (M3 _ (G4.alloc _)).mono ?_; rintro x w5 ⟨rfl, b5⟩; have Ka5 := (Ka4.alloc (.cells #[.int .i64 Y2, .int .i64 M2', .int .i64 B2] 29)).below b5 (Ka4.alloc (.cells #[.int .i64 Y2, .int .i64 M2', .int .i64 B2] 29)).lt; have ka50 := Ka5.c0; have ka51 := Ka5.c1; have ka52 := Ka5.c2; have ka5l := Ka5.lt; have A5 := (A4.alloc (.cells #[.int .i64 Y2, .int .i64 M2', .int .i64 B2] 29)).below b5 (A4.alloc (.cells #[.int .i64 Y2, .int .i64 M2', .int .i64 B2] 29)).lt; have a50 := A5.c0; have a51 := A5.c1; have a52 := A5.c2; have a5l := A5.lt; have G5 := (G4.alloc (.cells #[.int .i64 Y2, .int .i64 M2', .int .i64 B2] 29)).grow b5; have p5 := belT (belT p4 (bl _ _)) b5; have B5 := (Blk.new w4 #[.int .i64 Y2, .int .i64 M2', .int .i64 B2] 29).below b5 (Blk.new w4 #[.int .i64 Y2, .int .i64 M2', .int .i64 B2] 29).lt; have b50 := B5.c0; have b51 := B5.c1; have b52 := B5.c2; have b5l := B5.lt)
        | (go_at_call 26; refine (M2 _ (G3.alloc _)).mono ?_; rintro x w4 ⟨rfl, b4⟩; have Ka4 := (Ka3.alloc (.cells #[.int .i64 Y1, .int .i64 M1', .int .i64 D1] 29)).below b4 (Ka3.alloc (.cells #[.int .i64 Y1, .int .i64 M1', .int .i64 D1] 29)).lt; have ka40 := Ka4.c0; have ka41 := Ka4.c1; have ka42 := Ka4.c2; have ka4l := Ka4.lt; have G4 := (G3.alloc (.cells #[.int .i64 Y1, .int .i64 M1', .int .i64 D1] 29)).grow b4; have p4 := belT (belT p3 (bl _ _)) b4; have A4 := (Blk.new w3 #[.int .i64 Y1, .int .i64 M1', .int .i64 D1] 29).below b4 (Blk.new w3 #[.int .i64 Y1, .int .i64 M1', .int .i64 D1] 29).lt; have a40 := A4.c0; have a41 := A4.c1; have a42 := A4.c2; have a4l := A4.lt)
        | (go_at_call 26; refine (M1 _ G2).mono ?_; rintro x w3 ⟨rfl, b3⟩; have Ka3 := Ka2.below b3 Ka2.lt; have ka30 := Ka3.c0; have ka31 := Ka3.c1; have ka32 := Ka3.c2; have ka3l := Ka3.lt; have G3 := G2.grow b3; have p3 := belT p2 b3)
        | fail)
      go_ret
      exact ⟨rfl, belT p5 (bl _ _)⟩
  · obtain rfl : b = true := by rw [← x3]; exact decide_eq_true (by omega)
    have h' : 28 < d := by omega
    have k2 : decide (28 ≤ C2) = true := decide_eq_true (by omega)
    have k3 : 28 ≤ C2 := by omega
    cases a
    · obtain rfl := x4 (Or.inl rfl)
      clear x4 x5
      go_enter Tryd.func7, Tryd.ntmps7
      go_wp2_with (first
        | (go_at_call 32; refine (WK _ G0).mono ?_; rintro x w1 ⟨rfl, b1⟩; have Ka1 := Ka0.below b1 Ka0.lt; have ka10 := Ka1.c0; have ka11 := Ka1.c1; have ka12 := Ka1.c2; have ka1l := Ka1.lt; have G1 := G0.grow b1; have p1 := belT pr b1)
        | (go_at_call 33; refine (RT _ G1).mono ?_; rintro x w2 ⟨rfl, b2⟩; have Ka2 := Ka1.below b2 Ka1.lt; have ka20 := Ka2.c0; have ka21 := Ka2.c1; have ka22 := Ka2.c2; have ka2l := Ka2.lt; have G2 := G1.grow b2; have p2 := belT p1 b2)
        | (go_at_call 26; refine (M3 _ (G4.alloc _)).mono ?_; rintro x w5 ⟨rfl, b5⟩; have Ka5 := (Ka4.alloc (.cells #[.int .i64 Y2, .int .i64 M2', .int .i64 B2] 29)).below b5 (Ka4.alloc (.cells #[.int .i64 Y2, .int .i64 M2', .int .i64 B2] 29)).lt; have ka50 := Ka5.c0; have ka51 := Ka5.c1; have ka52 := Ka5.c2; have ka5l := Ka5.lt; have A5 := (A4.alloc (.cells #[.int .i64 Y2, .int .i64 M2', .int .i64 B2] 29)).below b5 (A4.alloc (.cells #[.int .i64 Y2, .int .i64 M2', .int .i64 B2] 29)).lt; have a50 := A5.c0; have a51 := A5.c1; have a52 := A5.c2; have a5l := A5.lt; have G5 := (G4.alloc (.cells #[.int .i64 Y2, .int .i64 M2', .int .i64 B2] 29)).grow b5; have p5 := belT (belT p4 (bl _ _)) b5; have B5 := (Blk.new w4 #[.int .i64 Y2, .int .i64 M2', .int .i64 B2] 29).below b5 (Blk.new w4 #[.int .i64 Y2, .int .i64 M2', .int .i64 B2] 29).lt; have b50 := B5.c0; have b51 := B5.c1; have b52 := B5.c2; have b5l := B5.lt)
        | (go_at_call 26; refine (M2 _ (G3.alloc _)).mono ?_; rintro x w4 ⟨rfl, b4⟩; have Ka4 := (Ka3.alloc (.cells #[.int .i64 Y1, .int .i64 M1', .int .i64 D1] 29)).below b4 (Ka3.alloc (.cells #[.int .i64 Y1, .int .i64 M1', .int .i64 D1] 29)).lt; have ka40 := Ka4.c0; have ka41 := Ka4.c1; have ka42 := Ka4.c2; have ka4l := Ka4.lt; have G4 := (G3.alloc (.cells #[.int .i64 Y1, .int .i64 M1', .int .i64 D1] 29)).grow b4; have p4 := belT (belT p3 (bl _ _)) b4; have A4 := (Blk.new w3 #[.int .i64 Y1, .int .i64 M1', .int .i64 D1] 29).below b4 (Blk.new w3 #[.int .i64 Y1, .int .i64 M1', .int .i64 D1] 29).lt; have a40 := A4.c0; have a41 := A4.c1; have a42 := A4.c2; have a4l := A4.lt)
        | (go_at_call 26; refine (M1 _ G2).mono ?_; rintro x w3 ⟨rfl, b3⟩; have Ka3 := Ka2.below b3 Ka2.lt; have ka30 := Ka3.c0; have ka31 := Ka3.c1; have ka32 := Ka3.c2; have ka3l := Ka3.lt; have G3 := G2.grow b3; have p3 := belT p2 b3)
        | fail)
      go_ret
      exact ⟨rfl, belT p5 (bl _ _)⟩
    · clear x4 x5
      go_enter Tryd.func7, Tryd.ntmps7
      go_wp2_with (first
        | (go_at_call 32; refine (WK _ G0).mono ?_; rintro x w1 ⟨rfl, b1⟩; have Ka1 := Ka0.below b1 Ka0.lt; have ka10 := Ka1.c0; have ka11 := Ka1.c1; have ka12 := Ka1.c2; have ka1l := Ka1.lt; have G1 := G0.grow b1; have p1 := belT pr b1)
        | (go_at_call 33; refine (RT _ G1).mono ?_; rintro x w2 ⟨rfl, b2⟩; have Ka2 := Ka1.below b2 Ka1.lt; have ka20 := Ka2.c0; have ka21 := Ka2.c1; have ka22 := Ka2.c2; have ka2l := Ka2.lt; have G2 := G1.grow b2; have p2 := belT p1 b2)
        | (go_at_call 26; refine (M3 _ (G4.alloc _)).mono ?_; rintro x w5 ⟨rfl, b5⟩; have Ka5 := (Ka4.alloc (.cells #[.int .i64 Y2, .int .i64 M2', .int .i64 B2] 29)).below b5 (Ka4.alloc (.cells #[.int .i64 Y2, .int .i64 M2', .int .i64 B2] 29)).lt; have ka50 := Ka5.c0; have ka51 := Ka5.c1; have ka52 := Ka5.c2; have ka5l := Ka5.lt; have A5 := (A4.alloc (.cells #[.int .i64 Y2, .int .i64 M2', .int .i64 B2] 29)).below b5 (A4.alloc (.cells #[.int .i64 Y2, .int .i64 M2', .int .i64 B2] 29)).lt; have a50 := A5.c0; have a51 := A5.c1; have a52 := A5.c2; have a5l := A5.lt; have G5 := (G4.alloc (.cells #[.int .i64 Y2, .int .i64 M2', .int .i64 B2] 29)).grow b5; have p5 := belT (belT p4 (bl _ _)) b5; have B5 := (Blk.new w4 #[.int .i64 Y2, .int .i64 M2', .int .i64 B2] 29).below b5 (Blk.new w4 #[.int .i64 Y2, .int .i64 M2', .int .i64 B2] 29).lt; have b50 := B5.c0; have b51 := B5.c1; have b52 := B5.c2; have b5l := B5.lt)
        | (go_at_call 26; refine (M2 _ (G3.alloc _)).mono ?_; rintro x w4 ⟨rfl, b4⟩; have Ka4 := (Ka3.alloc (.cells #[.int .i64 Y1, .int .i64 M1', .int .i64 D1] 29)).below b4 (Ka3.alloc (.cells #[.int .i64 Y1, .int .i64 M1', .int .i64 D1] 29)).lt; have ka40 := Ka4.c0; have ka41 := Ka4.c1; have ka42 := Ka4.c2; have ka4l := Ka4.lt; have G4 := (G3.alloc (.cells #[.int .i64 Y1, .int .i64 M1', .int .i64 D1] 29)).grow b4; have p4 := belT (belT p3 (bl _ _)) b4; have A4 := (Blk.new w3 #[.int .i64 Y1, .int .i64 M1', .int .i64 D1] 29).below b4 (Blk.new w3 #[.int .i64 Y1, .int .i64 M1', .int .i64 D1] 29).lt; have a40 := A4.c0; have a41 := A4.c1; have a42 := A4.c2; have a4l := A4.lt)
        | (go_at_call 26; refine (M1 _ G2).mono ?_; rintro x w3 ⟨rfl, b3⟩; have Ka3 := Ka2.below b3 Ka2.lt; have ka30 := Ka3.c0; have ka31 := Ka3.c1; have ka32 := Ka3.c2; have ka3l := Ka3.lt; have G3 := G2.grow b3; have p3 := belT p2 b3)
        | fail)
      go_ret
      exact ⟨rfl, belT p5 (bl _ _)⟩
theorem mo_on {a : Int} : mo (a / 12 + 1) (a % 12 + 1) = a := by unfold mo; omega
theorem months_law (y m d p q : Int) (w : World) (G : Gl w) : Calls Tryd.prog 7 #[dt y m d, .int .i64 p, .int .i64 q] w fun e w' => e = .returned (.bool true) ∧ Below w.heap.size w w' := by
  obtain ⟨U, hU⟩ : ∃ U, IntKind.u64.wrap p = U := ⟨_, rfl⟩
  obtain ⟨U', hU'⟩ : ∃ U, IntKind.u64.wrap q = U := ⟨_, rfl⟩
  have r1 : 0 ≤ U := by rw [← hU, IntKind.wrap_u64]; omega
  have r2 : 0 ≤ U' := by rw [← hU', IntKind.wrap_u64]; omega
  have s1 : U.tmod 4000 = U % 4000 := Int.tmod_eq_emod_of_nonneg r1
  have s2 : U'.tmod 4000 = U' % 4000 := Int.tmod_eq_emod_of_nonneg r2
  have t1 : IntKind.i64.wrap (U % 4000) = U % 4000 := wrapI _ (by omega) (by omega)
  have t2 : IntKind.i64.wrap (U' % 4000) = U' % 4000 := wrapI _ (by omega) (by omega)
  obtain ⟨M, hM⟩ : ∃ M, U % 4000 - 2000 = M := ⟨_, rfl⟩
  obtain ⟨N, hN⟩ : ∃ M, U' % 4000 - 2000 = M := ⟨_, rfl⟩
  have v1 : IntKind.i64.wrap (U % 4000 - 2000) = M := by rw [wrapI _ (by omega) (by omega)]; exact hM
  have v2 : IntKind.i64.wrap (U' % 4000 - 2000) = N := by rw [wrapI _ (by omega) (by omega)]; exact hN
  have RT := right_any y m d
  cases g : good y m d
  · rw [g] at RT
    exact mo_w0 y m d p q U _ M U' _ N w G hU s1 t1 v1 hU' s2 t2 v2 works_any RT
  rw [g] at RT
  obtain ⟨g1, g2, g3, g4, g5, g6⟩ := good_iff.1 g
  have A := Months_any y m d M
  unfold mns at A
  rw [g, if_pos rfl] at A
  by_cases c : 0 ≤ mo y m + M ∧ mo y m + M ≤ 119987
  · rw [if_pos c] at A
    have ga := good_on (d := d) (a := mo y m + M) g5 c.1
    rw [decide_eq_true c.2] at ga
    have B := Months_any ((mo y m + M) / 12 + 1) ((mo y m + M) % 12 + 1) (min d (mk (mo y m + M))) N
    have C := Months_any y m d (M + N)
    unfold mns at B C
    rw [ga, if_pos rfl, mo_on] at B
    rw [g, if_pos rfl, show mo y m + (M + N) = mo y m + M + N by omega] at C
    have hs : IntKind.i64.wrap (M + N) = M + N := wrapI _ (by omega) (by omega)
    by_cases k : 0 ≤ mo y m + M + N ∧ mo y m + M + N ≤ 119987
    · rw [if_pos k] at B C
      have b1 := mk_bd (mo y m + M)
      have b2 := mk_bd (mo y m + M + N)
      refine mo_w3 y m d p q U _ M U' _ N w G hU s1 t1 v1 hU' s2 t2 v2 _ _ _ _ _ _ _ _ hs works_any RT A B C (by omega) _ _ rfl rfl ?_ (by omega)
      rintro (h | h)
      · have := of_decide_eq_false h; omega
      · have := of_decide_eq_false h; omega
    · rw [if_neg k] at B C
      exact mo_w2 y m d p q U _ M U' _ N w G hU s1 t1 v1 hU' s2 t2 v2 _ _ _ _ hs works_any RT A B C
  · rw [if_neg c] at A
    exact mo_w1 y m d p q U _ M U' _ N w G hU s1 t1 v1 hU' s2 t2 v2 works_any RT A
end Go.Proofs.YtohdbpnkenoclaaDoor.Dy
