import Derived.Test.YtohdbpnkenoclaaDoorDy13
namespace Go.Proofs.YtohdbpnkenoclaaDoor.Dy
open Go.RowKit Tn
theorem dys_form (y m d n : Int) : ∃ Y M D E, dys y m d n = .tuple #[dt Y M D, .int .i64 E] := by
  unfold dys; split
  · exact ⟨_, _, _, _, rfl⟩
  · exact ⟨_, _, _, _, rfl⟩
theorem mns_form (y m d n : Int) : ∃ Y M D E, mns y m d n = .tuple #[dt Y M D, .int .i64 E] := by
  unfold mns; split
  · split
    · exact ⟨_, _, _, _, rfl⟩
    · exact ⟨_, _, _, _, rfl⟩
  · exact ⟨_, _, _, _, rfl⟩
set_option maxHeartbeats 1600000 in
theorem moves_walk (y m d n : Int) (w : World) (G : Gl w) : Calls Tryd.prog 5 #[dt y m d, .int .i64 n] w fun e w' => e = .returned (.bool true) ∧ Below w.heap.size w w' := by
  have Ka0 := Blk.new w #[.int .i64 y, .int .i64 m, .int .i64 d] 29
  have pr := bl (w := w) #[.int .i64 y, .int .i64 m, .int .i64 d] 29
  have G0 := (G).alloc (.cells #[.int .i64 y, .int .i64 m, .int .i64 d] 29)
  have P := Days_any y m d n
  have Q := RDays_any y m d n
  have R := Months_any y m d n
  have S := ROn_any y m d n
  obtain ⟨Y1, M1, D1, E1, e1⟩ := dys_form y m d n
  obtain ⟨Y2, M2, D2, E2, e2⟩ := mns_form y m d n
  rw [e1] at P Q
  rw [e2] at R S
  clear G e1 e2
  unfold dt at *
  go_enter Tryd.func5, Tryd.ntmps5
  go_wp2_with (first
    | (go_at_call 24; refine (P _ G0).mono ?_; rintro x w1 ⟨rfl, b1⟩; have Ka1 := Ka0.below b1 Ka0.lt; have ka10 := Ka1.c0; have ka11 := Ka1.c1; have ka12 := Ka1.c2; have ka1l := Ka1.lt; have G1 := G0.grow b1; have p1 := belT pr b1)
    | (go_at_call 25; refine (Q _).mono ?_; rintro x w2 ⟨rfl, b2⟩; have Ka2 := (Ka1.alloc (.cells #[.int .i64 Y1, .int .i64 M1, .int .i64 D1] 29)).below b2 (Ka1.alloc (.cells #[.int .i64 Y1, .int .i64 M1, .int .i64 D1] 29)).lt; have ka20 := Ka2.c0; have ka21 := Ka2.c1; have ka22 := Ka2.c2; have ka2l := Ka2.lt; have G2 := (G1.alloc (.cells #[.int .i64 Y1, .int .i64 M1, .int .i64 D1] 29)).grow b2; have p2 := belT (belT p1 (bl _ _)) b2; have A2 := (Blk.new w1 #[.int .i64 Y1, .int .i64 M1, .int .i64 D1] 29).below b2 (Blk.new w1 #[.int .i64 Y1, .int .i64 M1, .int .i64 D1] 29).lt; have a20 := A2.c0; have a21 := A2.c1; have a22 := A2.c2; have a2l := A2.lt)
    | (go_at_call 26; refine (R _ (G2.alloc _)).mono ?_; rintro x w3 ⟨rfl, b3⟩; have Ka3 := (Ka2.alloc (.cells #[.int .i64 Y1, .int .i64 M1, .int .i64 D1] 29)).below b3 (Ka2.alloc (.cells #[.int .i64 Y1, .int .i64 M1, .int .i64 D1] 29)).lt; have ka30 := Ka3.c0; have ka31 := Ka3.c1; have ka32 := Ka3.c2; have ka3l := Ka3.lt; have A3 := (A2.alloc (.cells #[.int .i64 Y1, .int .i64 M1, .int .i64 D1] 29)).below b3 (A2.alloc (.cells #[.int .i64 Y1, .int .i64 M1, .int .i64 D1] 29)).lt; have a30 := A3.c0; have a31 := A3.c1; have a32 := A3.c2; have a3l := A3.lt; have G3 := (G2.alloc (.cells #[.int .i64 Y1, .int .i64 M1, .int .i64 D1] 29)).grow b3; have p3 := belT (belT p2 (bl _ _)) b3; have B3 := (Blk.new w2 #[.int .i64 Y1, .int .i64 M1, .int .i64 D1] 29).below b3 (Blk.new w2 #[.int .i64 Y1, .int .i64 M1, .int .i64 D1] 29).lt; have b30 := B3.c0; have b31 := B3.c1; have b32 := B3.c2; have b3l := B3.lt)
    | (go_at_call 27; refine (S _).mono ?_; rintro x w4 ⟨rfl, b4⟩; have Ka4 := (Ka3.alloc (.cells #[.int .i64 Y2, .int .i64 M2, .int .i64 D2] 29)).below b4 (Ka3.alloc (.cells #[.int .i64 Y2, .int .i64 M2, .int .i64 D2] 29)).lt; have ka40 := Ka4.c0; have ka41 := Ka4.c1; have ka42 := Ka4.c2; have ka4l := Ka4.lt; have A4 := (A3.alloc (.cells #[.int .i64 Y2, .int .i64 M2, .int .i64 D2] 29)).below b4 (A3.alloc (.cells #[.int .i64 Y2, .int .i64 M2, .int .i64 D2] 29)).lt; have a40 := A4.c0; have a41 := A4.c1; have a42 := A4.c2; have a4l := A4.lt; have B4 := (B3.alloc (.cells #[.int .i64 Y2, .int .i64 M2, .int .i64 D2] 29)).below b4 (B3.alloc (.cells #[.int .i64 Y2, .int .i64 M2, .int .i64 D2] 29)).lt; have b40 := B4.c0; have b41 := B4.c1; have b42 := B4.c2; have b4l := B4.lt; have G4 := (G3.alloc (.cells #[.int .i64 Y2, .int .i64 M2, .int .i64 D2] 29)).grow b4; have p4 := belT (belT p3 (bl _ _)) b4; have X4 := (Blk.new w3 #[.int .i64 Y2, .int .i64 M2, .int .i64 D2] 29).below b4 (Blk.new w3 #[.int .i64 Y2, .int .i64 M2, .int .i64 D2] 29).lt; have x40 := X4.c0; have x41 := X4.c1; have x42 := X4.c2; have x4l := X4.lt)
    | fail)
  go_ret
  exact ⟨rfl, belT p4 (bl _ _)⟩
end Go.Proofs.YtohdbpnkenoclaaDoor.Dy
