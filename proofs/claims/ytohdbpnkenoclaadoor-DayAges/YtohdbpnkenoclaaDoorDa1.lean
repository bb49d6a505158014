import Derived.Test.YtohdbpnkenoclaaDoorDy20
namespace Go.Proofs.YtohdbpnkenoclaaDoor.Dy
open Go.RowKit Tn
theorem bt_form (y m d u v e : Int) : ∃ A B C D, btR y m d u v e = .tuple #[.int .i64 A, .int .i64 B, .int .i64 C, .int .i64 D] := by
  unfold btR; split
  · exact ⟨_, _, _, _, rfl⟩
  · exact ⟨_, _, _, _, rfl⟩
set_option maxHeartbeats 1600000 in
theorem ages_walk (y m d u v e how : Int) (w : World) (G : Gl w) : Calls Tryd.prog 6 #[dt y m d, dt u v e, .int .i64 how] w fun x w' => x = .returned (.bool true) ∧ Below w.heap.size w w' := by
  have T0 := Tb.new w y m d u v e G
  have G0 := T0.2.2.1
  have P := Age_any y m d u v e how
  have Q := RAge_any y m d u v e how
  have R := Between_any y m d u v e
  have S := RBetween_any y m d u v e
  obtain ⟨A1, B1, C1, D1, e1⟩ := bt_form y m d u v e
  rw [e1] at R S
  generalize (agR y m d u v e how).1 = N1 at *
  generalize (agR y m d u v e how).2 = N2 at *
  clear G e1
  unfold dt at *
  go_enter Tryd.func6, Tryd.ntmps6
  go_wp2_with (first
    | (go_at_call 28; refine (P _ G0).mono ?_; rintro x w1 ⟨rfl, b1⟩; have T1 := T0.grow b1; have G1 := T1.2.2.1; have a10 := T1.1.c0; have a11 := T1.1.c1; have a12 := T1.1.c2; have b10 := T1.2.1.c0; have b11 := T1.2.1.c1; have b12 := T1.2.1.c2)
    | (go_at_call 29; refine (Q _ G1).mono ?_; rintro x w2 ⟨rfl, b2⟩; have T2 := T1.grow b2; have G2 := T2.2.2.1; have a20 := T2.1.c0; have a21 := T2.1.c1; have a22 := T2.1.c2; have b20 := T2.2.1.c0; have b21 := T2.2.1.c1; have b22 := T2.2.1.c2)
    | (go_at_call 30; refine (R _ G2).mono ?_; rintro x w3 ⟨rfl, b3⟩; have T3 := T2.grow b3; have G3 := T3.2.2.1; have a30 := T3.1.c0; have a31 := T3.1.c1; have a32 := T3.1.c2; have b30 := T3.2.1.c0; have b31 := T3.2.1.c1; have b32 := T3.2.1.c2)
    | (go_at_call 31; refine (S _ G3).mono ?_; rintro x w4 ⟨rfl, b4⟩; have T4 := T3.grow b4; have G4 := T4.2.2.1; have a40 := T4.1.c0; have a41 := T4.1.c1; have a42 := T4.1.c2; have b40 := T4.2.1.c0; have b41 := T4.2.1.c1; have b42 := T4.2.1.c2)
    | fail)
  go_ret
  exact ⟨rfl, T4.2.2.2⟩
end Go.Proofs.YtohdbpnkenoclaaDoor.Dy
