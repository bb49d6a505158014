import Derived.Test.YtohdbpnkenoclaaDoorDy9
namespace Go.Proofs.YtohdbpnkenoclaaDoor.Dy
open Go.RowKit Tn

set_option maxHeartbeats 1600000 in
theorem numbers_walk (y m d n : Int) (w : World) (G : Gl w) : Calls Tryd.prog 4 #[dt y m d, .int .i64 n] w fun e w' => e = .returned (.bool true) ∧ Below w.heap.size w w' := by
  have K0 := Blk.new w #[.int .i64 y, .int .i64 m, .int .i64 d] 29
  have pr := bl (w := w) #[.int .i64 y, .int .i64 m, .int .i64 d] 29
  have G' := G.alloc (.cells #[.int .i64 y, .int .i64 m, .int .i64 d] 29)
  have N := Number_any y m d
  have W := Weekday_any y m d
  have FN := FromNumber_any n
  have RF := RFromNumber_any n
  have Go := Good_any y m d
  have Ch := Check_any y m d
  cases h2 : good y m d
  · cases h1 : nr n
    all_goals
      rw [h1] at FN RF
      rw [h2] at N W Go Ch
      unfold dt er rg at *
      go_enter Tryd.func4, Tryd.ntmps4
      go_wp2_with (first
        | (go_at_call 16; refine (N _ G').mono ?_; rintro x w1 ⟨rfl, b1⟩; have K1 := K0.below b1 K0.lt; have G1 := G'.grow b1; have k0 := K1.c0; have k1 := K1.c1; have k2 := K1.c2; have p1 := belT pr b1)
        | (go_at_call 17; refine (W _ G1).mono ?_; rintro x w2 ⟨rfl, b2⟩; have K2 := K1.below b2 K1.lt; have G2 := G1.grow b2; have k3 := K2.c0; have k4 := K2.c1; have k5 := K2.c2; have p2 := belT p1 b2)
        | (go_at_call 18; refine (FN _ G2).mono ?_; rintro x w3 ⟨rfl, b3⟩; have K3 := K2.below b3 K2.lt; have G3 := G2.grow b3; have p3 := belT p2 b3)
        | (go_at_call 19; refine (RF _).mono ?_; rintro x w4 ⟨rfl, b4⟩; have K4 := (K3.alloc _).below b4 (K3.alloc _).lt; have G4 := (G3.alloc _).grow b4; have p4 := belT (belT p3 (bl _ _)) b4; have X4 := (Blk.new w3 _ _).below b4 (Blk.new w3 _ _).lt; have x0 := X4.c0; have x1 := X4.c1; have x2 := X4.c2; have l4 := X4.lt; have l5 := K4.lt; have k6 := K4.c0; have k7 := K4.c1; have k8 := K4.c2)
        | (go_at_call 20; refine (Go _).mono ?_; rintro x w5 ⟨rfl, b5⟩; have K5 := (K4.alloc _).below b5 (K4.alloc _).lt; have G5 := (G4.alloc _).grow b5; have p5 := belT (belT p4 (bl _ _)) b5; have k9 := K5.c0; have k10 := K5.c1; have k11 := K5.c2)
        | (go_at_call 21; refine (Ch _ G5).mono ?_; rintro x w6 ⟨rfl, b6⟩; have p6 := belT p5 b6)
        | fail)
      go_ret
      exact ⟨rfl, p6⟩
  · obtain ⟨g1, g2, g3, g4, g5, g6⟩ := good_iff.1 h2
    have mb := ml_bd (lp y) m
    have RN := RNumber_any y m d g1 (by omega) g3 g4 (by omega) (by omega)
    have RW := RWeekday_any (num y m d) (num_lo h2) (by have := num_hi h2; omega)
    clear g1 g2 g3 g4 g5 g6 mb
    cases h1 : nr n
    all_goals
      rw [h1] at FN RF
      rw [h2] at N W Go Ch
      unfold dt er rg at *
      generalize (num y m d - 1) % 7 + 1 = N1 at *
      generalize num y m d = N0 at *
      go_enter Tryd.func4, Tryd.ntmps4
      go_wp2_with (first
        | (go_at_call 16; refine (N _ G').mono ?_; rintro x w1 ⟨rfl, b1⟩; have K1 := K0.below b1 K0.lt; have G1 := G'.grow b1; have k0 := K1.c0; have k1 := K1.c1; have k2 := K1.c2; have p1 := belT pr b1)
        | (go_at_call 17; refine (W _ G1).mono ?_; rintro x w2 ⟨rfl, b2⟩; have K2 := K1.below b2 K1.lt; have G2 := G1.grow b2; have k3 := K2.c0; have k4 := K2.c1; have k5 := K2.c2; have p2 := belT p1 b2)
        | (go_at_call 18; refine (FN _ G2).mono ?_; rintro x w3 ⟨rfl, b3⟩; have K3 := K2.below b3 K2.lt; have G3 := G2.grow b3; have p3 := belT p2 b3)
        | (go_at_call 19; refine (RF _).mono ?_; rintro x w4 ⟨rfl, b4⟩; have K4 := (K3.alloc _).below b4 (K3.alloc _).lt; have G4 := (G3.alloc _).grow b4; have p4 := belT (belT p3 (bl _ _)) b4; have X4 := (Blk.new w3 _ _).below b4 (Blk.new w3 _ _).lt; have x0 := X4.c0; have x1 := X4.c1; have x2 := X4.c2; have l4 := X4.lt; have l5 := K4.lt; have k6 := K4.c0; have k7 := K4.c1; have k8 := K4.c2)
        | (go_at_call 20; refine (Go _).mono ?_; rintro x w5 ⟨rfl, b5⟩; have K5 := (K4.alloc _).below b5 (K4.alloc _).lt; have G5 := (G4.alloc _).grow b5; have p5 := belT (belT p4 (bl _ _)) b5; have k9 := K5.c0; have k10 := K5.c1; have k11 := K5.c2)
        | (go_at_call 22; refine (RN _).mono ?_; rintro x w6 ⟨rfl, b6⟩; have p6 := belT p5 b6; have K6 := K5.below b6 K5.lt; have G6 := G5.grow b6; have k12 := K6.c0; have k13 := K6.c1; have k14 := K6.c2)
        | (go_at_call 23; refine (RW _).mono ?_; rintro x w8 ⟨rfl, rfl⟩)
        | (go_at_call 21; refine (Ch _ G6).mono ?_; rintro x w7 ⟨rfl, b7⟩; have p7 := belT p6 b7)
        | fail)
      go_ret
      exact ⟨rfl, p7⟩
end Go.Proofs.YtohdbpnkenoclaaDoor.Dy
