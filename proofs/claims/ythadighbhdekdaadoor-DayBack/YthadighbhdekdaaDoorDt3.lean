import Derived.Test.YthadighbhdekdaaDoorDt2
namespace Go.Proofs.YthadighbhdekdaaDoor.Dt
open Go.RowKit Go.Lib Go.Proofs.YthadighbhdekdaaDoor.Dy
theorem undr {V w2 : World} {n : Nat} (k : Below (V.drewN n).heap.size (V.drewN n) w2) : Below V.heap.size V w2 := ⟨k.os, k.tape, k.output, k.size, k.block⟩
set_option maxHeartbeats 3200000 in
set_option maxRecDepth 100000 in
theorem Text_walk (y m d : Int) (w : World) (G : Gt w) (P1 P2 P3 Q1 Q2 Q3 Q4 : ByteArray) (s1 : P1.size = 4) (s2 : P2.size = 2) (s3 : P3.size = 2) (t1 : Q1.size = 5) (t2 : Q2.size = 7) (t3 : Q3.size = 8) (q1 : P1 ++ ⟨#[45]⟩ = Q1) (q2 : Q1 ++ P2 = Q2) (q3 : Q2 ++ ⟨#[45]⟩ = Q3) (q4 : Q3 ++ P3 = Q4)
    (CH : ∀ W, Gl W → Calls Tryd.prog 19 #[dt y m d] W fun e w' => e = .returned (.int .i64 0) ∧ Below W.heap.size W w')
    (C1 : ∀ W, Gt W → Calls Tryd.prog 20 #[.int .i64 y, .int .i64 10000] W fun e w' => e = .returned (.string P1) ∧ Below W.heap.size W w') (C2 : ∀ W, Gt W → Calls Tryd.prog 20 #[.int .i64 m, .int .i64 100] W fun e w' => e = .returned (.string P2) ∧ Below W.heap.size W w') (C3 : ∀ W, Gt W → Calls Tryd.prog 20 #[.int .i64 d, .int .i64 100] W fun e w' => e = .returned (.string P3) ∧ Below W.heap.size W w') :
    Calls Tryd.prog 6 #[dt y m d] w fun e w' => e = .returned (.tuple #[.string Q4, .int .i64 0]) ∧ Below w.heap.size w w' := by
  have K0 := Blk.new w #[.int .i64 y, .int .i64 m, .int .i64 d] 23
  have p0 := bl (w := w) #[.int .i64 y, .int .i64 m, .int .i64 d] 23
  have G0 := G.alloc (.cells #[.int .i64 y, .int .i64 m, .int .i64 d] 23)
  have g0 := G0.2
  clear G
  unfold dt at *
  go_enter Tryd.func6, Tryd.ntmps6
  go_wp2_with (first
    | (go_at_call 19; refine (CH _ g0).mono ?_; rintro x w1 ⟨rfl, b1⟩; have G1 := G0.grow b1; have K1 := K0.below b1 K0.lt; have k10 := K1.c0; have k11 := K1.c1; have k12 := K1.c2; have p1 := belT p0 b1)
    | fail)
  go_region_with (first
    | (have _ := K3; go_at_call 20; first | ((refine (C3 _ G3).mono ?_); rintro x w4 ⟨rfl, b4⟩; have B4 := b4; have G4 := G3.grow B4; have K4 := K3.below B4 K3.lt; have k40 := K4.c0; have k41 := K4.c1; have k42 := K4.c2; have p4 := belT p3 B4) | ((refine (C3 _ (G3.drew _)).mono ?_); rintro x w4 ⟨rfl, b4⟩; have B4 := undr b4; have G4 := G3.grow B4; have K4 := K3.below B4 K3.lt; have k40 := K4.c0; have k41 := K4.c1; have k42 := K4.c2; have p4 := belT p3 B4))
    | (have _ := K2; go_at_call 20; first | ((refine (C2 _ G2).mono ?_); rintro x w3 ⟨rfl, b3⟩; have B3 := b3; have G3 := G2.grow B3; have K3 := K2.below B3 K2.lt; have k30 := K3.c0; have k31 := K3.c1; have k32 := K3.c2; have p3 := belT p2 B3) | ((refine (C2 _ (G2.drew _)).mono ?_); rintro x w3 ⟨rfl, b3⟩; have B3 := undr b3; have G3 := G2.grow B3; have K3 := K2.below B3 K2.lt; have k30 := K3.c0; have k31 := K3.c1; have k32 := K3.c2; have p3 := belT p2 B3))
    | (go_at_call 20; refine (C1 _ (G1.drew _)).mono ?_; rintro x w2 ⟨rfl, b2⟩; have B2 := undr b2; have G2 := G1.grow B2; have K2 := K1.below B2 K1.lt; have k20 := K2.c0; have k21 := K2.c1; have k22 := K2.c2; have p2 := belT p1 B2))
  all_goals
    go_wp2_with fail
    go_ret2
    exact ⟨rfl, p4⟩
set_option maxHeartbeats 800000 in
set_option maxRecDepth 100000 in
theorem Text_bad (y m d : Int) (w : World) (G : Gt w) (g : good y m d = false) : Calls Tryd.prog 6 #[dt y m d] w fun e w' => e = .returned (.tuple #[.string ⟨#[]⟩, .int .i64 70]) ∧ Below w.heap.size w w' := by
  have CH := Check_any y m d
  rw [g] at CH
  have p0 := bl (w := w) #[.int .i64 y, .int .i64 m, .int .i64 d] 23
  have G0 := G.alloc (.cells #[.int .i64 y, .int .i64 m, .int .i64 d] 23)
  have g0 := G0.2
  clear G g
  unfold dt er at *
  go_enter Tryd.func6, Tryd.ntmps6
  go_wp2_with (first
    | (go_at_call 19; refine (CH _ g0).mono ?_; rintro x w1 ⟨rfl, b1⟩; have p1 := belT p0 b1)
    | fail)
  go_ret2
  exact ⟨rfl, p1⟩
set_option maxHeartbeats 3200000 in
set_option maxRecDepth 100000 in
theorem RText_walk (y m d : Int) (w : World) (G : Gt w) (P1 P2 P3 Q1 Q2 Q3 Q4 : ByteArray) (s1 : P1.size = 4) (s2 : P2.size = 2) (s3 : P3.size = 2) (t1 : Q1.size = 5) (t2 : Q2.size = 7) (t3 : Q3.size = 8) (q1 : P1 ++ ⟨#[45]⟩ = Q1) (q2 : Q1 ++ P2 = Q2) (q3 : Q2 ++ ⟨#[45]⟩ = Q3) (q4 : Q3 ++ P3 = Q4)
    (C1 : ∀ W, Gt W → Calls Tryd.prog 24 #[.int .i64 y, .int .i64 4] W fun e w' => e = .returned (.string P1) ∧ Below W.heap.size W w') (C2 : ∀ W, Gt W → Calls Tryd.prog 24 #[.int .i64 m, .int .i64 2] W fun e w' => e = .returned (.string P2) ∧ Below W.heap.size W w') (C3 : ∀ W, Gt W → Calls Tryd.prog 24 #[.int .i64 d, .int .i64 2] W fun e w' => e = .returned (.string P3) ∧ Below W.heap.size W w') :
    Calls Tryd.prog 10 #[dt y m d] w fun e w' => e = .returned (.string Q4) ∧ Below w.heap.size w w' := by
  have K1 := Blk.new w #[.int .i64 y, .int .i64 m, .int .i64 d] 23
  have p1 := bl (w := w) #[.int .i64 y, .int .i64 m, .int .i64 d] 23
  have G1 := G.alloc (.cells #[.int .i64 y, .int .i64 m, .int .i64 d] 23)
  clear G
  unfold dt at *
  go_enter Tryd.func10, Tryd.ntmps10
  go_wp2_with fail
  generalize w.alloc (.cells #[.int .i64 y, .int .i64 m, .int .i64 d] 23) = V at *
  have k10 := K1.c0
  have k11 := K1.c1
  have k12 := K1.c2
  go_region_with (first
    | (have _ := K3; go_at_call 24; first | ((refine (C3 _ G3).mono ?_); rintro x w4 ⟨rfl, b4⟩; have B4 := b4; have G4 := G3.grow B4; have K4 := K3.below B4 K3.lt; have k40 := K4.c0; have k41 := K4.c1; have k42 := K4.c2; have p4 := belT p3 B4) | ((refine (C3 _ (G3.drew _)).mono ?_); rintro x w4 ⟨rfl, b4⟩; have B4 := undr b4; have G4 := G3.grow B4; have K4 := K3.below B4 K3.lt; have k40 := K4.c0; have k41 := K4.c1; have k42 := K4.c2; have p4 := belT p3 B4))
    | (have _ := K2; go_at_call 24; first | ((refine (C2 _ G2).mono ?_); rintro x w3 ⟨rfl, b3⟩; have B3 := b3; have G3 := G2.grow B3; have K3 := K2.below B3 K2.lt; have k30 := K3.c0; have k31 := K3.c1; have k32 := K3.c2; have p3 := belT p2 B3) | ((refine (C2 _ (G2.drew _)).mono ?_); rintro x w3 ⟨rfl, b3⟩; have B3 := undr b3; have G3 := G2.grow B3; have K3 := K2.below B3 K2.lt; have k30 := K3.c0; have k31 := K3.c1; have k32 := K3.c2; have p3 := belT p2 B3))
    | (go_at_call 24; refine (C1 _ (G1.drew _)).mono ?_; rintro x w2 ⟨rfl, b2⟩; have B2 := undr b2; have G2 := G1.grow B2; have K2 := K1.below B2 K1.lt; have k20 := K2.c0; have k21 := K2.c1; have k22 := K2.c2; have p2 := belT p1 B2))
  all_goals
    go_wp2_with fail
    go_ret
    exact ⟨rfl, p4⟩
theorem p4_len (n : Nat) : (pad4 n).length = 4 := rfl
theorem p2_len (n : Nat) : (pad2 n).length = 2 := rfl
theorem toNat_int {y : Int} (h : 0 ≤ y) : ((y.toNat : Nat) : Int) = y := by omega
/-- The sums of a date's text. -/
theorem txt_sum (y m d : Int) : ∃ Q1 Q2 Q3 : ByteArray, Q1.size = 5 ∧ Q2.size = 7 ∧ Q3.size = 8 ∧ bs (pad4 y.toNat) ++ ⟨#[45]⟩ = Q1 ∧ Q1 ++ bs (pad2 m.toNat) = Q2 ∧ Q2 ++ ⟨#[45]⟩ = Q3 ∧ Q3 ++ bs (pad2 d.toNat) = bs (txt y m d) := by
  have h45 : (⟨#[45]⟩ : ByteArray) = bs [45] := rfl
  refine ⟨bs (pad4 y.toNat ++ [45]), bs (pad4 y.toNat ++ [45] ++ pad2 m.toNat), bs (pad4 y.toNat ++ [45] ++ pad2 m.toNat ++ [45]), by rw [bs_size]; rfl, by rw [bs_size]; rfl, by rw [bs_size]; rfl, ?_, ?_, ?_, ?_⟩
  · rw [h45, bs_add]
  · rw [bs_add]
  · rw [h45, bs_add]
  · rw [bs_add]; rfl
theorem Text_any (y m d : Int) (w : World) (G : Gt w) (g : good y m d = true) : Calls Tryd.prog 6 #[dt y m d] w fun e w' => e = .returned (.tuple #[.string (bs (txt y m d)), .int .i64 0]) ∧ Below w.heap.size w w' := by
  obtain ⟨g1, g2, g3, g4, g5, g6⟩ := good_iff.1 g
  have mb := ml_bd (lp y) m
  have CH := Check_any y m d
  rw [g] at CH
  obtain ⟨Q1, Q2, Q3, t1, t2, t3, q1, q2, q3, q4⟩ := txt_sum y m d
  have C1 := fun W GW => padded4 y.toNat (by omega) W GW
  have C2 := fun W GW => padded2 m.toNat (by omega) W GW
  have C3 := fun W GW => padded2 d.toNat (by omega) W GW
  rw [toNat_int (by omega)] at C1 C2 C3
  exact Text_walk y m d w G _ _ _ Q1 Q2 Q3 _ (by rw [bs_size]; rfl) (by rw [bs_size]; rfl) (by rw [bs_size]; rfl) t1 t2 t3 q1 q2 q3 q4 CH C1 C2 C3
end Go.Proofs.YthadighbhdekdaaDoor.Dt
