import Derived.Test.YtpmgbmafibkgnaaGreatDoorPart44

namespace Go.Proofs.YtpmgbmafibkgnaaGreatDoor.Mo
open Go.RowKit Fu Tn Go.Lib Dc

set_option maxHeartbeats 12800000 in
set_option maxRecDepth 100000 in
theorem simp_no (ad an bd bn cd cn : ByteArray)  (w : World) (H : Gw w)
    (HW : ∀ W, Gw W → Calls Tryz.prog 4 #[] W fun x w' => x = .returned (.bool true) ∧ Below W.heap.size W w')
    (HA : ∀ W, Gw W → Calls Tryz.prog 5 #[.agg #[.string an, .string ad]] W fun x w' => x = .returned (.bool true) ∧ Below W.heap.size W w')
    (HB : ∀ W, Gw W → Calls Tryz.prog 5 #[.agg #[.string bn, .string bd]] W fun x w' => x = .returned (.bool true) ∧ Below W.heap.size W w')
    (HC : ∀ W, Gw W → Calls Tryz.prog 5 #[.agg #[.string cn, .string cd]] W fun x w' => x = .returned (.bool true) ∧ Below W.heap.size W w')
    (B1 : ∀ W, Gw W → Calls Tryz.prog 6 #[.agg #[.string an, .string ad], .agg #[.string bn, .string bd]] W fun x w' => x = .returned (.tuple #[.agg #[.string ⟨#[]⟩, .string ⟨#[]⟩], .int .i64 1]) ∧ Below W.heap.size W w')
    (O1 : ∀ W, Gw W → Calls Tryz.prog 7 #[.agg #[.string an, .string ad], .agg #[.string bn, .string bd]] W fun x w' => x = .returned (.tuple #[.int .i64 1, .int .i64 0]) ∧ Below W.heap.size W w') :
    Calls Tryz.prog 3 #[.agg #[.string an, .string ad], .agg #[.string bn, .string bd], .agg #[.string cn, .string cd]] w fun x w' => x = .returned (.bool true) ∧ Below w.heap.size w w' := by
  have T0 := R3.new w an ad bn bd cn cd H
  have ⟨f00, f01, f02, f03, f04, f05, f06⟩ := T0.cells
  have Q0 : Tk 0 := trivial
  clear H
  go_enter Tryz.func3, Tryz.ntmps3
  go_wp2_with (first
    | (go_at_call 4; (have q1 := Q0); refine (HW _ T0.gw).mono ?_; rintro x w1 ⟨rfl, b1⟩; (have a1 := b1); (have T1 := T0.grow a1); (have ⟨f10, f11, f12, f13, f14, f15, f16⟩ := T1.cells); (have Q1 : Tk 1 := trivial); clear Q0 q1 T0 f00 f01 f02 f03 f04 f05 f06 a1 b1)
    | (go_at_call 5; (have q2 := Q1); refine (HA _ T1.gw).mono ?_; rintro x w2 ⟨rfl, b2⟩; (have a2 := b2); (have T2 := T1.grow a2); (have ⟨f20, f21, f22, f23, f24, f25, f26⟩ := T2.cells); (have Q2 : Tk 2 := trivial); clear Q1 q2 T1 f10 f11 f12 f13 f14 f15 f16 a2 b2)
    | (go_at_call 5; (have q3 := Q2); refine (HB _ T2.gw).mono ?_; rintro x w3 ⟨rfl, b3⟩; (have a3 := b3); (have T3 := T2.grow a3); (have ⟨f30, f31, f32, f33, f34, f35, f36⟩ := T3.cells); (have Q3 : Tk 3 := trivial); clear Q2 q3 T2 f20 f21 f22 f23 f24 f25 f26 a3 b3)
    | (go_at_call 5; (have q4 := Q3); refine (HC _ T3.gw).mono ?_; rintro x w4 ⟨rfl, b4⟩; (have a4 := b4); (have T4 := T3.grow a4); (have ⟨f40, f41, f42, f43, f44, f45, f46⟩ := T4.cells); (have Q4 : Tk 4 := trivial); clear Q3 q4 T3 f30 f31 f32 f33 f34 f35 f36 a4 b4)
    | (go_at_call 6; (have q5 := Q4); refine (B1 _ T4.gw).mono ?_; rintro x w5 ⟨rfl, b5⟩; (have a5 := (b5.trans ((Below.refl _ _).alloc b5.size (.cells #[.string ⟨#[]⟩, .string ⟨#[]⟩] 23)))); (have T5 := T4.grow a5); (have ⟨f50, f51, f52, f53, f54, f55, f56⟩ := T5.cells); (have X5x := Blk.new w5 #[.string ⟨#[]⟩, .string ⟨#[]⟩] 23); (have ⟨g5x0, g5x1, g5xl⟩ := rcells X5x); (have Q5 : Tk 5 := trivial); clear Q4 q5 T4 f40 f41 f42 f43 f44 f45 f46 a5 b5)
    | (go_at_call 7; (have q6 := Q5); refine (O1 _ T5.gw).mono ?_; rintro x w6 ⟨rfl, b6⟩; (have a6 := b6); (have T6 := T5.grow a6); (have ⟨f60, f61, f62, f63, f64, f65, f66⟩ := T6.cells); (have X6x := X5x.below a6 X5x.lt); (have ⟨g6x0, g6x1, g6xl⟩ := rcells X6x); (have Q6 : Tk 6 := trivial); clear Q5 q6 T5 f50 f51 f52 f53 f54 f55 f56 X5x g5x0 g5x1 g5xl a6 b6)
    | fail)
  go_ret
  exact ⟨rfl, T6.bel⟩
end Go.Proofs.YtpmgbmafibkgnaaGreatDoor.Mo

namespace Go.Proofs.YtpmgbmafibkgnaaGreatDoor.Mo
open Go.RowKit Fu Tn Go.Lib Dc

set_option maxHeartbeats 12800000 in
set_option maxRecDepth 100000 in
theorem simp_low (ad an bd bn cd cn x1 x2 : ByteArray) (o lo hi : Int) (ho : ¬ o > 0) (hlo : ¬ lo > 0) (hhi : ¬ hi > 0) (h2 : Int) (w : World) (H : Gw w)
    (HW : ∀ W, Gw W → Calls Tryz.prog 4 #[] W fun x w' => x = .returned (.bool true) ∧ Below W.heap.size W w')
    (HA : ∀ W, Gw W → Calls Tryz.prog 5 #[.agg #[.string an, .string ad]] W fun x w' => x = .returned (.bool true) ∧ Below W.heap.size W w')
    (HB : ∀ W, Gw W → Calls Tryz.prog 5 #[.agg #[.string bn, .string bd]] W fun x w' => x = .returned (.bool true) ∧ Below W.heap.size W w')
    (HC : ∀ W, Gw W → Calls Tryz.prog 5 #[.agg #[.string cn, .string cd]] W fun x w' => x = .returned (.bool true) ∧ Below W.heap.size W w')
    (B1 : ∀ W, Gw W → Calls Tryz.prog 6 #[.agg #[.string an, .string ad], .agg #[.string bn, .string bd]] W fun x w' => x = .returned (.tuple #[.agg #[.string x1, .string x2], .int .i64 0]) ∧ Below W.heap.size W w')
    (O1 : ∀ W, Gw W → Calls Tryz.prog 7 #[.agg #[.string an, .string ad], .agg #[.string bn, .string bd]] W fun x w' => x = .returned (.tuple #[.int .i64 o, .int .i64 0]) ∧ Below W.heap.size W w')
    (L1 : ∀ W, Gw W → Calls Tryz.prog 7 #[.agg #[.string an, .string ad], .agg #[.string x1, .string x2]] W fun x w' => x = .returned (.tuple #[.int .i64 lo, .int .i64 0]) ∧ Below W.heap.size W w')
    (H1 : ∀ W, Gw W → Calls Tryz.prog 7 #[.agg #[.string x1, .string x2], .agg #[.string bn, .string bd]] W fun x w' => x = .returned (.tuple #[.int .i64 hi, .int .i64 0]) ∧ Below W.heap.size W w')
    (L2 : ∀ W, Gw W → Calls Tryz.prog 7 #[.agg #[.string an, .string ad], .agg #[.string cn, .string cd]] W fun x w' => x = .returned (.tuple #[.int .i64 1, .int .i64 0]) ∧ Below W.heap.size W w')
    (H2 : ∀ W, Gw W → Calls Tryz.prog 7 #[.agg #[.string cn, .string cd], .agg #[.string bn, .string bd]] W fun x w' => x = .returned (.tuple #[.int .i64 h2, .int .i64 0]) ∧ Below W.heap.size W w') :
    Calls Tryz.prog 3 #[.agg #[.string an, .string ad], .agg #[.string bn, .string bd], .agg #[.string cn, .string cd]] w fun x w' => x = .returned (.bool true) ∧ Below w.heap.size w w' := by
  have T0 := R3.new w an ad bn bd cn cd H
  have ⟨f00, f01, f02, f03, f04, f05, f06⟩ := T0.cells
  have Q0 : Tk 0 := trivial
  clear H
  go_enter Tryz.func3, Tryz.ntmps3
  go_wp2_with (first
    | (go_at_call 4; (have q1 := Q0); refine (HW _ T0.gw).mono ?_; rintro x w1 ⟨rfl, b1⟩; (have a1 := b1); (have T1 := T0.grow a1); (have ⟨f10, f11, f12, f13, f14, f15, f16⟩ := T1.cells); (have Q1 : Tk 1 := trivial); clear Q0 q1 T0 f00 f01 f02 f03 f04 f05 f06 a1 b1)
    | (go_at_call 5; (have q2 := Q1); refine (HA _ T1.gw).mono ?_; rintro x w2 ⟨rfl, b2⟩; (have a2 := b2); (have T2 := T1.grow a2); (have ⟨f20, f21, f22, f23, f24, f25, f26⟩ := T2.cells); (have Q2 : Tk 2 := trivial); clear Q1 q2 T1 f10 f11 f12 f13 f14 f15 f16 a2 b2)
    | (go_at_call 5; (have q3 := Q2); refine (HB _ T2.gw).mono ?_; rintro x w3 ⟨rfl, b3⟩; (have a3 := b3); (have T3 := T2.grow a3); (have ⟨f30, f31, f32, f33, f34, f35, f36⟩ := T3.cells); (have Q3 : Tk 3 := trivial); clear Q2 q3 T2 f20 f21 f22 f23 f24 f25 f26 a3 b3)
    | (go_at_call 5; (have q4 := Q3); refine (HC _ T3.gw).mono ?_; rintro x w4 ⟨rfl, b4⟩; (have a4 := b4); (have T4 := T3.grow a4); (have ⟨f40, f41, f42, f43, f44, f45, f46⟩ := T4.cells); (have Q4 : Tk 4 := trivial); clear Q3 q4 T3 f30 f31 f32 f33 f34 f35 f36 a4 b4)
    | (go_at_call 6; (have q5 := Q4); refine (B1 _ T4.gw).mono ?_; rintro x w5 ⟨rfl, b5⟩; (have a5 := (b5.trans ((Below.refl _ _).alloc b5.size (.cells #[.string x1, .string x2] 23)))); (have T5 := T4.grow a5); (have ⟨f50, f51, f52, f53, f54, f55, f56⟩ := T5.cells); (have X5x := Blk.new w5 #[.string x1, .string x2] 23); (have ⟨g5x0, g5x1, g5xl⟩ := rcells X5x); (have Q5 : Tk 5 := trivial); clear Q4 q5 T4 f40 f41 f42 f43 f44 f45 f46 a5 b5)
    | (go_at_call 7; (have q6 := Q5); refine (O1 _ T5.gw).mono ?_; rintro x w6 ⟨rfl, b6⟩; (have a6 := b6); (have T6 := T5.grow a6); (have ⟨f60, f61, f62, f63, f64, f65, f66⟩ := T6.cells); (have X6x := X5x.below a6 X5x.lt); (have ⟨g6x0, g6x1, g6xl⟩ := rcells X6x); (have Q6 : Tk 6 := trivial); clear Q5 q6 T5 f50 f51 f52 f53 f54 f55 f56 X5x g5x0 g5x1 g5xl a6 b6)
    | (go_at_call 7; (have q7 := Q6); refine (L1 _ T6.gw).mono ?_; rintro x w7 ⟨rfl, b7⟩; (have a7 := b7); (have T7 := T6.grow a7); (have ⟨f70, f71, f72, f73, f74, f75, f76⟩ := T7.cells); (have X7x := X6x.below a7 X6x.lt); (have ⟨g7x0, g7x1, g7xl⟩ := rcells X7x); (have Q7 : Tk 7 := trivial); clear Q6 q7 T6 f60 f61 f62 f63 f64 f65 f66 X6x g6x0 g6x1 g6xl a7 b7)
    | (go_at_call 7; (have q8 := Q7); refine (H1 _ T7.gw).mono ?_; rintro x w8 ⟨rfl, b8⟩; (have a8 := b8); (have T8 := T7.grow a8); (have ⟨f80, f81, f82, f83, f84, f85, f86⟩ := T8.cells); (have X8x := X7x.below a8 X7x.lt); (have ⟨g8x0, g8x1, g8xl⟩ := rcells X8x); (have Q8 : Tk 8 := trivial); clear Q7 q8 T7 f70 f71 f72 f73 f74 f75 f76 X7x g7x0 g7x1 g7xl a8 b8)
    | (go_at_call 7; (have q9 := Q8); refine (L2 _ T8.gw).mono ?_; rintro x w9 ⟨rfl, b9⟩; (have a9 := b9); (have T9 := T8.grow a9); (have ⟨f90, f91, f92, f93, f94, f95, f96⟩ := T9.cells); (have Q9 : Tk 9 := trivial); clear Q8 q9 T8 f80 f81 f82 f83 f84 f85 f86 X8x g8x0 g8x1 g8xl a9 b9)
    | (go_at_call 7; (have q10 := Q9); refine (H2 _ T9.gw).mono ?_; rintro x w10 ⟨rfl, b10⟩; (have a10 := b10); (have T10 := T9.grow a10); (have ⟨f100, f101, f102, f103, f104, f105, f106⟩ := T10.cells); (have Q10 : Tk 10 := trivial); clear Q9 q10 T9 f90 f91 f92 f93 f94 f95 f96 a10 b10)
    | fail)
  go_ret
  exact ⟨rfl, T10.bel⟩
end Go.Proofs.YtpmgbmafibkgnaaGreatDoor.Mo

namespace Go.Proofs.YtpmgbmafibkgnaaGreatDoor.Mo
open Go.RowKit Fu Tn Go.Lib Dc

set_option maxHeartbeats 12800000 in
set_option maxRecDepth 100000 in
theorem simp_high (ad an bd bn cd cn x1 x2 : ByteArray) (o lo hi : Int) (ho : ¬ o > 0) (hlo : ¬ lo > 0) (hhi : ¬ hi > 0) (l2 : Int) (hl2 : ¬ l2 > 0) (w : World) (H : Gw w)
    (HW : ∀ W, Gw W → Calls Tryz.prog 4 #[] W fun x w' => x = .returned (.bool true) ∧ Below W.heap.size W w')
    (HA : ∀ W, Gw W → Calls Tryz.prog 5 #[.agg #[.string an, .string ad]] W fun x w' => x = .returned (.bool true) ∧ Below W.heap.size W w')
    (HB : ∀ W, Gw W → Calls Tryz.prog 5 #[.agg #[.string bn, .string bd]] W fun x w' => x = .returned (.bool true) ∧ Below W.heap.size W w')
    (HC : ∀ W, Gw W → Calls Tryz.prog 5 #[.agg #[.string cn, .string cd]] W fun x w' => x = .returned (.bool true) ∧ Below W.heap.size W w')
    (B1 : ∀ W, Gw W → Calls Tryz.prog 6 #[.agg #[.string an, .string ad], .agg #[.string bn, .string bd]] W fun x w' => x = .returned (.tuple #[.agg #[.string x1, .string x2], .int .i64 0]) ∧ Below W.heap.size W w')
    (O1 : ∀ W, Gw W → Calls Tryz.prog 7 #[.agg #[.string an, .string ad], .agg #[.string bn, .string bd]] W fun x w' => x = .returned (.tuple #[.int .i64 o, .int .i64 0]) ∧ Below W.heap.size W w')
    (L1 : ∀ W, Gw W → Calls Tryz.prog 7 #[.agg #[.string an, .string ad], .agg #[.string x1, .string x2]] W fun x w' => x = .returned (.tuple #[.int .i64 lo, .int .i64 0]) ∧ Below W.heap.size W w')
    (H1 : ∀ W, Gw W → Calls Tryz.prog 7 #[.agg #[.string x1, .string x2], .agg #[.string bn, .string bd]] W fun x w' => x = .returned (.tuple #[.int .i64 hi, .int .i64 0]) ∧ Below W.heap.size W w')
    (L2 : ∀ W, Gw W → Calls Tryz.prog 7 #[.agg #[.string an, .string ad], .agg #[.string cn, .string cd]] W fun x w' => x = .returned (.tuple #[.int .i64 l2, .int .i64 0]) ∧ Below W.heap.size W w')
    (H2 : ∀ W, Gw W → Calls Tryz.prog 7 #[.agg #[.string cn, .string cd], .agg #[.string bn, .string bd]] W fun x w' => x = .returned (.tuple #[.int .i64 1, .int .i64 0]) ∧ Below W.heap.size W w') :
    Calls Tryz.prog 3 #[.agg #[.string an, .string ad], .agg #[.string bn, .string bd], .agg #[.string cn, .string cd]] w fun x w' => x = .returned (.bool true) ∧ Below w.heap.size w w' := by
  have T0 := R3.new w an ad bn bd cn cd H
  have ⟨f00, f01, f02, f03, f04, f05, f06⟩ := T0.cells
  have Q0 : Tk 0 := trivial
  clear H
  go_enter Tryz.func3, Tryz.ntmps3
  go_wp2_with (first
    | (go_at_call 4; (have q1 := Q0); refine (HW _ T0.gw).mono ?_; rintro x w1 ⟨rfl, b1⟩; (have a1 := b1); (have T1 := T0.grow a1); (have ⟨f10, f11, f12, f13, f14, f15, f16⟩ := T1.cells); (have Q1 : Tk 1 := trivial); clear Q0 q1 T0 f00 f01 f02 f03 f04 f05 f06 a1 b1)
    | (go_at_call 5; (have q2 := Q1); refine (HA _ T1.gw).mono ?_; rintro x w2 ⟨rfl, b2⟩; (have a2 := b2); (have T2 := T1.grow a2); (have ⟨f20, f21, f22, f23, f24, f25, f26⟩ := T2.cells); (have Q2 : Tk 2 := trivial); clear Q1 q2 T1 f10 f11 f12 f13 f14 f15 f16 a2 b2)
    | (go_at_call 5; (have q3 := Q2); refine (HB _ T2.gw).mono ?_; rintro x w3 ⟨rfl, b3⟩; (have a3 := b3); (have T3 := T2.grow a3); (have ⟨f30, f31, f32, f33, f34, f35, f36⟩ := T3.cells); (have Q3 : Tk 3 := trivial); clear Q2 q3 T2 f20 f21 f22 f23 f24 f25 f26 a3 b3)
    | (go_at_call 5; (have q4 := Q3); refine (HC _ T3.gw).mono ?_; rintro x w4 ⟨rfl, b4⟩; (have a4 := b4); (have T4 := T3.grow a4); (have ⟨f40, f41, f42, f43, f44, f45, f46⟩ := T4.cells); (have Q4 : Tk 4 := trivial); clear Q3 q4 T3 f30 f31 f32 f33 f34 f35 f36 a4 b4)
    | (go_at_call 6; (have q5 := Q4); refine (B1 _ T4.gw).mono ?_; rintro x w5 ⟨rfl, b5⟩; (have a5 := (b5.trans ((Below.refl _ _).alloc b5.size (.cells #[.string x1, .string x2] 23)))); (have T5 := T4.grow a5); (have ⟨f50, f51, f52, f53, f54, f55, f56⟩ := T5.cells); (have X5x := Blk.new w5 #[.string x1, .string x2] 23); (have ⟨g5x0, g5x1, g5xl⟩ := rcells X5x); (have Q5 : Tk 5 := trivial); clear Q4 q5 T4 f40 f41 f42 f43 f44 f45 f46 a5 b5)
    | (go_at_call 7; (have q6 := Q5); refine (O1 _ T5.gw).mono ?_; rintro x w6 ⟨rfl, b6⟩; (have a6 := b6); (have T6 := T5.grow a6); (have ⟨f60, f61, f62, f63, f64, f65, f66⟩ := T6.cells); (have X6x := X5x.below a6 X5x.lt); (have ⟨g6x0, g6x1, g6xl⟩ := rcells X6x); (have Q6 : Tk 6 := trivial); clear Q5 q6 T5 f50 f51 f52 f53 f54 f55 f56 X5x g5x0 g5x1 g5xl a6 b6)
    | (go_at_call 7; (have q7 := Q6); refine (L1 _ T6.gw).mono ?_; rintro x w7 ⟨rfl, b7⟩; (have a7 := b7); (have T7 := T6.grow a7); (have ⟨f70, f71, f72, f73, f74, f75, f76⟩ := T7.cells); (have X7x := X6x.below a7 X6x.lt); (have ⟨g7x0, g7x1, g7xl⟩ := rcells X7x); (have Q7 : Tk 7 := trivial); clear Q6 q7 T6 f60 f61 f62 f63 f64 f65 f66 X6x g6x0 g6x1 g6xl a7 b7)
    | (go_at_call 7; (have q8 := Q7); refine (H1 _ T7.gw).mono ?_; rintro x w8 ⟨rfl, b8⟩; (have a8 := b8); (have T8 := T7.grow a8); (have ⟨f80, f81, f82, f83, f84, f85, f86⟩ := T8.cells); (have X8x := X7x.below a8 X7x.lt); (have ⟨g8x0, g8x1, g8xl⟩ := rcells X8x); (have Q8 : Tk 8 := trivial); clear Q7 q8 T7 f70 f71 f72 f73 f74 f75 f76 X7x g7x0 g7x1 g7xl a8 b8)
    | (go_at_call 7; (have q9 := Q8); refine (L2 _ T8.gw).mono ?_; rintro x w9 ⟨rfl, b9⟩; (have a9 := b9); (have T9 := T8.grow a9); (have ⟨f90, f91, f92, f93, f94, f95, f96⟩ := T9.cells); (have Q9 : Tk 9 := trivial); clear Q8 q9 T8 f80 f81 f82 f83 f84 f85 f86 X8x g8x0 g8x1 g8xl a9 b9)
    | (go_at_call 7; (have q10 := Q9); refine (H2 _ T9.gw).mono ?_; rintro x w10 ⟨rfl, b10⟩; (have a10 := b10); (have T10 := T9.grow a10); (have ⟨f100, f101, f102, f103, f104, f105, f106⟩ := T10.cells); (have Q10 : Tk 10 := trivial); clear Q9 q10 T9 f90 f91 f92 f93 f94 f95 f96 a10 b10)
    | fail)
  go_ret
  exact ⟨rfl, T10.bel⟩
end Go.Proofs.YtpmgbmafibkgnaaGreatDoor.Mo

namespace Go.Proofs.YtpmgbmafibkgnaaGreatDoor.Mo
open Go.RowKit Fu Tn Go.Lib Dc

set_option maxHeartbeats 12800000 in
set_option maxRecDepth 100000 in
theorem simp_same (ad an bd bn cd cn : ByteArray) (o lo hi : Int) (ho : ¬ o > 0) (hlo : ¬ lo > 0) (hhi : ¬ hi > 0) (l2 h2 : Int) (hl2 : ¬ l2 > 0) (hh2 : ¬ h2 > 0) (w : World) (H : Gw w)
    (HW : ∀ W, Gw W → Calls Tryz.prog 4 #[] W fun x w' => x = .returned (.bool true) ∧ Below W.heap.size W w')
    (HA : ∀ W, Gw W → Calls Tryz.prog 5 #[.agg #[.string an, .string ad]] W fun x w' => x = .returned (.bool true) ∧ Below W.heap.size W w')
    (HB : ∀ W, Gw W → Calls Tryz.prog 5 #[.agg #[.string bn, .string bd]] W fun x w' => x = .returned (.bool true) ∧ Below W.heap.size W w')
    (HC : ∀ W, Gw W → Calls Tryz.prog 5 #[.agg #[.string cn, .string cd]] W fun x w' => x = .returned (.bool true) ∧ Below W.heap.size W w')
    (B1 : ∀ W, Gw W → Calls Tryz.prog 6 #[.agg #[.string an, .string ad], .agg #[.string bn, .string bd]] W fun x w' => x = .returned (.tuple #[.agg #[.string cn, .string cd], .int .i64 0]) ∧ Below W.heap.size W w')
    (O1 : ∀ W, Gw W → Calls Tryz.prog 7 #[.agg #[.string an, .string ad], .agg #[.string bn, .string bd]] W fun x w' => x = .returned (.tuple #[.int .i64 o, .int .i64 0]) ∧ Below W.heap.size W w')
    (L1 : ∀ W, Gw W → Calls Tryz.prog 7 #[.agg #[.string an, .string ad], .agg #[.string cn, .string cd]] W fun x w' => x = .returned (.tuple #[.int .i64 lo, .int .i64 0]) ∧ Below W.heap.size W w')
    (H1 : ∀ W, Gw W → Calls Tryz.prog 7 #[.agg #[.string cn, .string cd], .agg #[.string bn, .string bd]] W fun x w' => x = .returned (.tuple #[.int .i64 hi, .int .i64 0]) ∧ Below W.heap.size W w')
    (L2 : ∀ W, Gw W → Calls Tryz.prog 7 #[.agg #[.string an, .string ad], .agg #[.string cn, .string cd]] W fun x w' => x = .returned (.tuple #[.int .i64 l2, .int .i64 0]) ∧ Below W.heap.size W w')
    (H2 : ∀ W, Gw W → Calls Tryz.prog 7 #[.agg #[.string cn, .string cd], .agg #[.string bn, .string bd]] W fun x w' => x = .returned (.tuple #[.int .i64 h2, .int .i64 0]) ∧ Below W.heap.size W w') :
    Calls Tryz.prog 3 #[.agg #[.string an, .string ad], .agg #[.string bn, .string bd], .agg #[.string cn, .string cd]] w fun x w' => x = .returned (.bool true) ∧ Below w.heap.size w w' := by
  have T0 := R3.new w an ad bn bd cn cd H
  have ⟨f00, f01, f02, f03, f04, f05, f06⟩ := T0.cells
  have Q0 : Tk 0 := trivial
  clear H
  go_enter Tryz.func3, Tryz.ntmps3
  go_wp2_with (first
    | (go_at_call 4; (have q1 := Q0); refine (HW _ T0.gw).mono ?_; rintro x w1 ⟨rfl, b1⟩; (have a1 := b1); (have T1 := T0.grow a1); (have ⟨f10, f11, f12, f13, f14, f15, f16⟩ := T1.cells); (have Q1 : Tk 1 := trivial); clear Q0 q1 T0 f00 f01 f02 f03 f04 f05 f06 a1 b1)
    | (go_at_call 5; (have q2 := Q1); refine (HA _ T1.gw).mono ?_; rintro x w2 ⟨rfl, b2⟩; (have a2 := b2); (have T2 := T1.grow a2); (have ⟨f20, f21, f22, f23, f24, f25, f26⟩ := T2.cells); (have Q2 : Tk 2 := trivial); clear Q1 q2 T1 f10 f11 f12 f13 f14 f15 f16 a2 b2)
    | (go_at_call 5; (have q3 := Q2); refine (HB _ T2.gw).mono ?_; rintro x w3 ⟨rfl, b3⟩; (have a3 := b3); (have T3 := T2.grow a3); (have ⟨f30, f31, f32, f33, f34, f35, f36⟩ := T3.cells); (have Q3 : Tk 3 := trivial); clear Q2 q3 T2 f20 f21 f22 f23 f24 f25 f26 a3 b3)
    | (go_at_call 5; (have q4 := Q3); refine (HC _ T3.gw).mono ?_; rintro x w4 ⟨rfl, b4⟩; (have a4 := b4); (have T4 := T3.grow a4); (have ⟨f40, f41, f42, f43, f44, f45, f46⟩ := T4.cells); (have Q4 : Tk 4 := trivial); clear Q3 q4 T3 f30 f31 f32 f33 f34 f35 f36 a4 b4)
    | (go_at_call 6; (have q5 := Q4); refine (B1 _ T4.gw).mono ?_; rintro x w5 ⟨rfl, b5⟩; (have a5 := (b5.trans ((Below.refl _ _).alloc b5.size (.cells #[.string cn, .string cd] 23)))); (have T5 := T4.grow a5); (have ⟨f50, f51, f52, f53, f54, f55, f56⟩ := T5.cells); (have X5x := Blk.new w5 #[.string cn, .string cd] 23); (have ⟨g5x0, g5x1, g5xl⟩ := rcells X5x); (have Q5 : Tk 5 := trivial); clear Q4 q5 T4 f40 f41 f42 f43 f44 f45 f46 a5 b5)
    | (go_at_call 7; (have q6 := Q5); refine (O1 _ T5.gw).mono ?_; rintro x w6 ⟨rfl, b6⟩; (have a6 := b6); (have T6 := T5.grow a6); (have ⟨f60, f61, f62, f63, f64, f65, f66⟩ := T6.cells); (have X6x := X5x.below a6 X5x.lt); (have ⟨g6x0, g6x1, g6xl⟩ := rcells X6x); (have Q6 : Tk 6 := trivial); clear Q5 q6 T5 f50 f51 f52 f53 f54 f55 f56 X5x g5x0 g5x1 g5xl a6 b6)
    | (go_at_call 7; (have q7 := Q6); refine (L1 _ T6.gw).mono ?_; rintro x w7 ⟨rfl, b7⟩; (have a7 := b7); (have T7 := T6.grow a7); (have ⟨f70, f71, f72, f73, f74, f75, f76⟩ := T7.cells); (have X7x := X6x.below a7 X6x.lt); (have ⟨g7x0, g7x1, g7xl⟩ := rcells X7x); (have Q7 : Tk 7 := trivial); clear Q6 q7 T6 f60 f61 f62 f63 f64 f65 f66 X6x g6x0 g6x1 g6xl a7 b7)
    | (go_at_call 7; (have q8 := Q7); refine (H1 _ T7.gw).mono ?_; rintro x w8 ⟨rfl, b8⟩; (have a8 := b8); (have T8 := T7.grow a8); (have ⟨f80, f81, f82, f83, f84, f85, f86⟩ := T8.cells); (have X8x := X7x.below a8 X7x.lt); (have ⟨g8x0, g8x1, g8xl⟩ := rcells X8x); (have Q8 : Tk 8 := trivial); clear Q7 q8 T7 f70 f71 f72 f73 f74 f75 f76 X7x g7x0 g7x1 g7xl a8 b8)
    | (go_at_call 7; (have q9 := Q8); refine (L2 _ T8.gw).mono ?_; rintro x w9 ⟨rfl, b9⟩; (have a9 := b9); (have T9 := T8.grow a9); (have ⟨f90, f91, f92, f93, f94, f95, f96⟩ := T9.cells); (have X9x := X8x.below a9 X8x.lt); (have ⟨g9x0, g9x1, g9xl⟩ := rcells X9x); (have Q9 : Tk 9 := trivial); clear Q8 q9 T8 f80 f81 f82 f83 f84 f85 f86 X8x g8x0 g8x1 g8xl a9 b9)
    | (go_at_call 7; (have q10 := Q9); refine (H2 _ T9.gw).mono ?_; rintro x w10 ⟨rfl, b10⟩; (have a10 := b10); (have T10 := T9.grow a10); (have ⟨f100, f101, f102, f103, f104, f105, f106⟩ := T10.cells); (have X10x := X9x.below a10 X9x.lt); (have ⟨g10x0, g10x1, g10xl⟩ := rcells X10x); (have Q10 : Tk 10 := trivial); clear Q9 q10 T9 f90 f91 f92 f93 f94 f95 f96 X9x g9x0 g9x1 g9xl a10 b10)
    | fail)
  go_ret
  exact ⟨rfl, T10.bel⟩
end Go.Proofs.YtpmgbmafibkgnaaGreatDoor.Mo

namespace Go.Proofs.YtpmgbmafibkgnaaGreatDoor.Mo
open Go.RowKit Fu Tn Go.Lib Dc

set_option maxHeartbeats 12800000 in
set_option maxRecDepth 100000 in
theorem simp_less (ad an bd bn cd cn x1 x2 z1 z2 : ByteArray) (o lo hi : Int) (ho : ¬ o > 0) (hlo : ¬ lo > 0) (hhi : ¬ hi > 0) (l2 h2 m : Int) (hl2 : ¬ l2 > 0) (hh2 : ¬ h2 > 0) (w : World) (H : Gw w)
    (HW : ∀ W, Gw W → Calls Tryz.prog 4 #[] W fun x w' => x = .returned (.bool true) ∧ Below W.heap.size W w')
    (HA : ∀ W, Gw W → Calls Tryz.prog 5 #[.agg #[.string an, .string ad]] W fun x w' => x = .returned (.bool true) ∧ Below W.heap.size W w')
    (HB : ∀ W, Gw W → Calls Tryz.prog 5 #[.agg #[.string bn, .string bd]] W fun x w' => x = .returned (.bool true) ∧ Below W.heap.size W w')
    (HC : ∀ W, Gw W → Calls Tryz.prog 5 #[.agg #[.string cn, .string cd]] W fun x w' => x = .returned (.bool true) ∧ Below W.heap.size W w')
    (B1 : ∀ W, Gw W → Calls Tryz.prog 6 #[.agg #[.string an, .string ad], .agg #[.string bn, .string bd]] W fun x w' => x = .returned (.tuple #[.agg #[.string x1, .string x2], .int .i64 0]) ∧ Below W.heap.size W w')
    (O1 : ∀ W, Gw W → Calls Tryz.prog 7 #[.agg #[.string an, .string ad], .agg #[.string bn, .string bd]] W fun x w' => x = .returned (.tuple #[.int .i64 o, .int .i64 0]) ∧ Below W.heap.size W w')
    (L1 : ∀ W, Gw W → Calls Tryz.prog 7 #[.agg #[.string an, .string ad], .agg #[.string x1, .string x2]] W fun x w' => x = .returned (.tuple #[.int .i64 lo, .int .i64 0]) ∧ Below W.heap.size W w')
    (H1 : ∀ W, Gw W → Calls Tryz.prog 7 #[.agg #[.string x1, .string x2], .agg #[.string bn, .string bd]] W fun x w' => x = .returned (.tuple #[.int .i64 hi, .int .i64 0]) ∧ Below W.heap.size W w')
    (L2 : ∀ W, Gw W → Calls Tryz.prog 7 #[.agg #[.string an, .string ad], .agg #[.string cn, .string cd]] W fun x w' => x = .returned (.tuple #[.int .i64 l2, .int .i64 0]) ∧ Below W.heap.size W w')
    (H2 : ∀ W, Gw W → Calls Tryz.prog 7 #[.agg #[.string cn, .string cd], .agg #[.string bn, .string bd]] W fun x w' => x = .returned (.tuple #[.int .i64 h2, .int .i64 0]) ∧ Below W.heap.size W w')
    (N1 : ∀ W, Gw W → Calls Tryz.prog 7 #[.agg #[.string x2, .string ⟨#[49]⟩], .agg #[.string cd, .string ⟨#[49]⟩]] W fun x w' => x = .returned (.tuple #[.int .i64 (-1), .int .i64 0]) ∧ Below W.heap.size W w')
    (Z1 : ∀ W, Gw W → Calls Tryz.prog 8 #[.agg #[.string x1, .string x2]] W fun x w' => x = .returned (.agg #[.string z1, .string ⟨#[49]⟩]) ∧ Below W.heap.size W w')
    (Z2 : ∀ W, Gw W → Calls Tryz.prog 8 #[.agg #[.string cn, .string cd]] W fun x w' => x = .returned (.agg #[.string z2, .string ⟨#[49]⟩]) ∧ Below W.heap.size W w')
    (M1 : ∀ W, Gw W → Calls Tryz.prog 7 #[.agg #[.string z1, .string ⟨#[49]⟩], .agg #[.string z2, .string ⟨#[49]⟩]] W fun x w' => x = .returned (.tuple #[.int .i64 m, .int .i64 0]) ∧ Below W.heap.size W w')
    (hne : ¬ (cn = x1 ∧ cd = x2)) :
    Calls Tryz.prog 3 #[.agg #[.string an, .string ad], .agg #[.string bn, .string bd], .agg #[.string cn, .string cd]] w fun x w' => x = .returned (.bool true) ∧ Below w.heap.size w w' := by
  have T0 := R3.new w an ad bn bd cn cd H
  have ⟨f00, f01, f02, f03, f04, f05, f06⟩ := T0.cells
  have Q0 : Tk 0 := trivial
  clear H
  go_enter Tryz.func3, Tryz.ntmps3
  go_wp2_with (first
    | (go_at_call 4; (have q1 := Q0); refine (HW _ T0.gw).mono ?_; rintro x w1 ⟨rfl, b1⟩; (have a1 := b1); (have T1 := T0.grow a1); (have ⟨f10, f11, f12, f13, f14, f15, f16⟩ := T1.cells); (have Q1 : Tk 1 := trivial); clear Q0 q1 T0 f00 f01 f02 f03 f04 f05 f06 a1 b1)
    | (go_at_call 5; (have q2 := Q1); refine (HA _ T1.gw).mono ?_; rintro x w2 ⟨rfl, b2⟩; (have a2 := b2); (have T2 := T1.grow a2); (have ⟨f20, f21, f22, f23, f24, f25, f26⟩ := T2.cells); (have Q2 : Tk 2 := trivial); clear Q1 q2 T1 f10 f11 f12 f13 f14 f15 f16 a2 b2)
    | (go_at_call 5; (have q3 := Q2); refine (HB _ T2.gw).mono ?_; rintro x w3 ⟨rfl, b3⟩; (have a3 := b3); (have T3 := T2.grow a3); (have ⟨f30, f31, f32, f33, f34, f35, f36⟩ := T3.cells); (have Q3 : Tk 3 := trivial); clear Q2 q3 T2 f20 f21 f22 f23 f24 f25 f26 a3 b3)
    | (go_at_call 5; (have q4 := Q3); refine (HC _ T3.gw).mono ?_; rintro x w4 ⟨rfl, b4⟩; (have a4 := b4); (have T4 := T3.grow a4); (have ⟨f40, f41, f42, f43, f44, f45, f46⟩ := T4.cells); (have Q4 : Tk 4 := trivial); clear Q3 q4 T3 f30 f31 f32 f33 f34 f35 f36 a4 b4)
    | (go_at_call 6; (have q5 := Q4); refine (B1 _ T4.gw).mono ?_; rintro x w5 ⟨rfl, b5⟩; (have a5 := (b5.trans ((Below.refl _ _).alloc b5.size (.cells #[.string x1, .string x2] 23)))); (have T5 := T4.grow a5); (have ⟨f50, f51, f52, f53, f54, f55, f56⟩ := T5.cells); (have X5x := Blk.new w5 #[.string x1, .string x2] 23); (have ⟨g5x0, g5x1, g5xl⟩ := rcells X5x); (have Q5 : Tk 5 := trivial); clear Q4 q5 T4 f40 f41 f42 f43 f44 f45 f46 a5 b5)
    | (go_at_call 7; (have q6 := Q5); refine (O1 _ T5.gw).mono ?_; rintro x w6 ⟨rfl, b6⟩; (have a6 := b6); (have T6 := T5.grow a6); (have ⟨f60, f61, f62, f63, f64, f65, f66⟩ := T6.cells); (have X6x := X5x.below a6 X5x.lt); (have ⟨g6x0, g6x1, g6xl⟩ := rcells X6x); (have Q6 : Tk 6 := trivial); clear Q5 q6 T5 f50 f51 f52 f53 f54 f55 f56 X5x g5x0 g5x1 g5xl a6 b6)
    | (go_at_call 7; (have q7 := Q6); refine (L1 _ T6.gw).mono ?_; rintro x w7 ⟨rfl, b7⟩; (have a7 := b7); (have T7 := T6.grow a7); (have ⟨f70, f71, f72, f73, f74, f75, f76⟩ := T7.cells); (have X7x := X6x.below a7 X6x.lt); (have ⟨g7x0, g7x1, g7xl⟩ := rcells X7x); (have Q7 : Tk 7 := trivial); clear Q6 q7 T6 f60 f61 f62 f63 f64 f65 f66 X6x g6x0 g6x1 g6xl a7 b7)
    | (go_at_call 7; (have q8 := Q7); refine (H1 _ T7.gw).mono ?_; rintro x w8 ⟨rfl, b8⟩; (have a8 := b8); (have T8 := T7.grow a8); (have ⟨f80, f81, f82, f83, f84, f85, f86⟩ := T8.cells); (have X8x := X7x.below a8 X7x.lt); (have ⟨g8x0, g8x1, g8xl⟩ := rcells X8x); (have Q8 : Tk 8 := trivial); clear Q7 q8 T7 f70 f71 f72 f73 f74 f75 f76 X7x g7x0 g7x1 g7xl a8 b8)
    | (go_at_call 7; (have q9 := Q8); refine (L2 _ T8.gw).mono ?_; rintro x w9 ⟨rfl, b9⟩; (have a9 := b9); (have T9 := T8.grow a9); (have ⟨f90, f91, f92, f93, f94, f95, f96⟩ := T9.cells); (have X9x := X8x.below a9 X8x.lt); (have ⟨g9x0, g9x1, g9xl⟩ := rcells X9x); (have Q9 : Tk 9 := trivial); clear Q8 q9 T8 f80 f81 f82 f83 f84 f85 f86 X8x g8x0 g8x1 g8xl a9 b9)
    | (go_at_call 7; (have q10 := Q9); refine (H2 _ T9.gw).mono ?_; rintro x w10 ⟨rfl, b10⟩; (have a10 := b10); (have T10 := T9.grow a10); (have ⟨f100, f101, f102, f103, f104, f105, f106⟩ := T10.cells); (have X10x := X9x.below a10 X9x.lt); (have ⟨g10x0, g10x1, g10xl⟩ := rcells X10x); (have Q10 : Tk 10 := trivial); clear Q9 q10 T9 f90 f91 f92 f93 f94 f95 f96 X9x g9x0 g9x1 g9xl a10 b10)
    | (go_at_call 7; (have q11 := Q10); refine (N1 _ T10.gw).mono ?_; rintro x w11 ⟨rfl, b11⟩; (have a11 := b11); (have T11 := T10.grow a11); (have ⟨f110, f111, f112, f113, f114, f115, f116⟩ := T11.cells); (have X11x := X10x.below a11 X10x.lt); (have ⟨g11x0, g11x1, g11xl⟩ := rcells X11x); (have Q11 : Tk 11 := trivial); clear Q10 q11 T10 f100 f101 f102 f103 f104 f105 f106 X10x g10x0 g10x1 g10xl a11 b11)
    | fail)
  all_goals first
    | (exact absurd ⟨ba_ext ‹cn.toList = x1.toList›, ba_ext ‹cd.toList = x2.toList›⟩ hne)
    | (go_region_held3 (fun x => x.cell? ⟨w5.heap.size, 0, none⟩ = some (.string x1) ∧ x.cell? ⟨w5.heap.size, 1, none⟩ = some (.string x2) ∧ x.cell? ⟨w.heap.size + 1 + 1, 0, none⟩ = some (.string cn) ∧ x.cell? ⟨w.heap.size + 1 + 1, 1, none⟩ = some (.string cd)) (go_keep) (first
        | (go_at_call 7; refine (M1 _ T13.gw).mono ?_; rintro x w14 ⟨rfl, b14⟩; have b14' := bel' (bel' b12 b13) b14; have T14 := T13.grow b14; have ⟨f140, f141, f142, f143, f144, f145, f146⟩ := T14.cells; obtain ⟨g0, g1, gl⟩ := rcells (X11x.below b14' X11x.lt))
        | (go_at_call 8; (have z := b12); refine (Z2 _ T12.gw).mono ?_; rintro x w13 ⟨rfl, b13⟩; have b13' := bel' b12 b13; have T13 := T12.grow b13; have ⟨f130, f131, f132, f133, f134, f135, f136⟩ := T13.cells; obtain ⟨g0, g1, gl⟩ := rcells (X11x.below b13' X11x.lt))
        | (go_at_call 8; refine (Z1 _ (T11.gw.grow (Below.refl _ _).drew)).mono ?_; rintro x w12 ⟨rfl, b12⟩; have b12 := undrew b12; have T12 := T11.grow b12; have ⟨f120, f121, f122, f123, f124, f125, f126⟩ := T12.cells; obtain ⟨g0, g1, gl⟩ := rcells (X11x.below b12 X11x.lt))
        | fail)
       go_wp2
       go_ret
       exact ⟨rfl, T14.bel⟩)
end Go.Proofs.YtpmgbmafibkgnaaGreatDoor.Mo
