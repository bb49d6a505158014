import Derived.Test.YtgfjjlopfoenkaaGreatDoorPart44

namespace Go.Proofs.YtgfjjlopfoenkaaGreatDoor.Mo
open Go.RowKit Fu Tn Go.Lib Dc

set_option maxHeartbeats 12800000 in
set_option maxRecDepth 100000 in
theorem order_up (ad an bd bn cd cn d1 d2 p1 p2 q1 q2 s1 s2 t1 t2 : ByteArray) (z v : Int) (g : Int) (g1 : -1 ≤ g) (g2 : g ≤ 1) (w : World) (H : Gw w)
    (HW : ∀ W, Gw W → Calls Tryz.prog 7 #[] W fun x w' => x = .returned (.bool true) ∧ Below W.heap.size W w')
    (HA : ∀ W, Gw W → Calls Tryz.prog 8 #[.agg #[.string an, .string ad]] W fun x w' => x = .returned (.bool true) ∧ Below W.heap.size W w')
    (HB : ∀ W, Gw W → Calls Tryz.prog 8 #[.agg #[.string bn, .string bd]] W fun x w' => x = .returned (.bool true) ∧ Below W.heap.size W w')
    (HC : ∀ W, Gw W → Calls Tryz.prog 8 #[.agg #[.string cn, .string cd]] W fun x w' => x = .returned (.bool true) ∧ Below W.heap.size W w')
    (X1 : ∀ W, Gw W → Calls Tryz.prog 16 #[.agg #[.string an, .string ad], .agg #[.string bn, .string bd]] W fun x w' => x = .returned (.tuple #[.int .i64 1, .int .i64 0]) ∧ Below W.heap.size W w')
    (X2 : ∀ W, Gw W → Calls Tryz.prog 16 #[.agg #[.string bn, .string bd], .agg #[.string an, .string ad]] W fun x w' => x = .returned (.tuple #[.int .i64 (-1), .int .i64 0]) ∧ Below W.heap.size W w')
    (X3 : ∀ W, Gw W → Calls Tryz.prog 16 #[.agg #[.string bn, .string bd], .agg #[.string cn, .string cd]] W fun x w' => x = .returned (.tuple #[.int .i64 z, .int .i64 0]) ∧ Below W.heap.size W w')
    (X4 : ∀ W, Gw W → Calls Tryz.prog 16 #[.agg #[.string an, .string ad], .agg #[.string cn, .string cd]] W fun x w' => x = .returned (.tuple #[.int .i64 v, .int .i64 0]) ∧ Below W.heap.size W w')
    (A1 : ∀ W, Gw W → Calls Tryz.prog 9 #[.agg #[.string an, .string ad], .agg #[.string cn, .string cd]] W fun x w' => x = .returned (.tuple #[.agg #[.string s1, .string s2], .int .i64 0]) ∧ Below W.heap.size W w')
    (A2 : ∀ W, Gw W → Calls Tryz.prog 9 #[.agg #[.string bn, .string bd], .agg #[.string cn, .string cd]] W fun x w' => x = .returned (.tuple #[.agg #[.string t1, .string t2], .int .i64 0]) ∧ Below W.heap.size W w')
    (M1 : ∀ W, Gw W → Calls Tryz.prog 11 #[.agg #[.string an, .string ad], .agg #[.string cn, .string cd]] W fun x w' => x = .returned (.tuple #[.agg #[.string p1, .string p2], .int .i64 0]) ∧ Below W.heap.size W w')
    (M2 : ∀ W, Gw W → Calls Tryz.prog 11 #[.agg #[.string bn, .string bd], .agg #[.string cn, .string cd]] W fun x w' => x = .returned (.tuple #[.agg #[.string q1, .string q2], .int .i64 0]) ∧ Below W.heap.size W w')
    (Y1 : ∀ W, Gw W → Calls Tryz.prog 16 #[.agg #[.string s1, .string s2], .agg #[.string t1, .string t2]] W fun x w' => x = .returned (.tuple #[.int .i64 1, .int .i64 0]) ∧ Below W.heap.size W w')
    (Y2 : ∀ W, Gw W → Calls Tryz.prog 16 #[.agg #[.string p1, .string p2], .agg #[.string q1, .string q2]] W fun x w' => x = .returned (.tuple #[.int .i64 g, .int .i64 0]) ∧ Below W.heap.size W w')
    (S1 : ∀ W, Gw W → Calls Tryz.prog 17 #[.agg #[.string cn, .string cd]] W fun x w' => x = .returned (.tuple #[.int .i64 g, .int .i64 0]) ∧ Below W.heap.size W w')
    (D1 : ∀ W, Gw W → Calls Tryz.prog 14 #[.agg #[.string an, .string ad], .agg #[.string bn, .string bd]] W fun x w' => x = .returned (.tuple #[.agg #[.string d1, .string d2], .int .i64 0]) ∧ Below W.heap.size W w')
    (S2 : ∀ W, Gw W → Calls Tryz.prog 17 #[.agg #[.string d1, .string d2]] W fun x w' => x = .returned (.tuple #[.int .i64 1, .int .i64 0]) ∧ Below W.heap.size W w')
    (hne : ¬ (an = bn ∧ ad = bd)) :
    Calls Tryz.prog 4 #[.agg #[.string an, .string ad], .agg #[.string bn, .string bd], .agg #[.string cn, .string cd]] w fun x w' => x = .returned (.bool true) ∧ Below w.heap.size w w' := by
  have T0 := R3.new w an ad bn bd cn cd H
  have ⟨f00, f01, f02, f03, f04, f05, f06⟩ := T0.cells
  have Q0 : Tk 0 := trivial
  clear H
  go_enter Tryz.func4, Tryz.ntmps4
  go_wp2_with (first
    | (go_at_call 7; (have q1 := Q0); refine (HW _ T0.gw).mono ?_; rintro x w1 ⟨rfl, b1⟩; (have a1 := b1); (have T1 := T0.grow a1); (have ⟨f10, f11, f12, f13, f14, f15, f16⟩ := T1.cells); (have Q1 : Tk 1 := trivial); clear Q0 q1 T0 f00 f01 f02 f03 f04 f05 f06 a1 b1)
    | (go_at_call 8; (have q2 := Q1); refine (HA _ T1.gw).mono ?_; rintro x w2 ⟨rfl, b2⟩; (have a2 := b2); (have T2 := T1.grow a2); (have ⟨f20, f21, f22, f23, f24, f25, f26⟩ := T2.cells); (have Q2 : Tk 2 := trivial); clear Q1 q2 T1 f10 f11 f12 f13 f14 f15 f16 a2 b2)
    | (go_at_call 8; (have q3 := Q2); refine (HB _ T2.gw).mono ?_; rintro x w3 ⟨rfl, b3⟩; (have a3 := b3); (have T3 := T2.grow a3); (have ⟨f30, f31, f32, f33, f34, f35, f36⟩ := T3.cells); (have Q3 : Tk 3 := trivial); clear Q2 q3 T2 f20 f21 f22 f23 f24 f25 f26 a3 b3)
    | (go_at_call 8; (have q4 := Q3); refine (HC _ T3.gw).mono ?_; rintro x w4 ⟨rfl, b4⟩; (have a4 := b4); (have T4 := T3.grow a4); (have ⟨f40, f41, f42, f43, f44, f45, f46⟩ := T4.cells); (have Q4 : Tk 4 := trivial); clear Q3 q4 T3 f30 f31 f32 f33 f34 f35 f36 a4 b4)
    | (go_at_call 16; (have q5 := Q4); refine (X1 _ T4.gw).mono ?_; rintro x w5 ⟨rfl, b5⟩; (have a5 := b5); (have T5 := T4.grow a5); (have ⟨f50, f51, f52, f53, f54, f55, f56⟩ := T5.cells); (have Q5 : Tk 5 := trivial); clear Q4 q5 T4 f40 f41 f42 f43 f44 f45 f46 a5 b5)
    | (go_at_call 16; (have q6 := Q5); refine (X2 _ T5.gw).mono ?_; rintro x w6 ⟨rfl, b6⟩; (have a6 := b6); (have T6 := T5.grow a6); (have ⟨f60, f61, f62, f63, f64, f65, f66⟩ := T6.cells); (have Q6 : Tk 6 := trivial); clear Q5 q6 T5 f50 f51 f52 f53 f54 f55 f56 a6 b6)
    | (go_at_call 16; (have q7 := Q6); refine (X3 _ T6.gw).mono ?_; rintro x w7 ⟨rfl, b7⟩; (have a7 := b7); (have T7 := T6.grow a7); (have ⟨f70, f71, f72, f73, f74, f75, f76⟩ := T7.cells); (have Q7 : Tk 7 := trivial); clear Q6 q7 T6 f60 f61 f62 f63 f64 f65 f66 a7 b7)
    | (go_at_call 16; (have q8 := Q7); refine (X4 _ T7.gw).mono ?_; rintro x w8 ⟨rfl, b8⟩; (have a8 := b8); (have T8 := T7.grow a8); (have ⟨f80, f81, f82, f83, f84, f85, f86⟩ := T8.cells); (have Q8 : Tk 8 := trivial); clear Q7 q8 T7 f70 f71 f72 f73 f74 f75 f76 a8 b8)
    | (go_at_call 9; (have q9 := Q8); refine (A1 _ T8.gw).mono ?_; rintro x w9 ⟨rfl, b9⟩; (have a9 := (b9.trans ((Below.refl _ _).alloc b9.size (.cells #[.string s1, .string s2] 23)))); (have T9 := T8.grow a9); (have ⟨f90, f91, f92, f93, f94, f95, f96⟩ := T9.cells); (have X9s := Blk.new w9 #[.string s1, .string s2] 23); (have ⟨g9s0, g9s1, g9sl⟩ := rcells X9s); (have Q9 : Tk 9 := trivial); clear Q8 q9 T8 f80 f81 f82 f83 f84 f85 f86 a9 b9)
    | (go_at_call 9; (have q10 := Q9); refine (A2 _ T9.gw).mono ?_; rintro x w10 ⟨rfl, b10⟩; (have a10 := (b10.trans ((Below.refl _ _).alloc b10.size (.cells #[.string t1, .string t2] 23)))); (have T10 := T9.grow a10); (have ⟨f100, f101, f102, f103, f104, f105, f106⟩ := T10.cells); (have X10s := X9s.below a10 X9s.lt); (have ⟨g10s0, g10s1, g10sl⟩ := rcells X10s); (have X10t2 := Blk.new w10 #[.string t1, .string t2] 23); (have ⟨g10t20, g10t21, g10t2l⟩ := rcells X10t2); (have Q10 : Tk 10 := trivial); clear Q9 q10 T9 f90 f91 f92 f93 f94 f95 f96 X9s g9s0 g9s1 g9sl a10 b10)
    | (go_at_call 11; (have q11 := Q10); refine (M1 _ T10.gw).mono ?_; rintro x w11 ⟨rfl, b11⟩; (have a11 := (b11.trans ((Below.refl _ _).alloc b11.size (.cells #[.string p1, .string p2] 23)))); (have T11 := T10.grow a11); (have ⟨f110, f111, f112, f113, f114, f115, f116⟩ := T11.cells); (have X11s := X10s.below a11 X10s.lt); (have ⟨g11s0, g11s1, g11sl⟩ := rcells X11s); (have X11t2 := X10t2.below a11 X10t2.lt); (have ⟨g11t20, g11t21, g11t2l⟩ := rcells X11t2); (have X11p := Blk.new w11 #[.string p1, .string p2] 23); (have ⟨g11p0, g11p1, g11pl⟩ := rcells X11p); (have Q11 : Tk 11 := trivial); clear Q10 q11 T10 f100 f101 f102 f103 f104 f105 f106 X10s g10s0 g10s1 g10sl X10t2 g10t20 g10t21 g10t2l a11 b11)
    | (go_at_call 11; (have q12 := Q11); refine (M2 _ T11.gw).mono ?_; rintro x w12 ⟨rfl, b12⟩; (have a12 := (b12.trans ((Below.refl _ _).alloc b12.size (.cells #[.string q1, .string q2] 23)))); (have T12 := T11.grow a12); (have ⟨f120, f121, f122, f123, f124, f125, f126⟩ := T12.cells); (have X12s := X11s.below a12 X11s.lt); (have ⟨g12s0, g12s1, g12sl⟩ := rcells X12s); (have X12t2 := X11t2.below a12 X11t2.lt); (have ⟨g12t20, g12t21, g12t2l⟩ := rcells X12t2); (have X12p := X11p.below a12 X11p.lt); (have ⟨g12p0, g12p1, g12pl⟩ := rcells X12p); (have X12q2 := Blk.new w12 #[.string q1, .string q2] 23); (have ⟨g12q20, g12q21, g12q2l⟩ := rcells X12q2); (have Q12 : Tk 12 := trivial); clear Q11 q12 T11 f110 f111 f112 f113 f114 f115 f116 X11s g11s0 g11s1 g11sl X11t2 g11t20 g11t21 g11t2l X11p g11p0 g11p1 g11pl a12 b12)
    | (go_at_call 16; (have q13 := Q12); refine (Y1 _ T12.gw).mono ?_; rintro x w13 ⟨rfl, b13⟩; (have a13 := b13); (have T13 := T12.grow a13); (have ⟨f130, f131, f132, f133, f134, f135, f136⟩ := T13.cells); (have X13p := X12p.below a13 X12p.lt); (have ⟨g13p0, g13p1, g13pl⟩ := rcells X13p); (have X13q2 := X12q2.below a13 X12q2.lt); (have ⟨g13q20, g13q21, g13q2l⟩ := rcells X13q2); (have Q13 : Tk 13 := trivial); clear Q12 q13 T12 f120 f121 f122 f123 f124 f125 f126 X12s g12s0 g12s1 g12sl X12t2 g12t20 g12t21 g12t2l X12p g12p0 g12p1 g12pl X12q2 g12q20 g12q21 g12q2l a13 b13)
    | (go_at_call 16; (have q14 := Q13); refine (Y2 _ T13.gw).mono ?_; rintro x w14 ⟨rfl, b14⟩; (have a14 := b14); (have T14 := T13.grow a14); (have ⟨f140, f141, f142, f143, f144, f145, f146⟩ := T14.cells); (have Q14 : Tk 14 := trivial); clear Q13 q14 T13 f130 f131 f132 f133 f134 f135 f136 X13p g13p0 g13p1 g13pl X13q2 g13q20 g13q21 g13q2l a14 b14)
    | (go_at_call 17; (have q15 := Q14); refine (S1 _ T14.gw).mono ?_; rintro x w15 ⟨rfl, b15⟩; (have a15 := b15); (have T15 := T14.grow a15); (have ⟨f150, f151, f152, f153, f154, f155, f156⟩ := T15.cells); (have Q15 : Tk 15 := trivial); clear Q14 q15 T14 f140 f141 f142 f143 f144 f145 f146 a15 b15)
    | (go_at_call 14; (have q16 := Q15); refine (D1 _ T15.gw).mono ?_; rintro x w16 ⟨rfl, b16⟩; (have a16 := (b16.trans ((Below.refl _ _).alloc b16.size (.cells #[.string d1, .string d2] 23)))); (have T16 := T15.grow a16); (have ⟨f160, f161, f162, f163, f164, f165, f166⟩ := T16.cells); (have X16d := Blk.new w16 #[.string d1, .string d2] 23); (have ⟨g16d0, g16d1, g16dl⟩ := rcells X16d); (have Q16 : Tk 16 := trivial); clear Q15 q16 T15 f150 f151 f152 f153 f154 f155 f156 a16 b16)
    | (go_at_call 17; (have q17 := Q16); refine (S2 _ T16.gw).mono ?_; rintro x w17 ⟨rfl, b17⟩; (have a17 := b17); (have T17 := T16.grow a17); (have ⟨f170, f171, f172, f173, f174, f175, f176⟩ := T17.cells); (have Q17 : Tk 17 := trivial); clear Q16 q17 T16 f160 f161 f162 f163 f164 f165 f166 X16d g16d0 g16d1 g16dl a17 b17)
    | fail)
  all_goals first
    | (exact absurd ⟨ba_ext ‹an.toList = bn.toList›, ba_ext ‹ad.toList = bd.toList›⟩ hne)
    | (go_ret; exact ⟨rfl, T17.bel⟩)
end Go.Proofs.YtgfjjlopfoenkaaGreatDoor.Mo

namespace Go.Proofs.YtgfjjlopfoenkaaGreatDoor.Mo
open Go.RowKit Fu Tn Go.Lib Dc

set_option maxHeartbeats 12800000 in
set_option maxRecDepth 100000 in
theorem order_down1 (ad an bd bn cd cn d1 d2 p1 p2 q1 q2 s1 s2 t1 t2 : ByteArray) (v : Int) (g : Int) (g1 : -1 ≤ g) (g2 : g ≤ 1) (w : World) (H : Gw w)
    (HW : ∀ W, Gw W → Calls Tryz.prog 7 #[] W fun x w' => x = .returned (.bool true) ∧ Below W.heap.size W w')
    (HA : ∀ W, Gw W → Calls Tryz.prog 8 #[.agg #[.string an, .string ad]] W fun x w' => x = .returned (.bool true) ∧ Below W.heap.size W w')
    (HB : ∀ W, Gw W → Calls Tryz.prog 8 #[.agg #[.string bn, .string bd]] W fun x w' => x = .returned (.bool true) ∧ Below W.heap.size W w')
    (HC : ∀ W, Gw W → Calls Tryz.prog 8 #[.agg #[.string cn, .string cd]] W fun x w' => x = .returned (.bool true) ∧ Below W.heap.size W w')
    (X1 : ∀ W, Gw W → Calls Tryz.prog 16 #[.agg #[.string an, .string ad], .agg #[.string bn, .string bd]] W fun x w' => x = .returned (.tuple #[.int .i64 (-1), .int .i64 0]) ∧ Below W.heap.size W w')
    (X2 : ∀ W, Gw W → Calls Tryz.prog 16 #[.agg #[.string bn, .string bd], .agg #[.string an, .string ad]] W fun x w' => x = .returned (.tuple #[.int .i64 1, .int .i64 0]) ∧ Below W.heap.size W w')
    (X3 : ∀ W, Gw W → Calls Tryz.prog 16 #[.agg #[.string bn, .string bd], .agg #[.string cn, .string cd]] W fun x w' => x = .returned (.tuple #[.int .i64 1, .int .i64 0]) ∧ Below W.heap.size W w')
    (X4 : ∀ W, Gw W → Calls Tryz.prog 16 #[.agg #[.string an, .string ad], .agg #[.string cn, .string cd]] W fun x w' => x = .returned (.tuple #[.int .i64 v, .int .i64 0]) ∧ Below W.heap.size W w')
    (A1 : ∀ W, Gw W → Calls Tryz.prog 9 #[.agg #[.string an, .string ad], .agg #[.string cn, .string cd]] W fun x w' => x = .returned (.tuple #[.agg #[.string s1, .string s2], .int .i64 0]) ∧ Below W.heap.size W w')
    (A2 : ∀ W, Gw W → Calls Tryz.prog 9 #[.agg #[.string bn, .string bd], .agg #[.string cn, .string cd]] W fun x w' => x = .returned (.tuple #[.agg #[.string t1, .string t2], .int .i64 0]) ∧ Below W.heap.size W w')
    (M1 : ∀ W, Gw W → Calls Tryz.prog 11 #[.agg #[.string an, .string ad], .agg #[.string cn, .string cd]] W fun x w' => x = .returned (.tuple #[.agg #[.string p1, .string p2], .int .i64 0]) ∧ Below W.heap.size W w')
    (M2 : ∀ W, Gw W → Calls Tryz.prog 11 #[.agg #[.string bn, .string bd], .agg #[.string cn, .string cd]] W fun x w' => x = .returned (.tuple #[.agg #[.string q1, .string q2], .int .i64 0]) ∧ Below W.heap.size W w')
    (Y1 : ∀ W, Gw W → Calls Tryz.prog 16 #[.agg #[.string s1, .string s2], .agg #[.string t1, .string t2]] W fun x w' => x = .returned (.tuple #[.int .i64 (-1), .int .i64 0]) ∧ Below W.heap.size W w')
    (Y2 : ∀ W, Gw W → Calls Tryz.prog 16 #[.agg #[.string p1, .string p2], .agg #[.string q1, .string q2]] W fun x w' => x = .returned (.tuple #[.int .i64 (-g), .int .i64 0]) ∧ Below W.heap.size W w')
    (S1 : ∀ W, Gw W → Calls Tryz.prog 17 #[.agg #[.string cn, .string cd]] W fun x w' => x = .returned (.tuple #[.int .i64 g, .int .i64 0]) ∧ Below W.heap.size W w')
    (D1 : ∀ W, Gw W → Calls Tryz.prog 14 #[.agg #[.string an, .string ad], .agg #[.string bn, .string bd]] W fun x w' => x = .returned (.tuple #[.agg #[.string d1, .string d2], .int .i64 0]) ∧ Below W.heap.size W w')
    (S2 : ∀ W, Gw W → Calls Tryz.prog 17 #[.agg #[.string d1, .string d2]] W fun x w' => x = .returned (.tuple #[.int .i64 (-1), .int .i64 0]) ∧ Below W.heap.size W w')
    (hne : ¬ (an = bn ∧ ad = bd)) :
    Calls Tryz.prog 4 #[.agg #[.string an, .string ad], .agg #[.string bn, .string bd], .agg #[.string cn, .string cd]] w fun x w' => x = .returned (.bool true) ∧ Below w.heap.size w w' := by
  have T0 := R3.new w an ad bn bd cn cd H
  have ⟨f00, f01, f02, f03, f04, f05, f06⟩ := T0.cells
  have Q0 : Tk 0 := trivial
  clear H
  go_enter Tryz.func4, Tryz.ntmps4
  go_wp2_with (first
    | (go_at_call 7; (have q1 := Q0); refine (HW _ T0.gw).mono ?_; rintro x w1 ⟨rfl, b1⟩; (have a1 := b1); (have T1 := T0.grow a1); (have ⟨f10, f11, f12, f13, f14, f15, f16⟩ := T1.cells); (have Q1 : Tk 1 := trivial); clear Q0 q1 T0 f00 f01 f02 f03 f04 f05 f06 a1 b1)
    | (go_at_call 8; (have q2 := Q1); refine (HA _ T1.gw).mono ?_; rintro x w2 ⟨rfl, b2⟩; (have a2 := b2); (have T2 := T1.grow a2); (have ⟨f20, f21, f22, f23, f24, f25, f26⟩ := T2.cells); (have Q2 : Tk 2 := trivial); clear Q1 q2 T1 f10 f11 f12 f13 f14 f15 f16 a2 b2)
    | (go_at_call 8; (have q3 := Q2); refine (HB _ T2.gw).mono ?_; rintro x w3 ⟨rfl, b3⟩; (have a3 := b3); (have T3 := T2.grow a3); (have ⟨f30, f31, f32, f33, f34, f35, f36⟩ := T3.cells); (have Q3 : Tk 3 := trivial); clear Q2 q3 T2 f20 f21 f22 f23 f24 f25 f26 a3 b3)
    | (go_at_call 8; (have q4 := Q3); refine (HC _ T3.gw).mono ?_; rintro x w4 ⟨rfl, b4⟩; (have a4 := b4); (have T4 := T3.grow a4); (have ⟨f40, f41, f42, f43, f44, f45, f46⟩ := T4.cells); (have Q4 : Tk 4 := trivial); clear Q3 q4 T3 f30 f31 f32 f33 f34 f35 f36 a4 b4)
    | (go_at_call 16; (have q5 := Q4); refine (X1 _ T4.gw).mono ?_; rintro x w5 ⟨rfl, b5⟩; (have a5 := b5); (have T5 := T4.grow a5); (have ⟨f50, f51, f52, f53, f54, f55, f56⟩ := T5.cells); (have Q5 : Tk 5 := trivial); clear Q4 q5 T4 f40 f41 f42 f43 f44 f45 f46 a5 b5)
    | (go_at_call 16; (have q6 := Q5); refine (X2 _ T5.gw).mono ?_; rintro x w6 ⟨rfl, b6⟩; (have a6 := b6); (have T6 := T5.grow a6); (have ⟨f60, f61, f62, f63, f64, f65, f66⟩ := T6.cells); (have Q6 : Tk 6 := trivial); clear Q5 q6 T5 f50 f51 f52 f53 f54 f55 f56 a6 b6)
    | (go_at_call 16; (have q7 := Q6); refine (X3 _ T6.gw).mono ?_; rintro x w7 ⟨rfl, b7⟩; (have a7 := b7); (have T7 := T6.grow a7); (have ⟨f70, f71, f72, f73, f74, f75, f76⟩ := T7.cells); (have Q7 : Tk 7 := trivial); clear Q6 q7 T6 f60 f61 f62 f63 f64 f65 f66 a7 b7)
    | (go_at_call 16; (have q8 := Q7); refine (X4 _ T7.gw).mono ?_; rintro x w8 ⟨rfl, b8⟩; (have a8 := b8); (have T8 := T7.grow a8); (have ⟨f80, f81, f82, f83, f84, f85, f86⟩ := T8.cells); (have Q8 : Tk 8 := trivial); clear Q7 q8 T7 f70 f71 f72 f73 f74 f75 f76 a8 b8)
    | (go_at_call 9; (have q9 := Q8); refine (A1 _ T8.gw).mono ?_; rintro x w9 ⟨rfl, b9⟩; (have a9 := (b9.trans ((Below.refl _ _).alloc b9.size (.cells #[.string s1, .string s2] 23)))); (have T9 := T8.grow a9); (have ⟨f90, f91, f92, f93, f94, f95, f96⟩ := T9.cells); (have X9s := Blk.new w9 #[.string s1, .string s2] 23); (have ⟨g9s0, g9s1, g9sl⟩ := rcells X9s); (have Q9 : Tk 9 := trivial); clear Q8 q9 T8 f80 f81 f82 f83 f84 f85 f86 a9 b9)
    | (go_at_call 9; (have q10 := Q9); refine (A2 _ T9.gw).mono ?_; rintro x w10 ⟨rfl, b10⟩; (have a10 := (b10.trans ((Below.refl _ _).alloc b10.size (.cells #[.string t1, .string t2] 23)))); (have T10 := T9.grow a10); (have ⟨f100, f101, f102, f103, f104, f105, f106⟩ := T10.cells); (have X10s := X9s.below a10 X9s.lt); (have ⟨g10s0, g10s1, g10sl⟩ := rcells X10s); (have X10t2 := Blk.new w10 #[.string t1, .string t2] 23); (have ⟨g10t20, g10t21, g10t2l⟩ := rcells X10t2); (have Q10 : Tk 10 := trivial); clear Q9 q10 T9 f90 f91 f92 f93 f94 f95 f96 X9s g9s0 g9s1 g9sl a10 b10)
    | (go_at_call 11; (have q11 := Q10); refine (M1 _ T10.gw).mono ?_; rintro x w11 ⟨rfl, b11⟩; (have a11 := (b11.trans ((Below.refl _ _).alloc b11.size (.cells #[.string p1, .string p2] 23)))); (have T11 := T10.grow a11); (have ⟨f110, f111, f112, f113, f114, f115, f116⟩ := T11.cells); (have X11s := X10s.below a11 X10s.lt); (have ⟨g11s0, g11s1, g11sl⟩ := rcells X11s); (have X11t2 := X10t2.below a11 X10t2.lt); (have ⟨g11t20, g11t21, g11t2l⟩ := rcells X11t2); (have X11p := Blk.new w11 #[.string p1, .string p2] 23); (have ⟨g11p0, g11p1, g11pl⟩ := rcells X11p); (have Q11 : Tk 11 := trivial); clear Q10 q11 T10 f100 f101 f102 f103 f104 f105 f106 X10s g10s0 g10s1 g10sl X10t2 g10t20 g10t21 g10t2l a11 b11)
    | (go_at_call 11; (have q12 := Q11); refine (M2 _ T11.gw).mono ?_; rintro x w12 ⟨rfl, b12⟩; (have a12 := (b12.trans ((Below.refl _ _).alloc b12.size (.cells #[.string q1, .string q2] 23)))); (have T12 := T11.grow a12); (have ⟨f120, f121, f122, f123, f124, f125, f126⟩ := T12.cells); (have X12s := X11s.below a12 X11s.lt); (have ⟨g12s0, g12s1, g12sl⟩ := rcells X12s); (have X12t2 := X11t2.below a12 X11t2.lt); (have ⟨g12t20, g12t21, g12t2l⟩ := rcells X12t2); (have X12p := X11p.below a12 X11p.lt); (have ⟨g12p0, g12p1, g12pl⟩ := rcells X12p); (have X12q2 := Blk.new w12 #[.string q1, .string q2] 23); (have ⟨g12q20, g12q21, g12q2l⟩ := rcells X12q2); (have Q12 : Tk 12 := trivial); clear Q11 q12 T11 f110 f111 f112 f113 f114 f115 f116 X11s g11s0 g11s1 g11sl X11t2 g11t20 g11t21 g11t2l X11p g11p0 g11p1 g11pl a12 b12)
    | (go_at_call 16; (have q13 := Q12); refine (Y1 _ T12.gw).mono ?_; rintro x w13 ⟨rfl, b13⟩; (have a13 := b13); (have T13 := T12.grow a13); (have ⟨f130, f131, f132, f133, f134, f135, f136⟩ := T13.cells); (have X13p := X12p.below a13 X12p.lt); (have ⟨g13p0, g13p1, g13pl⟩ := rcells X13p); (have X13q2 := X12q2.below a13 X12q2.lt); (have ⟨g13q20, g13q21, g13q2l⟩ := rcells X13q2); (have Q13 : Tk 13 := trivial); clear Q12 q13 T12 f120 f121 f122 f123 f124 f125 f126 X12s g12s0 g12s1 g12sl X12t2 g12t20 g12t21 g12t2l X12p g12p0 g12p1 g12pl X12q2 g12q20 g12q21 g12q2l a13 b13)
    | (go_at_call 16; (have q14 := Q13); refine (Y2 _ T13.gw).mono ?_; rintro x w14 ⟨rfl, b14⟩; (have a14 := b14); (have T14 := T13.grow a14); (have ⟨f140, f141, f142, f143, f144, f145, f146⟩ := T14.cells); (have Q14 : Tk 14 := trivial); clear Q13 q14 T13 f130 f131 f132 f133 f134 f135 f136 X13p g13p0 g13p1 g13pl X13q2 g13q20 g13q21 g13q2l a14 b14)
    | (go_at_call 17; (have q15 := Q14); refine (S1 _ T14.gw).mono ?_; rintro x w15 ⟨rfl, b15⟩; (have a15 := b15); (have T15 := T14.grow a15); (have ⟨f150, f151, f152, f153, f154, f155, f156⟩ := T15.cells); (have Q15 : Tk 15 := trivial); clear Q14 q15 T14 f140 f141 f142 f143 f144 f145 f146 a15 b15)
    | (go_at_call 14; (have q16 := Q15); refine (D1 _ T15.gw).mono ?_; rintro x w16 ⟨rfl, b16⟩; (have a16 := (b16.trans ((Below.refl _ _).alloc b16.size (.cells #[.string d1, .string d2] 23)))); (have T16 := T15.grow a16); (have ⟨f160, f161, f162, f163, f164, f165, f166⟩ := T16.cells); (have X16d := Blk.new w16 #[.string d1, .string d2] 23); (have ⟨g16d0, g16d1, g16dl⟩ := rcells X16d); (have Q16 : Tk 16 := trivial); clear Q15 q16 T15 f150 f151 f152 f153 f154 f155 f156 a16 b16)
    | (go_at_call 17; (have q17 := Q16); refine (S2 _ T16.gw).mono ?_; rintro x w17 ⟨rfl, b17⟩; (have a17 := b17); (have T17 := T16.grow a17); (have ⟨f170, f171, f172, f173, f174, f175, f176⟩ := T17.cells); (have Q17 : Tk 17 := trivial); clear Q16 q17 T16 f160 f161 f162 f163 f164 f165 f166 X16d g16d0 g16d1 g16dl a17 b17)
    | fail)
  all_goals first
    | (exact absurd ⟨ba_ext ‹an.toList = bn.toList›, ba_ext ‹ad.toList = bd.toList›⟩ hne)
    | (go_ret; exact ⟨rfl, T17.bel⟩)
end Go.Proofs.YtgfjjlopfoenkaaGreatDoor.Mo

namespace Go.Proofs.YtgfjjlopfoenkaaGreatDoor.Mo
open Go.RowKit Fu Tn Go.Lib Dc

set_option maxHeartbeats 12800000 in
set_option maxRecDepth 100000 in
theorem order_down2 (ad an bd bn cd cn d1 d2 p1 p2 q1 q2 s1 s2 t1 t2 : ByteArray) (z : Int) (z0 : z ≤ 0) (g : Int) (g1 : -1 ≤ g) (g2 : g ≤ 1) (w : World) (H : Gw w)
    (HW : ∀ W, Gw W → Calls Tryz.prog 7 #[] W fun x w' => x = .returned (.bool true) ∧ Below W.heap.size W w')
    (HA : ∀ W, Gw W → Calls Tryz.prog 8 #[.agg #[.string an, .string ad]] W fun x w' => x = .returned (.bool true) ∧ Below W.heap.size W w')
    (HB : ∀ W, Gw W → Calls Tryz.prog 8 #[.agg #[.string bn, .string bd]] W fun x w' => x = .returned (.bool true) ∧ Below W.heap.size W w')
    (HC : ∀ W, Gw W → Calls Tryz.prog 8 #[.agg #[.string cn, .string cd]] W fun x w' => x = .returned (.bool true) ∧ Below W.heap.size W w')
    (X1 : ∀ W, Gw W → Calls Tryz.prog 16 #[.agg #[.string an, .string ad], .agg #[.string bn, .string bd]] W fun x w' => x = .returned (.tuple #[.int .i64 (-1), .int .i64 0]) ∧ Below W.heap.size W w')
    (X2 : ∀ W, Gw W → Calls Tryz.prog 16 #[.agg #[.string bn, .string bd], .agg #[.string an, .string ad]] W fun x w' => x = .returned (.tuple #[.int .i64 1, .int .i64 0]) ∧ Below W.heap.size W w')
    (X3 : ∀ W, Gw W → Calls Tryz.prog 16 #[.agg #[.string bn, .string bd], .agg #[.string cn, .string cd]] W fun x w' => x = .returned (.tuple #[.int .i64 z, .int .i64 0]) ∧ Below W.heap.size W w')
    (X4 : ∀ W, Gw W → Calls Tryz.prog 16 #[.agg #[.string an, .string ad], .agg #[.string cn, .string cd]] W fun x w' => x = .returned (.tuple #[.int .i64 (-1), .int .i64 0]) ∧ Below W.heap.size W w')
    (A1 : ∀ W, Gw W → Calls Tryz.prog 9 #[.agg #[.string an, .string ad], .agg #[.string cn, .string cd]] W fun x w' => x = .returned (.tuple #[.agg #[.string s1, .string s2], .int .i64 0]) ∧ Below W.heap.size W w')
    (A2 : ∀ W, Gw W → Calls Tryz.prog 9 #[.agg #[.string bn, .string bd], .agg #[.string cn, .string cd]] W fun x w' => x = .returned (.tuple #[.agg #[.string t1, .string t2], .int .i64 0]) ∧ Below W.heap.size W w')
    (M1 : ∀ W, Gw W → Calls Tryz.prog 11 #[.agg #[.string an, .string ad], .agg #[.string cn, .string cd]] W fun x w' => x = .returned (.tuple #[.agg #[.string p1, .string p2], .int .i64 0]) ∧ Below W.heap.size W w')
    (M2 : ∀ W, Gw W → Calls Tryz.prog 11 #[.agg #[.string bn, .string bd], .agg #[.string cn, .string cd]] W fun x w' => x = .returned (.tuple #[.agg #[.string q1, .string q2], .int .i64 0]) ∧ Below W.heap.size W w')
    (Y1 : ∀ W, Gw W → Calls Tryz.prog 16 #[.agg #[.string s1, .string s2], .agg #[.string t1, .string t2]] W fun x w' => x = .returned (.tuple #[.int .i64 (-1), .int .i64 0]) ∧ Below W.heap.size W w')
    (Y2 : ∀ W, Gw W → Calls Tryz.prog 16 #[.agg #[.string p1, .string p2], .agg #[.string q1, .string q2]] W fun x w' => x = .returned (.tuple #[.int .i64 (-g), .int .i64 0]) ∧ Below W.heap.size W w')
    (S1 : ∀ W, Gw W → Calls Tryz.prog 17 #[.agg #[.string cn, .string cd]] W fun x w' => x = .returned (.tuple #[.int .i64 g, .int .i64 0]) ∧ Below W.heap.size W w')
    (D1 : ∀ W, Gw W → Calls Tryz.prog 14 #[.agg #[.string an, .string ad], .agg #[.string bn, .string bd]] W fun x w' => x = .returned (.tuple #[.agg #[.string d1, .string d2], .int .i64 0]) ∧ Below W.heap.size W w')
    (S2 : ∀ W, Gw W → Calls Tryz.prog 17 #[.agg #[.string d1, .string d2]] W fun x w' => x = .returned (.tuple #[.int .i64 (-1), .int .i64 0]) ∧ Below W.heap.size W w')
    (hne : ¬ (an = bn ∧ ad = bd)) :
    Calls Tryz.prog 4 #[.agg #[.string an, .string ad], .agg #[.string bn, .string bd], .agg #[.string cn, .string cd]] w fun x w' => x = .returned (.bool true) ∧ Below w.heap.size w w' := by
  have T0 := R3.new w an ad bn bd cn cd H
  have ⟨f00, f01, f02, f03, f04, f05, f06⟩ := T0.cells
  have Q0 : Tk 0 := trivial
  clear H
  go_enter Tryz.func4, Tryz.ntmps4
  go_wp2_with (first
    | (go_at_call 7; (have q1 := Q0); refine (HW _ T0.gw).mono ?_; rintro x w1 ⟨rfl, b1⟩; (have a1 := b1); (have T1 := T0.grow a1); (have ⟨f10, f11, f12, f13, f14, f15, f16⟩ := T1.cells); (have Q1 : Tk 1 := trivial); clear Q0 q1 T0 f00 f01 f02 f03 f04 f05 f06 a1 b1)
    | (go_at_call 8; (have q2 := Q1); refine (HA _ T1.gw).mono ?_; rintro x w2 ⟨rfl, b2⟩; (have a2 := b2); (have T2 := T1.grow a2); (have ⟨f20, f21, f22, f23, f24, f25, f26⟩ := T2.cells); (have Q2 : Tk 2 := trivial); clear Q1 q2 T1 f10 f11 f12 f13 f14 f15 f16 a2 b2)
    | (go_at_call 8; (have q3 := Q2); refine (HB _ T2.gw).mono ?_; rintro x w3 ⟨rfl, b3⟩; (have a3 := b3); (have T3 := T2.grow a3); (have ⟨f30, f31, f32, f33, f34, f35, f36⟩ := T3.cells); (have Q3 : Tk 3 := trivial); clear Q2 q3 T2 f20 f21 f22 f23 f24 f25 f26 a3 b3)
    | (go_at_call 8; (have q4 := Q3); refine (HC _ T3.gw).mono ?_; rintro x w4 ⟨rfl, b4⟩; (have a4 := b4); (have T4 := T3.grow a4); (have ⟨f40, f41, f42, f43, f44, f45, f46⟩ := T4.cells); (have Q4 : Tk 4 := trivial); clear Q3 q4 T3 f30 f31 f32 f33 f34 f35 f36 a4 b4)
    | (go_at_call 16; (have q5 := Q4); refine (X1 _ T4.gw).mono ?_; rintro x w5 ⟨rfl, b5⟩; (have a5 := b5); (have T5 := T4.grow a5); (have ⟨f50, f51, f52, f53, f54, f55, f56⟩ := T5.cells); (have Q5 : Tk 5 := trivial); clear Q4 q5 T4 f40 f41 f42 f43 f44 f45 f46 a5 b5)
    | (go_at_call 16; (have q6 := Q5); refine (X2 _ T5.gw).mono ?_; rintro x w6 ⟨rfl, b6⟩; (have a6 := b6); (have T6 := T5.grow a6); (have ⟨f60, f61, f62, f63, f64, f65, f66⟩ := T6.cells); (have Q6 : Tk 6 := trivial); clear Q5 q6 T5 f50 f51 f52 f53 f54 f55 f56 a6 b6)
    | (go_at_call 16; (have q7 := Q6); refine (X3 _ T6.gw).mono ?_; rintro x w7 ⟨rfl, b7⟩; (have a7 := b7); (have T7 := T6.grow a7); (have ⟨f70, f71, f72, f73, f74, f75, f76⟩ := T7.cells); (have Q7 : Tk 7 := trivial); clear Q6 q7 T6 f60 f61 f62 f63 f64 f65 f66 a7 b7)
    | (go_at_call 16; (have q8 := Q7); refine (X4 _ T7.gw).mono ?_; rintro x w8 ⟨rfl, b8⟩; (have a8 := b8); (have T8 := T7.grow a8); (have ⟨f80, f81, f82, f83, f84, f85, f86⟩ := T8.cells); (have Q8 : Tk 8 := trivial); clear Q7 q8 T7 f70 f71 f72 f73 f74 f75 f76 a8 b8)
    | (go_at_call 9; (have q9 := Q8); refine (A1 _ T8.gw).mono ?_; rintro x w9 ⟨rfl, b9⟩; (have a9 := (b9.trans ((Below.refl _ _).alloc b9.size (.cells #[.string s1, .string s2] 23)))); (have T9 := T8.grow a9); (have ⟨f90, f91, f92, f93, f94, f95, f96⟩ := T9.cells); (have X9s := Blk.new w9 #[.string s1, .string s2] 23); (have ⟨g9s0, g9s1, g9sl⟩ := rcells X9s); (have Q9 : Tk 9 := trivial); clear Q8 q9 T8 f80 f81 f82 f83 f84 f85 f86 a9 b9)
    | (go_at_call 9; (have q10 := Q9); refine (A2 _ T9.gw).mono ?_; rintro x w10 ⟨rfl, b10⟩; (have a10 := (b10.trans ((Below.refl _ _).alloc b10.size (.cells #[.string t1, .string t2] 23)))); (have T10 := T9.grow a10); (have ⟨f100, f101, f102, f103, f104, f105, f106⟩ := T10.cells); (have X10s := X9s.below a10 X9s.lt); (have ⟨g10s0, g10s1, g10sl⟩ := rcells X10s); (have X10t2 := Blk.new w10 #[.string t1, .string t2] 23); (have ⟨g10t20, g10t21, g10t2l⟩ := rcells X10t2); (have Q10 : Tk 10 := trivial); clear Q9 q10 T9 f90 f91 f92 f93 f94 f95 f96 X9s g9s0 g9s1 g9sl a10 b10)
    | (go_at_call 11; (have q11 := Q10); refine (M1 _ T10.gw).mono ?_; rintro x w11 ⟨rfl, b11⟩; (have a11 := (b11.trans ((Below.refl _ _).alloc b11.size (.cells #[.string p1, .string p2] 23)))); (have T11 := T10.grow a11); (have ⟨f110, f111, f112, f113, f114, f115, f116⟩ := T11.cells); (have X11s := X10s.below a11 X10s.lt); (have ⟨g11s0, g11s1, g11sl⟩ := rcells X11s); (have X11t2 := X10t2.below a11 X10t2.lt); (have ⟨g11t20, g11t21, g11t2l⟩ := rcells X11t2); (have X11p := Blk.new w11 #[.string p1, .string p2] 23); (have ⟨g11p0, g11p1, g11pl⟩ := rcells X11p); (have Q11 : Tk 11 := trivial); clear Q10 q11 T10 f100 f101 f102 f103 f104 f105 f106 X10s g10s0 g10s1 g10sl X10t2 g10t20 g10t21 g10t2l a11 b11)
    | (go_at_call 11; (have q12 := Q11); refine (M2 _ T11.gw).mono ?_; rintro x w12 ⟨rfl, b12⟩; (have a12 := (b12.trans ((Below.refl _ _).alloc b12.size (.cells #[.string q1, .string q2] 23)))); (have T12 := T11.grow a12); (have ⟨f120, f121, f122, f123, f124, f125, f126⟩ := T12.cells); (have X12s := X11s.below a12 X11s.lt); (have ⟨g12s0, g12s1, g12sl⟩ := rcells X12s); (have X12t2 := X11t2.below a12 X11t2.lt); (have ⟨g12t20, g12t21, g12t2l⟩ := rcells X12t2); (have X12p := X11p.below a12 X11p.lt); (have ⟨g12p0, g12p1, g12pl⟩ := rcells X12p); (have X12q2 := Blk.new w12 #[.string q1, .string q2] 23); (have ⟨g12q20, g12q21, g12q2l⟩ := rcells X12q2); (have Q12 : Tk 12 := trivial); clear Q11 q12 T11 f110 f111 f112 f113 f114 f115 f116 X11s g11s0 g11s1 g11sl X11t2 g11t20 g11t21 g11t2l X11p g11p0 g11p1 g11pl a12 b12)
    | (go_at_call 16; (have q13 := Q12); refine (Y1 _ T12.gw).mono ?_; rintro x w13 ⟨rfl, b13⟩; (have a13 := b13); (have T13 := T12.grow a13); (have ⟨f130, f131, f132, f133, f134, f135, f136⟩ := T13.cells); (have X13p := X12p.below a13 X12p.lt); (have ⟨g13p0, g13p1, g13pl⟩ := rcells X13p); (have X13q2 := X12q2.below a13 X12q2.lt); (have ⟨g13q20, g13q21, g13q2l⟩ := rcells X13q2); (have Q13 : Tk 13 := trivial); clear Q12 q13 T12 f120 f121 f122 f123 f124 f125 f126 X12s g12s0 g12s1 g12sl X12t2 g12t20 g12t21 g12t2l X12p g12p0 g12p1 g12pl X12q2 g12q20 g12q21 g12q2l a13 b13)
    | (go_at_call 16; (have q14 := Q13); refine (Y2 _ T13.gw).mono ?_; rintro x w14 ⟨rfl, b14⟩; (have a14 := b14); (have T14 := T13.grow a14); (have ⟨f140, f141, f142, f143, f144, f145, f146⟩ := T14.cells); (have Q14 : Tk 14 := trivial); clear Q13 q14 T13 f130 f131 f132 f133 f134 f135 f136 X13p g13p0 g13p1 g13pl X13q2 g13q20 g13q21 g13q2l a14 b14)
    | (go_at_call 17; (have q15 := Q14); refine (S1 _ T14.gw).mono ?_; rintro x w15 ⟨rfl, b15⟩; (have a15 := b15); (have T15 := T14.grow a15); (have ⟨f150, f151, f152, f153, f154, f155, f156⟩ := T15.cells); (have Q15 : Tk 15 := trivial); clear Q14 q15 T14 f140 f141 f142 f143 f144 f145 f146 a15 b15)
    | (go_at_call 14; (have q16 := Q15); refine (D1 _ T15.gw).mono ?_; rintro x w16 ⟨rfl, b16⟩; (have a16 := (b16.trans ((Below.refl _ _).alloc b16.size (.cells #[.string d1, .string d2] 23)))); (have T16 := T15.grow a16); (have ⟨f160, f161, f162, f163, f164, f165, f166⟩ := T16.cells); (have X16d := Blk.new w16 #[.string d1, .string d2] 23); (have ⟨g16d0, g16d1, g16dl⟩ := rcells X16d); (have Q16 : Tk 16 := trivial); clear Q15 q16 T15 f150 f151 f152 f153 f154 f155 f156 a16 b16)
    | (go_at_call 17; (have q17 := Q16); refine (S2 _ T16.gw).mono ?_; rintro x w17 ⟨rfl, b17⟩; (have a17 := b17); (have T17 := T16.grow a17); (have ⟨f170, f171, f172, f173, f174, f175, f176⟩ := T17.cells); (have Q17 : Tk 17 := trivial); clear Q16 q17 T16 f160 f161 f162 f163 f164 f165 f166 X16d g16d0 g16d1 g16dl a17 b17)
    | fail)
  all_goals first
    | (exact absurd ⟨ba_ext ‹an.toList = bn.toList›, ba_ext ‹ad.toList = bd.toList›⟩ hne)
    | (go_ret; exact ⟨rfl, T17.bel⟩)
end Go.Proofs.YtgfjjlopfoenkaaGreatDoor.Mo
