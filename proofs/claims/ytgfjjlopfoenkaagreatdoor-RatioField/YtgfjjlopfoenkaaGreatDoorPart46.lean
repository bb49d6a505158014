import Derived.Test.YtgfjjlopfoenkaaGreatDoorPart44
import Derived.Test.YtgfjjlopfoenkaaGreatDoorPart45
import Derived.Test.YtgfjjlopfoenkaaGreatDoorPart30
import Derived.Lib.SmallJoins

namespace Go.Proofs.YtgfjjlopfoenkaaGreatDoor.Mo
open Go.RowKit Fu Tn Go.Lib Dc

set_option maxHeartbeats 12800000 in
set_option maxRecDepth 100000 in
theorem field_some (ad an bd bn cd cn d1 d2 i1 i2 k1 k2 m1 m2 n1 n2 p1 p2 r1 r2 s1 s2 u1 u2 v1 v2 x1 x2 : ByteArray)  (w : World) (H : Gw w)
    (HW : ∀ W, Gw W → Calls Tryz.prog 7 #[] W fun x w' => x = .returned (.bool true) ∧ Below W.heap.size W w')
    (HA : ∀ W, Gw W → Calls Tryz.prog 8 #[.agg #[.string an, .string ad]] W fun x w' => x = .returned (.bool true) ∧ Below W.heap.size W w')
    (HB : ∀ W, Gw W → Calls Tryz.prog 8 #[.agg #[.string bn, .string bd]] W fun x w' => x = .returned (.bool true) ∧ Below W.heap.size W w')
    (HC : ∀ W, Gw W → Calls Tryz.prog 8 #[.agg #[.string cn, .string cd]] W fun x w' => x = .returned (.bool true) ∧ Below W.heap.size W w')
    (C1 : ∀ W, Gw W → Calls Tryz.prog 9 #[.agg #[.string an, .string ad], .agg #[.string bn, .string bd]] W fun x w' => x = .returned (.tuple #[.agg #[.string s1, .string s2], .int .i64 0]) ∧ Below W.heap.size W w')
    (C2 : ∀ W, Gw W → Calls Tryz.prog 9 #[.agg #[.string bn, .string bd], .agg #[.string an, .string ad]] W fun x w' => x = .returned (.tuple #[.agg #[.string s1, .string s2], .int .i64 0]) ∧ Below W.heap.size W w')
    (C3 : ∀ W, Gw W → Calls Tryz.prog 9 #[.agg #[.string s1, .string s2], .agg #[.string cn, .string cd]] W fun x w' => x = .returned (.tuple #[.agg #[.string u1, .string u2], .int .i64 0]) ∧ Below W.heap.size W w')
    (C4 : ∀ W, Gw W → Calls Tryz.prog 9 #[.agg #[.string bn, .string bd], .agg #[.string cn, .string cd]] W fun x w' => x = .returned (.tuple #[.agg #[.string v1, .string v2], .int .i64 0]) ∧ Below W.heap.size W w')
    (C5 : ∀ W, Gw W → Calls Tryz.prog 9 #[.agg #[.string an, .string ad], .agg #[.string v1, .string v2]] W fun x w' => x = .returned (.tuple #[.agg #[.string u1, .string u2], .int .i64 0]) ∧ Below W.heap.size W w')
    (K1 : ∀ W, Gw W → Calls Tryz.prog 10 #[.agg #[.string u1, .string u2]] W fun x w' => x = .returned (.int .i64 0) ∧ Below W.heap.size W w')
    (M1 : ∀ W, Gw W → Calls Tryz.prog 11 #[.agg #[.string an, .string ad], .agg #[.string bn, .string bd]] W fun x w' => x = .returned (.tuple #[.agg #[.string p1, .string p2], .int .i64 0]) ∧ Below W.heap.size W w')
    (M2 : ∀ W, Gw W → Calls Tryz.prog 11 #[.agg #[.string bn, .string bd], .agg #[.string an, .string ad]] W fun x w' => x = .returned (.tuple #[.agg #[.string p1, .string p2], .int .i64 0]) ∧ Below W.heap.size W w')
    (M3 : ∀ W, Gw W → Calls Tryz.prog 11 #[.agg #[.string p1, .string p2], .agg #[.string cn, .string cd]] W fun x w' => x = .returned (.tuple #[.agg #[.string x1, .string x2], .int .i64 0]) ∧ Below W.heap.size W w')
    (M4 : ∀ W, Gw W → Calls Tryz.prog 11 #[.agg #[.string bn, .string bd], .agg #[.string cn, .string cd]] W fun x w' => x = .returned (.tuple #[.agg #[.string m1, .string m2], .int .i64 0]) ∧ Below W.heap.size W w')
    (M5 : ∀ W, Gw W → Calls Tryz.prog 11 #[.agg #[.string an, .string ad], .agg #[.string m1, .string m2]] W fun x w' => x = .returned (.tuple #[.agg #[.string x1, .string x2], .int .i64 0]) ∧ Below W.heap.size W w')
    (K2 : ∀ W, Gw W → Calls Tryz.prog 10 #[.agg #[.string x1, .string x2]] W fun x w' => x = .returned (.int .i64 0) ∧ Below W.heap.size W w')
    (M6 : ∀ W, Gw W → Calls Tryz.prog 11 #[.agg #[.string an, .string ad], .agg #[.string v1, .string v2]] W fun x w' => x = .returned (.tuple #[.agg #[.string k1, .string k2], .int .i64 0]) ∧ Below W.heap.size W w')
    (M7 : ∀ W, Gw W → Calls Tryz.prog 11 #[.agg #[.string an, .string ad], .agg #[.string cn, .string cd]] W fun x w' => x = .returned (.tuple #[.agg #[.string n1, .string n2], .int .i64 0]) ∧ Below W.heap.size W w')
    (C6 : ∀ W, Gw W → Calls Tryz.prog 9 #[.agg #[.string p1, .string p2], .agg #[.string n1, .string n2]] W fun x w' => x = .returned (.tuple #[.agg #[.string k1, .string k2], .int .i64 0]) ∧ Below W.heap.size W w')
    (N1 : ∀ W, Gw W → Calls Tryz.prog 12 #[.agg #[.string an, .string ad]] W fun x w' => x = .returned (.tuple #[.agg #[.string i1, .string i2], .int .i64 0]) ∧ Below W.heap.size W w')
    (C7 : ∀ W, Gw W → Calls Tryz.prog 9 #[.agg #[.string an, .string ad], .agg #[.string i1, .string i2]] W fun x w' => x = .returned (.tuple #[.agg #[.string ⟨#[48]⟩, .string ⟨#[49]⟩], .int .i64 0]) ∧ Below W.heap.size W w')
    (W0 : ∀ W, Gw W → Calls Tryz.prog 13 #[.int .i64 0] W fun x w' => x = .returned (.agg #[.string ⟨#[48]⟩, .string ⟨#[49]⟩]) ∧ Below W.heap.size W w')
    (S1 : ∀ W, Gw W → Calls Tryz.prog 14 #[.agg #[.string an, .string ad], .agg #[.string bn, .string bd]] W fun x w' => x = .returned (.tuple #[.agg #[.string d1, .string d2], .int .i64 0]) ∧ Below W.heap.size W w')
    (C8 : ∀ W, Gw W → Calls Tryz.prog 9 #[.agg #[.string d1, .string d2], .agg #[.string bn, .string bd]] W fun x w' => x = .returned (.tuple #[.agg #[.string an, .string ad], .int .i64 0]) ∧ Below W.heap.size W w')
    (D1 : ∀ W, Gw W → Calls Tryz.prog 15 #[.agg #[.string an, .string ad], .agg #[.string an, .string ad]] W fun x w' => x = .returned (.tuple #[.agg #[.string ⟨#[49]⟩, .string ⟨#[49]⟩], .int .i64 0]) ∧ Below W.heap.size W w')
    (D2 : ∀ W, Gw W → Calls Tryz.prog 15 #[.agg #[.string bn, .string bd], .agg #[.string an, .string ad]] W fun x w' => x = .returned (.tuple #[.agg #[.string r1, .string r2], .int .i64 0]) ∧ Below W.heap.size W w')
    (M8 : ∀ W, Gw W → Calls Tryz.prog 11 #[.agg #[.string r1, .string r2], .agg #[.string an, .string ad]] W fun x w' => x = .returned (.tuple #[.agg #[.string bn, .string bd], .int .i64 0]) ∧ Below W.heap.size W w')
    (W1 : ∀ W, Gw W → Calls Tryz.prog 13 #[.int .i64 1] W fun x w' => x = .returned (.agg #[.string ⟨#[49]⟩, .string ⟨#[49]⟩]) ∧ Below W.heap.size W w')
    (hz : (an.toList == [48]) = false) :
    Calls Tryz.prog 3 #[.agg #[.string an, .string ad], .agg #[.string bn, .string bd], .agg #[.string cn, .string cd]] w fun x w' => x = .returned (.bool true) ∧ Below w.heap.size w w' := by
  have T0 := R3.new w an ad bn bd cn cd H
  have ⟨f00, f01, f02, f03, f04, f05, f06⟩ := T0.cells
  have Q0 : Tk 0 := trivial
  clear H
  go_enter Tryz.func3, Tryz.ntmps3
  go_wp2_with (first
    | (go_at_call 7; (have q1 := Q0); refine (HW _ T0.gw).mono ?_; rintro x w1 ⟨rfl, b1⟩; (have a1 := b1); (have T1 := T0.grow a1); (have ⟨f10, f11, f12, f13, f14, f15, f16⟩ := T1.cells); (have Q1 : Tk 1 := trivial); clear Q0 q1 T0 f00 f01 f02 f03 f04 f05 f06 a1 b1)
    | (go_at_call 8; (have q2 := Q1); refine (HA _ T1.gw).mono ?_; rintro x w2 ⟨rfl, b2⟩; (have a2 := b2); (have T2 := T1.grow a2); (have ⟨f20, f21, f22, f23, f24, f25, f26⟩ := T2.cells); (have Q2 : Tk 2 := trivial); clear Q1 q2 T1 f10 f11 f12 f13 f14 f15 f16 a2 b2)
    | (go_at_call 8; (have q3 := Q2); refine (HB _ T2.gw).mono ?_; rintro x w3 ⟨rfl, b3⟩; (have a3 := b3); (have T3 := T2.grow a3); (have ⟨f30, f31, f32, f33, f34, f35, f36⟩ := T3.cells); (have Q3 : Tk 3 := trivial); clear Q2 q3 T2 f20 f21 f22 f23 f24 f25 f26 a3 b3)
    | (go_at_call 8; (have q4 := Q3); refine (HC _ T3.gw).mono ?_; rintro x w4 ⟨rfl, b4⟩; (have a4 := b4); (have T4 := T3.grow a4); (have ⟨f40, f41, f42, f43, f44, f45, f46⟩ := T4.cells); (have Q4 : Tk 4 := trivial); clear Q3 q4 T3 f30 f31 f32 f33 f34 f35 f36 a4 b4)
    | (go_at_call 9; (have q5 := Q4); refine (C1 _ T4.gw).mono ?_; rintro x w5 ⟨rfl, b5⟩; (have a5 := (b5.trans ((Below.refl _ _).alloc b5.size (.cells #[.string s1, .string s2] 23)))); (have T5 := T4.grow a5); (have ⟨f50, f51, f52, f53, f54, f55, f56⟩ := T5.cells); (have X5s := Blk.new w5 #[.string s1, .string s2] 23); (have ⟨g5s0, g5s1, g5sl⟩ := rcells X5s); (have Q5 : Tk 5 := trivial); clear Q4 q5 T4 f40 f41 f42 f43 f44 f45 f46 a5 b5)
    | (go_at_call 9; (have q6 := Q5); refine (C2 _ T5.gw).mono ?_; rintro x w6 ⟨rfl, b6⟩; (have a6 := (b6.trans ((Below.refl _ _).alloc b6.size (.cells #[.string s1, .string s2] 23)))); (have T6 := T5.grow a6); (have ⟨f60, f61, f62, f63, f64, f65, f66⟩ := T6.cells); (have X6s := X5s.below a6 X5s.lt); (have ⟨g6s0, g6s1, g6sl⟩ := rcells X6s); (have X6t := Blk.new w6 #[.string s1, .string s2] 23); (have ⟨g6t0, g6t1, g6tl⟩ := rcells X6t); (have Q6 : Tk 6 := trivial); clear Q5 q6 T5 f50 f51 f52 f53 f54 f55 f56 X5s g5s0 g5s1 g5sl a6 b6)
    | (go_at_call 9; (have q7 := Q6); refine (C3 _ T6.gw).mono ?_; rintro x w7 ⟨rfl, b7⟩; (have a7 := (b7.trans ((Below.refl _ _).alloc b7.size (.cells #[.string u1, .string u2] 23)))); (have T7 := T6.grow a7); (have ⟨f70, f71, f72, f73, f74, f75, f76⟩ := T7.cells); (have X7s := X6s.below a7 X6s.lt); (have ⟨g7s0, g7s1, g7sl⟩ := rcells X7s); (have X7t := X6t.below a7 X6t.lt); (have ⟨g7t0, g7t1, g7tl⟩ := rcells X7t); (have X7u := Blk.new w7 #[.string u1, .string u2] 23); (have ⟨g7u0, g7u1, g7ul⟩ := rcells X7u); (have Q7 : Tk 7 := trivial); clear Q6 q7 T6 f60 f61 f62 f63 f64 f65 f66 X6s g6s0 g6s1 g6sl X6t g6t0 g6t1 g6tl a7 b7)
    | (go_at_call 9; (have q8 := Q7); refine (C4 _ T7.gw).mono ?_; rintro x w8 ⟨rfl, b8⟩; (have a8 := (b8.trans ((Below.refl _ _).alloc b8.size (.cells #[.string v1, .string v2] 23)))); (have T8 := T7.grow a8); (have ⟨f80, f81, f82, f83, f84, f85, f86⟩ := T8.cells); (have X8s := X7s.below a8 X7s.lt); (have ⟨g8s0, g8s1, g8sl⟩ := rcells X8s); (have X8t := X7t.below a8 X7t.lt); (have ⟨g8t0, g8t1, g8tl⟩ := rcells X8t); (have X8u := X7u.below a8 X7u.lt); (have ⟨g8u0, g8u1, g8ul⟩ := rcells X8u); (have X8v := Blk.new w8 #[.string v1, .string v2] 23); (have ⟨g8v0, g8v1, g8vl⟩ := rcells X8v); (have Q8 : Tk 8 := trivial); clear Q7 q8 T7 f70 f71 f72 f73 f74 f75 f76 X7s g7s0 g7s1 g7sl X7t g7t0 g7t1 g7tl X7u g7u0 g7u1 g7ul a8 b8)
    | (go_at_call 9; (have q9 := Q8); refine (C5 _ T8.gw).mono ?_; rintro x w9 ⟨rfl, b9⟩; (have a9 := (b9.trans ((Below.refl _ _).alloc b9.size (.cells #[.string u1, .string u2] 23)))); (have T9 := T8.grow a9); (have ⟨f90, f91, f92, f93, f94, f95, f96⟩ := T9.cells); (have X9s := X8s.below a9 X8s.lt); (have ⟨g9s0, g9s1, g9sl⟩ := rcells X9s); (have X9t := X8t.below a9 X8t.lt); (have ⟨g9t0, g9t1, g9tl⟩ := rcells X9t); (have X9u := X8u.below a9 X8u.lt); (have ⟨g9u0, g9u1, g9ul⟩ := rcells X9u); (have X9v := X8v.below a9 X8v.lt); (have ⟨g9v0, g9v1, g9vl⟩ := rcells X9v); (have X9w := Blk.new w9 #[.string u1, .string u2] 23); (have ⟨g9w0, g9w1, g9wl⟩ := rcells X9w); (have Q9 : Tk 9 := trivial); clear Q8 q9 T8 f80 f81 f82 f83 f84 f85 f86 X8s g8s0 g8s1 g8sl X8t g8t0 g8t1 g8tl X8u g8u0 g8u1 g8ul X8v g8v0 g8v1 g8vl a9 b9)
    | (go_at_call 10; (have q10 := Q9); refine (K1 _ T9.gw).mono ?_; rintro x w10 ⟨rfl, b10⟩; (have a10 := b10); (have T10 := T9.grow a10); (have ⟨f100, f101, f102, f103, f104, f105, f106⟩ := T10.cells); (have X10v := X9v.below a10 X9v.lt); (have ⟨g10v0, g10v1, g10vl⟩ := rcells X10v); (have Q10 : Tk 10 := trivial); clear Q9 q10 T9 f90 f91 f92 f93 f94 f95 f96 X9s g9s0 g9s1 g9sl X9t g9t0 g9t1 g9tl X9u g9u0 g9u1 g9ul X9v g9v0 g9v1 g9vl X9w g9w0 g9w1 g9wl a10 b10)
    | (go_at_call 11; (have q11 := Q10); refine (M1 _ T10.gw).mono ?_; rintro x w11 ⟨rfl, b11⟩; (have a11 := (b11.trans ((Below.refl _ _).alloc b11.size (.cells #[.string p1, .string p2] 23)))); (have T11 := T10.grow a11); (have ⟨f110, f111, f112, f113, f114, f115, f116⟩ := T11.cells); (have X11v := X10v.below a11 X10v.lt); (have ⟨g11v0, g11v1, g11vl⟩ := rcells X11v); (have X11p := Blk.new w11 #[.string p1, .string p2] 23); (have ⟨g11p0, g11p1, g11pl⟩ := rcells X11p); (have Q11 : Tk 11 := trivial); clear Q10 q11 T10 f100 f101 f102 f103 f104 f105 f106 X10v g10v0 g10v1 g10vl a11 b11)
    | (go_at_call 11; (have q12 := Q11); refine (M2 _ T11.gw).mono ?_; rintro x w12 ⟨rfl, b12⟩; (have a12 := (b12.trans ((Below.refl _ _).alloc b12.size (.cells #[.string p1, .string p2] 23)))); (have T12 := T11.grow a12); (have ⟨f120, f121, f122, f123, f124, f125, f126⟩ := T12.cells); (have X12v := X11v.below a12 X11v.lt); (have ⟨g12v0, g12v1, g12vl⟩ := rcells X12v); (have X12p := X11p.below a12 X11p.lt); (have ⟨g12p0, g12p1, g12pl⟩ := rcells X12p); (have X12q := Blk.new w12 #[.string p1, .string p2] 23); (have ⟨g12q0, g12q1, g12ql⟩ := rcells X12q); (have Q12 : Tk 12 := trivial); clear Q11 q12 T11 f110 f111 f112 f113 f114 f115 f116 X11v g11v0 g11v1 g11vl X11p g11p0 g11p1 g11pl a12 b12)
    | (go_at_call 11; (have q13 := Q12); refine (M3 _ T12.gw).mono ?_; rintro x w13 ⟨rfl, b13⟩; (have a13 := (b13.trans ((Below.refl _ _).alloc b13.size (.cells #[.string x1, .string x2] 23)))); (have T13 := T12.grow a13); (have ⟨f130, f131, f132, f133, f134, f135, f136⟩ := T13.cells); (have X13v := X12v.below a13 X12v.lt); (have ⟨g13v0, g13v1, g13vl⟩ := rcells X13v); (have X13p := X12p.below a13 X12p.lt); (have ⟨g13p0, g13p1, g13pl⟩ := rcells X13p); (have X13q := X12q.below a13 X12q.lt); (have ⟨g13q0, g13q1, g13ql⟩ := rcells X13q); (have X13x := Blk.new w13 #[.string x1, .string x2] 23); (have ⟨g13x0, g13x1, g13xl⟩ := rcells X13x); (have Q13 : Tk 13 := trivial); clear Q12 q13 T12 f120 f121 f122 f123 f124 f125 f126 X12v g12v0 g12v1 g12vl X12p g12p0 g12p1 g12pl X12q g12q0 g12q1 g12ql a13 b13)
    | (go_at_call 11; (have q14 := Q13); refine (M4 _ T13.gw).mono ?_; rintro x w14 ⟨rfl, b14⟩; (have a14 := (b14.trans ((Below.refl _ _).alloc b14.size (.cells #[.string m1, .string m2] 23)))); (have T14 := T13.grow a14); (have ⟨f140, f141, f142, f143, f144, f145, f146⟩ := T14.cells); (have X14v := X13v.below a14 X13v.lt); (have ⟨g14v0, g14v1, g14vl⟩ := rcells X14v); (have X14p := X13p.below a14 X13p.lt); (have ⟨g14p0, g14p1, g14pl⟩ := rcells X14p); (have X14q := X13q.below a14 X13q.lt); (have ⟨g14q0, g14q1, g14ql⟩ := rcells X14q); (have X14x := X13x.below a14 X13x.lt); (have ⟨g14x0, g14x1, g14xl⟩ := rcells X14x); (have X14m := Blk.new w14 #[.string m1, .string m2] 23); (have ⟨g14m0, g14m1, g14ml⟩ := rcells X14m); (have Q14 : Tk 14 := trivial); clear Q13 q14 T13 f130 f131 f132 f133 f134 f135 f136 X13v g13v0 g13v1 g13vl X13p g13p0 g13p1 g13pl X13q g13q0 g13q1 g13ql X13x g13x0 g13x1 g13xl a14 b14)
    | (go_at_call 11; (have q15 := Q14); refine (M5 _ T14.gw).mono ?_; rintro x w15 ⟨rfl, b15⟩; (have a15 := (b15.trans ((Below.refl _ _).alloc b15.size (.cells #[.string x1, .string x2] 23)))); (have T15 := T14.grow a15); (have ⟨f150, f151, f152, f153, f154, f155, f156⟩ := T15.cells); (have X15v := X14v.below a15 X14v.lt); (have ⟨g15v0, g15v1, g15vl⟩ := rcells X15v); (have X15p := X14p.below a15 X14p.lt); (have ⟨g15p0, g15p1, g15pl⟩ := rcells X15p); (have X15q := X14q.below a15 X14q.lt); (have ⟨g15q0, g15q1, g15ql⟩ := rcells X15q); (have X15x := X14x.below a15 X14x.lt); (have ⟨g15x0, g15x1, g15xl⟩ := rcells X15x); (have X15y := Blk.new w15 #[.string x1, .string x2] 23); (have ⟨g15y0, g15y1, g15yl⟩ := rcells X15y); (have Q15 : Tk 15 := trivial); clear Q14 q15 T14 f140 f141 f142 f143 f144 f145 f146 X14v g14v0 g14v1 g14vl X14p g14p0 g14p1 g14pl X14q g14q0 g14q1 g14ql X14x g14x0 g14x1 g14xl X14m g14m0 g14m1 g14ml a15 b15)
    | (go_at_call 10; (have q16 := Q15); refine (K2 _ T15.gw).mono ?_; rintro x w16 ⟨rfl, b16⟩; (have a16 := b16); (have T16 := T15.grow a16); (have ⟨f160, f161, f162, f163, f164, f165, f166⟩ := T16.cells); (have X16v := X15v.below a16 X15v.lt); (have ⟨g16v0, g16v1, g16vl⟩ := rcells X16v); (have X16p := X15p.below a16 X15p.lt); (have ⟨g16p0, g16p1, g16pl⟩ := rcells X16p); (have Q16 : Tk 16 := trivial); clear Q15 q16 T15 f150 f151 f152 f153 f154 f155 f156 X15v g15v0 g15v1 g15vl X15p g15p0 g15p1 g15pl X15q g15q0 g15q1 g15ql X15x g15x0 g15x1 g15xl X15y g15y0 g15y1 g15yl a16 b16)
    | (go_at_call 11; (have q17 := Q16); refine (M6 _ T16.gw).mono ?_; rintro x w17 ⟨rfl, b17⟩; (have a17 := (b17.trans ((Below.refl _ _).alloc b17.size (.cells #[.string k1, .string k2] 23)))); (have T17 := T16.grow a17); (have ⟨f170, f171, f172, f173, f174, f175, f176⟩ := T17.cells); (have X17p := X16p.below a17 X16p.lt); (have ⟨g17p0, g17p1, g17pl⟩ := rcells X17p); (have X17k := Blk.new w17 #[.string k1, .string k2] 23); (have ⟨g17k0, g17k1, g17kl⟩ := rcells X17k); (have Q17 : Tk 17 := trivial); clear Q16 q17 T16 f160 f161 f162 f163 f164 f165 f166 X16v g16v0 g16v1 g16vl X16p g16p0 g16p1 g16pl a17 b17)
    | (go_at_call 11; (have q18 := Q17); refine (M7 _ T17.gw).mono ?_; rintro x w18 ⟨rfl, b18⟩; (have a18 := (b18.trans ((Below.refl _ _).alloc b18.size (.cells #[.string n1, .string n2] 23)))); (have T18 := T17.grow a18); (have ⟨f180, f181, f182, f183, f184, f185, f186⟩ := T18.cells); (have X18p := X17p.below a18 X17p.lt); (have ⟨g18p0, g18p1, g18pl⟩ := rcells X18p); (have X18k := X17k.below a18 X17k.lt); (have ⟨g18k0, g18k1, g18kl⟩ := rcells X18k); (have X18n := Blk.new w18 #[.string n1, .string n2] 23); (have ⟨g18n0, g18n1, g18nl⟩ := rcells X18n); (have Q18 : Tk 18 := trivial); clear Q17 q18 T17 f170 f171 f172 f173 f174 f175 f176 X17p g17p0 g17p1 g17pl X17k g17k0 g17k1 g17kl a18 b18)
    | (go_at_call 9; (have q19 := Q18); refine (C6 _ T18.gw).mono ?_; rintro x w19 ⟨rfl, b19⟩; (have a19 := (b19.trans ((Below.refl _ _).alloc b19.size (.cells #[.string k1, .string k2] 23)))); (have T19 := T18.grow a19); (have ⟨f190, f191, f192, f193, f194, f195, f196⟩ := T19.cells); (have X19k := X18k.below a19 X18k.lt); (have ⟨g19k0, g19k1, g19kl⟩ := rcells X19k); (have X19o := Blk.new w19 #[.string k1, .string k2] 23); (have ⟨g19o0, g19o1, g19ol⟩ := rcells X19o); (have Q19 : Tk 19 := trivial); clear Q18 q19 T18 f180 f181 f182 f183 f184 f185 f186 X18p g18p0 g18p1 g18pl X18k g18k0 g18k1 g18kl X18n g18n0 g18n1 g18nl a19 b19)
    | (go_at_call 12; (have q20 := Q19); refine (N1 _ T19.gw).mono ?_; rintro x w20 ⟨rfl, b20⟩; (have a20 := (b20.trans ((Below.refl _ _).alloc b20.size (.cells #[.string i1, .string i2] 23)))); (have T20 := T19.grow a20); (have ⟨f200, f201, f202, f203, f204, f205, f206⟩ := T20.cells); (have X20k := X19k.below a20 X19k.lt); (have ⟨g20k0, g20k1, g20kl⟩ := rcells X20k); (have X20o := X19o.below a20 X19o.lt); (have ⟨g20o0, g20o1, g20ol⟩ := rcells X20o); (have X20minus := Blk.new w20 #[.string i1, .string i2] 23); (have ⟨g20minus0, g20minus1, g20minusl⟩ := rcells X20minus); (have Q20 : Tk 20 := trivial); clear Q19 q20 T19 f190 f191 f192 f193 f194 f195 f196 X19k g19k0 g19k1 g19kl X19o g19o0 g19o1 g19ol a20 b20)
    | (go_at_call 9; (have q21 := Q20); refine (C7 _ T20.gw).mono ?_; rintro x w21 ⟨rfl, b21⟩; (have a21 := (b21.trans ((Below.refl _ _).alloc b21.size (.cells #[.string ⟨#[48]⟩, .string ⟨#[49]⟩] 23)))); (have T21 := T20.grow a21); (have ⟨f210, f211, f212, f213, f214, f215, f216⟩ := T21.cells); (have X21k := X20k.below a21 X20k.lt); (have ⟨g21k0, g21k1, g21kl⟩ := rcells X21k); (have X21o := X20o.below a21 X20o.lt); (have ⟨g21o0, g21o1, g21ol⟩ := rcells X21o); (have X21none := Blk.new w21 #[.string ⟨#[48]⟩, .string ⟨#[49]⟩] 23); (have ⟨g21none0, g21none1, g21nonel⟩ := rcells X21none); (have Q21 : Tk 21 := trivial); clear Q20 q21 T20 f200 f201 f202 f203 f204 f205 f206 X20k g20k0 g20k1 g20kl X20o g20o0 g20o1 g20ol X20minus g20minus0 g20minus1 g20minusl a21 b21)
    | fail)
  go_region_held3 (fun x => x.cell? ⟨w17.heap.size, 0, none⟩ = some (.string k1) ∧ x.cell? ⟨w17.heap.size, 1, none⟩ = some (.string k2) ∧ x.cell? ⟨w19.heap.size, 0, none⟩ = some (.string k1) ∧ x.cell? ⟨w19.heap.size, 1, none⟩ = some (.string k2) ∧ x.cell? ⟨w21.heap.size, 0, none⟩ = some (.string ⟨#[48]⟩) ∧ x.cell? ⟨w21.heap.size, 1, none⟩ = some (.string ⟨#[49]⟩)) (go_keep) (first
    | (go_at_call 13; refine (W0 _ (T21.gw.grow (Below.refl _ _).drew)).mono ?_; rintro x w22 ⟨rfl, b22⟩; have b22 := undrew b22; have T22 := T21.grow b22; have ⟨f220, f221, f222, f223, f224, f225, f226⟩ := T22.cells; obtain ⟨g22k0, g22k1, g22kl⟩ := rcells (X21k.below b22 X21k.lt); have X22k := X21k.below b22 X21k.lt; obtain ⟨g22o0, g22o1, g22ol⟩ := rcells (X21o.below b22 X21o.lt); have X22o := X21o.below b22 X21o.lt; obtain ⟨g22none0, g22none1, g22nonel⟩ := rcells (X21none.below b22 X21none.lt); have X22none := X21none.below b22 X21none.lt; have Q22 : Tk 22 := trivial)
    | fail)
  clear Q21 T21 f210 f211 f212 f213 f214 f215 f216 X21k g21k0 g21k1 g21kl X21o g21o0 g21o1 g21ol X21none g21none0 g21none1 g21nonel X22k g22k0 g22k1 g22kl X22o g22o0 g22o1 g22ol X22none g22none0 g22none1 g22nonel b22
  go_wp2_with (first
    | (go_at_call 14; (have q23 := Q22); refine (S1 _ T22.gw).mono ?_; rintro x w23 ⟨rfl, b23⟩; (have a23 := (b23.trans ((Below.refl _ _).alloc b23.size (.cells #[.string d1, .string d2] 23)))); (have T23 := T22.grow a23); (have ⟨f230, f231, f232, f233, f234, f235, f236⟩ := T23.cells); (have X23d := Blk.new w23 #[.string d1, .string d2] 23); (have ⟨g23d0, g23d1, g23dl⟩ := rcells X23d); (have Q23 : Tk 23 := trivial); clear Q22 q23 T22 f220 f221 f222 f223 f224 f225 f226 a23 b23)
    | (go_at_call 9; (have q24 := Q23); refine (C8 _ T23.gw).mono ?_; rintro x w24 ⟨rfl, b24⟩; (have a24 := (b24.trans ((Below.refl _ _).alloc b24.size (.cells #[.string an, .string ad] 23)))); (have T24 := T23.grow a24); (have ⟨f240, f241, f242, f243, f244, f245, f246⟩ := T24.cells); (have X24back := Blk.new w24 #[.string an, .string ad] 23); (have ⟨g24back0, g24back1, g24backl⟩ := rcells X24back); (have Q24 : Tk 24 := trivial); clear Q23 q24 T23 f230 f231 f232 f233 f234 f235 f236 X23d g23d0 g23d1 g23dl a24 b24)
    | (go_at_call 15; (have q25 := Q24); refine (D1 _ T24.gw).mono ?_; rintro x w25 ⟨rfl, b25⟩; (have a25 := (b25.trans ((Below.refl _ _).alloc b25.size (.cells #[.string ⟨#[49]⟩, .string ⟨#[49]⟩] 23)))); (have T25 := T24.grow a25); (have ⟨f250, f251, f252, f253, f254, f255, f256⟩ := T25.cells); (have X25back := X24back.below a25 X24back.lt); (have ⟨g25back0, g25back1, g25backl⟩ := rcells X25back); (have X25one := Blk.new w25 #[.string ⟨#[49]⟩, .string ⟨#[49]⟩] 23); (have ⟨g25one0, g25one1, g25onel⟩ := rcells X25one); (have Q25 : Tk 25 := trivial); clear Q24 q25 T24 f240 f241 f242 f243 f244 f245 f246 X24back g24back0 g24back1 g24backl a25 b25)
    | (go_at_call 15; (have q26 := Q25); refine (D2 _ T25.gw).mono ?_; rintro x w26 ⟨rfl, b26⟩; (have a26 := (b26.trans ((Below.refl _ _).alloc b26.size (.cells #[.string r1, .string r2] 23)))); (have T26 := T25.grow a26); (have ⟨f260, f261, f262, f263, f264, f265, f266⟩ := T26.cells); (have X26back := X25back.below a26 X25back.lt); (have ⟨g26back0, g26back1, g26backl⟩ := rcells X26back); (have X26one := X25one.below a26 X25one.lt); (have ⟨g26one0, g26one1, g26onel⟩ := rcells X26one); (have X26r := Blk.new w26 #[.string r1, .string r2] 23); (have ⟨g26r0, g26r1, g26rl⟩ := rcells X26r); (have Q26 : Tk 26 := trivial); clear Q25 q26 T25 f250 f251 f252 f253 f254 f255 f256 X25back g25back0 g25back1 g25backl X25one g25one0 g25one1 g25onel a26 b26)
    | (go_at_call 11; (have q27 := Q26); refine (M8 _ T26.gw).mono ?_; rintro x w27 ⟨rfl, b27⟩; (have a27 := (b27.trans ((Below.refl _ _).alloc b27.size (.cells #[.string bn, .string bd] 23)))); (have T27 := T26.grow a27); (have ⟨f270, f271, f272, f273, f274, f275, f276⟩ := T27.cells); (have X27back := X26back.below a27 X26back.lt); (have ⟨g27back0, g27back1, g27backl⟩ := rcells X27back); (have X27one := X26one.below a27 X26one.lt); (have ⟨g27one0, g27one1, g27onel⟩ := rcells X27one); (have X27again := Blk.new w27 #[.string bn, .string bd] 23); (have ⟨g27again0, g27again1, g27againl⟩ := rcells X27again); (have Q27 : Tk 27 := trivial); clear Q26 q27 T26 f260 f261 f262 f263 f264 f265 f266 X26back g26back0 g26back1 g26backl X26one g26one0 g26one1 g26onel X26r g26r0 g26r1 g26rl a27 b27)
    | fail)
  go_region_held3 (fun x => x.cell? ⟨w24.heap.size, 0, none⟩ = some (.string an) ∧ x.cell? ⟨w24.heap.size, 1, none⟩ = some (.string ad) ∧ x.cell? ⟨w25.heap.size, 0, none⟩ = some (.string ⟨#[49]⟩) ∧ x.cell? ⟨w25.heap.size, 1, none⟩ = some (.string ⟨#[49]⟩) ∧ x.cell? ⟨w27.heap.size, 0, none⟩ = some (.string bn) ∧ x.cell? ⟨w27.heap.size, 1, none⟩ = some (.string bd) ∧ x.cell? ⟨w.heap.size, 0, none⟩ = some (.string an) ∧ x.cell? ⟨w.heap.size, 1, none⟩ = some (.string ad) ∧ x.cell? ⟨w.heap.size + 1, 0, none⟩ = some (.string bn) ∧ x.cell? ⟨w.heap.size + 1, 1, none⟩ = some (.string bd)) (go_keep) (first
    | (go_at_call 13; refine (W1 _ (T27.gw.grow (Below.refl _ _).drew)).mono ?_; rintro x w28 ⟨rfl, b28⟩; have b28 := undrew b28; have T28 := T27.grow b28; have ⟨f280, f281, f282, f283, f284, f285, f286⟩ := T28.cells; obtain ⟨g28back0, g28back1, g28backl⟩ := rcells (X27back.below b28 X27back.lt); have X28back := X27back.below b28 X27back.lt; obtain ⟨g28one0, g28one1, g28onel⟩ := rcells (X27one.below b28 X27one.lt); have X28one := X27one.below b28 X27one.lt; obtain ⟨g28again0, g28again1, g28againl⟩ := rcells (X27again.below b28 X27again.lt); have X28again := X27again.below b28 X27again.lt; have Q28 : Tk 28 := trivial)
    | fail)
  clear Q27 T27 f270 f271 f272 f273 f274 f275 f276 X27back g27back0 g27back1 g27backl X27one g27one0 g27one1 g27onel X27again g27again0 g27again1 g27againl X28back g28back0 g28back1 g28backl X28one g28one0 g28one1 g28onel X28again g28again0 g28again1 g28againl b28
  go_wp2
  go_ret
  exact ⟨rfl, T28.bel⟩
end Go.Proofs.YtgfjjlopfoenkaaGreatDoor.Mo

namespace Go.Proofs.YtgfjjlopfoenkaaGreatDoor.Mo
open Go.RowKit Fu Tn Go.Lib Dc

theorem field_right (r s t : Rat) (n1 d1 n2 d2 n3 d3 : ByteArray) (g1 : n1.size ≤ 300 ∧ d1.size ≤ 300 ∧ goodE n1 d1 = 0) (g2 : n2.size ≤ 300 ∧ d2.size ≤ 300 ∧ goodE n2 d2 = 0) (g3 : n3.size ≤ 300 ∧ d3.size ≤ 300 ∧ goodE n3 d3 = 0)
    (a1 : n1 = tn r) (a2 : d1 = td r) (b1 : n2 = tn s) (b2 : d2 = td s) (c1 : n3 = tn t) (c2 : d3 = td t) (p1 : PS r 16) (p2 : PS s 16) (p3 : PS t 16) (w : World) (G : Gw w) :
    Calls Tryz.prog 3 #[wrt r, wrt s, wrt t] w fun x w' => x = .returned (.bool true) ∧ Below w.heap.size w w' := by
  have HW := fun W (g : Gw W) => works_any W g
  have HA := fun W (_ : Gw W) => small_t g1 a1 a2 W
  have HB := fun W (_ : Gw W) => small_t g2 b1 b2 W
  have HC := fun W (_ : Gw W) => small_t g3 c1 c2 W
  have hp1 := p1.mono (show 16 ≤ 20 by decide)
  have C1 := fun W g => add_c p1 p2 (by decide) (by decide) W g
  have C2 := fun W g => add_c p2 p1 (by decide) (by decide) W g
  rw [Rat.add_comm s r] at C2
  have C3 := fun W g => add_c (p1.add p2) p3 (by decide) (by decide) W g
  have C4 := fun W g => add_c p2 p3 (by decide) (by decide) W g
  have C5 := fun W g => add_c p1 (p2.add p3) (by decide) (by decide) W g
  rw [← Rat.add_assoc] at C5
  have K1 := fun W (_ : Gw W) => check_c ((p1.add p2).add p3) (by decide) W
  have M1 := fun W g => mul_c p1 p2 (by decide) (by decide) W g
  have M2 := fun W g => mul_c p2 p1 (by decide) (by decide) W g
  rw [Rat.mul_comm s r] at M2
  have M3 := fun W g => mul_c (p1.mul p2) p3 (by decide) (by decide) W g
  have M4 := fun W g => mul_c p2 p3 (by decide) (by decide) W g
  have M5 := fun W g => mul_c p1 (p2.mul p3) (by decide) (by decide) W g
  rw [← Rat.mul_assoc] at M5
  have K2 := fun W (_ : Gw W) => check_c ((p1.mul p2).mul p3) (by decide) W
  have M6 := fun W g => mul_c p1 (p2.add p3) (by decide) (by decide) W g
  have M7 := fun W g => mul_c p1 p3 (by decide) (by decide) W g
  have C6 := fun W g => add_c (p1.mul p2) (p1.mul p3) (by decide) (by decide) W g
  rw [← Rat.mul_add] at C6
  have N1 := fun W g => neg_c p1 (by decide) W g
  have C7 := fun W g => add_c p1 p1.neg (by decide) (by decide) W g
  rw [Rat.add_neg_cancel, w0] at C7
  have W0 := fun W (_ : Gw W) => whole_any 0 W (by decide)
  rw [show decDigits 0 = [48] by simp [decDigits]] at W0
  have W1 := fun W (_ : Gw W) => whole_any 1 W (by decide)
  rw [show decDigits 1 = [49] by simp [decDigits]] at W1
  have S1 := fun W g => sub_c p1 p2 (by decide) (by decide) W g
  have C8 := fun W g => add_c (p1.sub p2) p2 (by decide) (by decide) W g
  rw [show r - s + s = r by rw [Rat.sub_eq_add_neg, Rat.add_assoc, Rat.neg_add_cancel, Rat.add_zero]] at C8
  have hz := tn_zero r
  by_cases h0 : r = 0
  · rw [decide_eq_true h0] at hz
    have D1 := fun W (_ : Gw W) => Div_r0 (p1.rdy (by decide)) W
    rw [show wrt 0 = wrt r by rw [h0]] at D1
    simp only [wrt_eq] at *
    exact field_zero _ _ _ _ _ _ _ _ _ _ _ _ _ _ _ _ _ _ _ _ _ _ _ _ _ _ w G HW HA HB HC C1 C2 C3 C4 C5 K1 M1 M2 M3 M4 M5 K2 M6 M7 C6 N1 C7 W0 S1 C8 D1 hz
  · rw [decide_eq_false h0] at hz
    have D1 := fun W g => div_c p1 p1 (by decide) (by decide) h0 W g
    rw [one_c r h0, w1] at D1
    have D2 := fun W g => div_c p2 p1 (by decide) (by decide) h0 W g
    have M8 := fun W g => mul_c (p2.div p1 h0) p1 (by decide) (by decide) W g
    rw [show s / r * r = s by rw [Rat.div_def, Rat.mul_assoc, Rat.inv_mul_cancel r h0, Rat.mul_one]] at M8
    simp only [wrt_eq] at *
    exact field_some _ _ _ _ _ _ _ _ _ _ _ _ _ _ _ _ _ _ _ _ _ _ _ _ _ _ _ _ w G HW HA HB HC C1 C2 C3 C4 C5 K1 M1 M2 M3 M4 M5 K2 M6 M7 C6 N1 C7 W0 S1 C8 D1 D2 M8 W1 hz
end Go.Proofs.YtgfjjlopfoenkaaGreatDoor.Mo

namespace Go.Proofs.YtgfjjlopfoenkaaGreatDoor.Mo
open Go.RowKit Fu Tn Go.Lib Dc

set_option maxHeartbeats 3200000 in
set_option maxRecDepth 100000 in
theorem field_not0 (an ad bn bd cn cd : ByteArray) (w : World) (G : Gw w) (Ha : ∀ W, Calls Tryz.prog 8 #[.agg #[.string an, .string ad]] W fun x w' => x = .returned (.bool false) ∧ Below W.heap.size W w') :
    Calls Tryz.prog 3 #[.agg #[.string an, .string ad], .agg #[.string bn, .string bd], .agg #[.string cn, .string cd]] w fun x w' => x = .returned (.bool true) ∧ Below w.heap.size w w' := by
  have T0 := R3.new w an ad bn bd cn cd G
  have ⟨f00, f01, f02, f03, f04, f05, f06⟩ := T0.cells
  go_enter Tryz.func3, Tryz.ntmps3
  go_wp2_with (first
    | (go_at_call 7; refine (works_any _ T0.gw).mono ?_; rintro x w1 ⟨rfl, b1⟩; (have T1 := T0.grow b1); (have ⟨f10, f11, f12, f13, f14, f15, f16⟩ := T1.cells))
    | (go_at_call 8; (have q := T1); refine (Ha _).mono ?_; rintro x w2 ⟨rfl, b2⟩; (have T2 := T1.grow b2); (have ⟨f20, f21, f22, f23, f24, f25, f26⟩ := T2.cells); clear q T1)
    | fail)
  go_ret
  exact ⟨rfl, T2.bel⟩
set_option maxHeartbeats 3200000 in
set_option maxRecDepth 100000 in
theorem field_not1 (an ad bn bd cn cd : ByteArray) (w : World) (G : Gw w) (Ha : ∀ W, Calls Tryz.prog 8 #[.agg #[.string an, .string ad]] W fun x w' => x = .returned (.bool true) ∧ Below W.heap.size W w') (Hb : ∀ W, Calls Tryz.prog 8 #[.agg #[.string bn, .string bd]] W fun x w' => x = .returned (.bool false) ∧ Below W.heap.size W w') :
    Calls Tryz.prog 3 #[.agg #[.string an, .string ad], .agg #[.string bn, .string bd], .agg #[.string cn, .string cd]] w fun x w' => x = .returned (.bool true) ∧ Below w.heap.size w w' := by
  have T0 := R3.new w an ad bn bd cn cd G
  have ⟨f00, f01, f02, f03, f04, f05, f06⟩ := T0.cells
  go_enter Tryz.func3, Tryz.ntmps3
  go_wp2_with (first
    | (go_at_call 7; refine (works_any _ T0.gw).mono ?_; rintro x w1 ⟨rfl, b1⟩; (have T1 := T0.grow b1); (have ⟨f10, f11, f12, f13, f14, f15, f16⟩ := T1.cells))
    | (go_at_call 8; (have q := T1); refine (Ha _).mono ?_; rintro x w2 ⟨rfl, b2⟩; (have T2 := T1.grow b2); (have ⟨f20, f21, f22, f23, f24, f25, f26⟩ := T2.cells); clear q T1)
    | (go_at_call 8; (have q := T2); refine (Hb _).mono ?_; rintro x w3 ⟨rfl, b3⟩; (have T3 := T2.grow b3); (have ⟨f30, f31, f32, f33, f34, f35, f36⟩ := T3.cells); clear q T2)
    | fail)
  go_ret
  exact ⟨rfl, T3.bel⟩
set_option maxHeartbeats 3200000 in
set_option maxRecDepth 100000 in
theorem field_not2 (an ad bn bd cn cd : ByteArray) (w : World) (G : Gw w) (Ha : ∀ W, Calls Tryz.prog 8 #[.agg #[.string an, .string ad]] W fun x w' => x = .returned (.bool true) ∧ Below W.heap.size W w') (Hb : ∀ W, Calls Tryz.prog 8 #[.agg #[.string bn, .string bd]] W fun x w' => x = .returned (.bool true) ∧ Below W.heap.size W w') (Hc : ∀ W, Calls Tryz.prog 8 #[.agg #[.string cn, .string cd]] W fun x w' => x = .returned (.bool false) ∧ Below W.heap.size W w') :
    Calls Tryz.prog 3 #[.agg #[.string an, .string ad], .agg #[.string bn, .string bd], .agg #[.string cn, .string cd]] w fun x w' => x = .returned (.bool true) ∧ Below w.heap.size w w' := by
  have T0 := R3.new w an ad bn bd cn cd G
  have ⟨f00, f01, f02, f03, f04, f05, f06⟩ := T0.cells
  go_enter Tryz.func3, Tryz.ntmps3
  go_wp2_with (first
    | (go_at_call 7; refine (works_any _ T0.gw).mono ?_; rintro x w1 ⟨rfl, b1⟩; (have T1 := T0.grow b1); (have ⟨f10, f11, f12, f13, f14, f15, f16⟩ := T1.cells))
    | (go_at_call 8; (have q := T1); refine (Ha _).mono ?_; rintro x w2 ⟨rfl, b2⟩; (have T2 := T1.grow b2); (have ⟨f20, f21, f22, f23, f24, f25, f26⟩ := T2.cells); clear q T1)
    | (go_at_call 8; (have q := T2); refine (Hb _).mono ?_; rintro x w3 ⟨rfl, b3⟩; (have T3 := T2.grow b3); (have ⟨f30, f31, f32, f33, f34, f35, f36⟩ := T3.cells); clear q T2)
    | (go_at_call 8; (have q := T3); refine (Hc _).mono ?_; rintro x w4 ⟨rfl, b4⟩; (have T4 := T3.grow b4); (have ⟨f40, f41, f42, f43, f44, f45, f46⟩ := T4.cells); clear q T3)
    | fail)
  go_ret
  exact ⟨rfl, T4.bel⟩
theorem field_law (an ad bn bd cn cd : ByteArray) (w : World) (G : Gw w) :
    Calls Tryz.prog 3 #[.agg #[.string an, .string ad], .agg #[.string bn, .string bd], .agg #[.string cn, .string cd]] w fun x w' => x = .returned (.bool true) ∧ Below w.heap.size w w' := by
  have Ha := small_any an ad
  have Hb := small_any bn bd
  have Hc := small_any cn cd
  by_cases g1 : an.size ≤ 300 ∧ ad.size ≤ 300 ∧ goodE an ad = 0
  · rw [decide_eq_true g1] at Ha
    by_cases g2 : bn.size ≤ 300 ∧ bd.size ≤ 300 ∧ goodE bn bd = 0
    · rw [decide_eq_true g2] at Hb
      by_cases g3 : cn.size ≤ 300 ∧ cd.size ≤ 300 ∧ goodE cn cd = 0
      · obtain ⟨r, a1, a2, p1⟩ := small_r g1
        obtain ⟨s, b1, b2, p2⟩ := small_r g2
        obtain ⟨t, c1, c2, p3⟩ := small_r g3
        have := field_right r s t an ad bn bd cn cd g1 g2 g3 a1 a2 b1 b2 c1 c2 p1 p2 p3 w G
        rw [wrt_eq, wrt_eq, wrt_eq, ← a1, ← a2, ← b1, ← b2, ← c1, ← c2] at this
        exact this
      · rw [decide_eq_false g3] at Hc
        exact field_not2 an ad bn bd cn cd w G Ha Hb Hc
    · rw [decide_eq_false g2] at Hb
      exact field_not1 an ad bn bd cn cd w G Ha Hb
  · rw [decide_eq_false g1] at Ha
    exact field_not0 an ad bn bd cn cd w G Ha
end Go.Proofs.YtgfjjlopfoenkaaGreatDoor.Mo

namespace Go.Proofs.YtgfjjlopfoenkaaGreatDoor.Dy
open Mo
theorem gPow : Tryz.prog.globalNamed "internal/strconv.uint64pow10" = some 2 := by kernel_rfl
theorem gw_of {w : World} (h : Go.Lib.TabIs Tryz.prog w "internal/strconv.uint64pow10" .u64 Go.Lib.pow10Tab) : Gw w := fun _ b => Go.Joins.var_stays gPow h b (Nat.le_refl _)
end Go.Proofs.YtgfjjlopfoenkaaGreatDoor.Dy
