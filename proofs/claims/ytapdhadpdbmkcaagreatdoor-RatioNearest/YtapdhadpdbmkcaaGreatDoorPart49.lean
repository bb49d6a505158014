import Derived.Test.YtapdhadpdbmkcaaGreatDoorPart06
import Derived.Test.YtapdhadpdbmkcaaGreatDoorPart48

namespace Go.Proofs.YtapdhadpdbmkcaaGreatDoor.Mo
open Go.RowKit Fu Tn Go.Lib Dc

/-- An exact number in its box. -/
structure R1 (w W : World) (an ad : ByteArray) : Prop where
 k0 : Blk W w.heap.size #[.string an, .string ad] 23
 gw : Gw W
 bel : Below w.heap.size w W
theorem R1.grow {w W W' : World} {an ad : ByteArray} (h : R1 w W an ad) (b : Below W.heap.size W W') : R1 w W' an ad := ⟨h.k0.below b h.k0.lt, h.gw.grow b, bel' h.bel b⟩
theorem R1.cells {w W : World} {an ad : ByteArray} (h : R1 w W an ad) : W.cell? ⟨w.heap.size, 0, none⟩ = some (.string an) ∧ W.cell? ⟨w.heap.size, 1, none⟩ = some (.string ad) ∧ w.heap.size < W.heap.size := rcells h.k0
theorem R1.new (w : World) (an ad : ByteArray) (H : Gw w) : R1 w (w.alloc (.cells #[.string an, .string ad] 23)) an ad := ⟨Blk.new w _ _, H.alloc _, (Below.refl _ _).alloc (Nat.le_refl _) _⟩
theorem R1.wr {w W : World} {an ad : ByteArray} (h : R1 w W an ad) (n : Nat) (hn : w.heap.size < n) (u v : Value) (H : Gw w) : R1 w ((W.setCell ⟨n, 0, none⟩ u).setCell ⟨n, 1, none⟩ v) an ad :=
 ⟨h.k0.wr (((Wr.refl n 0 2 W).setCell 0 (by omega) u).setCell 1 (by omega) v) (by omega), H.grow ((h.bel.setCell (p := ⟨n, 0, none⟩) (by show w.heap.size ≤ n; omega) _).setCell (p := ⟨n, 1, none⟩) (by show w.heap.size ≤ n; omega) _), (h.bel.setCell (p := ⟨n, 0, none⟩) (by show w.heap.size ≤ n; omega) _).setCell (p := ⟨n, 1, none⟩) (by show w.heap.size ≤ n; omega) _⟩
set_option maxHeartbeats 12800000 in
set_option maxRecDepth 100000 in
theorem near_pp (an ad x1 x2 c1 c2 f1 f2 o1 o2 y1 : ByteArray) (n d mm mo p q u v t z : Int) (w : World) (H : Gw w)
  (HW : ∀ W, Gw W → Calls Tryz.prog 4 #[] W fun x w' => x = .returned (.bool true) ∧ Below W.heap.size W w')
  (HA : ∀ W, Gw W → Calls Tryz.prog 5 #[.agg #[.string an, .string ad]] W fun x w' => x = .returned (.bool true) ∧ Below W.heap.size W w')
  (C3 : ∀ W, Gw W → Calls Tryz.prog 6 #[.agg #[.string an, .string ad], .int .i64 (1 + t)] W fun x w' => x = .returned (.tuple #[.agg #[.string x1, .string x2], .int .i64 0]) ∧ Below W.heap.size W w')
  (C4 : ∀ W, Gw W → Calls Tryz.prog 7 #[.int .i64 p, .int .i64 (1 + z)] W fun x w' => x = .returned (.tuple #[.agg #[.string c1, .string c2], .int .i64 0]) ∧ Below W.heap.size W w')
  (C5 : ∀ W, Gw W → Calls Tryz.prog 8 #[.agg #[.string x1, .string x2], .agg #[.string an, .string ad]] W fun x w' => x = .returned (.tuple #[.agg #[.string f1, .string f2], .int .i64 0]) ∧ Below W.heap.size W w')
  (C6 : ∀ W, Gw W → Calls Tryz.prog 8 #[.agg #[.string c1, .string c2], .agg #[.string an, .string ad]] W fun x w' => x = .returned (.tuple #[.agg #[.string o1, .string o2], .int .i64 0]) ∧ Below W.heap.size W w')
  (CN : ∀ W, Gw W → Calls Tryz.prog 10 #[.agg #[.string f1, .string f2], .agg #[.string o1, .string o2]] W fun x w' => x = .returned (.tuple #[.int .i64 n, .int .i64 0]) ∧ Below W.heap.size W w')
  (CD : ∀ W, Gw W → Calls Tryz.prog 10 #[.agg #[.string x2, .string ⟨#[49]⟩], .agg #[.string c2, .string ⟨#[49]⟩]] W fun x w' => x = .returned (.tuple #[.int .i64 d, .int .i64 0]) ∧ Below W.heap.size W w')
  (CW : ∀ W, Gw W → Calls Tryz.prog 11 #[.int .i64 (1 + t)] W fun x w' => x = .returned (.agg #[.string y1, .string ⟨#[49]⟩]) ∧ Below W.heap.size W w')
  (CM : ∀ W, Gw W → Calls Tryz.prog 10 #[.agg #[.string x2, .string ⟨#[49]⟩], .agg #[.string y1, .string ⟨#[49]⟩]] W fun x w' => x = .returned (.tuple #[.int .i64 mm, .int .i64 0]) ∧ Below W.heap.size W w')
  (e1 : IntKind.u64.wrap mo = u) (e2 : IntKind.u64.wrap q = v) (u0 : 0 ≤ u) (v0 : 0 ≤ v) (e3 : u % 200 = t) (e4 : v % (1 + t) = z) (_t0 : 0 ≤ t) (_t1 : t ≤ 199) (z0 : 0 ≤ z) (z1 : z ≤ 199)
  (fe : f1.toList.isEmpty = false) (oe : o1.toList.isEmpty = false) (fl : 0 < f1.size) (ol : 0 < o1.size) (fc : (((f1[0].toNat : Int)) == 45) = false) (oc : (((o1[0].toNat : Int)) == 45) = false)
  (ml : mm ≤ 0) (last : Hid (n < 0 ∨ n = 0 ∧ d ≤ 0)) :
  Calls Tryz.prog 3 #[.agg #[.string an, .string ad], .int .i64 mo, .int .i64 p, .int .i64 q] w fun x w' => x = .returned (.bool true) ∧ Below w.heap.size w w' := by
 have T0 := R1.new w an ad H
 have ⟨f00, f01, f02⟩ := T0.cells
 go_enter Tryz.func3, Tryz.ntmps3
 go_wp2_with (first
  | (go_at_call 4; refine (HW _ T0.gw).mono ?_; rintro x w1 ⟨rfl, b1⟩; have T1 := T0.grow b1; have ⟨f10, f11, f12⟩ := T1.cells; clear T0 f00 f01 f02 HW)
  | (go_at_call 5; refine (HA _ T1.gw).mono ?_; rintro x w2 ⟨rfl, b2⟩; have T2 := T1.grow b2; have ⟨f20, f21, f22⟩ := T2.cells; clear T1 f10 f11 f12 HA)
  | (go_at_call 6; (have q := T2); refine (C3 _ T2.gw).mono ?_; rintro x w3 ⟨rfl, b3⟩; have a3 := (b3.trans ((Below.refl _ _).alloc b3.size (.cells #[.string x1, .string x2] 23))); have T3 := T2.grow a3; have ⟨f30, f31, f32⟩ := T3.cells; have X3x := Blk.new w3 #[.string x1, .string x2] 23; have ⟨g3x0, g3x1, g3xl⟩ := rcells X3x; have sx : w.heap.size < w3.heap.size := Nat.lt_of_lt_of_le T2.k0.lt b3.size; clear q T2 f20 f21 f22 C3)
  | (go_at_call 7; (have q := T3); refine (C4 _ T3.gw).mono ?_; rintro x w4 ⟨rfl, b4⟩; have a4 := (b4.trans ((Below.refl _ _).alloc b4.size (.cells #[.string c1, .string c2] 23))); have T4 := T3.grow a4; have ⟨f40, f41, f42⟩ := T4.cells; have X4x := X3x.below a4 X3x.lt; have ⟨g4x0, g4x1, g4xl⟩ := rcells X4x; have X4c := Blk.new w4 #[.string c1, .string c2] 23; have ⟨g4c0, g4c1, g4cl⟩ := rcells X4c; have sc : w.heap.size < w4.heap.size := Nat.lt_of_lt_of_le T3.k0.lt b4.size; have ncx := Nat.lt_of_lt_of_le X3x.lt b4.size; clear q T3 f30 f31 f32 C4 X3x g3x0 g3x1 g3xl)
  | (go_at_call 8; (have q := T4); refine (C5 _ T4.gw).mono ?_; rintro x w5 ⟨rfl, b5⟩; have a5 := (b5.trans ((Below.refl _ _).alloc b5.size (.cells #[.string f1, .string f2] 23))); have T5 := T4.grow a5; have ⟨f50, f51, f52⟩ := T5.cells; have X5x := X4x.below a5 X4x.lt; have ⟨g5x0, g5x1, g5xl⟩ := rcells X5x; have X5c := X4c.below a5 X4c.lt; have ⟨g5c0, g5c1, g5cl⟩ := rcells X5c; have X5f := Blk.new w5 #[.string f1, .string f2] 23; have ⟨g5f0, g5f1, g5fl⟩ := rcells X5f; have sf : w.heap.size < w5.heap.size := Nat.lt_of_lt_of_le T4.k0.lt b5.size; have nfx := Nat.lt_of_lt_of_le X4x.lt b5.size; have nfc := Nat.lt_of_lt_of_le X4c.lt b5.size; clear q T4 f40 f41 f42 C5 X4x g4x0 g4x1 g4xl X4c g4c0 g4c1 g4cl)
  | (go_at_call 8; (have q := T5); refine (C6 _ T5.gw).mono ?_; rintro x w6 ⟨rfl, b6⟩; have a6 := (b6.trans ((Below.refl _ _).alloc b6.size (.cells #[.string o1, .string o2] 23))); have T6 := T5.grow a6; have ⟨f60, f61, f62⟩ := T6.cells; have X6x := X5x.below a6 X5x.lt; have ⟨g6x0, g6x1, g6xl⟩ := rcells X6x; have X6c := X5c.below a6 X5c.lt; have ⟨g6c0, g6c1, g6cl⟩ := rcells X6c; have X6f := X5f.below a6 X5f.lt; have ⟨g6f0, g6f1, g6fl⟩ := rcells X6f; have X6o := Blk.new w6 #[.string o1, .string o2] 23; have ⟨g6o0, g6o1, g6ol⟩ := rcells X6o; have so : w.heap.size < w6.heap.size := Nat.lt_of_lt_of_le T5.k0.lt b6.size; have nox := Nat.lt_of_lt_of_le X5x.lt b6.size; have noc := Nat.lt_of_lt_of_le X5c.lt b6.size; have nof := Nat.lt_of_lt_of_le X5f.lt b6.size; clear q T5 f50 f51 f52 C6 X5x g5x0 g5x1 g5xl X5c g5c0 g5c1 g5cl X5f g5f0 g5f1 g5fl)
  | (go_at_call 10; (have q := T6); refine (CN _ T6.gw).mono ?_; rintro x w7 ⟨rfl, b7⟩; have a7 := b7; have T7 := T6.grow a7; have ⟨f70, f71, f72⟩ := T7.cells; have X7x := X6x.below a7 X6x.lt; have ⟨g7x0, g7x1, g7xl⟩ := rcells X7x; have X7c := X6c.below a7 X6c.lt; have ⟨g7c0, g7c1, g7cl⟩ := rcells X7c; clear q T6 f60 f61 f62 CN X6x g6x0 g6x1 g6xl X6c g6c0 g6c1 g6cl X6f g6f0 g6f1 g6fl X6o g6o0 g6o1 g6ol)
  | (go_at_call 10; (have q := T7); refine (CD _ T7.gw).mono ?_; rintro x w8 ⟨rfl, b8⟩; have a8 := b8; have T8 := T7.grow a8; have ⟨f80, f81, f82⟩ := T8.cells; have X8x := X7x.below a8 X7x.lt; have ⟨g8x0, g8x1, g8xl⟩ := rcells X8x; clear q T7 f70 f71 f72 CD X7x g7x0 g7x1 g7xl X7c g7c0 g7c1 g7cl)
  | fail)
 go_region_held3 (fun x => x.cell? ⟨w3.heap.size, 0, none⟩ = some (.string x1) ∧ x.cell? ⟨w3.heap.size, 1, none⟩ = some (.string x2)) (go_keep) (first
  | (go_at_call 11; refine (CW _ (T8.gw.grow (Below.refl _ _).drew)).mono ?_; rintro x wA ⟨rfl, bA⟩; have bA := undrew bA; have TA := T8.grow bA; have ⟨p0, p1, p2⟩ := rcells (X8x.below bA X8x.lt))
  | (go_at_call 10; refine (CM _ TA.gw).mono ?_; rintro x wB ⟨rfl, bB⟩; have TB := TA.grow bB; have ⟨p3, p4, p5⟩ := rcells (X8x.below (bel' bA bB) X8x.lt))
  | fail)
 go_wp2
 all_goals first
  | (go_ret; exact ⟨rfl, TB.bel⟩)
  | (exfalso; have := last.out; omega)
  | (have hd : d ≤ 0 := (by have := last.out; omega); go_ret; exact ⟨congrArg (fun b => Ending.returned (Value.bool b)) (decide_eq_true hd), TB.bel⟩)
end Go.Proofs.YtapdhadpdbmkcaaGreatDoor.Mo

namespace Go.Proofs.YtapdhadpdbmkcaaGreatDoor.Mo
open Go.RowKit Fu Tn Go.Lib Dc

set_option maxHeartbeats 12800000 in
set_option maxRecDepth 100000 in
theorem near_np (an ad x1 x2 c1 c2 f1 f2 o1 o2 y1 g1 g2 : ByteArray) (n d mm mo p q u v t z : Int) (w : World) (H : Gw w)
  (HW : ∀ W, Gw W → Calls Tryz.prog 4 #[] W fun x w' => x = .returned (.bool true) ∧ Below W.heap.size W w')
  (HA : ∀ W, Gw W → Calls Tryz.prog 5 #[.agg #[.string an, .string ad]] W fun x w' => x = .returned (.bool true) ∧ Below W.heap.size W w')
  (C3 : ∀ W, Gw W → Calls Tryz.prog 6 #[.agg #[.string an, .string ad], .int .i64 (1 + t)] W fun x w' => x = .returned (.tuple #[.agg #[.string x1, .string x2], .int .i64 0]) ∧ Below W.heap.size W w')
  (C4 : ∀ W, Gw W → Calls Tryz.prog 7 #[.int .i64 p, .int .i64 (1 + z)] W fun x w' => x = .returned (.tuple #[.agg #[.string c1, .string c2], .int .i64 0]) ∧ Below W.heap.size W w')
  (C5 : ∀ W, Gw W → Calls Tryz.prog 8 #[.agg #[.string x1, .string x2], .agg #[.string an, .string ad]] W fun x w' => x = .returned (.tuple #[.agg #[.string f1, .string f2], .int .i64 0]) ∧ Below W.heap.size W w')
  (C6 : ∀ W, Gw W → Calls Tryz.prog 8 #[.agg #[.string c1, .string c2], .agg #[.string an, .string ad]] W fun x w' => x = .returned (.tuple #[.agg #[.string o1, .string o2], .int .i64 0]) ∧ Below W.heap.size W w')
  (N5 : ∀ W, Gw W → Calls Tryz.prog 9 #[.agg #[.string f1, .string f2]] W fun x w' => x = .returned (.tuple #[.agg #[.string g1, .string g2], .int .i64 0]) ∧ Below W.heap.size W w')
  (CN : ∀ W, Gw W → Calls Tryz.prog 10 #[.agg #[.string g1, .string g2], .agg #[.string o1, .string o2]] W fun x w' => x = .returned (.tuple #[.int .i64 n, .int .i64 0]) ∧ Below W.heap.size W w')
  (CD : ∀ W, Gw W → Calls Tryz.prog 10 #[.agg #[.string x2, .string ⟨#[49]⟩], .agg #[.string c2, .string ⟨#[49]⟩]] W fun x w' => x = .returned (.tuple #[.int .i64 d, .int .i64 0]) ∧ Below W.heap.size W w')
  (CW : ∀ W, Gw W → Calls Tryz.prog 11 #[.int .i64 (1 + t)] W fun x w' => x = .returned (.agg #[.string y1, .string ⟨#[49]⟩]) ∧ Below W.heap.size W w')
  (CM : ∀ W, Gw W → Calls Tryz.prog 10 #[.agg #[.string x2, .string ⟨#[49]⟩], .agg #[.string y1, .string ⟨#[49]⟩]] W fun x w' => x = .returned (.tuple #[.int .i64 mm, .int .i64 0]) ∧ Below W.heap.size W w')
  (e1 : IntKind.u64.wrap mo = u) (e2 : IntKind.u64.wrap q = v) (u0 : 0 ≤ u) (v0 : 0 ≤ v) (e3 : u % 200 = t) (e4 : v % (1 + t) = z) (_t0 : 0 ≤ t) (_t1 : t ≤ 199) (z0 : 0 ≤ z) (z1 : z ≤ 199)
  (fe : f1.toList.isEmpty = false) (oe : o1.toList.isEmpty = false) (fl : 0 < f1.size) (ol : 0 < o1.size) (fc : (((f1[0].toNat : Int)) == 45) = true) (oc : (((o1[0].toNat : Int)) == 45) = false)
  (ml : mm ≤ 0) (last : Hid (n < 0 ∨ n = 0 ∧ d ≤ 0)) :
  Calls Tryz.prog 3 #[.agg #[.string an, .string ad], .int .i64 mo, .int .i64 p, .int .i64 q] w fun x w' => x = .returned (.bool true) ∧ Below w.heap.size w w' := by
 have T0 := R1.new w an ad H
 have ⟨f00, f01, f02⟩ := T0.cells
 go_enter Tryz.func3, Tryz.ntmps3
 go_wp2_with (first
  | (go_at_call 4; refine (HW _ T0.gw).mono ?_; rintro x w1 ⟨rfl, b1⟩; have T1 := T0.grow b1; have ⟨f10, f11, f12⟩ := T1.cells; clear T0 f00 f01 f02 HW)
  | (go_at_call 5; refine (HA _ T1.gw).mono ?_; rintro x w2 ⟨rfl, b2⟩; have T2 := T1.grow b2; have ⟨f20, f21, f22⟩ := T2.cells; clear T1 f10 f11 f12 HA)
  | (go_at_call 6; (have q := T2); refine (C3 _ T2.gw).mono ?_; rintro x w3 ⟨rfl, b3⟩; have a3 := (b3.trans ((Below.refl _ _).alloc b3.size (.cells #[.string x1, .string x2] 23))); have T3 := T2.grow a3; have ⟨f30, f31, f32⟩ := T3.cells; have X3x := Blk.new w3 #[.string x1, .string x2] 23; have ⟨g3x0, g3x1, g3xl⟩ := rcells X3x; have sx : w.heap.size < w3.heap.size := Nat.lt_of_lt_of_le T2.k0.lt b3.size; clear q T2 f20 f21 f22 C3)
  | (go_at_call 7; (have q := T3); refine (C4 _ T3.gw).mono ?_; rintro x w4 ⟨rfl, b4⟩; have a4 := (b4.trans ((Below.refl _ _).alloc b4.size (.cells #[.string c1, .string c2] 23))); have T4 := T3.grow a4; have ⟨f40, f41, f42⟩ := T4.cells; have X4x := X3x.below a4 X3x.lt; have ⟨g4x0, g4x1, g4xl⟩ := rcells X4x; have X4c := Blk.new w4 #[.string c1, .string c2] 23; have ⟨g4c0, g4c1, g4cl⟩ := rcells X4c; have sc : w.heap.size < w4.heap.size := Nat.lt_of_lt_of_le T3.k0.lt b4.size; have ncx := Nat.lt_of_lt_of_le X3x.lt b4.size; clear q T3 f30 f31 f32 C4 X3x g3x0 g3x1 g3xl)
  | (go_at_call 8; (have q := T4); refine (C5 _ T4.gw).mono ?_; rintro x w5 ⟨rfl, b5⟩; have a5 := (b5.trans ((Below.refl _ _).alloc b5.size (.cells #[.string f1, .string f2] 23))); have T5 := T4.grow a5; have ⟨f50, f51, f52⟩ := T5.cells; have X5x := X4x.below a5 X4x.lt; have ⟨g5x0, g5x1, g5xl⟩ := rcells X5x; have X5c := X4c.below a5 X4c.lt; have ⟨g5c0, g5c1, g5cl⟩ := rcells X5c; have X5f := Blk.new w5 #[.string f1, .string f2] 23; have ⟨g5f0, g5f1, g5fl⟩ := rcells X5f; have sf : w.heap.size < w5.heap.size := Nat.lt_of_lt_of_le T4.k0.lt b5.size; have nfx := Nat.lt_of_lt_of_le X4x.lt b5.size; have nfc := Nat.lt_of_lt_of_le X4c.lt b5.size; clear q T4 f40 f41 f42 C5 X4x g4x0 g4x1 g4xl X4c g4c0 g4c1 g4cl)
  | (go_at_call 8; (have q := T5); refine (C6 _ T5.gw).mono ?_; rintro x w6 ⟨rfl, b6⟩; have a6 := (b6.trans ((Below.refl _ _).alloc b6.size (.cells #[.string o1, .string o2] 23))); have T6 := T5.grow a6; have ⟨f60, f61, f62⟩ := T6.cells; have X6x := X5x.below a6 X5x.lt; have ⟨g6x0, g6x1, g6xl⟩ := rcells X6x; have X6c := X5c.below a6 X5c.lt; have ⟨g6c0, g6c1, g6cl⟩ := rcells X6c; have X6f := X5f.below a6 X5f.lt; have ⟨g6f0, g6f1, g6fl⟩ := rcells X6f; have X6o := Blk.new w6 #[.string o1, .string o2] 23; have ⟨g6o0, g6o1, g6ol⟩ := rcells X6o; have so : w.heap.size < w6.heap.size := Nat.lt_of_lt_of_le T5.k0.lt b6.size; have nox := Nat.lt_of_lt_of_le X5x.lt b6.size; have noc := Nat.lt_of_lt_of_le X5c.lt b6.size; have nof := Nat.lt_of_lt_of_le X5f.lt b6.size; clear q T5 f50 f51 f52 C6 X5x g5x0 g5x1 g5xl X5c g5c0 g5c1 g5cl X5f g5f0 g5f1 g5fl)
  | (go_at_call 9; (have q := T6); go_must (refine (N5 _ T6.gw).mono ?_; rintro x w7 ⟨rfl, b7⟩; have T7 := (T6.grow b7).wr w5.heap.size sf (.string g1) (.string g2) H; have ⟨f70, f71, f72⟩ := T7.cells; have Yf := X6f.below b7 X6f.lt; have ⟨yf0, yf1, yfl⟩ := rcells Yf; have yf2 := Yf.free 0; have yf3 := Yf.free 1; have X7x := (X6x.below b7 X6x.lt).wr (((Wr.refl w5.heap.size 0 2 w7).setCell 0 (by omega) (.string g1)).setCell 1 (by omega) (.string g2)) (Nat.ne_of_lt nfx); have ⟨g7x0, g7x1, g7xl⟩ := rcells X7x; have X7c := (X6c.below b7 X6c.lt).wr (((Wr.refl w5.heap.size 0 2 w7).setCell 0 (by omega) (.string g1)).setCell 1 (by omega) (.string g2)) (Nat.ne_of_lt nfc); have ⟨g7c0, g7c1, g7cl⟩ := rcells X7c; have X7f : Blk ((w7.setCell ⟨w5.heap.size, 0, none⟩ (.string g1)).setCell ⟨w5.heap.size, 1, none⟩ (.string g2)) w5.heap.size #[.string g1, .string g2] 23 := bput (bput Yf 0 _) 1 _; have ⟨g7f0, g7f1, g7fl⟩ := rcells X7f; have X7o := (X6o.below b7 X6o.lt).wr (((Wr.refl w5.heap.size 0 2 w7).setCell 0 (by omega) (.string g1)).setCell 1 (by omega) (.string g2)) (Nat.ne_of_gt nof); have ⟨g7o0, g7o1, g7ol⟩ := rcells X7o; clear q T6 f60 f61 f62 N5 X6x g6x0 g6x1 g6xl X6c g6c0 g6c1 g6cl X6f g6f0 g6f1 g6fl X6o g6o0 g6o1 g6ol))
  | (go_at_call 10; (have q := T7); refine (CN _ T7.gw).mono ?_; rintro x w8 ⟨rfl, b8⟩; have a8 := b8; have T8 := T7.grow a8; have ⟨f80, f81, f82⟩ := T8.cells; have X8x := X7x.below a8 X7x.lt; have ⟨g8x0, g8x1, g8xl⟩ := rcells X8x; have X8c := X7c.below a8 X7c.lt; have ⟨g8c0, g8c1, g8cl⟩ := rcells X8c; clear q T7 f70 f71 f72 CN X7x g7x0 g7x1 g7xl X7c g7c0 g7c1 g7cl X7f g7f0 g7f1 g7fl X7o g7o0 g7o1 g7ol)
  | (go_at_call 10; (have q := T8); refine (CD _ T8.gw).mono ?_; rintro x w9 ⟨rfl, b9⟩; have a9 := b9; have T9 := T8.grow a9; have ⟨f90, f91, f92⟩ := T9.cells; have X9x := X8x.below a9 X8x.lt; have ⟨g9x0, g9x1, g9xl⟩ := rcells X9x; clear q T8 f80 f81 f82 CD X8x g8x0 g8x1 g8xl X8c g8c0 g8c1 g8cl)
  | fail)
 go_region_held3 (fun x => x.cell? ⟨w3.heap.size, 0, none⟩ = some (.string x1) ∧ x.cell? ⟨w3.heap.size, 1, none⟩ = some (.string x2)) (go_keep) (first
  | (go_at_call 11; refine (CW _ (T9.gw.grow (Below.refl _ _).drew)).mono ?_; rintro x wA ⟨rfl, bA⟩; have bA := undrew bA; have TA := T9.grow bA; have ⟨p0, p1, p2⟩ := rcells (X9x.below bA X9x.lt))
  | (go_at_call 10; refine (CM _ TA.gw).mono ?_; rintro x wB ⟨rfl, bB⟩; have TB := TA.grow bB; have ⟨p3, p4, p5⟩ := rcells (X9x.below (bel' bA bB) X9x.lt))
  | fail)
 go_wp2
 all_goals first
  | (go_ret; exact ⟨rfl, TB.bel⟩)
  | (exfalso; have := last.out; omega)
  | (have hd : d ≤ 0 := (by have := last.out; omega); go_ret; exact ⟨congrArg (fun b => Ending.returned (Value.bool b)) (decide_eq_true hd), TB.bel⟩)
end Go.Proofs.YtapdhadpdbmkcaaGreatDoor.Mo

namespace Go.Proofs.YtapdhadpdbmkcaaGreatDoor.Mo
open Go.RowKit Fu Tn Go.Lib Dc

set_option maxHeartbeats 12800000 in
set_option maxRecDepth 100000 in
theorem near_pn (an ad x1 x2 c1 c2 f1 f2 o1 o2 y1 h1 h2 : ByteArray) (n d mm mo p q u v t z : Int) (w : World) (H : Gw w)
  (HW : ∀ W, Gw W → Calls Tryz.prog 4 #[] W fun x w' => x = .returned (.bool true) ∧ Below W.heap.size W w')
  (HA : ∀ W, Gw W → Calls Tryz.prog 5 #[.agg #[.string an, .string ad]] W fun x w' => x = .returned (.bool true) ∧ Below W.heap.size W w')
  (C3 : ∀ W, Gw W → Calls Tryz.prog 6 #[.agg #[.string an, .string ad], .int .i64 (1 + t)] W fun x w' => x = .returned (.tuple #[.agg #[.string x1, .string x2], .int .i64 0]) ∧ Below W.heap.size W w')
  (C4 : ∀ W, Gw W → Calls Tryz.prog 7 #[.int .i64 p, .int .i64 (1 + z)] W fun x w' => x = .returned (.tuple #[.agg #[.string c1, .string c2], .int .i64 0]) ∧ Below W.heap.size W w')
  (C5 : ∀ W, Gw W → Calls Tryz.prog 8 #[.agg #[.string x1, .string x2], .agg #[.string an, .string ad]] W fun x w' => x = .returned (.tuple #[.agg #[.string f1, .string f2], .int .i64 0]) ∧ Below W.heap.size W w')
  (C6 : ∀ W, Gw W → Calls Tryz.prog 8 #[.agg #[.string c1, .string c2], .agg #[.string an, .string ad]] W fun x w' => x = .returned (.tuple #[.agg #[.string o1, .string o2], .int .i64 0]) ∧ Below W.heap.size W w')
  (N6 : ∀ W, Gw W → Calls Tryz.prog 9 #[.agg #[.string o1, .string o2]] W fun x w' => x = .returned (.tuple #[.agg #[.string h1, .string h2], .int .i64 0]) ∧ Below W.heap.size W w')
  (CN : ∀ W, Gw W → Calls Tryz.prog 10 #[.agg #[.string f1, .string f2], .agg #[.string h1, .string h2]] W fun x w' => x = .returned (.tuple #[.int .i64 n, .int .i64 0]) ∧ Below W.heap.size W w')
  (CD : ∀ W, Gw W → Calls Tryz.prog 10 #[.agg #[.string x2, .string ⟨#[49]⟩], .agg #[.string c2, .string ⟨#[49]⟩]] W fun x w' => x = .returned (.tuple #[.int .i64 d, .int .i64 0]) ∧ Below W.heap.size W w')
  (CW : ∀ W, Gw W → Calls Tryz.prog 11 #[.int .i64 (1 + t)] W fun x w' => x = .returned (.agg #[.string y1, .string ⟨#[49]⟩]) ∧ Below W.heap.size W w')
  (CM : ∀ W, Gw W → Calls Tryz.prog 10 #[.agg #[.string x2, .string ⟨#[49]⟩], .agg #[.string y1, .string ⟨#[49]⟩]] W fun x w' => x = .returned (.tuple #[.int .i64 mm, .int .i64 0]) ∧ Below W.heap.size W w')
  (e1 : IntKind.u64.wrap mo = u) (e2 : IntKind.u64.wrap q = v) (u0 : 0 ≤ u) (v0 : 0 ≤ v) (e3 : u % 200 = t) (e4 : v % (1 + t) = z) (_t0 : 0 ≤ t) (_t1 : t ≤ 199) (z0 : 0 ≤ z) (z1 : z ≤ 199)
  (fe : f1.toList.isEmpty = false) (oe : o1.toList.isEmpty = false) (fl : 0 < f1.size) (ol : 0 < o1.size) (fc : (((f1[0].toNat : Int)) == 45) = false) (oc : (((o1[0].toNat : Int)) == 45) = true)
  (ml : mm ≤ 0) (last : Hid (n < 0 ∨ n = 0 ∧ d ≤ 0)) :
  Calls Tryz.prog 3 #[.agg #[.string an, .string ad], .int .i64 mo, .int .i64 p, .int .i64 q] w fun x w' => x = .returned (.bool true) ∧ Below w.heap.size w w' := by
 have T0 := R1.new w an ad H
 have ⟨f00, f01, f02⟩ := T0.cells
 go_enter Tryz.func3, Tryz.ntmps3
 go_wp2_with (first
  | (go_at_call 4; refine (HW _ T0.gw).mono ?_; rintro x w1 ⟨rfl, b1⟩; have T1 := T0.grow b1; have ⟨f10, f11, f12⟩ := T1.cells; clear T0 f00 f01 f02 HW)
  | (go_at_call 5; refine (HA _ T1.gw).mono ?_; rintro x w2 ⟨rfl, b2⟩; have T2 := T1.grow b2; have ⟨f20, f21, f22⟩ := T2.cells; clear T1 f10 f11 f12 HA)
  | (go_at_call 6; (have q := T2); refine (C3 _ T2.gw).mono ?_; rintro x w3 ⟨rfl, b3⟩; have a3 := (b3.trans ((Below.refl _ _).alloc b3.size (.cells #[.string x1, .string x2] 23))); have T3 := T2.grow a3; have ⟨f30, f31, f32⟩ := T3.cells; have X3x := Blk.new w3 #[.string x1, .string x2] 23; have ⟨g3x0, g3x1, g3xl⟩ := rcells X3x; have sx : w.heap.size < w3.heap.size := Nat.lt_of_lt_of_le T2.k0.lt b3.size; clear q T2 f20 f21 f22 C3)
  | (go_at_call 7; (have q := T3); refine (C4 _ T3.gw).mono ?_; rintro x w4 ⟨rfl, b4⟩; have a4 := (b4.trans ((Below.refl _ _).alloc b4.size (.cells #[.string c1, .string c2] 23))); have T4 := T3.grow a4; have ⟨f40, f41, f42⟩ := T4.cells; have X4x := X3x.below a4 X3x.lt; have ⟨g4x0, g4x1, g4xl⟩ := rcells X4x; have X4c := Blk.new w4 #[.string c1, .string c2] 23; have ⟨g4c0, g4c1, g4cl⟩ := rcells X4c; have sc : w.heap.size < w4.heap.size := Nat.lt_of_lt_of_le T3.k0.lt b4.size; have ncx := Nat.lt_of_lt_of_le X3x.lt b4.size; clear q T3 f30 f31 f32 C4 X3x g3x0 g3x1 g3xl)
  | (go_at_call 8; (have q := T4); refine (C5 _ T4.gw).mono ?_; rintro x w5 ⟨rfl, b5⟩; have a5 := (b5.trans ((Below.refl _ _).alloc b5.size (.cells #[.string f1, .string f2] 23))); have T5 := T4.grow a5; have ⟨f50, f51, f52⟩ := T5.cells; have X5x := X4x.below a5 X4x.lt; have ⟨g5x0, g5x1, g5xl⟩ := rcells X5x; have X5c := X4c.below a5 X4c.lt; have ⟨g5c0, g5c1, g5cl⟩ := rcells X5c; have X5f := Blk.new w5 #[.string f1, .string f2] 23; have ⟨g5f0, g5f1, g5fl⟩ := rcells X5f; have sf : w.heap.size < w5.heap.size := Nat.lt_of_lt_of_le T4.k0.lt b5.size; have nfx := Nat.lt_of_lt_of_le X4x.lt b5.size; have nfc := Nat.lt_of_lt_of_le X4c.lt b5.size; clear q T4 f40 f41 f42 C5 X4x g4x0 g4x1 g4xl X4c g4c0 g4c1 g4cl)
  | (go_at_call 8; (have q := T5); refine (C6 _ T5.gw).mono ?_; rintro x w6 ⟨rfl, b6⟩; have a6 := (b6.trans ((Below.refl _ _).alloc b6.size (.cells #[.string o1, .string o2] 23))); have T6 := T5.grow a6; have ⟨f60, f61, f62⟩ := T6.cells; have X6x := X5x.below a6 X5x.lt; have ⟨g6x0, g6x1, g6xl⟩ := rcells X6x; have X6c := X5c.below a6 X5c.lt; have ⟨g6c0, g6c1, g6cl⟩ := rcells X6c; have X6f := X5f.below a6 X5f.lt; have ⟨g6f0, g6f1, g6fl⟩ := rcells X6f; have X6o := Blk.new w6 #[.string o1, .string o2] 23; have ⟨g6o0, g6o1, g6ol⟩ := rcells X6o; have so : w.heap.size < w6.heap.size := Nat.lt_of_lt_of_le T5.k0.lt b6.size; have nox := Nat.lt_of_lt_of_le X5x.lt b6.size; have noc := Nat.lt_of_lt_of_le X5c.lt b6.size; have nof := Nat.lt_of_lt_of_le X5f.lt b6.size; clear q T5 f50 f51 f52 C6 X5x g5x0 g5x1 g5xl X5c g5c0 g5c1 g5cl X5f g5f0 g5f1 g5fl)
  | (go_at_call 9; (have q := T6); go_must (refine (N6 _ T6.gw).mono ?_; rintro x w7 ⟨rfl, b7⟩; have T7 := (T6.grow b7).wr w6.heap.size so (.string h1) (.string h2) H; have ⟨f70, f71, f72⟩ := T7.cells; have Yo := X6o.below b7 X6o.lt; have ⟨yo0, yo1, yol⟩ := rcells Yo; have yo2 := Yo.free 0; have yo3 := Yo.free 1; have X7x := (X6x.below b7 X6x.lt).wr (((Wr.refl w6.heap.size 0 2 w7).setCell 0 (by omega) (.string h1)).setCell 1 (by omega) (.string h2)) (Nat.ne_of_lt nox); have ⟨g7x0, g7x1, g7xl⟩ := rcells X7x; have X7c := (X6c.below b7 X6c.lt).wr (((Wr.refl w6.heap.size 0 2 w7).setCell 0 (by omega) (.string h1)).setCell 1 (by omega) (.string h2)) (Nat.ne_of_lt noc); have ⟨g7c0, g7c1, g7cl⟩ := rcells X7c; have X7f := (X6f.below b7 X6f.lt).wr (((Wr.refl w6.heap.size 0 2 w7).setCell 0 (by omega) (.string h1)).setCell 1 (by omega) (.string h2)) (Nat.ne_of_lt nof); have ⟨g7f0, g7f1, g7fl⟩ := rcells X7f; have X7o : Blk ((w7.setCell ⟨w6.heap.size, 0, none⟩ (.string h1)).setCell ⟨w6.heap.size, 1, none⟩ (.string h2)) w6.heap.size #[.string h1, .string h2] 23 := bput (bput Yo 0 _) 1 _; have ⟨g7o0, g7o1, g7ol⟩ := rcells X7o; clear q T6 f60 f61 f62 N6 X6x g6x0 g6x1 g6xl X6c g6c0 g6c1 g6cl X6f g6f0 g6f1 g6fl X6o g6o0 g6o1 g6ol))
  | (go_at_call 10; (have q := T7); refine (CN _ T7.gw).mono ?_; rintro x w8 ⟨rfl, b8⟩; have a8 := b8; have T8 := T7.grow a8; have ⟨f80, f81, f82⟩ := T8.cells; have X8x := X7x.below a8 X7x.lt; have ⟨g8x0, g8x1, g8xl⟩ := rcells X8x; have X8c := X7c.below a8 X7c.lt; have ⟨g8c0, g8c1, g8cl⟩ := rcells X8c; clear q T7 f70 f71 f72 CN X7x g7x0 g7x1 g7xl X7c g7c0 g7c1 g7cl X7f g7f0 g7f1 g7fl X7o g7o0 g7o1 g7ol)
  | (go_at_call 10; (have q := T8); refine (CD _ T8.gw).mono ?_; rintro x w9 ⟨rfl, b9⟩; have a9 := b9; have T9 := T8.grow a9; have ⟨f90, f91, f92⟩ := T9.cells; have X9x := X8x.below a9 X8x.lt; have ⟨g9x0, g9x1, g9xl⟩ := rcells X9x; clear q T8 f80 f81 f82 CD X8x g8x0 g8x1 g8xl X8c g8c0 g8c1 g8cl)
  | fail)
 go_region_held3 (fun x => x.cell? ⟨w3.heap.size, 0, none⟩ = some (.string x1) ∧ x.cell? ⟨w3.heap.size, 1, none⟩ = some (.string x2)) (go_keep) (first
  | (go_at_call 11; refine (CW _ (T9.gw.grow (Below.refl _ _).drew)).mono ?_; rintro x wA ⟨rfl, bA⟩; have bA := undrew bA; have TA := T9.grow bA; have ⟨p0, p1, p2⟩ := rcells (X9x.below bA X9x.lt))
  | (go_at_call 10; refine (CM _ TA.gw).mono ?_; rintro x wB ⟨rfl, bB⟩; have TB := TA.grow bB; have ⟨p3, p4, p5⟩ := rcells (X9x.below (bel' bA bB) X9x.lt))
  | fail)
 go_wp2
 all_goals first
  | (go_ret; exact ⟨rfl, TB.bel⟩)
  | (exfalso; have := last.out; omega)
  | (have hd : d ≤ 0 := (by have := last.out; omega); go_ret; exact ⟨congrArg (fun b => Ending.returned (Value.bool b)) (decide_eq_true hd), TB.bel⟩)
end Go.Proofs.YtapdhadpdbmkcaaGreatDoor.Mo

namespace Go.Proofs.YtapdhadpdbmkcaaGreatDoor.Mo
open Go.RowKit Fu Tn Go.Lib Dc

set_option maxHeartbeats 12800000 in
set_option maxRecDepth 100000 in
theorem near_nn (an ad x1 x2 c1 c2 f1 f2 o1 o2 y1 g1 g2 h1 h2 : ByteArray) (n d mm mo p q u v t z : Int) (w : World) (H : Gw w)
  (HW : ∀ W, Gw W → Calls Tryz.prog 4 #[] W fun x w' => x = .returned (.bool true) ∧ Below W.heap.size W w')
  (HA : ∀ W, Gw W → Calls Tryz.prog 5 #[.agg #[.string an, .string ad]] W fun x w' => x = .returned (.bool true) ∧ Below W.heap.size W w')
  (C3 : ∀ W, Gw W → Calls Tryz.prog 6 #[.agg #[.string an, .string ad], .int .i64 (1 + t)] W fun x w' => x = .returned (.tuple #[.agg #[.string x1, .string x2], .int .i64 0]) ∧ Below W.heap.size W w')
  (C4 : ∀ W, Gw W → Calls Tryz.prog 7 #[.int .i64 p, .int .i64 (1 + z)] W fun x w' => x = .returned (.tuple #[.agg #[.string c1, .string c2], .int .i64 0]) ∧ Below W.heap.size W w')
  (C5 : ∀ W, Gw W → Calls Tryz.prog 8 #[.agg #[.string x1, .string x2], .agg #[.string an, .string ad]] W fun x w' => x = .returned (.tuple #[.agg #[.string f1, .string f2], .int .i64 0]) ∧ Below W.heap.size W w')
  (C6 : ∀ W, Gw W → Calls Tryz.prog 8 #[.agg #[.string c1, .string c2], .agg #[.string an, .string ad]] W fun x w' => x = .returned (.tuple #[.agg #[.string o1, .string o2], .int .i64 0]) ∧ Below W.heap.size W w')
  (N5 : ∀ W, Gw W → Calls Tryz.prog 9 #[.agg #[.string f1, .string f2]] W fun x w' => x = .returned (.tuple #[.agg #[.string g1, .string g2], .int .i64 0]) ∧ Below W.heap.size W w')
  (N6 : ∀ W, Gw W → Calls Tryz.prog 9 #[.agg #[.string o1, .string o2]] W fun x w' => x = .returned (.tuple #[.agg #[.string h1, .string h2], .int .i64 0]) ∧ Below W.heap.size W w')
  (CN : ∀ W, Gw W → Calls Tryz.prog 10 #[.agg #[.string g1, .string g2], .agg #[.string h1, .string h2]] W fun x w' => x = .returned (.tuple #[.int .i64 n, .int .i64 0]) ∧ Below W.heap.size W w')
  (CD : ∀ W, Gw W → Calls Tryz.prog 10 #[.agg #[.string x2, .string ⟨#[49]⟩], .agg #[.string c2, .string ⟨#[49]⟩]] W fun x w' => x = .returned (.tuple #[.int .i64 d, .int .i64 0]) ∧ Below W.heap.size W w')
  (CW : ∀ W, Gw W → Calls Tryz.prog 11 #[.int .i64 (1 + t)] W fun x w' => x = .returned (.agg #[.string y1, .string ⟨#[49]⟩]) ∧ Below W.heap.size W w')
  (CM : ∀ W, Gw W → Calls Tryz.prog 10 #[.agg #[.string x2, .string ⟨#[49]⟩], .agg #[.string y1, .string ⟨#[49]⟩]] W fun x w' => x = .returned (.tuple #[.int .i64 mm, .int .i64 0]) ∧ Below W.heap.size W w')
  (e1 : IntKind.u64.wrap mo = u) (e2 : IntKind.u64.wrap q = v) (u0 : 0 ≤ u) (v0 : 0 ≤ v) (e3 : u % 200 = t) (e4 : v % (1 + t) = z) (_t0 : 0 ≤ t) (_t1 : t ≤ 199) (z0 : 0 ≤ z) (z1 : z ≤ 199)
  (fe : f1.toList.isEmpty = false) (oe : o1.toList.isEmpty = false) (fl : 0 < f1.size) (ol : 0 < o1.size) (fc : (((f1[0].toNat : Int)) == 45) = true) (oc : (((o1[0].toNat : Int)) == 45) = true)
  (ml : mm ≤ 0) (last : Hid (n < 0 ∨ n = 0 ∧ d ≤ 0)) :
  Calls Tryz.prog 3 #[.agg #[.string an, .string ad], .int .i64 mo, .int .i64 p, .int .i64 q] w fun x w' => x = .returned (.bool true) ∧ Below w.heap.size w w' := by
 have T0 := R1.new w an ad H
 have ⟨f00, f01, f02⟩ := T0.cells
 go_enter Tryz.func3, Tryz.ntmps3
 go_wp2_with (first
  | (go_at_call 4; refine (HW _ T0.gw).mono ?_; rintro x w1 ⟨rfl, b1⟩; have T1 := T0.grow b1; have ⟨f10, f11, f12⟩ := T1.cells; clear T0 f00 f01 f02 HW)
  | (go_at_call 5; refine (HA _ T1.gw).mono ?_; rintro x w2 ⟨rfl, b2⟩; have T2 := T1.grow b2; have ⟨f20, f21, f22⟩ := T2.cells; clear T1 f10 f11 f12 HA)
  | (go_at_call 6; (have q := T2); refine (C3 _ T2.gw).mono ?_; rintro x w3 ⟨rfl, b3⟩; have a3 := (b3.trans ((Below.refl _ _).alloc b3.size (.cells #[.string x1, .string x2] 23))); have T3 := T2.grow a3; have ⟨f30, f31, f32⟩ := T3.cells; have X3x := Blk.new w3 #[.string x1, .string x2] 23; have ⟨g3x0, g3x1, g3xl⟩ := rcells X3x; have sx : w.heap.size < w3.heap.size := Nat.lt_of_lt_of_le T2.k0.lt b3.size; clear q T2 f20 f21 f22 C3)
  | (go_at_call 7; (have q := T3); refine (C4 _ T3.gw).mono ?_; rintro x w4 ⟨rfl, b4⟩; have a4 := (b4.trans ((Below.refl _ _).alloc b4.size (.cells #[.string c1, .string c2] 23))); have T4 := T3.grow a4; have ⟨f40, f41, f42⟩ := T4.cells; have X4x := X3x.below a4 X3x.lt; have ⟨g4x0, g4x1, g4xl⟩ := rcells X4x; have X4c := Blk.new w4 #[.string c1, .string c2] 23; have ⟨g4c0, g4c1, g4cl⟩ := rcells X4c; have sc : w.heap.size < w4.heap.size := Nat.lt_of_lt_of_le T3.k0.lt b4.size; have ncx := Nat.lt_of_lt_of_le X3x.lt b4.size; clear q T3 f30 f31 f32 C4 X3x g3x0 g3x1 g3xl)
  | (go_at_call 8; (have q := T4); refine (C5 _ T4.gw).mono ?_; rintro x w5 ⟨rfl, b5⟩; have a5 := (b5.trans ((Below.refl _ _).alloc b5.size (.cells #[.string f1, .string f2] 23))); have T5 := T4.grow a5; have ⟨f50, f51, f52⟩ := T5.cells; have X5x := X4x.below a5 X4x.lt; have ⟨g5x0, g5x1, g5xl⟩ := rcells X5x; have X5c := X4c.below a5 X4c.lt; have ⟨g5c0, g5c1, g5cl⟩ := rcells X5c; have X5f := Blk.new w5 #[.string f1, .string f2] 23; have ⟨g5f0, g5f1, g5fl⟩ := rcells X5f; have sf : w.heap.size < w5.heap.size := Nat.lt_of_lt_of_le T4.k0.lt b5.size; have nfx := Nat.lt_of_lt_of_le X4x.lt b5.size; have nfc := Nat.lt_of_lt_of_le X4c.lt b5.size; clear q T4 f40 f41 f42 C5 X4x g4x0 g4x1 g4xl X4c g4c0 g4c1 g4cl)
  | (go_at_call 8; (have q := T5); refine (C6 _ T5.gw).mono ?_; rintro x w6 ⟨rfl, b6⟩; have a6 := (b6.trans ((Below.refl _ _).alloc b6.size (.cells #[.string o1, .string o2] 23))); have T6 := T5.grow a6; have ⟨f60, f61, f62⟩ := T6.cells; have X6x := X5x.below a6 X5x.lt; have ⟨g6x0, g6x1, g6xl⟩ := rcells X6x; have X6c := X5c.below a6 X5c.lt; have ⟨g6c0, g6c1, g6cl⟩ := rcells X6c; have X6f := X5f.below a6 X5f.lt; have ⟨g6f0, g6f1, g6fl⟩ := rcells X6f; have X6o := Blk.new w6 #[.string o1, .string o2] 23; have ⟨g6o0, g6o1, g6ol⟩ := rcells X6o; have so : w.heap.size < w6.heap.size := Nat.lt_of_lt_of_le T5.k0.lt b6.size; have nox := Nat.lt_of_lt_of_le X5x.lt b6.size; have noc := Nat.lt_of_lt_of_le X5c.lt b6.size; have nof := Nat.lt_of_lt_of_le X5f.lt b6.size; clear q T5 f50 f51 f52 C6 X5x g5x0 g5x1 g5xl X5c g5c0 g5c1 g5cl X5f g5f0 g5f1 g5fl)
  | (go_at_call 9; (have q := T6); go_must (refine (N5 _ T6.gw).mono ?_; rintro x w7 ⟨rfl, b7⟩; have T7 := (T6.grow b7).wr w5.heap.size sf (.string g1) (.string g2) H; have ⟨f70, f71, f72⟩ := T7.cells; have Yf := X6f.below b7 X6f.lt; have ⟨yf0, yf1, yfl⟩ := rcells Yf; have yf2 := Yf.free 0; have yf3 := Yf.free 1; have X7x := (X6x.below b7 X6x.lt).wr (((Wr.refl w5.heap.size 0 2 w7).setCell 0 (by omega) (.string g1)).setCell 1 (by omega) (.string g2)) (Nat.ne_of_lt nfx); have ⟨g7x0, g7x1, g7xl⟩ := rcells X7x; have X7c := (X6c.below b7 X6c.lt).wr (((Wr.refl w5.heap.size 0 2 w7).setCell 0 (by omega) (.string g1)).setCell 1 (by omega) (.string g2)) (Nat.ne_of_lt nfc); have ⟨g7c0, g7c1, g7cl⟩ := rcells X7c; have X7f : Blk ((w7.setCell ⟨w5.heap.size, 0, none⟩ (.string g1)).setCell ⟨w5.heap.size, 1, none⟩ (.string g2)) w5.heap.size #[.string g1, .string g2] 23 := bput (bput Yf 0 _) 1 _; have ⟨g7f0, g7f1, g7fl⟩ := rcells X7f; have X7o := (X6o.below b7 X6o.lt).wr (((Wr.refl w5.heap.size 0 2 w7).setCell 0 (by omega) (.string g1)).setCell 1 (by omega) (.string g2)) (Nat.ne_of_gt nof); have ⟨g7o0, g7o1, g7ol⟩ := rcells X7o; clear q T6 f60 f61 f62 N5 X6x g6x0 g6x1 g6xl X6c g6c0 g6c1 g6cl X6f g6f0 g6f1 g6fl X6o g6o0 g6o1 g6ol))
  | (go_at_call 9; (have q := T7); go_must (refine (N6 _ T7.gw).mono ?_; rintro x w8 ⟨rfl, b8⟩; have T8 := (T7.grow b8).wr w6.heap.size so (.string h1) (.string h2) H; have ⟨f80, f81, f82⟩ := T8.cells; have Yo := X7o.below b8 X7o.lt; have ⟨yo0, yo1, yol⟩ := rcells Yo; have yo2 := Yo.free 0; have yo3 := Yo.free 1; have X8x := (X7x.below b8 X7x.lt).wr (((Wr.refl w6.heap.size 0 2 w8).setCell 0 (by omega) (.string h1)).setCell 1 (by omega) (.string h2)) (Nat.ne_of_lt nox); have ⟨g8x0, g8x1, g8xl⟩ := rcells X8x; have X8c := (X7c.below b8 X7c.lt).wr (((Wr.refl w6.heap.size 0 2 w8).setCell 0 (by omega) (.string h1)).setCell 1 (by omega) (.string h2)) (Nat.ne_of_lt noc); have ⟨g8c0, g8c1, g8cl⟩ := rcells X8c; have X8f := (X7f.below b8 X7f.lt).wr (((Wr.refl w6.heap.size 0 2 w8).setCell 0 (by omega) (.string h1)).setCell 1 (by omega) (.string h2)) (Nat.ne_of_lt nof); have ⟨g8f0, g8f1, g8fl⟩ := rcells X8f; have X8o : Blk ((w8.setCell ⟨w6.heap.size, 0, none⟩ (.string h1)).setCell ⟨w6.heap.size, 1, none⟩ (.string h2)) w6.heap.size #[.string h1, .string h2] 23 := bput (bput Yo 0 _) 1 _; have ⟨g8o0, g8o1, g8ol⟩ := rcells X8o; clear q T7 f70 f71 f72 N6 X7x g7x0 g7x1 g7xl X7c g7c0 g7c1 g7cl X7f g7f0 g7f1 g7fl X7o g7o0 g7o1 g7ol))
  | (go_at_call 10; (have q := T8); refine (CN _ T8.gw).mono ?_; rintro x w9 ⟨rfl, b9⟩; have a9 := b9; have T9 := T8.grow a9; have ⟨f90, f91, f92⟩ := T9.cells; have X9x := X8x.below a9 X8x.lt; have ⟨g9x0, g9x1, g9xl⟩ := rcells X9x; have X9c := X8c.below a9 X8c.lt; have ⟨g9c0, g9c1, g9cl⟩ := rcells X9c; clear q T8 f80 f81 f82 CN X8x g8x0 g8x1 g8xl X8c g8c0 g8c1 g8cl X8f g8f0 g8f1 g8fl X8o g8o0 g8o1 g8ol)
  | (go_at_call 10; (have q := T9); refine (CD _ T9.gw).mono ?_; rintro x w10 ⟨rfl, b10⟩; have a10 := b10; have T10 := T9.grow a10; have ⟨f100, f101, f102⟩ := T10.cells; have X10x := X9x.below a10 X9x.lt; have ⟨g10x0, g10x1, g10xl⟩ := rcells X10x; clear q T9 f90 f91 f92 CD X9x g9x0 g9x1 g9xl X9c g9c0 g9c1 g9cl)
  | fail)
 go_region_held3 (fun x => x.cell? ⟨w3.heap.size, 0, none⟩ = some (.string x1) ∧ x.cell? ⟨w3.heap.size, 1, none⟩ = some (.string x2)) (go_keep) (first
  | (go_at_call 11; refine (CW _ (T10.gw.grow (Below.refl _ _).drew)).mono ?_; rintro x wA ⟨rfl, bA⟩; have bA := undrew bA; have TA := T10.grow bA; have ⟨p0, p1, p2⟩ := rcells (X10x.below bA X10x.lt))
  | (go_at_call 10; refine (CM _ TA.gw).mono ?_; rintro x wB ⟨rfl, bB⟩; have TB := TA.grow bB; have ⟨p3, p4, p5⟩ := rcells (X10x.below (bel' bA bB) X10x.lt))
  | fail)
 go_wp2
 all_goals first
  | (go_ret; exact ⟨rfl, TB.bel⟩)
  | (exfalso; have := last.out; omega)
  | (have hd : d ≤ 0 := (by have := last.out; omega); go_ret; exact ⟨congrArg (fun b => Ending.returned (Value.bool b)) (decide_eq_true hd), TB.bel⟩)
end Go.Proofs.YtapdhadpdbmkcaaGreatDoor.Mo
