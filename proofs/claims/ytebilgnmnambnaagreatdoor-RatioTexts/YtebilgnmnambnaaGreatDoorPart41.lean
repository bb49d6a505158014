import Derived.Test.YtebilgnmnambnaaGreatDoorPart33
import Derived.Test.YtebilgnmnambnaaGreatDoorPart40
import Derived.Test.YtebilgnmnambnaaGreatDoorPart34
import Derived.Test.YtebilgnmnambnaaGreatDoorPart27
import Derived.WalkSmall

namespace Go.Proofs.YtebilgnmnambnaaGreatDoor.Mo
open Go.RowKit Tn
theorem pf_num {x : World} {g : Bool} {a a' : Option Addr} {l c l' c' : Nat} {r : Rat} (h : PF x (.agg #[.bool g, .slice a l c, .slice a' l' c']) r) : Nn x a l c (r.num.natAbs : Int) := by
  obtain ⟨b, k, e, b', k', e', h1, h2, h3⟩ := h
  injection h1 with h1
  injection h1 with h1
  simp only [List.cons.injEq, Value.bool.injEq, Value.slice.injEq, and_true] at h1
  obtain ⟨_, ⟨rfl, rfl, rfl⟩, _⟩ := h1
  exact h2
set_option maxRecDepth 100000 in
set_option maxHeartbeats 6400000 in
theorem PQ_form1 (a b : ByteArray) (w : World) (WH : ∀ x, Calls Tryz.prog 106 #[.string a] x fun e w' => e = .returned (.bool false) ∧ Below x.heap.size x w') : Calls Tryz.prog 139 #[.string a, .string b] w fun e w' => e = .returned (.tuple #[.agg #[.bool false, .slice none 0 0, .slice none 0 0], .int .i64 2]) ∧ Below w.heap.size w w' := by
  have KR := Rb.new w (.bool false) (.slice none 0 0) (.slice none 0 0) 67
  have pr : Below w.heap.size w (w.alloc (.cells #[.bool false, .slice none 0 0, .slice none 0 0] 67)) := (Below.refl _ _).alloc (Nat.le_refl _) _
  go_enter Tryz.func139, Tryz.ntmps139
  go_wp2_with (first
    | (go_at_call 106; (refine (WH _).mono ?_); (rintro e w1 ⟨rfl, b1⟩); (have p1 := bel' pr b1); (have KR1 := KR.grow b1); (have c10 := KR1.c0); (have c11 := KR1.c1); (have c12 := KR1.c2); (have f10 := KR1.f0); (have f11 := KR1.f1); (have f12 := KR1.f2))
    | fail)
  have KE := KR1.sets (.bool false) (.slice none 0 0) (.slice none 0 0)
  have bE := bset3 (n := w.heap.size) (x := .bool false) (y := .slice none 0 0) (z := .slice none 0 0) p1 (Nat.le_refl _)
  exact bodyPost_ret (v := .tuple #[.agg #[.bool false, .slice none 0 0, .slice none 0 0], .int .i64 2]) (by simp [results, Tryz.results139, go_sem, KE.c0, KE.c1, KE.c2]) rfl ⟨rfl, bE⟩
set_option maxRecDepth 100000 in
set_option maxHeartbeats 6400000 in
theorem PQ_form2 (a b : ByteArray) (w : World) (WH : ∀ x, Calls Tryz.prog 106 #[.string a] x fun e w' => e = .returned (.bool true) ∧ Below x.heap.size x w') (NA : ∀ x, Calls Tryz.prog 107 #[.string b] x fun e w' => e = .returned (.bool false) ∧ w' = x) : Calls Tryz.prog 139 #[.string a, .string b] w fun e w' => e = .returned (.tuple #[.agg #[.bool false, .slice none 0 0, .slice none 0 0], .int .i64 2]) ∧ Below w.heap.size w w' := by
  have KR := Rb.new w (.bool false) (.slice none 0 0) (.slice none 0 0) 67
  have pr : Below w.heap.size w (w.alloc (.cells #[.bool false, .slice none 0 0, .slice none 0 0] 67)) := (Below.refl _ _).alloc (Nat.le_refl _) _
  go_enter Tryz.func139, Tryz.ntmps139
  go_wp2_with (first
    | (go_at_call 107; (have mk2 := p1); (refine (NA _).mono ?_); (rintro e w2 ⟨rfl, hw2⟩); (subst w2))
    | (go_at_call 106; (refine (WH _).mono ?_); (rintro e w1 ⟨rfl, b1⟩); (have p1 := bel' pr b1); (have KR1 := KR.grow b1); (have c10 := KR1.c0); (have c11 := KR1.c1); (have c12 := KR1.c2); (have f10 := KR1.f0); (have f11 := KR1.f1); (have f12 := KR1.f2))
    | fail)
  have KE := KR1.sets (.bool false) (.slice none 0 0) (.slice none 0 0)
  have bE := bset3 (n := w.heap.size) (x := .bool false) (y := .slice none 0 0) (z := .slice none 0 0) p1 (Nat.le_refl _)
  exact bodyPost_ret (v := .tuple #[.agg #[.bool false, .slice none 0 0, .slice none 0 0], .int .i64 2]) (by simp [results, Tryz.results139, go_sem, KE.c0, KE.c1, KE.c2]) rfl ⟨rfl, bE⟩
set_option maxRecDepth 100000 in
set_option maxHeartbeats 6400000 in
theorem PQ_zero (a b : ByteArray) (w : World) (hb : (b.toList == [48]) = true) (WH : ∀ x, Calls Tryz.prog 106 #[.string a] x fun e w' => e = .returned (.bool true) ∧ Below x.heap.size x w') (NA : ∀ x, Calls Tryz.prog 107 #[.string b] x fun e w' => e = .returned (.bool true) ∧ w' = x) : Calls Tryz.prog 139 #[.string a, .string b] w fun e w' => e = .returned (.tuple #[.agg #[.bool false, .slice none 0 0, .slice none 0 0], .int .i64 4]) ∧ Below w.heap.size w w' := by
  have KR := Rb.new w (.bool false) (.slice none 0 0) (.slice none 0 0) 67
  have pr : Below w.heap.size w (w.alloc (.cells #[.bool false, .slice none 0 0, .slice none 0 0] 67)) := (Below.refl _ _).alloc (Nat.le_refl _) _
  go_enter Tryz.func139, Tryz.ntmps139
  go_wp2_with (first
    | (go_at_call 107; (have mk2 := p1); (refine (NA _).mono ?_); (rintro e w2 ⟨rfl, hw2⟩); (subst w2))
    | (go_at_call 106; (refine (WH _).mono ?_); (rintro e w1 ⟨rfl, b1⟩); (have p1 := bel' pr b1); (have KR1 := KR.grow b1); (have c10 := KR1.c0); (have c11 := KR1.c1); (have c12 := KR1.c2); (have f10 := KR1.f0); (have f11 := KR1.f1); (have f12 := KR1.f2))
    | fail)
  have KE := KR1.sets (.bool false) (.slice none 0 0) (.slice none 0 0)
  have bE := bset3 (n := w.heap.size) (x := .bool false) (y := .slice none 0 0) (z := .slice none 0 0) p1 (Nat.le_refl _)
  exact bodyPost_ret (v := .tuple #[.agg #[.bool false, .slice none 0 0, .slice none 0 0], .int .i64 4]) (by simp [results, Tryz.results139, go_sem, KE.c0, KE.c1, KE.c2]) rfl ⟨rfl, bE⟩
set_option maxRecDepth 100000 in
set_option maxHeartbeats 6400000 in
theorem PQ_ok (a b D : ByteArray) (g : Bool) (N M : Int) (t : Rat) (w : World) (hb : (b.toList == [48]) = false) (WH : ∀ x, Calls Tryz.prog 106 #[.string a] x fun e w' => e = .returned (.bool true) ∧ Below x.heap.size x w') (NA : ∀ x, Calls Tryz.prog 107 #[.string b] x fun e w' => e = .returned (.bool true) ∧ w' = x) (CS : ∀ x, Calls Tryz.prog 108 #[.string a] x fun e w' => e = .returned (.tuple #[.bool g, .string D]) ∧ Below x.heap.size x w') (PA : ∀ x, Calls Tryz.prog 109 #[.string D] x fun e w' => ∃ a l c, e = .returned (.agg #[.slice a l c]) ∧ Nn w' a l c N ∧ Below x.heap.size x w') (PB : ∀ x, Calls Tryz.prog 109 #[.string b] x fun e w' => ∃ a l c, e = .returned (.agg #[.slice a l c]) ∧ Nn w' a l c M ∧ Below x.heap.size x w') (LO : ∀ x a l c a' l' c', Nn x a l c N → Nn x a' l' c' M → Calls Tryz.prog 182 #[.bool g, .agg #[.slice a l c], .agg #[.slice a' l' c']] x (Fa t x)) : Calls Tryz.prog 139 #[.string a, .string b] w (Fr t w) := by
  have KR := Rb.new w (.bool false) (.slice none 0 0) (.slice none 0 0) 67
  have pr : Below w.heap.size w (w.alloc (.cells #[.bool false, .slice none 0 0, .slice none 0 0] 67)) := (Below.refl _ _).alloc (Nat.le_refl _) _
  go_enter Tryz.func139, Tryz.ntmps139
  go_wp2_with (first
    | (go_at_call 182; (have mk6 := p5); (refine (LO _ _ _ _ _ _ _ n4_ n5).mono ?_); (rintro e w6 ⟨g6, a6, l6, c6, a6', l6', c6', rfl, t6, b6⟩); (have p6 := bel' p5 b6); (have KR6 := KR5.grow b6); (have c60 := KR6.c0); (have c61 := KR6.c1); (have c62 := KR6.c2); (have f60 := KR6.f0); (have f61 := KR6.f1); (have f62 := KR6.f2); (have n4__ := n4_.grow b6); (have n5_ := n5.grow b6))
    | (go_at_call 109; (have mk5 := p4); (refine (PB _).mono ?_); (rintro e w5 ⟨a5, l5, c5, rfl, n5, b5⟩); (have p5 := bel' p4 b5); (have KR5 := KR4.grow b5); (have c50 := KR5.c0); (have c51 := KR5.c1); (have c52 := KR5.c2); (have f50 := KR5.f0); (have f51 := KR5.f1); (have f52 := KR5.f2); (have n4_ := n4.grow b5))
    | (go_at_call 109; (have mk4 := p3); (refine (PA _).mono ?_); (rintro e w4 ⟨a4, l4, c4, rfl, n4, b4⟩); (have p4 := bel' p3 b4); (have KR4 := KR3.grow b4); (have c40 := KR4.c0); (have c41 := KR4.c1); (have c42 := KR4.c2); (have f40 := KR4.f0); (have f41 := KR4.f1); (have f42 := KR4.f2))
    | (go_at_call 108; (have mk3 := p1); (refine (CS _).mono ?_); (rintro e w3 ⟨rfl, b3⟩); (have p3 := bel' p1 b3); (have KR3 := KR1.grow b3); (have c30 := KR3.c0); (have c31 := KR3.c1); (have c32 := KR3.c2); (have f30 := KR3.f0); (have f31 := KR3.f1); (have f32 := KR3.f2))
    | (go_at_call 107; (have mk2 := p1); (refine (NA _).mono ?_); (rintro e w2 ⟨rfl, hw2⟩); (subst w2))
    | (go_at_call 106; (refine (WH _).mono ?_); (rintro e w1 ⟨rfl, b1⟩); (have p1 := bel' pr b1); (have KR1 := KR.grow b1); (have c10 := KR1.c0); (have c11 := KR1.c1); (have c12 := KR1.c2); (have f10 := KR1.f0); (have f11 := KR1.f1); (have f12 := KR1.f2))
    | fail)
  have KE := KR6.sets (.bool g6) (.slice a6 l6 c6) (.slice a6' l6' c6')
  have tE := t6.putF (x := .bool g6) (y := .slice a6 l6 c6) (z := .slice a6' l6' c6') KR6
  have bE := bset3 (n := w.heap.size) (x := .bool g6) (y := .slice a6 l6 c6) (z := .slice a6' l6' c6') p6 (Nat.le_refl _)
  exact bodyPost_ret (v := .tuple #[.agg #[.bool g6, .slice a6 l6 c6, .slice a6' l6' c6'], .int .i64 0]) (by simp [results, Tryz.results139, go_sem, KE.c0, KE.c1, KE.c2]) rfl ⟨_, _, _, _, _, _, _, rfl, tE, bE⟩
set_option maxRecDepth 100000 in
set_option maxHeartbeats 6400000 in
theorem PD_form1 (a b D : ByteArray) (g : Bool) (w : World) (CS : ∀ x, Calls Tryz.prog 108 #[.string a] x fun e w' => e = .returned (.tuple #[.bool g, .string D]) ∧ Below x.heap.size x w') (NA : ∀ x, Calls Tryz.prog 107 #[.string D] x fun e w' => e = .returned (.bool false) ∧ w' = x) : Calls Tryz.prog 140 #[.string a, .string b] w fun e w' => e = .returned (.tuple #[.agg #[.bool false, .slice none 0 0, .slice none 0 0], .int .i64 2]) ∧ Below w.heap.size w w' := by
  have KR := Rb.new w (.bool false) (.slice none 0 0) (.slice none 0 0) 67
  have pr : Below w.heap.size w (w.alloc (.cells #[.bool false, .slice none 0 0, .slice none 0 0] 67)) := (Below.refl _ _).alloc (Nat.le_refl _) _
  go_enter Tryz.func140, Tryz.ntmps140
  go_wp2_with (first
    | (go_at_call 107; (have mk2 := p1); (refine (NA _).mono ?_); (rintro e w2 ⟨rfl, hw2⟩); (subst w2))
    | (go_at_call 108; (refine (CS _).mono ?_); (rintro e w1 ⟨rfl, b1⟩); (have p1 := bel' pr b1); (have KR1 := KR.grow b1); (have c10 := KR1.c0); (have c11 := KR1.c1); (have c12 := KR1.c2); (have f10 := KR1.f0); (have f11 := KR1.f1); (have f12 := KR1.f2))
    | fail)
  have KE := KR1.sets (.bool false) (.slice none 0 0) (.slice none 0 0)
  have bE := bset3 (n := w.heap.size) (x := .bool false) (y := .slice none 0 0) (z := .slice none 0 0) p1 (Nat.le_refl _)
  exact bodyPost_ret (v := .tuple #[.agg #[.bool false, .slice none 0 0, .slice none 0 0], .int .i64 2]) (by simp [results, Tryz.results140, go_sem, KE.c0, KE.c1, KE.c2]) rfl ⟨rfl, bE⟩
set_option maxRecDepth 100000 in
set_option maxHeartbeats 6400000 in
theorem PD_form2 (a b D : ByteArray) (g : Bool) (w : World) (CS : ∀ x, Calls Tryz.prog 108 #[.string a] x fun e w' => e = .returned (.tuple #[.bool g, .string D]) ∧ Below x.heap.size x w') (NA : ∀ x, Calls Tryz.prog 107 #[.string D] x fun e w' => e = .returned (.bool true) ∧ w' = x) (DG : ∀ x, Calls Tryz.prog 158 #[.string b] x fun e w' => e = .returned (.bool false) ∧ w' = x) : Calls Tryz.prog 140 #[.string a, .string b] w fun e w' => e = .returned (.tuple #[.agg #[.bool false, .slice none 0 0, .slice none 0 0], .int .i64 2]) ∧ Below w.heap.size w w' := by
  have KR := Rb.new w (.bool false) (.slice none 0 0) (.slice none 0 0) 67
  have pr : Below w.heap.size w (w.alloc (.cells #[.bool false, .slice none 0 0, .slice none 0 0] 67)) := (Below.refl _ _).alloc (Nat.le_refl _) _
  go_enter Tryz.func140, Tryz.ntmps140
  go_wp2_with (first
    | (go_at_call 158; (have mk3 := p1); (refine (DG _).mono ?_); (rintro e w3 ⟨rfl, hw3⟩); (subst w3))
    | (go_at_call 107; (have mk2 := p1); (refine (NA _).mono ?_); (rintro e w2 ⟨rfl, hw2⟩); (subst w2))
    | (go_at_call 108; (refine (CS _).mono ?_); (rintro e w1 ⟨rfl, b1⟩); (have p1 := bel' pr b1); (have KR1 := KR.grow b1); (have c10 := KR1.c0); (have c11 := KR1.c1); (have c12 := KR1.c2); (have f10 := KR1.f0); (have f11 := KR1.f1); (have f12 := KR1.f2))
    | fail)
  have KE := KR1.sets (.bool false) (.slice none 0 0) (.slice none 0 0)
  have bE := bset3 (n := w.heap.size) (x := .bool false) (y := .slice none 0 0) (z := .slice none 0 0) p1 (Nat.le_refl _)
  exact bodyPost_ret (v := .tuple #[.agg #[.bool false, .slice none 0 0, .slice none 0 0], .int .i64 2]) (by simp [results, Tryz.results140, go_sem, KE.c0, KE.c1, KE.c2]) rfl ⟨rfl, bE⟩
set_option maxRecDepth 100000 in
set_option maxHeartbeats 6400000 in
theorem PD_plain (a b D b' U : ByteArray) (N M : Int) (t : Rat) (w : World) (hU : D ++ b' = U) (zU : D.size + b'.size ≤ 9223372036854775807) (CS : ∀ x, Calls Tryz.prog 108 #[.string a] x fun e w' => e = .returned (.tuple #[.bool false, .string D]) ∧ Below x.heap.size x w') (NA : ∀ x, Calls Tryz.prog 107 #[.string D] x fun e w' => e = .returned (.bool true) ∧ w' = x) (DG : ∀ x, Calls Tryz.prog 158 #[.string b] x fun e w' => e = .returned (.bool true) ∧ w' = x) (TR : ∀ x, Calls Tryz.prog 183 #[.string b, .string ⟨#[48]⟩] x fun e w' => e = .returned (.string b') ∧ w' = x) (PA : ∀ x, Calls Tryz.prog 109 #[.string U] x fun e w' => ∃ a l c, e = .returned (.agg #[.slice a l c]) ∧ Nn w' a l c N ∧ Below x.heap.size x w') (OF : ∀ x, Calls Tryz.prog 65 #[.int .u64 10] x fun e w' => ∃ a l c, e = .returned (.agg #[.slice a l c]) ∧ Nn w' a l c 10 ∧ Below x.heap.size x w') (PO : ∀ x a l c, Nn x a l c 10 → Calls Tryz.prog 66 #[.agg #[.slice a l c], .int .i64 (b'.size : Int)] x fun e w' => ∃ a l c, e = .returned (.agg #[.slice a l c]) ∧ Nn w' a l c M ∧ Below x.heap.size x w') (LO : ∀ x a l c a' l' c', Nn x a l c N → Nn x a' l' c' M → Calls Tryz.prog 182 #[.bool false, .agg #[.slice a l c], .agg #[.slice a' l' c']] x (Fa t x)) : Calls Tryz.prog 140 #[.string a, .string b] w (Fr t w) := by
  have KR := Rb.new w (.bool false) (.slice none 0 0) (.slice none 0 0) 67
  have pr : Below w.heap.size w (w.alloc (.cells #[.bool false, .slice none 0 0, .slice none 0 0] 67)) := (Below.refl _ _).alloc (Nat.le_refl _) _
  have ra := fun W => run_string_add_sum (P := Tryz.prog) W D b' zU
  rw [hU] at ra
  go_enter Tryz.func140, Tryz.ntmps140
  go_wp2_with (first
    | (go_at_call 182; (have mk8 := p7); (refine (LO _ _ _ _ _ _ _ n5__ n7).mono ?_); (rintro e w8 ⟨g8, a8, l8, c8, a8', l8', c8', rfl, t8, b8⟩); (have p8 := bel' p7 b8); (have KR8 := KR7.grow b8); (have c80 := KR8.c0); (have c81 := KR8.c1); (have c82 := KR8.c2); (have f80 := KR8.f0); (have f81 := KR8.f1); (have f82 := KR8.f2); (have n5___ := n5__.grow b8); (have n6__ := n6_.grow b8); (have n7_ := n7.grow b8); (have al8 := (Below.refl w8.heap.size w8).alloc (Nat.le_refl _) (.cells #[.bool g8, .slice a8 l8 c8, .slice a8' l8' c8'] 67)); (have KF := Rb.new w8 (.bool g8) (.slice a8 l8 c8) (.slice a8' l8' c8') 67); (have q8 := t8.grow al8); (have KS := KR8.grow al8); (have pS := bel' p8 al8); (have k0 := KF.c0); (have k1 := KF.c1); (have k2 := KF.c2); (have s0 := KS.c0); (have s1 := KS.c1); (have s2 := KS.c2); (have e0 := KS.f0); (have e1 := KS.f1); (have e2 := KS.f2))
    | (go_at_call 66; (have mk7 := p6); (refine (PO _ _ _ _ n6).mono ?_); (rintro e w7 ⟨a7, l7, c7, rfl, n7, b7⟩); (have p7 := bel' p6 b7); (have KR7 := KR6.grow b7); (have c70 := KR7.c0); (have c71 := KR7.c1); (have c72 := KR7.c2); (have f70 := KR7.f0); (have f71 := KR7.f1); (have f72 := KR7.f2); (have n5__ := n5_.grow b7); (have n6_ := n6.grow b7))
    | (go_at_call 65; (have mk6 := p5); (refine (OF _).mono ?_); (rintro e w6 ⟨a6, l6, c6, rfl, n6, b6⟩); (have p6 := bel' p5 b6); (have KR6 := KR5.grow b6); (have c60 := KR6.c0); (have c61 := KR6.c1); (have c62 := KR6.c2); (have f60 := KR6.f0); (have f61 := KR6.f1); (have f62 := KR6.f2); (have n5_ := n5.grow b6))
    | (go_at_call 109; (have mk5 := p1); (refine (PA _).mono ?_); (rintro e w5 ⟨a5, l5, c5, rfl, n5, b5⟩); (have p5 := bel' p1 b5); (have KR5 := KR1.grow b5); (have c50 := KR5.c0); (have c51 := KR5.c1); (have c52 := KR5.c2); (have f50 := KR5.f0); (have f51 := KR5.f1); (have f52 := KR5.f2))
    | (go_at_call 183; (have mk4 := p1); (refine (TR _).mono ?_); (rintro e w4 ⟨rfl, hw4⟩); (subst w4))
    | (go_at_call 158; (have mk3 := p1); (refine (DG _).mono ?_); (rintro e w3 ⟨rfl, hw3⟩); (subst w3))
    | (go_at_call 107; (have mk2 := p1); (refine (NA _).mono ?_); (rintro e w2 ⟨rfl, hw2⟩); (subst w2))
    | (go_at_call 108; (refine (CS _).mono ?_); (rintro e w1 ⟨rfl, b1⟩); (have p1 := bel' pr b1); (have KR1 := KR.grow b1); (have c10 := KR1.c0); (have c11 := KR1.c1); (have c12 := KR1.c2); (have f10 := KR1.f0); (have f11 := KR1.f1); (have f12 := KR1.f2))
    | fail)
  have KE := KS.sets (.bool g8) (.slice a8 l8 c8) (.slice a8' l8' c8')
  have tE := q8.putF (x := .bool g8) (y := .slice a8 l8 c8) (z := .slice a8' l8' c8') KS
  have bE := bset3 (n := w.heap.size) (x := .bool g8) (y := .slice a8 l8 c8) (z := .slice a8' l8' c8') pS (Nat.le_refl _)
  exact bodyPost_ret (v := .tuple #[.agg #[.bool g8, .slice a8 l8 c8, .slice a8' l8' c8'], .int .i64 0]) (by simp [results, Tryz.results140, go_sem, KE.c0, KE.c1, KE.c2]) rfl ⟨_, _, _, _, _, _, _, rfl, tE, bE⟩
set_option maxRecDepth 100000 in
set_option maxHeartbeats 6400000 in
theorem PD_neg (a b D b' U : ByteArray) (N M : Int) (t : Rat) (w : World) (hU : D ++ b' = U) (zU : D.size + b'.size ≤ 9223372036854775807) (CS : ∀ x, Calls Tryz.prog 108 #[.string a] x fun e w' => e = .returned (.tuple #[.bool true, .string D]) ∧ Below x.heap.size x w') (NA : ∀ x, Calls Tryz.prog 107 #[.string D] x fun e w' => e = .returned (.bool true) ∧ w' = x) (DG : ∀ x, Calls Tryz.prog 158 #[.string b] x fun e w' => e = .returned (.bool true) ∧ w' = x) (TR : ∀ x, Calls Tryz.prog 183 #[.string b, .string ⟨#[48]⟩] x fun e w' => e = .returned (.string b') ∧ w' = x) (PA : ∀ x, Calls Tryz.prog 109 #[.string U] x fun e w' => ∃ a l c, e = .returned (.agg #[.slice a l c]) ∧ Nn w' a l c N ∧ Below x.heap.size x w') (OF : ∀ x, Calls Tryz.prog 65 #[.int .u64 10] x fun e w' => ∃ a l c, e = .returned (.agg #[.slice a l c]) ∧ Nn w' a l c 10 ∧ Below x.heap.size x w') (PO : ∀ x a l c, Nn x a l c 10 → Calls Tryz.prog 66 #[.agg #[.slice a l c], .int .i64 (b'.size : Int)] x fun e w' => ∃ a l c, e = .returned (.agg #[.slice a l c]) ∧ Nn w' a l c M ∧ Below x.heap.size x w') (LO : ∀ x a l c a' l' c', Nn x a l c N → Nn x a' l' c' M → Calls Tryz.prog 182 #[.bool true, .agg #[.slice a l c], .agg #[.slice a' l' c']] x (Fa t x)) (IZ : ∀ x a l c, Nn x a l c (t.num.natAbs : Int) → Calls Tryz.prog 48 #[.agg #[.slice a l c]] x fun e w' => e = .returned (.bool false) ∧ Below x.heap.size x w') : Calls Tryz.prog 140 #[.string a, .string b] w (Fr t w) := by
  have KR := Rb.new w (.bool false) (.slice none 0 0) (.slice none 0 0) 67
  have pr : Below w.heap.size w (w.alloc (.cells #[.bool false, .slice none 0 0, .slice none 0 0] 67)) := (Below.refl _ _).alloc (Nat.le_refl _) _
  have ra := fun W => run_string_add_sum (P := Tryz.prog) W D b' zU
  rw [hU] at ra
  go_enter Tryz.func140, Tryz.ntmps140
  go_wp2_with (first
    | (go_at_call 48; (have mk9 := pS); (refine (IZ _ _ _ _ (pf_num q8)).mono ?_); (rintro e w9 ⟨rfl, b9⟩); (have p9 := bel' pS b9); (have KR9 := KS.grow b9); (have c90 := KR9.c0); (have c91 := KR9.c1); (have c92 := KR9.c2); (have f90 := KR9.f0); (have f91 := KR9.f1); (have f92 := KR9.f2); (have q8_ := q8.grow b9); (have KF_ := KF.grow b9); (have j0 := KF_.c0); (have j1 := KF_.c1); (have j2 := KF_.c2))
    | (go_at_call 182; (have mk8 := p7); (refine (LO _ _ _ _ _ _ _ n5__ n7).mono ?_); (rintro e w8 ⟨g8, a8, l8, c8, a8', l8', c8', rfl, t8, b8⟩); (have p8 := bel' p7 b8); (have KR8 := KR7.grow b8); (have c80 := KR8.c0); (have c81 := KR8.c1); (have c82 := KR8.c2); (have f80 := KR8.f0); (have f81 := KR8.f1); (have f82 := KR8.f2); (have n5___ := n5__.grow b8); (have n6__ := n6_.grow b8); (have n7_ := n7.grow b8); (have al8 := (Below.refl w8.heap.size w8).alloc (Nat.le_refl _) (.cells #[.bool g8, .slice a8 l8 c8, .slice a8' l8' c8'] 67)); (have KF := Rb.new w8 (.bool g8) (.slice a8 l8 c8) (.slice a8' l8' c8') 67); (have q8 := t8.grow al8); (have KS := KR8.grow al8); (have pS := bel' p8 al8); (have k0 := KF.c0); (have k1 := KF.c1); (have k2 := KF.c2); (have s0 := KS.c0); (have s1 := KS.c1); (have s2 := KS.c2); (have e0 := KS.f0); (have e1 := KS.f1); (have e2 := KS.f2))
    | (go_at_call 66; (have mk7 := p6); (refine (PO _ _ _ _ n6).mono ?_); (rintro e w7 ⟨a7, l7, c7, rfl, n7, b7⟩); (have p7 := bel' p6 b7); (have KR7 := KR6.grow b7); (have c70 := KR7.c0); (have c71 := KR7.c1); (have c72 := KR7.c2); (have f70 := KR7.f0); (have f71 := KR7.f1); (have f72 := KR7.f2); (have n5__ := n5_.grow b7); (have n6_ := n6.grow b7))
    | (go_at_call 65; (have mk6 := p5); (refine (OF _).mono ?_); (rintro e w6 ⟨a6, l6, c6, rfl, n6, b6⟩); (have p6 := bel' p5 b6); (have KR6 := KR5.grow b6); (have c60 := KR6.c0); (have c61 := KR6.c1); (have c62 := KR6.c2); (have f60 := KR6.f0); (have f61 := KR6.f1); (have f62 := KR6.f2); (have n5_ := n5.grow b6))
    | (go_at_call 109; (have mk5 := p1); (refine (PA _).mono ?_); (rintro e w5 ⟨a5, l5, c5, rfl, n5, b5⟩); (have p5 := bel' p1 b5); (have KR5 := KR1.grow b5); (have c50 := KR5.c0); (have c51 := KR5.c1); (have c52 := KR5.c2); (have f50 := KR5.f0); (have f51 := KR5.f1); (have f52 := KR5.f2))
    | (go_at_call 183; (have mk4 := p1); (refine (TR _).mono ?_); (rintro e w4 ⟨rfl, hw4⟩); (subst w4))
    | (go_at_call 158; (have mk3 := p1); (refine (DG _).mono ?_); (rintro e w3 ⟨rfl, hw3⟩); (subst w3))
    | (go_at_call 107; (have mk2 := p1); (refine (NA _).mono ?_); (rintro e w2 ⟨rfl, hw2⟩); (subst w2))
    | (go_at_call 108; (refine (CS _).mono ?_); (rintro e w1 ⟨rfl, b1⟩); (have p1 := bel' pr b1); (have KR1 := KR.grow b1); (have c10 := KR1.c0); (have c11 := KR1.c1); (have c12 := KR1.c2); (have f10 := KR1.f0); (have f11 := KR1.f1); (have f12 := KR1.f2))
    | fail)
  have KE := KR9.sets (.bool g8) (.slice a8 l8 c8) (.slice a8' l8' c8')
  have tE := q8_.putF (x := .bool g8) (y := .slice a8 l8 c8) (z := .slice a8' l8' c8') KR9
  have bE := bset3 (n := w.heap.size) (x := .bool g8) (y := .slice a8 l8 c8) (z := .slice a8' l8' c8') p9 (Nat.le_refl _)
  exact bodyPost_ret (v := .tuple #[.agg #[.bool g8, .slice a8 l8 c8, .slice a8' l8' c8'], .int .i64 0]) (by simp [results, Tryz.results140, go_sem, KE.c0, KE.c1, KE.c2]) rfl ⟨_, _, _, _, _, _, _, rfl, tE, bE⟩
set_option maxRecDepth 100000 in
set_option maxHeartbeats 6400000 in
theorem PD_zero (a b D b' U : ByteArray) (N M : Int) (t : Rat) (w : World) (hU : D ++ b' = U) (zU : D.size + b'.size ≤ 9223372036854775807) (CS : ∀ x, Calls Tryz.prog 108 #[.string a] x fun e w' => e = .returned (.tuple #[.bool true, .string D]) ∧ Below x.heap.size x w') (NA : ∀ x, Calls Tryz.prog 107 #[.string D] x fun e w' => e = .returned (.bool true) ∧ w' = x) (DG : ∀ x, Calls Tryz.prog 158 #[.string b] x fun e w' => e = .returned (.bool true) ∧ w' = x) (TR : ∀ x, Calls Tryz.prog 183 #[.string b, .string ⟨#[48]⟩] x fun e w' => e = .returned (.string b') ∧ w' = x) (PA : ∀ x, Calls Tryz.prog 109 #[.string U] x fun e w' => ∃ a l c, e = .returned (.agg #[.slice a l c]) ∧ Nn w' a l c N ∧ Below x.heap.size x w') (OF : ∀ x, Calls Tryz.prog 65 #[.int .u64 10] x fun e w' => ∃ a l c, e = .returned (.agg #[.slice a l c]) ∧ Nn w' a l c 10 ∧ Below x.heap.size x w') (PO : ∀ x a l c, Nn x a l c 10 → Calls Tryz.prog 66 #[.agg #[.slice a l c], .int .i64 (b'.size : Int)] x fun e w' => ∃ a l c, e = .returned (.agg #[.slice a l c]) ∧ Nn w' a l c M ∧ Below x.heap.size x w') (LO : ∀ x a l c a' l' c', Nn x a l c N → Nn x a' l' c' M → Calls Tryz.prog 182 #[.bool true, .agg #[.slice a l c], .agg #[.slice a' l' c']] x (Fa t x)) (IZ : ∀ x a l c, Nn x a l c (t.num.natAbs : Int) → Calls Tryz.prog 48 #[.agg #[.slice a l c]] x fun e w' => e = .returned (.bool true) ∧ Below x.heap.size x w') : Calls Tryz.prog 140 #[.string a, .string b] w fun e w' => e = .returned (.tuple #[.agg #[.bool false, .slice none 0 0, .slice none 0 0], .int .i64 2]) ∧ Below w.heap.size w w' := by
  have KR := Rb.new w (.bool false) (.slice none 0 0) (.slice none 0 0) 67
  have pr : Below w.heap.size w (w.alloc (.cells #[.bool false, .slice none 0 0, .slice none 0 0] 67)) := (Below.refl _ _).alloc (Nat.le_refl _) _
  have ra := fun W => run_string_add_sum (P := Tryz.prog) W D b' zU
  rw [hU] at ra
  go_enter Tryz.func140, Tryz.ntmps140
  go_wp2_with (first
    | (go_at_call 48; (have mk9 := pS); (refine (IZ _ _ _ _ (pf_num q8)).mono ?_); (rintro e w9 ⟨rfl, b9⟩); (have p9 := bel' pS b9); (have KR9 := KS.grow b9); (have c90 := KR9.c0); (have c91 := KR9.c1); (have c92 := KR9.c2); (have f90 := KR9.f0); (have f91 := KR9.f1); (have f92 := KR9.f2); (have q8_ := q8.grow b9); (have KF_ := KF.grow b9); (have j0 := KF_.c0); (have j1 := KF_.c1); (have j2 := KF_.c2))
    | (go_at_call 182; (have mk8 := p7); (refine (LO _ _ _ _ _ _ _ n5__ n7).mono ?_); (rintro e w8 ⟨g8, a8, l8, c8, a8', l8', c8', rfl, t8, b8⟩); (have p8 := bel' p7 b8); (have KR8 := KR7.grow b8); (have c80 := KR8.c0); (have c81 := KR8.c1); (have c82 := KR8.c2); (have f80 := KR8.f0); (have f81 := KR8.f1); (have f82 := KR8.f2); (have n5___ := n5__.grow b8); (have n6__ := n6_.grow b8); (have n7_ := n7.grow b8); (have al8 := (Below.refl w8.heap.size w8).alloc (Nat.le_refl _) (.cells #[.bool g8, .slice a8 l8 c8, .slice a8' l8' c8'] 67)); (have KF := Rb.new w8 (.bool g8) (.slice a8 l8 c8) (.slice a8' l8' c8') 67); (have q8 := t8.grow al8); (have KS := KR8.grow al8); (have pS := bel' p8 al8); (have k0 := KF.c0); (have k1 := KF.c1); (have k2 := KF.c2); (have s0 := KS.c0); (have s1 := KS.c1); (have s2 := KS.c2); (have e0 := KS.f0); (have e1 := KS.f1); (have e2 := KS.f2))
    | (go_at_call 66; (have mk7 := p6); (refine (PO _ _ _ _ n6).mono ?_); (rintro e w7 ⟨a7, l7, c7, rfl, n7, b7⟩); (have p7 := bel' p6 b7); (have KR7 := KR6.grow b7); (have c70 := KR7.c0); (have c71 := KR7.c1); (have c72 := KR7.c2); (have f70 := KR7.f0); (have f71 := KR7.f1); (have f72 := KR7.f2); (have n5__ := n5_.grow b7); (have n6_ := n6.grow b7))
    | (go_at_call 65; (have mk6 := p5); (refine (OF _).mono ?_); (rintro e w6 ⟨a6, l6, c6, rfl, n6, b6⟩); (have p6 := bel' p5 b6); (have KR6 := KR5.grow b6); (have c60 := KR6.c0); (have c61 := KR6.c1); (have c62 := KR6.c2); (have f60 := KR6.f0); (have f61 := KR6.f1); (have f62 := KR6.f2); (have n5_ := n5.grow b6))
    | (go_at_call 109; (have mk5 := p1); (refine (PA _).mono ?_); (rintro e w5 ⟨a5, l5, c5, rfl, n5, b5⟩); (have p5 := bel' p1 b5); (have KR5 := KR1.grow b5); (have c50 := KR5.c0); (have c51 := KR5.c1); (have c52 := KR5.c2); (have f50 := KR5.f0); (have f51 := KR5.f1); (have f52 := KR5.f2))
    | (go_at_call 183; (have mk4 := p1); (refine (TR _).mono ?_); (rintro e w4 ⟨rfl, hw4⟩); (subst w4))
    | (go_at_call 158; (have mk3 := p1); (refine (DG _).mono ?_); (rintro e w3 ⟨rfl, hw3⟩); (subst w3))
    | (go_at_call 107; (have mk2 := p1); (refine (NA _).mono ?_); (rintro e w2 ⟨rfl, hw2⟩); (subst w2))
    | (go_at_call 108; (refine (CS _).mono ?_); (rintro e w1 ⟨rfl, b1⟩); (have p1 := bel' pr b1); (have KR1 := KR.grow b1); (have c10 := KR1.c0); (have c11 := KR1.c1); (have c12 := KR1.c2); (have f10 := KR1.f0); (have f11 := KR1.f1); (have f12 := KR1.f2))
    | fail)
  have KE := KR9.sets (.bool false) (.slice none 0 0) (.slice none 0 0)
  have bE := bset3 (n := w.heap.size) (x := .bool false) (y := .slice none 0 0) (z := .slice none 0 0) p9 (Nat.le_refl _)
  exact bodyPost_ret (v := .tuple #[.agg #[.bool false, .slice none 0 0, .slice none 0 0], .int .i64 2]) (by simp [results, Tryz.results140, go_sem, KE.c0, KE.c1, KE.c2]) rfl ⟨rfl, bE⟩
end Go.Proofs.YtebilgnmnambnaaGreatDoor.Mo

namespace Go.Proofs.YtebilgnmnambnaaGreatDoor.Mo
open Go.RowKit Tn
set_option maxRecDepth 100000 in
set_option maxHeartbeats 6400000 in
theorem PT_slash_ok (s A B : ByteArray) (t : Rat) (w : World) (C1 : ∀ x, Below w.heap.size w x → Calls Tryz.prog 138 #[.string s, .string ⟨#[47]⟩] x fun e w' => e = .returned (.tuple #[.string A, .string B, .bool true]) ∧ Below x.heap.size x w') (PC : ∀ x, Below w.heap.size w x → Calls Tryz.prog 139 #[.string A, .string B] x (Fr t x)) : Calls Tryz.prog 74 #[.string s] w (Fr t w) := by
  have KR := Rb.new w (.bool false) (.slice none 0 0) (.slice none 0 0) 67
  have pr : Below w.heap.size w (w.alloc (.cells #[.bool false, .slice none 0 0, .slice none 0 0] 67)) := (Below.refl _ _).alloc (Nat.le_refl _) _
  go_enter Tryz.func74, Tryz.ntmps74
  go_wp2_with (first
    | (go_at_call 139; (have mk2 := p1); (refine (PC _ p1).mono ?_); (rintro e w2 ⟨g2, a2, l2, c2, a2', l2', c2', rfl, t2, b2⟩); (have p2 := bel' p1 b2); (have KR2 := KR1.grow b2); (have c20 := KR2.c0); (have c21 := KR2.c1); (have c22 := KR2.c2); (have f20 := KR2.f0); (have f21 := KR2.f1); (have f22 := KR2.f2))
    | (go_at_call 138; (refine (C1 _ pr).mono ?_); (rintro e w1 ⟨rfl, b1⟩); (have p1 := bel' pr b1); (have KR1 := KR.grow b1); (have c10 := KR1.c0); (have c11 := KR1.c1); (have c12 := KR1.c2); (have f10 := KR1.f0); (have f11 := KR1.f1); (have f12 := KR1.f2))
    | fail)
  have KE := KR2.sets (.bool g2) (.slice a2 l2 c2) (.slice a2' l2' c2')
  have tE := t2.putF (x := .bool g2) (y := .slice a2 l2 c2) (z := .slice a2' l2' c2') KR2
  have bE := bset3 (n := w.heap.size) (x := .bool g2) (y := .slice a2 l2 c2) (z := .slice a2' l2' c2') p2 (Nat.le_refl _)
  exact bodyPost_ret (v := .tuple #[.agg #[.bool g2, .slice a2 l2 c2, .slice a2' l2' c2'], .int .i64 0]) (by simp [results, Tryz.results74, go_sem, KE.c0, KE.c1, KE.c2]) rfl ⟨_, _, _, _, _, _, _, rfl, tE, bE⟩
set_option maxRecDepth 100000 in
set_option maxHeartbeats 6400000 in
theorem PT_slash_err (s A B : ByteArray) (c : Int) (w : World) (C1 : ∀ x, Below w.heap.size w x → Calls Tryz.prog 138 #[.string s, .string ⟨#[47]⟩] x fun e w' => e = .returned (.tuple #[.string A, .string B, .bool true]) ∧ Below x.heap.size x w') (PC : ∀ x, Below w.heap.size w x → Calls Tryz.prog 139 #[.string A, .string B] x (fun e w' => e = .returned (.tuple #[.agg #[.bool false, .slice none 0 0, .slice none 0 0], .int .i64 c]) ∧ Below x.heap.size x w')) : Calls Tryz.prog 74 #[.string s] w fun e w' => e = .returned (.tuple #[.agg #[.bool false, .slice none 0 0, .slice none 0 0], .int .i64 c]) ∧ Below w.heap.size w w' := by
  have KR := Rb.new w (.bool false) (.slice none 0 0) (.slice none 0 0) 67
  have pr : Below w.heap.size w (w.alloc (.cells #[.bool false, .slice none 0 0, .slice none 0 0] 67)) := (Below.refl _ _).alloc (Nat.le_refl _) _
  go_enter Tryz.func74, Tryz.ntmps74
  go_wp2_with (first
    | (go_at_call 139; (have mk2 := p1); (refine (PC _ p1).mono ?_); (rintro e w2 ⟨rfl, b2⟩); (have p2 := bel' p1 b2); (have KR2 := KR1.grow b2); (have c20 := KR2.c0); (have c21 := KR2.c1); (have c22 := KR2.c2); (have f20 := KR2.f0); (have f21 := KR2.f1); (have f22 := KR2.f2))
    | (go_at_call 138; (refine (C1 _ pr).mono ?_); (rintro e w1 ⟨rfl, b1⟩); (have p1 := bel' pr b1); (have KR1 := KR.grow b1); (have c10 := KR1.c0); (have c11 := KR1.c1); (have c12 := KR1.c2); (have f10 := KR1.f0); (have f11 := KR1.f1); (have f12 := KR1.f2))
    | fail)
  have KE := KR2.sets (.bool false) (.slice none 0 0) (.slice none 0 0)
  have bE := bset3 (n := w.heap.size) (x := .bool false) (y := .slice none 0 0) (z := .slice none 0 0) p2 (Nat.le_refl _)
  exact bodyPost_ret (v := .tuple #[.agg #[.bool false, .slice none 0 0, .slice none 0 0], .int .i64 c]) (by simp [results, Tryz.results74, go_sem, KE.c0, KE.c1, KE.c2]) rfl ⟨rfl, bE⟩
set_option maxRecDepth 100000 in
set_option maxHeartbeats 6400000 in
theorem PT_point_ok (s A B A' B' : ByteArray) (t : Rat) (w : World) (C1 : ∀ x, Below w.heap.size w x → Calls Tryz.prog 138 #[.string s, .string ⟨#[47]⟩] x fun e w' => e = .returned (.tuple #[.string A, .string B, .bool false]) ∧ Below x.heap.size x w') (C2 : ∀ x, Below w.heap.size w x → Calls Tryz.prog 138 #[.string s, .string ⟨#[46]⟩] x fun e w' => e = .returned (.tuple #[.string A', .string B', .bool true]) ∧ Below x.heap.size x w') (PC : ∀ x, Below w.heap.size w x → Calls Tryz.prog 140 #[.string A', .string B'] x (Fr t x)) : Calls Tryz.prog 74 #[.string s] w (Fr t w) := by
  have KR := Rb.new w (.bool false) (.slice none 0 0) (.slice none 0 0) 67
  have pr : Below w.heap.size w (w.alloc (.cells #[.bool false, .slice none 0 0, .slice none 0 0] 67)) := (Below.refl _ _).alloc (Nat.le_refl _) _
  go_enter Tryz.func74, Tryz.ntmps74
  go_wp2_with (first
    | (go_at_call 140; (have mk3 := p2); (refine (PC _ p2).mono ?_); (rintro e w3 ⟨g3, a3, l3, c3, a3', l3', c3', rfl, t3, b3⟩); (have p3 := bel' p2 b3); (have KR3 := KR2.grow b3); (have c30 := KR3.c0); (have c31 := KR3.c1); (have c32 := KR3.c2); (have f30 := KR3.f0); (have f31 := KR3.f1); (have f32 := KR3.f2))
    | (go_at_call 138; (have mk2 := p1); (refine (C2 _ p1).mono ?_); (rintro e w2 ⟨rfl, b2⟩); (have p2 := bel' p1 b2); (have KR2 := KR1.grow b2); (have c20 := KR2.c0); (have c21 := KR2.c1); (have c22 := KR2.c2); (have f20 := KR2.f0); (have f21 := KR2.f1); (have f22 := KR2.f2))
    | (go_at_call 138; (refine (C1 _ pr).mono ?_); (rintro e w1 ⟨rfl, b1⟩); (have p1 := bel' pr b1); (have KR1 := KR.grow b1); (have c10 := KR1.c0); (have c11 := KR1.c1); (have c12 := KR1.c2); (have f10 := KR1.f0); (have f11 := KR1.f1); (have f12 := KR1.f2))
    | fail)
  have KE := KR3.sets (.bool g3) (.slice a3 l3 c3) (.slice a3' l3' c3')
  have tE := t3.putF (x := .bool g3) (y := .slice a3 l3 c3) (z := .slice a3' l3' c3') KR3
  have bE := bset3 (n := w.heap.size) (x := .bool g3) (y := .slice a3 l3 c3) (z := .slice a3' l3' c3') p3 (Nat.le_refl _)
  exact bodyPost_ret (v := .tuple #[.agg #[.bool g3, .slice a3 l3 c3, .slice a3' l3' c3'], .int .i64 0]) (by simp [results, Tryz.results74, go_sem, KE.c0, KE.c1, KE.c2]) rfl ⟨_, _, _, _, _, _, _, rfl, tE, bE⟩
set_option maxRecDepth 100000 in
set_option maxHeartbeats 6400000 in
theorem PT_point_err (s A B A' B' : ByteArray) (c : Int) (w : World) (C1 : ∀ x, Below w.heap.size w x → Calls Tryz.prog 138 #[.string s, .string ⟨#[47]⟩] x fun e w' => e = .returned (.tuple #[.string A, .string B, .bool false]) ∧ Below x.heap.size x w') (C2 : ∀ x, Below w.heap.size w x → Calls Tryz.prog 138 #[.string s, .string ⟨#[46]⟩] x fun e w' => e = .returned (.tuple #[.string A', .string B', .bool true]) ∧ Below x.heap.size x w') (PC : ∀ x, Below w.heap.size w x → Calls Tryz.prog 140 #[.string A', .string B'] x (fun e w' => e = .returned (.tuple #[.agg #[.bool false, .slice none 0 0, .slice none 0 0], .int .i64 c]) ∧ Below x.heap.size x w')) : Calls Tryz.prog 74 #[.string s] w fun e w' => e = .returned (.tuple #[.agg #[.bool false, .slice none 0 0, .slice none 0 0], .int .i64 c]) ∧ Below w.heap.size w w' := by
  have KR := Rb.new w (.bool false) (.slice none 0 0) (.slice none 0 0) 67
  have pr : Below w.heap.size w (w.alloc (.cells #[.bool false, .slice none 0 0, .slice none 0 0] 67)) := (Below.refl _ _).alloc (Nat.le_refl _) _
  go_enter Tryz.func74, Tryz.ntmps74
  go_wp2_with (first
    | (go_at_call 140; (have mk3 := p2); (refine (PC _ p2).mono ?_); (rintro e w3 ⟨rfl, b3⟩); (have p3 := bel' p2 b3); (have KR3 := KR2.grow b3); (have c30 := KR3.c0); (have c31 := KR3.c1); (have c32 := KR3.c2); (have f30 := KR3.f0); (have f31 := KR3.f1); (have f32 := KR3.f2))
    | (go_at_call 138; (have mk2 := p1); (refine (C2 _ p1).mono ?_); (rintro e w2 ⟨rfl, b2⟩); (have p2 := bel' p1 b2); (have KR2 := KR1.grow b2); (have c20 := KR2.c0); (have c21 := KR2.c1); (have c22 := KR2.c2); (have f20 := KR2.f0); (have f21 := KR2.f1); (have f22 := KR2.f2))
    | (go_at_call 138; (refine (C1 _ pr).mono ?_); (rintro e w1 ⟨rfl, b1⟩); (have p1 := bel' pr b1); (have KR1 := KR.grow b1); (have c10 := KR1.c0); (have c11 := KR1.c1); (have c12 := KR1.c2); (have f10 := KR1.f0); (have f11 := KR1.f1); (have f12 := KR1.f2))
    | fail)
  have KE := KR3.sets (.bool false) (.slice none 0 0) (.slice none 0 0)
  have bE := bset3 (n := w.heap.size) (x := .bool false) (y := .slice none 0 0) (z := .slice none 0 0) p3 (Nat.le_refl _)
  exact bodyPost_ret (v := .tuple #[.agg #[.bool false, .slice none 0 0, .slice none 0 0], .int .i64 c]) (by simp [results, Tryz.results74, go_sem, KE.c0, KE.c1, KE.c2]) rfl ⟨rfl, bE⟩
set_option maxRecDepth 100000 in
set_option maxHeartbeats 6400000 in
theorem PT_plain_ok (s A B A' B' : ByteArray) (t : Rat) (w : World) (C1 : ∀ x, Below w.heap.size w x → Calls Tryz.prog 138 #[.string s, .string ⟨#[47]⟩] x fun e w' => e = .returned (.tuple #[.string A, .string B, .bool false]) ∧ Below x.heap.size x w') (C2 : ∀ x, Below w.heap.size w x → Calls Tryz.prog 138 #[.string s, .string ⟨#[46]⟩] x fun e w' => e = .returned (.tuple #[.string A', .string B', .bool false]) ∧ Below x.heap.size x w') (PC : ∀ x, Below w.heap.size w x → Calls Tryz.prog 139 #[.string s, .string ⟨#[49]⟩] x (Fr t x)) : Calls Tryz.prog 74 #[.string s] w (Fr t w) := by
  have KR := Rb.new w (.bool false) (.slice none 0 0) (.slice none 0 0) 67
  have pr : Below w.heap.size w (w.alloc (.cells #[.bool false, .slice none 0 0, .slice none 0 0] 67)) := (Below.refl _ _).alloc (Nat.le_refl _) _
  go_enter Tryz.func74, Tryz.ntmps74
  go_wp2_with (first
    | (go_at_call 139; (have mk3 := p2); (refine (PC _ p2).mono ?_); (rintro e w3 ⟨g3, a3, l3, c3, a3', l3', c3', rfl, t3, b3⟩); (have p3 := bel' p2 b3); (have KR3 := KR2.grow b3); (have c30 := KR3.c0); (have c31 := KR3.c1); (have c32 := KR3.c2); (have f30 := KR3.f0); (have f31 := KR3.f1); (have f32 := KR3.f2))
    | (go_at_call 138; (have mk2 := p1); (refine (C2 _ p1).mono ?_); (rintro e w2 ⟨rfl, b2⟩); (have p2 := bel' p1 b2); (have KR2 := KR1.grow b2); (have c20 := KR2.c0); (have c21 := KR2.c1); (have c22 := KR2.c2); (have f20 := KR2.f0); (have f21 := KR2.f1); (have f22 := KR2.f2))
    | (go_at_call 138; (refine (C1 _ pr).mono ?_); (rintro e w1 ⟨rfl, b1⟩); (have p1 := bel' pr b1); (have KR1 := KR.grow b1); (have c10 := KR1.c0); (have c11 := KR1.c1); (have c12 := KR1.c2); (have f10 := KR1.f0); (have f11 := KR1.f1); (have f12 := KR1.f2))
    | fail)
  have KE := KR3.sets (.bool g3) (.slice a3 l3 c3) (.slice a3' l3' c3')
  have tE := t3.putF (x := .bool g3) (y := .slice a3 l3 c3) (z := .slice a3' l3' c3') KR3
  have bE := bset3 (n := w.heap.size) (x := .bool g3) (y := .slice a3 l3 c3) (z := .slice a3' l3' c3') p3 (Nat.le_refl _)
  exact bodyPost_ret (v := .tuple #[.agg #[.bool g3, .slice a3 l3 c3, .slice a3' l3' c3'], .int .i64 0]) (by simp [results, Tryz.results74, go_sem, KE.c0, KE.c1, KE.c2]) rfl ⟨_, _, _, _, _, _, _, rfl, tE, bE⟩
set_option maxRecDepth 100000 in
set_option maxHeartbeats 6400000 in
theorem PT_plain_err (s A B A' B' : ByteArray) (c : Int) (w : World) (C1 : ∀ x, Below w.heap.size w x → Calls Tryz.prog 138 #[.string s, .string ⟨#[47]⟩] x fun e w' => e = .returned (.tuple #[.string A, .string B, .bool false]) ∧ Below x.heap.size x w') (C2 : ∀ x, Below w.heap.size w x → Calls Tryz.prog 138 #[.string s, .string ⟨#[46]⟩] x fun e w' => e = .returned (.tuple #[.string A', .string B', .bool false]) ∧ Below x.heap.size x w') (PC : ∀ x, Below w.heap.size w x → Calls Tryz.prog 139 #[.string s, .string ⟨#[49]⟩] x (fun e w' => e = .returned (.tuple #[.agg #[.bool false, .slice none 0 0, .slice none 0 0], .int .i64 c]) ∧ Below x.heap.size x w')) : Calls Tryz.prog 74 #[.string s] w fun e w' => e = .returned (.tuple #[.agg #[.bool false, .slice none 0 0, .slice none 0 0], .int .i64 c]) ∧ Below w.heap.size w w' := by
  have KR := Rb.new w (.bool false) (.slice none 0 0) (.slice none 0 0) 67
  have pr : Below w.heap.size w (w.alloc (.cells #[.bool false, .slice none 0 0, .slice none 0 0] 67)) := (Below.refl _ _).alloc (Nat.le_refl _) _
  go_enter Tryz.func74, Tryz.ntmps74
  go_wp2_with (first
    | (go_at_call 139; (have mk3 := p2); (refine (PC _ p2).mono ?_); (rintro e w3 ⟨rfl, b3⟩); (have p3 := bel' p2 b3); (have KR3 := KR2.grow b3); (have c30 := KR3.c0); (have c31 := KR3.c1); (have c32 := KR3.c2); (have f30 := KR3.f0); (have f31 := KR3.f1); (have f32 := KR3.f2))
    | (go_at_call 138; (have mk2 := p1); (refine (C2 _ p1).mono ?_); (rintro e w2 ⟨rfl, b2⟩); (have p2 := bel' p1 b2); (have KR2 := KR1.grow b2); (have c20 := KR2.c0); (have c21 := KR2.c1); (have c22 := KR2.c2); (have f20 := KR2.f0); (have f21 := KR2.f1); (have f22 := KR2.f2))
    | (go_at_call 138; (refine (C1 _ pr).mono ?_); (rintro e w1 ⟨rfl, b1⟩); (have p1 := bel' pr b1); (have KR1 := KR.grow b1); (have c10 := KR1.c0); (have c11 := KR1.c1); (have c12 := KR1.c2); (have f10 := KR1.f0); (have f11 := KR1.f1); (have f12 := KR1.f2))
    | fail)
  have KE := KR3.sets (.bool false) (.slice none 0 0) (.slice none 0 0)
  have bE := bset3 (n := w.heap.size) (x := .bool false) (y := .slice none 0 0) (z := .slice none 0 0) p3 (Nat.le_refl _)
  exact bodyPost_ret (v := .tuple #[.agg #[.bool false, .slice none 0 0, .slice none 0 0], .int .i64 c]) (by simp [results, Tryz.results74, go_sem, KE.c0, KE.c1, KE.c2]) rfl ⟨rfl, bE⟩
set_option maxRecDepth 100000 in
set_option maxHeartbeats 6400000 in
theorem PP_long (s : ByteArray) (w : World) (hs : (s.size : Int) > 65536) : Calls Tryz.prog 19 #[.string s] w fun e w' => e = .returned (.tuple #[.agg #[.string ⟨#[]⟩, .string ⟨#[]⟩], .int .i64 3]) ∧ Below w.heap.size w w' := by
  have pr : Below w.heap.size w (w.alloc (.cells #[.string ⟨#[]⟩, .string ⟨#[]⟩] 23)) := (Below.refl _ _).alloc (Nat.le_refl _) _
  go_enter Tryz.func19, Tryz.ntmps19
  go_wp2
  exact bodyPost_ret (v := .tuple #[.agg #[.string ⟨#[]⟩, .string ⟨#[]⟩], .int .i64 3]) (by simp [results, Tryz.results19, go_sem]) rfl ⟨rfl, pr⟩
set_option maxRecDepth 100000 in
set_option maxHeartbeats 6400000 in
theorem PP_err (s : ByteArray) (c : Int) (w : World) (hs : ¬ (s.size : Int) > 65536) (hc : (c != 0) = true) (PT : ∀ x, Below w.heap.size w x → Calls Tryz.prog 74 #[.string s] x (fun e w' => e = .returned (.tuple #[.agg #[.bool false, .slice none 0 0, .slice none 0 0], .int .i64 c]) ∧ Below x.heap.size x w')) : Calls Tryz.prog 19 #[.string s] w fun e w' => e = .returned (.tuple #[.agg #[.string ⟨#[]⟩, .string ⟨#[]⟩], .int .i64 c]) ∧ Below w.heap.size w w' := by
  have KR := Blk.new w #[.string ⟨#[]⟩, .string ⟨#[]⟩] 23
  have pr : Below w.heap.size w (w.alloc (.cells #[.string ⟨#[]⟩, .string ⟨#[]⟩] 23)) := (Below.refl _ _).alloc (Nat.le_refl _) _
  go_enter Tryz.func19, Tryz.ntmps19
  go_wp2_with (first
    | (go_at_call 74; (refine (PT _ pr).mono ?_); (rintro e w1 ⟨rfl, b1⟩); (have al1 := (Below.refl w1.heap.size w1).alloc (Nat.le_refl _) (.cells #[.bool false, .slice none 0 0, .slice none 0 0] 67)); (have bb1 := bel' b1 al1); (have p1 := bel' pr bb1); (have KR1 := KR.below bb1 KR.lt); (have z0 := KR1.at 0); (have z1 := KR1.at 1); (have y0 := KR1.free 0); (have y1 := KR1.free 1); (simp at z0 z1))
    | fail)
  have KE := bput (bput KR1 0 (.string ⟨#[]⟩)) 1 (.string ⟨#[]⟩)
  have bE := (p1.setCell (p := ⟨w.heap.size, 0, none⟩) (Nat.le_refl _) (.string ⟨#[]⟩)).setCell (p := ⟨w.heap.size, 1, none⟩) (Nat.le_refl _) (.string ⟨#[]⟩)
  have q0 := KE.at 0
  have q1 := KE.at 1
  simp at q0 q1
  exact bodyPost_ret (v := .tuple #[.agg #[.string ⟨#[]⟩, .string ⟨#[]⟩], .int .i64 c]) (by simp [results, Tryz.results19, go_sem, q0, q1]) rfl ⟨rfl, bE⟩
set_option maxRecDepth 100000 in
set_option maxHeartbeats 6400000 in
theorem PP_ok (s u v : ByteArray) (t : Rat) (er : Int) (w : World) (hs : ¬ (s.size : Int) > 65536) (PT : ∀ x, Below w.heap.size w x → Calls Tryz.prog 74 #[.string s] x (Fr t x)) (RA : ∀ x v1, Below w.heap.size w x → PF x v1 t → Calls Tryz.prog 44 #[v1] x fun e w' => e = .returned (.tuple #[.agg #[.string u, .string v], .int .i64 er]) ∧ Below x.heap.size x w') : Calls Tryz.prog 19 #[.string s] w fun e w' => e = .returned (.tuple #[.agg #[.string u, .string v], .int .i64 er]) ∧ Below w.heap.size w w' := by
  have KR := Blk.new w #[.string ⟨#[]⟩, .string ⟨#[]⟩] 23
  have pr : Below w.heap.size w (w.alloc (.cells #[.string ⟨#[]⟩, .string ⟨#[]⟩] 23)) := (Below.refl _ _).alloc (Nat.le_refl _) _
  go_enter Tryz.func19, Tryz.ntmps19
  go_wp2_with (first
    | (go_at_call 44; (have mk := q1); (refine (RA _ _ p1 q1).mono ?_); (rintro e w2 ⟨rfl, b2⟩); (have p2 := bel' p1 b2); (have KR2 := KR1.below b2 KR1.lt); (have z0 := KR2.at 0); (have z1 := KR2.at 1); (have y0 := KR2.free 0); (have y1 := KR2.free 1); (simp at z0 z1))
    | (go_at_call 74; (refine (PT _ pr).mono ?_); (rintro e w1 ⟨g1, a1, l1, c1, a1', l1', c1', rfl, t1, b1⟩); (have al1 := (Below.refl w1.heap.size w1).alloc (Nat.le_refl _) (.cells #[.bool g1, .slice a1 l1 c1, .slice a1' l1' c1'] 67)); (have bb1 := bel' b1 al1); (have p1 := bel' pr bb1); (have q1 := t1.grow al1); (have KF := Rb.new w1 (.bool g1) (.slice a1 l1 c1) (.slice a1' l1' c1') 67); (have k0 := KF.c0); (have k1 := KF.c1); (have k2 := KF.c2); (have KR1 := KR.below bb1 KR.lt); (have z0 := KR1.at 0); (have z1 := KR1.at 1); (have y0 := KR1.free 0); (have y1 := KR1.free 1); (simp at z0 z1))
    | fail)
  have KE := bput (bput KR2 0 (.string u)) 1 (.string v)
  have bE := (p2.setCell (p := ⟨w.heap.size, 0, none⟩) (Nat.le_refl _) (.string u)).setCell (p := ⟨w.heap.size, 1, none⟩) (Nat.le_refl _) (.string v)
  have q0 := KE.at 0
  have q1 := KE.at 1
  simp at q0 q1
  exact bodyPost_ret (v := .tuple #[.agg #[.string u, .string v], .int .i64 er]) (by simp [results, Tryz.results19, go_sem, q0, q1]) rfl ⟨rfl, bE⟩
end Go.Proofs.YtebilgnmnambnaaGreatDoor.Mo
