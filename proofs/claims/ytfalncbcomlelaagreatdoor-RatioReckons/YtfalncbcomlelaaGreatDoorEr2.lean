import Derived.Test.YtfalncbcomlelaaGreatDoorEr1
import Derived.Test.YtfalncbcomlelaaGreatDoorGcd9
import Derived.Test.YtfalncbcomlelaaGreatDoorPa2
import Derived.Deep.RegionHeld3
namespace Go.Proofs.YtfalncbcomlelaaGreatDoor.Mo
open Go.RowKit Dc

/-- The shape of an exact number, its divisors aside. -/
def shB (n d : ByteArray) : Bool := whB n && natB d && !is0 d && !(is0 n && !is1 d)
/-- No number, and what is wrong. -/
abbrev noR (e : Int) : Value := .tuple #[.agg #[.bool false, .slice none 0 0, .slice none 0 0], .int .i64 e]
theorem bel' {w W w1 : World} (pr : Below w.heap.size w W) (b1 : Below W.heap.size W w1) : Below w.heap.size w w1 := pr.trans (b1.mono pr.size)
/-- A fraction in its own block. -/
structure Rb (W : World) (n : Nat) (a b c : Value) : Prop where
  c0 : W.cell? ⟨n, 0, none⟩ = some a
  c1 : W.cell? ⟨n, 1, none⟩ = some b
  c2 : W.cell? ⟨n, 2, none⟩ = some c
  f0 : W.frozen? ⟨n, 0, none⟩ = false
  f1 : W.frozen? ⟨n, 1, none⟩ = false
  f2 : W.frozen? ⟨n, 2, none⟩ = false
  bk : ∃ t, Blk W n #[a, b, c] t
theorem Rb.new (w : World) (a b c : Value) (t : TypeId) : Rb (w.alloc (.cells #[a, b, c] t)) w.heap.size a b c := ⟨by simp, by simp, by simp, by simp, by simp, by simp, t, Blk.new _ _ _⟩
theorem Rb.grow {w w' : World} {n : Nat} {a b c : Value} (h : Rb w n a b c) (k : Below w.heap.size w w') : Rb w' n a b c := by
  have l := L.lt_of_cell h.c0
  exact ⟨(k.cell (p := ⟨n, 0, none⟩) l).trans h.c0, (k.cell (p := ⟨n, 1, none⟩) l).trans h.c1, (k.cell (p := ⟨n, 2, none⟩) l).trans h.c2, (k.frozen (p := ⟨n, 0, none⟩) l).trans h.f0, (k.frozen (p := ⟨n, 1, none⟩) l).trans h.f1, (k.frozen (p := ⟨n, 2, none⟩) l).trans h.f2, by obtain ⟨t, e⟩ := h.bk; exact ⟨t, e.below k l⟩⟩
theorem Rb.alloc {w : World} {n : Nat} {a b c : Value} (h : Rb w n a b c) (o : Obj) : Rb (w.alloc o) n a b c := h.grow ((Below.refl _ _).alloc (Nat.le_refl _) o)
theorem Rb.put {W : World} {n : Nat} {a b c : Value} (h : Rb W n a b c) (x y z : Value) :
    (((W.setCell ⟨n, 0, none⟩ x).setCell ⟨n, 1, none⟩ y).setCell ⟨n, 2, none⟩ z).cell? ⟨n, 0, none⟩ = some x ∧ (((W.setCell ⟨n, 0, none⟩ x).setCell ⟨n, 1, none⟩ y).setCell ⟨n, 2, none⟩ z).cell? ⟨n, 1, none⟩ = some y ∧ (((W.setCell ⟨n, 0, none⟩ x).setCell ⟨n, 1, none⟩ y).setCell ⟨n, 2, none⟩ z).cell? ⟨n, 2, none⟩ = some z := by
  have h1 : (W.setCell ⟨n, 0, none⟩ x).cell? ⟨n, 1, none⟩ = some b := (World.cell?_setCell_other _ _ _ _ (by simp)).trans h.c1
  have h2 : ((W.setCell ⟨n, 0, none⟩ x).setCell ⟨n, 1, none⟩ y).cell? ⟨n, 2, none⟩ = some c := (World.cell?_setCell_other _ _ _ _ (by simp)).trans ((World.cell?_setCell_other _ _ _ _ (by simp)).trans h.c2)
  refine ⟨?_, ?_, World.cell?_setCell_same _ _ _ h2⟩
  · rw [World.cell?_setCell_other _ _ _ _ (by simp), World.cell?_setCell_other _ _ _ _ (by simp), World.cell?_setCell_same _ _ _ h.c0]
  · rw [World.cell?_setCell_other _ _ _ _ (by simp), World.cell?_setCell_same _ _ _ h1]
/-- A fraction's cells lie apart from all words. -/
theorem Rd.putF {w : World} {n : Nat} {v x y z : Value} {xs : List Int} {g : Bool} {a1 a2 : Option Addr} {n1 c1 n2 c2 : Nat} (h : Rd w v xs) (R : Rb w n (.bool g) (.slice a1 n1 c1) (.slice a2 n2 c2)) : Rd (((w.setCell ⟨n, 0, none⟩ x).setCell ⟨n, 1, none⟩ y).setCell ⟨n, 2, none⟩ z) v xs := by
  obtain ⟨t, K⟩ := R.bk
  obtain ⟨h1, a, cap, h2, h3, h4, h5⟩ := h
  refine ⟨h1, a, cap, h2, h3, h4, fun l => ?_⟩
  obtain ⟨b, o, e, c⟩ := h5 l
  have hne : b ≠ n := by
    rintro rfl
    have h0 := c 0 (by omega)
    rw [K.at] at h0
    rcases (show o + 0 = 0 ∨ o + 0 = 1 ∨ o + 0 = 2 ∨ 3 ≤ o + 0 by omega) with e | e | e | e
    · rw [e] at h0; simp at h0
    · rw [e] at h0; simp at h0
    · rw [e] at h0; simp at h0
    · rw [Array.getElem?_eq_none (by simpa using e)] at h0; simp at h0
  refine ⟨b, o, e, fun i hi => ?_⟩
  rw [World.cell?_setCell_other _ _ _ _ (by simp; try omega), World.cell?_setCell_other _ _ _ _ (by simp; try omega), World.cell?_setCell_other _ _ _ _ (by simp; try omega)]
  exact c i hi
theorem bset3 {w W : World} {n : Nat} {x y z : Value} (h : Below w.heap.size w W) (hn : w.heap.size ≤ n) : Below w.heap.size w (((W.setCell ⟨n, 0, none⟩ x).setCell ⟨n, 1, none⟩ y).setCell ⟨n, 2, none⟩ z) :=
  ((h.setCell (p := ⟨n, 0, none⟩) hn x).setCell (p := ⟨n, 1, none⟩) hn y).setCell (p := ⟨n, 2, none⟩) hn z

set_option maxHeartbeats 1600000 in
set_option maxRecDepth 100000 in
theorem Read_shape (n d : ByteArray) (w : World) (hn : n.size ≤ 9223372036854775807) (hd : d.size ≤ 9223372036854775807) (h : shB n d = false) :
    Calls Tryz.prog 23 #[.agg #[.string n, .string d]] w fun e w' => e = .returned (noR 5) ∧ Below w.heap.size w w' := by
  have W1 := fun W => IsWhole_any n W hn
  have N1 := fun W => IsNatural_any d W hd
  unfold shB is0 is1 at h
  generalize whB n = b1 at *
  generalize natB d = b2 at *
  obtain ⟨q1, h1⟩ : ∃ q, (d.toList == [48]) = q := ⟨_, rfl⟩
  obtain ⟨q2, h2⟩ : ∃ q, (n.toList == [48]) = q := ⟨_, rfl⟩
  obtain ⟨q3, h3⟩ : ∃ q, (d.toList == [49]) = q := ⟨_, rfl⟩
  rw [h1, h2, h3] at h
  have K0 : Blk _ _ _ _ := (Blk.new w #[.string n, .string d] 23).alloc (.cells #[.bool false, .slice none 0 0, .slice none 0 0] 58)
  have K1 := Rb.new (w.alloc (.cells #[.string n, .string d] 23)) (.bool false) (.slice none 0 0) (.slice none 0 0) 58
  have pr : Below w.heap.size w ((w.alloc (.cells #[.string n, .string d] 23)).alloc (.cells #[.bool false, .slice none 0 0, .slice none 0 0] 58)) := ((Below.refl _ _).alloc (Nat.le_refl _) _).alloc (by simp) _
  simp only [World.size_alloc] at K1
  have hh : b1 = false ∨ (b1 = true ∧ b2 = false) ∨ (b1 = true ∧ b2 = true ∧ q1 = true) ∨ (b1 = true ∧ b2 = true ∧ q1 = false ∧ q2 = true ∧ q3 = false) := by
    revert h; cases b1 <;> cases b2 <;> cases q1 <;> cases q2 <;> cases q3 <;> simp
  clear h
  rcases hh with rfl | ⟨rfl, rfl⟩ | ⟨rfl, rfl, rfl⟩ | ⟨rfl, rfl, rfl, rfl, rfl⟩
  all_goals
    go_enter Tryz.func23, Tryz.ntmps23
    go_wp2_with (first
      | (go_at_call 63; (refine (W1 _).mono ?_); rintro e w1 ⟨rfl, b1⟩; have k0 : w1.cell? ⟨w.heap.size, 0, none⟩ = some (.string n) := (K0.below b1 K0.lt).at 0; have k1 : w1.cell? ⟨w.heap.size, 1, none⟩ = some (.string d) := (K0.below b1 K0.lt).at 1; have R := K1.grow b1; have r0 := R.c0; have r1 := R.c1; have r2 := R.c2; have s0 := R.f0; have s1 := R.f1; have s2 := R.f2)
      | (go_at_call 64; (refine (N1 _).mono ?_); rintro e w2 ⟨rfl, rfl⟩))
    obtain ⟨F0, F1, F2⟩ := R.put (.bool false) (.slice none 0 0) (.slice none 0 0)
    exact bodyPost_ret (v := noR 5) (by simp [results, Tryz.results23, go_sem, F0, F1, F2]) rfl ⟨rfl, bset3 (bel' pr b1) (by omega)⟩

set_option maxHeartbeats 1600000 in
set_option maxRecDepth 100000 in
theorem Read_long (n d : ByteArray) (w : World) (hn : n.size ≤ 9223372036854775807) (hd : d.size ≤ 9223372036854775807) (h : shB n d = true) (hl : 4096 < (rest n).size ∨ 4096 < d.size) :
    Calls Tryz.prog 23 #[.agg #[.string n, .string d]] w fun e w' => e = .returned (noR 3) ∧ Below w.heap.size w w' := by
  have W1 := fun W => IsWhole_any n W hn
  have N1 := fun W => IsNatural_any d W hd
  have C1 := fun W => CutSign_any n W hn
  have hr := rest_size n
  unfold shB is0 is1 at h
  generalize whB n = b1 at *
  generalize natB d = b2 at *
  generalize rest n = z at *
  generalize neg n = g at *
  obtain ⟨q1, h1⟩ : ∃ q, (d.toList == [48]) = q := ⟨_, rfl⟩
  obtain ⟨q2, h2⟩ : ∃ q, (n.toList == [48]) = q := ⟨_, rfl⟩
  obtain ⟨q3, h3⟩ : ∃ q, (d.toList == [49]) = q := ⟨_, rfl⟩
  rw [h1, h2, h3] at h
  have K0 : Blk _ _ _ _ := (Blk.new w #[.string n, .string d] 23).alloc (.cells #[.bool false, .slice none 0 0, .slice none 0 0] 58)
  have K1 := Rb.new (w.alloc (.cells #[.string n, .string d] 23)) (.bool false) (.slice none 0 0) (.slice none 0 0) 58
  have pr : Below w.heap.size w ((w.alloc (.cells #[.string n, .string d] 23)).alloc (.cells #[.bool false, .slice none 0 0, .slice none 0 0] 58)) := ((Below.refl _ _).alloc (Nat.le_refl _) _).alloc (by simp) _
  simp only [World.size_alloc] at K1
  have hh : (b1 = true ∧ b2 = true ∧ q1 = false ∧ q2 = false) ∨ (b1 = true ∧ b2 = true ∧ q1 = false ∧ q2 = true ∧ q3 = true) := by
    revert h; cases b1 <;> cases b2 <;> cases q1 <;> cases q2 <;> cases q3 <;> simp
  have hh2 : ((4096 : Int) < (z.size : Int)) ∨ (¬ (4096 : Int) < (z.size : Int) ∧ (4096 : Int) < (d.size : Int)) := by omega
  clear h hl
  rcases hh with ⟨rfl, rfl, rfl, rfl⟩ | ⟨rfl, rfl, rfl, rfl, rfl⟩ <;> rcases hh2 with hz | ⟨hz, hy⟩
  all_goals
    go_enter Tryz.func23, Tryz.ntmps23
    go_wp2_with (first
      | (go_at_call 63; (refine (W1 _).mono ?_); rintro e w1 ⟨rfl, b1⟩; have k0 : w1.cell? ⟨w.heap.size, 0, none⟩ = some (.string n) := (K0.below b1 K0.lt).at 0; have k1 : w1.cell? ⟨w.heap.size, 1, none⟩ = some (.string d) := (K0.below b1 K0.lt).at 1; replace K0 := K0.below b1 K0.lt; have R := K1.grow b1; replace pr := bel' pr b1)
      | (go_at_call 64; (refine (N1 _).mono ?_); rintro e w2 ⟨rfl, rfl⟩)
      | (go_at_call 65; (refine (C1 _).mono ?_); rintro e w3 ⟨rfl, b3⟩; have k2 : w3.cell? ⟨w.heap.size, 1, none⟩ = some (.string d) := (K0.below b3 K0.lt).at 1; replace R := R.grow b3; replace pr := bel' pr b3; have r0 := R.c0; have r1 := R.c1; have r2 := R.c2; have s0 := R.f0; have s1 := R.f1; have s2 := R.f2))
    obtain ⟨F0, F1, F2⟩ := R.put (.bool false) (.slice none 0 0) (.slice none 0 0)
    exact bodyPost_ret (v := noR 3) (by simp [results, Tryz.results23, go_sem, F0, F1, F2]) rfl ⟨rfl, bset3 pr (by omega)⟩
end Go.Proofs.YtfalncbcomlelaaGreatDoor.Mo
