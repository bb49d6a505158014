import Derived.Test.YtfalncbcomlelaaGreatDoorGd4
import Derived.Deep.RegionHeld3
namespace Go.Proofs.YtfalncbcomlelaaGreatDoor.Mo
open Go.RowKit Dc

theorem Ml.putQ {w1 : World} {b : Nat} {x y z : Value} {a : Option Addr} {l c : Nat} {N : Int} {g : Bool} {a1 a2 : Option Addr} {n1 c1 n2 c2 : Nat} {t : TypeId} (h : Ml w1 a l c N) (K : Blk w1 b #[.bool g, .slice a1 n1 c1, .slice a2 n2 c2] t) : Ml (((w1.setCell ⟨b, 0, none⟩ x).setCell ⟨b, 1, none⟩ y).setCell ⟨b, 2, none⟩ z) a l c N := by
  obtain ⟨xs, r, n, v, m⟩ := h
  exact ⟨xs, L.Rd.putQ r K, n, v, m⟩
set_option maxRecDepth 100000 in
set_option maxHeartbeats 1600000 in
theorem In_neg (n d S : ByteArray) (A B : Int) (w : World) (h0 : 0 < n.size) (ns : n.size ≤ 9223372036854775807) (hS : n.extract 1 n.size = S) (h45 : (((n[0].toNat : Int)) == 45) = true) (RS : ∀ x, Calls Tryz.prog 36 #[.string S] x fun e w' => ∃ a l c, e = .returned (.slice a l c) ∧ Ml w' a l c A ∧ Below x.heap.size x w') (RD : ∀ x, Calls Tryz.prog 36 #[.string d] x fun e w' => ∃ a l c, e = .returned (.slice a l c) ∧ Ml w' a l c B ∧ Below x.heap.size x w') :
    Calls Tryz.prog 27 #[.agg #[.string n, .string d]] w fun e w' => ∃ a l c a' l' c', e = .returned (.agg #[.bool true, .slice a l c, .slice a' l' c']) ∧ Ml w' a l c A ∧ Ml w' a' l' c' B ∧ Below w.heap.size w w' := by
  have K0 := (Blk.new w #[.string n, .string d] 23).alloc (.cells #[.bool false, .slice none 0 0, .slice none 0 0] 66)
  have KR := Blk.new (w.alloc (.cells #[.string n, .string d] 23)) #[.bool false, .slice none 0 0, .slice none 0 0] 66
  have pr : Below w.heap.size w ((w.alloc (.cells #[.string n, .string d] 23)).alloc (.cells #[.bool false, .slice none 0 0, .slice none 0 0] 66)) := ((Below.refl _ _).alloc (Nat.le_refl _) _).alloc (by simp) _
  simp only [World.size_alloc] at KR
  have h1 : (1 : Int) ≤ (n.size : Int) := by omega
  go_enter Tryz.func27, Tryz.ntmps27
  go_wp2_with fail
  generalize (w.alloc (.cells #[.string n, .string d] 23)).alloc (.cells #[.bool false, .slice none 0 0, .slice none 0 0] 66) = W at *
  have k0 : W.cell? ⟨w.heap.size, 0, none⟩ = some (.string n) := K0.at 0
  have k1 : W.cell? ⟨w.heap.size, 1, none⟩ = some (.string d) := K0.at 1
  go_region_held3 (fun x => x.cell? ⟨w.heap.size, 0, none⟩ = some (.string n) ∧ x.cell? ⟨w.heap.size, 1, none⟩ = some (.string d)) (go_keep) (first
    | (go_at_call 36; (have z := d1); refine (RD _).mono ?_; rintro e w2 ⟨a2, l2, c2, rfl, n2, d2'⟩; have m1 := n1.grow d2'; have d2 := bel' d1 d2'; have x0 : w2.cell? ⟨w.heap.size, 0, none⟩ = some (.string n) := (K0.below d2 K0.lt).at 0; have x1 : w2.cell? ⟨w.heap.size, 1, none⟩ = some (.string d) := (K0.below d2 K0.lt).at 1; have KR2 := KR.below d2 KR.lt; have r0 : w2.cell? ⟨w.heap.size + 1, 0, none⟩ = some (.bool false) := KR2.at 0; have r1 : w2.cell? ⟨w.heap.size + 1, 1, none⟩ = some (.slice none 0 0) := KR2.at 1; have r2 : w2.cell? ⟨w.heap.size + 1, 2, none⟩ = some (.slice none 0 0) := KR2.at 2; have s0 := KR2.free 0; have s1 := KR2.free 1; have s2 := KR2.free 2)
    | (go_at_call 36; refine (RS _).mono ?_; rintro e w1 ⟨a1, l1, c1, rfl, n1, d1'⟩; have d1 := undrew d1'; have y0 : w1.cell? ⟨w.heap.size, 0, none⟩ = some (.string n) := (K0.below d1 K0.lt).at 0; have y1 : w1.cell? ⟨w.heap.size, 1, none⟩ = some (.string d) := (K0.below d1 K0.lt).at 1)
    | fail)
  obtain ⟨F0, F1, F2, FB⟩ := L.put3 (.bool true) (.slice a1 l1 c1) (.slice a2 l2 c2) r0 r1 r2
  have N1 := m1.putQ (x := .bool true) (y := .slice a1 l1 c1) (z := .slice a2 l2 c2) KR2
  have N2 := n2.putQ (x := .bool true) (y := .slice a1 l1 c1) (z := .slice a2 l2 c2) KR2
  have BE := bset3 (n := w.heap.size + 1) (x := .bool true) (y := .slice a1 l1 c1) (z := .slice a2 l2 c2) (bel' pr d2) (by omega)
  go_wp2_with fail
  generalize ((w2.setCell ⟨w.heap.size + 1, 0, none⟩ (.bool true)).setCell ⟨w.heap.size + 1, 1, none⟩ (.slice a1 l1 c1)).setCell ⟨w.heap.size + 1, 2, none⟩ (.slice a2 l2 c2) = WE at *
  exact bodyPost_ret (v := .agg #[.bool true, .slice a1 l1 c1, .slice a2 l2 c2]) (by simp [results, Tryz.results27, go_sem, F0, F1, F2]) rfl ⟨_, _, _, _, _, _, rfl, N1, N2, BE⟩
set_option maxRecDepth 100000 in
set_option maxHeartbeats 1600000 in
theorem In_plain (n d : ByteArray) (A B : Int) (w : World) (h0 : 0 < n.size) (h45 : (((n[0].toNat : Int)) == 45) = false) (RS : ∀ x, Calls Tryz.prog 36 #[.string n] x fun e w' => ∃ a l c, e = .returned (.slice a l c) ∧ Ml w' a l c A ∧ Below x.heap.size x w') (RD : ∀ x, Calls Tryz.prog 36 #[.string d] x fun e w' => ∃ a l c, e = .returned (.slice a l c) ∧ Ml w' a l c B ∧ Below x.heap.size x w') :
    Calls Tryz.prog 27 #[.agg #[.string n, .string d]] w fun e w' => ∃ a l c a' l' c', e = .returned (.agg #[.bool false, .slice a l c, .slice a' l' c']) ∧ Ml w' a l c A ∧ Ml w' a' l' c' B ∧ Below w.heap.size w w' := by
  have K0 := (Blk.new w #[.string n, .string d] 23).alloc (.cells #[.bool false, .slice none 0 0, .slice none 0 0] 66)
  have KR := Blk.new (w.alloc (.cells #[.string n, .string d] 23)) #[.bool false, .slice none 0 0, .slice none 0 0] 66
  have pr : Below w.heap.size w ((w.alloc (.cells #[.string n, .string d] 23)).alloc (.cells #[.bool false, .slice none 0 0, .slice none 0 0] 66)) := ((Below.refl _ _).alloc (Nat.le_refl _) _).alloc (by simp) _
  simp only [World.size_alloc] at KR
  go_enter Tryz.func27, Tryz.ntmps27
  go_wp2_with fail
  generalize (w.alloc (.cells #[.string n, .string d] 23)).alloc (.cells #[.bool false, .slice none 0 0, .slice none 0 0] 66) = W at *
  have k0 : W.cell? ⟨w.heap.size, 0, none⟩ = some (.string n) := K0.at 0
  have k1 : W.cell? ⟨w.heap.size, 1, none⟩ = some (.string d) := K0.at 1
  go_region_held3 (fun x => x.cell? ⟨w.heap.size, 0, none⟩ = some (.string n) ∧ x.cell? ⟨w.heap.size, 1, none⟩ = some (.string d)) (go_keep) (first
    | (go_at_call 36; (have z := d1); refine (RD _).mono ?_; rintro e w2 ⟨a2, l2, c2, rfl, n2, d2'⟩; have m1 := n1.grow d2'; have d2 := bel' d1 d2'; have x0 : w2.cell? ⟨w.heap.size, 0, none⟩ = some (.string n) := (K0.below d2 K0.lt).at 0; have x1 : w2.cell? ⟨w.heap.size, 1, none⟩ = some (.string d) := (K0.below d2 K0.lt).at 1; have KR2 := KR.below d2 KR.lt; have r0 : w2.cell? ⟨w.heap.size + 1, 0, none⟩ = some (.bool false) := KR2.at 0; have r1 : w2.cell? ⟨w.heap.size + 1, 1, none⟩ = some (.slice none 0 0) := KR2.at 1; have r2 : w2.cell? ⟨w.heap.size + 1, 2, none⟩ = some (.slice none 0 0) := KR2.at 2; have s0 := KR2.free 0; have s1 := KR2.free 1; have s2 := KR2.free 2)
    | (go_at_call 36; refine (RS _).mono ?_; rintro e w1 ⟨a1, l1, c1, rfl, n1, d1'⟩; have d1 := undrew d1'; have y0 : w1.cell? ⟨w.heap.size, 0, none⟩ = some (.string n) := (K0.below d1 K0.lt).at 0; have y1 : w1.cell? ⟨w.heap.size, 1, none⟩ = some (.string d) := (K0.below d1 K0.lt).at 1)
    | fail)
  obtain ⟨F0, F1, F2, FB⟩ := L.put3 (.bool false) (.slice a1 l1 c1) (.slice a2 l2 c2) r0 r1 r2
  have N1 := m1.putQ (x := .bool false) (y := .slice a1 l1 c1) (z := .slice a2 l2 c2) KR2
  have N2 := n2.putQ (x := .bool false) (y := .slice a1 l1 c1) (z := .slice a2 l2 c2) KR2
  have BE := bset3 (n := w.heap.size + 1) (x := .bool false) (y := .slice a1 l1 c1) (z := .slice a2 l2 c2) (bel' pr d2) (by omega)
  go_wp2_with fail
  generalize ((w2.setCell ⟨w.heap.size + 1, 0, none⟩ (.bool false)).setCell ⟨w.heap.size + 1, 1, none⟩ (.slice a1 l1 c1)).setCell ⟨w.heap.size + 1, 2, none⟩ (.slice a2 l2 c2) = WE at *
  exact bodyPost_ret (v := .agg #[.bool false, .slice a1 l1 c1, .slice a2 l2 c2]) (by simp [results, Tryz.results27, go_sem, F0, F1, F2]) rfl ⟨_, _, _, _, _, _, rfl, N1, N2, BE⟩
end Go.Proofs.YtfalncbcomlelaaGreatDoor.Mo
