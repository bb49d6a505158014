import Derived.Test.YtfalncbcomlelaaGreatDoorFa0
import Derived.Test.YtfalncbcomlelaaGreatDoorRbs
import Derived.Test.YtfalncbcomlelaaGreatDoorEr11
namespace Go.Proofs.YtfalncbcomlelaaGreatDoor.Mo
open Go.RowKit

set_option maxRecDepth 100000 in
set_option maxHeartbeats 3200000 in
theorem readTwo_e1 (n d m k : ByteArray) (c : Int) (w : World) (hc : (c != 0) = true) (C1 : ∀ x, Below w.heap.size w x → Calls Tryz.prog 23 #[.agg #[.string n, .string d]] x fun e w' => e = .returned (.tuple #[.agg #[.bool false, .slice none 0 0, .slice none 0 0], .int .i64 c]) ∧ Below x.heap.size x w') : Calls Tryz.prog 39 #[.agg #[.string n, .string d], .agg #[.string m, .string k]] w fun e w' => e = .returned (.tuple #[.agg #[.bool false, .slice none 0 0, .slice none 0 0], .agg #[.bool false, .slice none 0 0, .slice none 0 0], .int .i64 c]) ∧ Below w.heap.size w w' := by
  have KA := (((Blk.new w #[.string n, .string d] 23).alloc (.cells #[.string m, .string k] 23)).alloc (.cells #[.bool false, .slice none 0 0, .slice none 0 0] 58)).alloc (.cells #[.bool false, .slice none 0 0, .slice none 0 0] 58)
  have KB := ((Blk.new (w.alloc (.cells #[.string n, .string d] 23)) #[.string m, .string k] 23).alloc (.cells #[.bool false, .slice none 0 0, .slice none 0 0] 58)).alloc (.cells #[.bool false, .slice none 0 0, .slice none 0 0] 58)
  have R4 := (Rb.new ((w.alloc (.cells #[.string n, .string d] 23)).alloc (.cells #[.string m, .string k] 23)) (.bool false) (.slice none 0 0) (.slice none 0 0) 58).alloc (.cells #[.bool false, .slice none 0 0, .slice none 0 0] 58)
  have R5 := Rb.new (((w.alloc (.cells #[.string n, .string d] 23)).alloc (.cells #[.string m, .string k] 23)).alloc (.cells #[.bool false, .slice none 0 0, .slice none 0 0] 58)) (.bool false) (.slice none 0 0) (.slice none 0 0) 58
  have pr : Below w.heap.size w ((((w.alloc (.cells #[.string n, .string d] 23)).alloc (.cells #[.string m, .string k] 23)).alloc (.cells #[.bool false, .slice none 0 0, .slice none 0 0] 58)).alloc (.cells #[.bool false, .slice none 0 0, .slice none 0 0] 58)) := ((((Below.refl _ _).alloc (Nat.le_refl _) _).alloc (by simp) _).alloc (by simp; omega) _).alloc (by simp; omega) _
  simp only [World.size_alloc] at KB R4 R5
  go_enter Tryz.func39, Tryz.ntmps39
  go_wp2_with (first
    | (go_at_call 23; (refine (C1 _ pr).mono ?_); (rintro e w1 ⟨rfl, b1⟩); (have al1 := (Below.refl w1.heap.size w1).alloc (Nat.le_refl _) (.cells #[.bool false, .slice none 0 0, .slice none 0 0] 58)); (have bb1 := bel' b1 al1); (have p1 := bel' pr bb1); (have KA1 := KA.below bb1 KA.lt); (have KB1 := KB.below bb1 KB.lt); (have R41 := R4.grow bb1); (have R51 := R5.grow bb1); (have m10 := KA1.at 0); (have m11 := KA1.at 1); (have m12 := KB1.at 0); (have m13 := KB1.at 1); (simp at m10 m11 m12 m13); (have c04 := R41.c0); (have c14 := R41.c1); (have c24 := R41.c2); (have f04 := R41.f0); (have f14 := R41.f1); (have f24 := R41.f2); (have c05 := R51.c0); (have c15 := R51.c1); (have c25 := R51.c2); (have f05 := R51.f0); (have f15 := R51.f1); (have f25 := R51.f2))
    | fail)
  have E4 := (R41.sets (.bool false) (.slice none 0 0) (.slice none 0 0)).skip3 (show w.heap.size + 1 + 1 ≠ w.heap.size + 1 + 1 + 1 by omega) (.bool false) (.slice none 0 0) (.slice none 0 0)
  have E5 := (R51.skip3 (show w.heap.size + 1 + 1 + 1 ≠ w.heap.size + 1 + 1 by omega) (.bool false) (.slice none 0 0) (.slice none 0 0)).sets (.bool false) (.slice none 0 0) (.slice none 0 0)
  have bE := bset3 (x := .bool false) (y := .slice none 0 0) (z := .slice none 0 0) (bset3 (x := .bool false) (y := .slice none 0 0) (z := .slice none 0 0) p1 (show w.heap.size ≤ w.heap.size + 1 + 1 by omega)) (show w.heap.size ≤ w.heap.size + 1 + 1 + 1 by omega)
  exact bodyPost_ret (v := .tuple #[.agg #[.bool false, .slice none 0 0, .slice none 0 0], .agg #[.bool false, .slice none 0 0, .slice none 0 0], .int .i64 c]) (by simp [results, Tryz.results39, go_sem, E4.c0, E4.c1, E4.c2, E5.c0, E5.c1, E5.c2]) rfl ⟨rfl, bE⟩
set_option maxRecDepth 100000 in
set_option maxHeartbeats 3200000 in
theorem readTwo_e2 (n d m k : ByteArray) (c : Int) (r : Rat) (w : World) (hc : (c != 0) = true) (C1 : ∀ x, Below w.heap.size w x → Calls Tryz.prog 23 #[.agg #[.string n, .string d]] x (Fr r x)) (C2 : ∀ x, Below w.heap.size w x → Calls Tryz.prog 23 #[.agg #[.string m, .string k]] x fun e w' => e = .returned (.tuple #[.agg #[.bool false, .slice none 0 0, .slice none 0 0], .int .i64 c]) ∧ Below x.heap.size x w') : Calls Tryz.prog 39 #[.agg #[.string n, .string d], .agg #[.string m, .string k]] w fun e w' => e = .returned (.tuple #[.agg #[.bool false, .slice none 0 0, .slice none 0 0], .agg #[.bool false, .slice none 0 0, .slice none 0 0], .int .i64 c]) ∧ Below w.heap.size w w' := by
  have KA := (((Blk.new w #[.string n, .string d] 23).alloc (.cells #[.string m, .string k] 23)).alloc (.cells #[.bool false, .slice none 0 0, .slice none 0 0] 58)).alloc (.cells #[.bool false, .slice none 0 0, .slice none 0 0] 58)
  have KB := ((Blk.new (w.alloc (.cells #[.string n, .string d] 23)) #[.string m, .string k] 23).alloc (.cells #[.bool false, .slice none 0 0, .slice none 0 0] 58)).alloc (.cells #[.bool false, .slice none 0 0, .slice none 0 0] 58)
  have R4 := (Rb.new ((w.alloc (.cells #[.string n, .string d] 23)).alloc (.cells #[.string m, .string k] 23)) (.bool false) (.slice none 0 0) (.slice none 0 0) 58).alloc (.cells #[.bool false, .slice none 0 0, .slice none 0 0] 58)
  have R5 := Rb.new (((w.alloc (.cells #[.string n, .string d] 23)).alloc (.cells #[.string m, .string k] 23)).alloc (.cells #[.bool false, .slice none 0 0, .slice none 0 0] 58)) (.bool false) (.slice none 0 0) (.slice none 0 0) 58
  have pr : Below w.heap.size w ((((w.alloc (.cells #[.string n, .string d] 23)).alloc (.cells #[.string m, .string k] 23)).alloc (.cells #[.bool false, .slice none 0 0, .slice none 0 0] 58)).alloc (.cells #[.bool false, .slice none 0 0, .slice none 0 0] 58)) := ((((Below.refl _ _).alloc (Nat.le_refl _) _).alloc (by simp) _).alloc (by simp; omega) _).alloc (by simp; omega) _
  simp only [World.size_alloc] at KB R4 R5
  go_enter Tryz.func39, Tryz.ntmps39
  go_wp2_with (first
    | (go_at_call 23; (have mk2 := p1); (refine (C2 _ p1).mono ?_); (rintro e w2 ⟨rfl, b2⟩); (have al2 := (Below.refl w2.heap.size w2).alloc (Nat.le_refl _) (.cells #[.bool false, .slice none 0 0, .slice none 0 0] 58)); (have bb2 := bel' b2 al2); (have p2 := bel' p1 bb2); (have KA2 := KA1.below bb2 KA1.lt); (have KB2 := KB1.below bb2 KB1.lt); (have R42 := R41.grow bb2); (have R52 := R51.grow bb2); (have m20 := KA2.at 0); (have m21 := KA2.at 1); (have m22 := KB2.at 0); (have m23 := KB2.at 1); (simp at m20 m21 m22 m23); (have c04 := R42.c0); (have c14 := R42.c1); (have c24 := R42.c2); (have f04 := R42.f0); (have f14 := R42.f1); (have f24 := R42.f2); (have c05 := R52.c0); (have c15 := R52.c1); (have c25 := R52.c2); (have f05 := R52.f0); (have f15 := R52.f1); (have f25 := R52.f2))
    | (go_at_call 23; (refine (C1 _ pr).mono ?_); (rintro e w1 ⟨g1, a1, l1, c1, a1', l1', c1', rfl, t1, b1⟩); (have al1 := (Below.refl w1.heap.size w1).alloc (Nat.le_refl _) (.cells #[.bool g1, .slice a1 l1 c1, .slice a1' l1' c1'] 58)); (have bb1 := bel' b1 al1); (have p1 := bel' pr bb1); (have KA1 := KA.below bb1 KA.lt); (have KB1 := KB.below bb1 KB.lt); (have R41 := R4.grow bb1); (have R51 := R5.grow bb1); (have m10 := KA1.at 0); (have m11 := KA1.at 1); (have m12 := KB1.at 0); (have m13 := KB1.at 1); (simp at m10 m11 m12 m13))
    | fail)
  have E4 := (R42.sets (.bool false) (.slice none 0 0) (.slice none 0 0)).skip3 (show w.heap.size + 1 + 1 ≠ w.heap.size + 1 + 1 + 1 by omega) (.bool false) (.slice none 0 0) (.slice none 0 0)
  have E5 := (R52.skip3 (show w.heap.size + 1 + 1 + 1 ≠ w.heap.size + 1 + 1 by omega) (.bool false) (.slice none 0 0) (.slice none 0 0)).sets (.bool false) (.slice none 0 0) (.slice none 0 0)
  have bE := bset3 (x := .bool false) (y := .slice none 0 0) (z := .slice none 0 0) (bset3 (x := .bool false) (y := .slice none 0 0) (z := .slice none 0 0) p2 (show w.heap.size ≤ w.heap.size + 1 + 1 by omega)) (show w.heap.size ≤ w.heap.size + 1 + 1 + 1 by omega)
  exact bodyPost_ret (v := .tuple #[.agg #[.bool false, .slice none 0 0, .slice none 0 0], .agg #[.bool false, .slice none 0 0, .slice none 0 0], .int .i64 c]) (by simp [results, Tryz.results39, go_sem, E4.c0, E4.c1, E4.c2, E5.c0, E5.c1, E5.c2]) rfl ⟨rfl, bE⟩
set_option maxRecDepth 100000 in
set_option maxHeartbeats 3200000 in
theorem Add_err (n d m k : ByteArray) (c : Int) (w : World) (hc : (c != 0) = true) (CT : ∀ x, Below w.heap.size w x → Calls Tryz.prog 39 #[.agg #[.string n, .string d], .agg #[.string m, .string k]] x fun e w' => e = .returned (.tuple #[.agg #[.bool false, .slice none 0 0, .slice none 0 0], .agg #[.bool false, .slice none 0 0, .slice none 0 0], .int .i64 c]) ∧ Below x.heap.size x w') : Calls Tryz.prog 11 #[.agg #[.string n, .string d], .agg #[.string m, .string k]] w fun e w' => e = .returned (.tuple #[.agg #[.string ⟨#[]⟩, .string ⟨#[]⟩], .int .i64 c]) ∧ Below w.heap.size w w' := by
  have KA := (((Blk.new w #[.string n, .string d] 23).alloc (.cells #[.string m, .string k] 23)).alloc (.cells #[.string ⟨#[]⟩, .string ⟨#[]⟩] 23))
  have KB := ((Blk.new (w.alloc (.cells #[.string n, .string d] 23)) #[.string m, .string k] 23).alloc (.cells #[.string ⟨#[]⟩, .string ⟨#[]⟩] 23))
  have KR := (Blk.new ((w.alloc (.cells #[.string n, .string d] 23)).alloc (.cells #[.string m, .string k] 23)) #[.string ⟨#[]⟩, .string ⟨#[]⟩] 23)
  have pr : Below w.heap.size w (((w.alloc (.cells #[.string n, .string d] 23)).alloc (.cells #[.string m, .string k] 23)).alloc (.cells #[.string ⟨#[]⟩, .string ⟨#[]⟩] 23)) := ((((Below.refl _ _).alloc (by simp; try omega) _).alloc (by simp; try omega) _).alloc (by simp; try omega) _)
  simp only [World.size_alloc] at KB KR
  go_enter Tryz.func11, Tryz.ntmps11
  go_wp2_with (first
    | (go_at_call 39; (refine (CT _ pr).mono ?_); (rintro e w1 ⟨rfl, b1⟩); (have al1 := ((Below.refl w1.heap.size w1).alloc (Nat.le_refl _) (.cells #[.bool false, .slice none 0 0, .slice none 0 0] 58)).alloc (by simp) (.cells #[.bool false, .slice none 0 0, .slice none 0 0] 58)); (have bb1 := bel' b1 al1); (have p1 := bel' pr bb1); (have K1 := KR.below bb1 KR.lt); (have z0 := K1.at 0); (have z1 := K1.at 1); (have y0 := K1.free 0); (have y1 := K1.free 1); (simp at z0 z1))
    | fail)
  have KE := bput (bput K1 0 (.string ⟨#[]⟩)) 1 (.string ⟨#[]⟩)
  have bE := (p1.setCell (p := ⟨w.heap.size + 1 + 1, 0, none⟩) (show w.heap.size ≤ w.heap.size + 1 + 1 by omega) (.string ⟨#[]⟩)).setCell (p := ⟨w.heap.size + 1 + 1, 1, none⟩) (show w.heap.size ≤ w.heap.size + 1 + 1 by omega) (.string ⟨#[]⟩)
  have q0 := KE.at 0
  have q1 := KE.at 1
  simp at q0 q1
  exact bodyPost_ret (v := .tuple #[.agg #[.string ⟨#[]⟩, .string ⟨#[]⟩], .int .i64 c]) (by simp [results, Tryz.results11, go_sem, q0, q1]) rfl ⟨rfl, bE⟩
set_option maxRecDepth 100000 in
set_option maxHeartbeats 3200000 in
theorem Sub_err (n d m k : ByteArray) (c : Int) (w : World) (hc : (c != 0) = true) (CT : ∀ x, Below w.heap.size w x → Calls Tryz.prog 39 #[.agg #[.string n, .string d], .agg #[.string m, .string k]] x fun e w' => e = .returned (.tuple #[.agg #[.bool false, .slice none 0 0, .slice none 0 0], .agg #[.bool false, .slice none 0 0, .slice none 0 0], .int .i64 c]) ∧ Below x.heap.size x w') : Calls Tryz.prog 12 #[.agg #[.string n, .string d], .agg #[.string m, .string k]] w fun e w' => e = .returned (.tuple #[.agg #[.string ⟨#[]⟩, .string ⟨#[]⟩], .int .i64 c]) ∧ Below w.heap.size w w' := by
  have KA := (((Blk.new w #[.string n, .string d] 23).alloc (.cells #[.string m, .string k] 23)).alloc (.cells #[.string ⟨#[]⟩, .string ⟨#[]⟩] 23))
  have KB := ((Blk.new (w.alloc (.cells #[.string n, .string d] 23)) #[.string m, .string k] 23).alloc (.cells #[.string ⟨#[]⟩, .string ⟨#[]⟩] 23))
  have KR := (Blk.new ((w.alloc (.cells #[.string n, .string d] 23)).alloc (.cells #[.string m, .string k] 23)) #[.string ⟨#[]⟩, .string ⟨#[]⟩] 23)
  have pr : Below w.heap.size w (((w.alloc (.cells #[.string n, .string d] 23)).alloc (.cells #[.string m, .string k] 23)).alloc (.cells #[.string ⟨#[]⟩, .string ⟨#[]⟩] 23)) := ((((Below.refl _ _).alloc (by simp; try omega) _).alloc (by simp; try omega) _).alloc (by simp; try omega) _)
  simp only [World.size_alloc] at KB KR
  go_enter Tryz.func12, Tryz.ntmps12
  go_wp2_with (first
    | (go_at_call 39; (refine (CT _ pr).mono ?_); (rintro e w1 ⟨rfl, b1⟩); (have al1 := ((Below.refl w1.heap.size w1).alloc (Nat.le_refl _) (.cells #[.bool false, .slice none 0 0, .slice none 0 0] 58)).alloc (by simp) (.cells #[.bool false, .slice none 0 0, .slice none 0 0] 58)); (have bb1 := bel' b1 al1); (have p1 := bel' pr bb1); (have K1 := KR.below bb1 KR.lt); (have z0 := K1.at 0); (have z1 := K1.at 1); (have y0 := K1.free 0); (have y1 := K1.free 1); (simp at z0 z1))
    | fail)
  have KE := bput (bput K1 0 (.string ⟨#[]⟩)) 1 (.string ⟨#[]⟩)
  have bE := (p1.setCell (p := ⟨w.heap.size + 1 + 1, 0, none⟩) (show w.heap.size ≤ w.heap.size + 1 + 1 by omega) (.string ⟨#[]⟩)).setCell (p := ⟨w.heap.size + 1 + 1, 1, none⟩) (show w.heap.size ≤ w.heap.size + 1 + 1 by omega) (.string ⟨#[]⟩)
  have q0 := KE.at 0
  have q1 := KE.at 1
  simp at q0 q1
  exact bodyPost_ret (v := .tuple #[.agg #[.string ⟨#[]⟩, .string ⟨#[]⟩], .int .i64 c]) (by simp [results, Tryz.results12, go_sem, q0, q1]) rfl ⟨rfl, bE⟩
set_option maxRecDepth 100000 in
set_option maxHeartbeats 3200000 in
theorem Mul_err (n d m k : ByteArray) (c : Int) (w : World) (hc : (c != 0) = true) (CT : ∀ x, Below w.heap.size w x → Calls Tryz.prog 39 #[.agg #[.string n, .string d], .agg #[.string m, .string k]] x fun e w' => e = .returned (.tuple #[.agg #[.bool false, .slice none 0 0, .slice none 0 0], .agg #[.bool false, .slice none 0 0, .slice none 0 0], .int .i64 c]) ∧ Below x.heap.size x w') : Calls Tryz.prog 13 #[.agg #[.string n, .string d], .agg #[.string m, .string k]] w fun e w' => e = .returned (.tuple #[.agg #[.string ⟨#[]⟩, .string ⟨#[]⟩], .int .i64 c]) ∧ Below w.heap.size w w' := by
  have KA := (((Blk.new w #[.string n, .string d] 23).alloc (.cells #[.string m, .string k] 23)).alloc (.cells #[.string ⟨#[]⟩, .string ⟨#[]⟩] 23))
  have KB := ((Blk.new (w.alloc (.cells #[.string n, .string d] 23)) #[.string m, .string k] 23).alloc (.cells #[.string ⟨#[]⟩, .string ⟨#[]⟩] 23))
  have KR := (Blk.new ((w.alloc (.cells #[.string n, .string d] 23)).alloc (.cells #[.string m, .string k] 23)) #[.string ⟨#[]⟩, .string ⟨#[]⟩] 23)
  have pr : Below w.heap.size w (((w.alloc (.cells #[.string n, .string d] 23)).alloc (.cells #[.string m, .string k] 23)).alloc (.cells #[.string ⟨#[]⟩, .string ⟨#[]⟩] 23)) := ((((Below.refl _ _).alloc (by simp; try omega) _).alloc (by simp; try omega) _).alloc (by simp; try omega) _)
  simp only [World.size_alloc] at KB KR
  go_enter Tryz.func13, Tryz.ntmps13
  go_wp2_with (first
    | (go_at_call 39; (refine (CT _ pr).mono ?_); (rintro e w1 ⟨rfl, b1⟩); (have al1 := ((Below.refl w1.heap.size w1).alloc (Nat.le_refl _) (.cells #[.bool false, .slice none 0 0, .slice none 0 0] 58)).alloc (by simp) (.cells #[.bool false, .slice none 0 0, .slice none 0 0] 58)); (have bb1 := bel' b1 al1); (have p1 := bel' pr bb1); (have K1 := KR.below bb1 KR.lt); (have z0 := K1.at 0); (have z1 := K1.at 1); (have y0 := K1.free 0); (have y1 := K1.free 1); (simp at z0 z1))
    | fail)
  have KE := bput (bput K1 0 (.string ⟨#[]⟩)) 1 (.string ⟨#[]⟩)
  have bE := (p1.setCell (p := ⟨w.heap.size + 1 + 1, 0, none⟩) (show w.heap.size ≤ w.heap.size + 1 + 1 by omega) (.string ⟨#[]⟩)).setCell (p := ⟨w.heap.size + 1 + 1, 1, none⟩) (show w.heap.size ≤ w.heap.size + 1 + 1 by omega) (.string ⟨#[]⟩)
  have q0 := KE.at 0
  have q1 := KE.at 1
  simp at q0 q1
  exact bodyPost_ret (v := .tuple #[.agg #[.string ⟨#[]⟩, .string ⟨#[]⟩], .int .i64 c]) (by simp [results, Tryz.results13, go_sem, q0, q1]) rfl ⟨rfl, bE⟩
set_option maxRecDepth 100000 in
set_option maxHeartbeats 3200000 in
theorem Div_err (n d m k : ByteArray) (c : Int) (w : World) (hc : (c != 0) = true) (CT : ∀ x, Below w.heap.size w x → Calls Tryz.prog 39 #[.agg #[.string n, .string d], .agg #[.string m, .string k]] x fun e w' => e = .returned (.tuple #[.agg #[.bool false, .slice none 0 0, .slice none 0 0], .agg #[.bool false, .slice none 0 0, .slice none 0 0], .int .i64 c]) ∧ Below x.heap.size x w') : Calls Tryz.prog 14 #[.agg #[.string n, .string d], .agg #[.string m, .string k]] w fun e w' => e = .returned (.tuple #[.agg #[.string ⟨#[]⟩, .string ⟨#[]⟩], .int .i64 c]) ∧ Below w.heap.size w w' := by
  have KA := (((Blk.new w #[.string n, .string d] 23).alloc (.cells #[.string m, .string k] 23)).alloc (.cells #[.string ⟨#[]⟩, .string ⟨#[]⟩] 23))
  have KB := ((Blk.new (w.alloc (.cells #[.string n, .string d] 23)) #[.string m, .string k] 23).alloc (.cells #[.string ⟨#[]⟩, .string ⟨#[]⟩] 23))
  have KR := (Blk.new ((w.alloc (.cells #[.string n, .string d] 23)).alloc (.cells #[.string m, .string k] 23)) #[.string ⟨#[]⟩, .string ⟨#[]⟩] 23)
  have pr : Below w.heap.size w (((w.alloc (.cells #[.string n, .string d] 23)).alloc (.cells #[.string m, .string k] 23)).alloc (.cells #[.string ⟨#[]⟩, .string ⟨#[]⟩] 23)) := ((((Below.refl _ _).alloc (by simp; try omega) _).alloc (by simp; try omega) _).alloc (by simp; try omega) _)
  simp only [World.size_alloc] at KB KR
  go_enter Tryz.func14, Tryz.ntmps14
  go_wp2_with (first
    | (go_at_call 39; (refine (CT _ pr).mono ?_); (rintro e w1 ⟨rfl, b1⟩); (have al1 := ((Below.refl w1.heap.size w1).alloc (Nat.le_refl _) (.cells #[.bool false, .slice none 0 0, .slice none 0 0] 58)).alloc (by simp) (.cells #[.bool false, .slice none 0 0, .slice none 0 0] 58)); (have bb1 := bel' b1 al1); (have p1 := bel' pr bb1); (have K1 := KR.below bb1 KR.lt); (have z0 := K1.at 0); (have z1 := K1.at 1); (have y0 := K1.free 0); (have y1 := K1.free 1); (simp at z0 z1))
    | fail)
  have KE := bput (bput K1 0 (.string ⟨#[]⟩)) 1 (.string ⟨#[]⟩)
  have bE := (p1.setCell (p := ⟨w.heap.size + 1 + 1, 0, none⟩) (show w.heap.size ≤ w.heap.size + 1 + 1 by omega) (.string ⟨#[]⟩)).setCell (p := ⟨w.heap.size + 1 + 1, 1, none⟩) (show w.heap.size ≤ w.heap.size + 1 + 1 by omega) (.string ⟨#[]⟩)
  have q0 := KE.at 0
  have q1 := KE.at 1
  simp at q0 q1
  exact bodyPost_ret (v := .tuple #[.agg #[.string ⟨#[]⟩, .string ⟨#[]⟩], .int .i64 c]) (by simp [results, Tryz.results14, go_sem, q0, q1]) rfl ⟨rfl, bE⟩
set_option maxRecDepth 100000 in
set_option maxHeartbeats 3200000 in
theorem Cmp_err (n d m k : ByteArray) (c : Int) (w : World) (hc : (c != 0) = true) (CT : ∀ x, Below w.heap.size w x → Calls Tryz.prog 39 #[.agg #[.string n, .string d], .agg #[.string m, .string k]] x fun e w' => e = .returned (.tuple #[.agg #[.bool false, .slice none 0 0, .slice none 0 0], .agg #[.bool false, .slice none 0 0, .slice none 0 0], .int .i64 c]) ∧ Below x.heap.size x w') : Calls Tryz.prog 15 #[.agg #[.string n, .string d], .agg #[.string m, .string k]] w fun e w' => e = .returned (.tuple #[.int .i64 0, .int .i64 c]) ∧ Below w.heap.size w w' := by
  have KA := ((Blk.new w #[.string n, .string d] 23).alloc (.cells #[.string m, .string k] 23))
  have KB := (Blk.new (w.alloc (.cells #[.string n, .string d] 23)) #[.string m, .string k] 23)
  have pr : Below w.heap.size w ((w.alloc (.cells #[.string n, .string d] 23)).alloc (.cells #[.string m, .string k] 23)) := (((Below.refl _ _).alloc (by simp; try omega) _).alloc (by simp; try omega) _)
  simp only [World.size_alloc] at KB
  go_enter Tryz.func15, Tryz.ntmps15
  go_wp2_with (first
    | (go_at_call 39; (refine (CT _ pr).mono ?_); (rintro e w1 ⟨rfl, b1⟩); (have al1 := ((Below.refl w1.heap.size w1).alloc (Nat.le_refl _) (.cells #[.bool false, .slice none 0 0, .slice none 0 0] 58)).alloc (by simp) (.cells #[.bool false, .slice none 0 0, .slice none 0 0] 58)); (have bb1 := bel' b1 al1); (have p1 := bel' pr bb1))
    | fail)
  go_ret2
  exact ⟨rfl, p1⟩
set_option maxRecDepth 100000 in
set_option maxHeartbeats 3200000 in
theorem Neg_err (n d : ByteArray) (c : Int) (w : World) (hc : (c != 0) = true) (C1 : ∀ x, Below w.heap.size w x → Calls Tryz.prog 23 #[.agg #[.string n, .string d]] x fun e w' => e = .returned (.tuple #[.agg #[.bool false, .slice none 0 0, .slice none 0 0], .int .i64 c]) ∧ Below x.heap.size x w') : Calls Tryz.prog 6 #[.agg #[.string n, .string d]] w fun e w' => e = .returned (.tuple #[.agg #[.string ⟨#[]⟩, .string ⟨#[]⟩], .int .i64 c]) ∧ Below w.heap.size w w' := by
  have KA := ((Blk.new w #[.string n, .string d] 23).alloc (.cells #[.string ⟨#[]⟩, .string ⟨#[]⟩] 23))
  have KR := (Blk.new (w.alloc (.cells #[.string n, .string d] 23)) #[.string ⟨#[]⟩, .string ⟨#[]⟩] 23)
  have pr : Below w.heap.size w ((w.alloc (.cells #[.string n, .string d] 23)).alloc (.cells #[.string ⟨#[]⟩, .string ⟨#[]⟩] 23)) := (((Below.refl _ _).alloc (by simp; try omega) _).alloc (by simp; try omega) _)
  simp only [World.size_alloc] at KR
  go_enter Tryz.func6, Tryz.ntmps6
  go_wp2_with (first
    | (go_at_call 23; (refine (C1 _ pr).mono ?_); (rintro e w1 ⟨rfl, b1⟩); (have al1 := (Below.refl w1.heap.size w1).alloc (Nat.le_refl _) (.cells #[.bool false, .slice none 0 0, .slice none 0 0] 58)); (have bb1 := bel' b1 al1); (have p1 := bel' pr bb1); (have K1 := KR.below bb1 KR.lt); (have z0 := K1.at 0); (have z1 := K1.at 1); (have y0 := K1.free 0); (have y1 := K1.free 1); (simp at z0 z1))
    | fail)
  have KE := bput (bput K1 0 (.string ⟨#[]⟩)) 1 (.string ⟨#[]⟩)
  have bE := (p1.setCell (p := ⟨w.heap.size + 1, 0, none⟩) (show w.heap.size ≤ w.heap.size + 1 by omega) (.string ⟨#[]⟩)).setCell (p := ⟨w.heap.size + 1, 1, none⟩) (show w.heap.size ≤ w.heap.size + 1 by omega) (.string ⟨#[]⟩)
  have q0 := KE.at 0
  have q1 := KE.at 1
  simp at q0 q1
  exact bodyPost_ret (v := .tuple #[.agg #[.string ⟨#[]⟩, .string ⟨#[]⟩], .int .i64 c]) (by simp [results, Tryz.results6, go_sem, q0, q1]) rfl ⟨rfl, bE⟩
set_option maxRecDepth 100000 in
set_option maxHeartbeats 3200000 in
theorem Sign_err (n d : ByteArray) (c : Int) (w : World) (hc : (c != 0) = true) (C1 : ∀ x, Below w.heap.size w x → Calls Tryz.prog 23 #[.agg #[.string n, .string d]] x fun e w' => e = .returned (.tuple #[.agg #[.bool false, .slice none 0 0, .slice none 0 0], .int .i64 c]) ∧ Below x.heap.size x w') : Calls Tryz.prog 17 #[.agg #[.string n, .string d]] w fun e w' => e = .returned (.tuple #[.int .i64 0, .int .i64 c]) ∧ Below w.heap.size w w' := by
  have KA := (Blk.new w #[.string n, .string d] 23)
  have pr : Below w.heap.size w (w.alloc (.cells #[.string n, .string d] 23)) := ((Below.refl _ _).alloc (by simp; try omega) _)
  go_enter Tryz.func17, Tryz.ntmps17
  go_wp2_with (first
    | (go_at_call 23; (refine (C1 _ pr).mono ?_); (rintro e w1 ⟨rfl, b1⟩); (have al1 := (Below.refl w1.heap.size w1).alloc (Nat.le_refl _) (.cells #[.bool false, .slice none 0 0, .slice none 0 0] 58)); (have bb1 := bel' b1 al1); (have p1 := bel' pr bb1))
    | fail)
  go_ret2
  exact ⟨rfl, p1⟩
end Go.Proofs.YtfalncbcomlelaaGreatDoor.Mo
