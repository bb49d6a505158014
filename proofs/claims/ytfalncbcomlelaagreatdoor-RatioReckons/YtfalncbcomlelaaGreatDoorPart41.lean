import Derived.Test.YtfalncbcomlelaaGreatDoorPart12
import Derived.Test.YtfalncbcomlelaaGreatDoorPart34

namespace Go.Proofs.YtfalncbcomlelaaGreatDoor.Mo
open Go.RowKit

set_option maxRecDepth 100000 in
set_option maxHeartbeats 3200000 in
theorem two_e (n d m k : ByteArray) (c : Int) (w : World) (hc : (c != 0) = true) (G1 : ∀ x, Below w.heap.size w x → Calls Tryz.prog 9 #[.agg #[.string n, .string d]] x fun e w' => e = .returned (.int .i64 c) ∧ Below x.heap.size x w') : Calls Tryz.prog 26 #[.agg #[.string n, .string d], .agg #[.string m, .string k]] w fun e w' => e = .returned (.int .i64 c) ∧ Below w.heap.size w w' := by
  have KA := ((Blk.new w #[.string n, .string d] 23).alloc (.cells #[.string m, .string k] 23))
  have KB := (Blk.new (w.alloc (.cells #[.string n, .string d] 23)) #[.string m, .string k] 23)
  have pr : Below w.heap.size w ((w.alloc (.cells #[.string n, .string d] 23)).alloc (.cells #[.string m, .string k] 23)) := (((Below.refl _ _).alloc (by simp; try omega) _).alloc (by simp; try omega) _)
  simp only [World.size_alloc] at KB
  go_enter Tryz.func26, Tryz.ntmps26
  go_wp2_with (first
    | (go_at_call 9; (refine (G1 _ pr).mono ?_); (rintro e w1 ⟨rfl, b1⟩); (have p1 := bel' pr b1); (have KA1 := KA.below b1 KA.lt); (have KB1 := KB.below b1 KB.lt); (have hKA10 := KA1.at 0); (have hKA11 := KA1.at 1); (simp at hKA10 hKA11); (have hKB10 := KB1.at 0); (have hKB11 := KB1.at 1); (simp at hKB10 hKB11))
    | fail)
  go_ret
  exact ⟨rfl, p1⟩
set_option maxRecDepth 100000 in
set_option maxHeartbeats 3200000 in
theorem two_k (n d m k : ByteArray) (c : Int) (w : World) (G1 : ∀ x, Below w.heap.size w x → Calls Tryz.prog 9 #[.agg #[.string n, .string d]] x fun e w' => e = .returned (.int .i64 0) ∧ Below x.heap.size x w') (G2 : ∀ x, Below w.heap.size w x → Calls Tryz.prog 9 #[.agg #[.string m, .string k]] x fun e w' => e = .returned (.int .i64 c) ∧ Below x.heap.size x w') : Calls Tryz.prog 26 #[.agg #[.string n, .string d], .agg #[.string m, .string k]] w fun e w' => e = .returned (.int .i64 c) ∧ Below w.heap.size w w' := by
  have KA := ((Blk.new w #[.string n, .string d] 23).alloc (.cells #[.string m, .string k] 23))
  have KB := (Blk.new (w.alloc (.cells #[.string n, .string d] 23)) #[.string m, .string k] 23)
  have pr : Below w.heap.size w ((w.alloc (.cells #[.string n, .string d] 23)).alloc (.cells #[.string m, .string k] 23)) := (((Below.refl _ _).alloc (by simp; try omega) _).alloc (by simp; try omega) _)
  simp only [World.size_alloc] at KB
  go_enter Tryz.func26, Tryz.ntmps26
  go_wp2_with (first
    | (go_at_call 9; (have mk2 := p1); (refine (G2 _ p1).mono ?_); (rintro e w2 ⟨rfl, b2⟩); (have p2 := bel' p1 b2); (have KA2 := KA1.below b2 KA1.lt); (have KB2 := KB1.below b2 KB1.lt); (have hKA20 := KA2.at 0); (have hKA21 := KA2.at 1); (simp at hKA20 hKA21); (have hKB20 := KB2.at 0); (have hKB21 := KB2.at 1); (simp at hKB20 hKB21))
    | (go_at_call 9; (refine (G1 _ pr).mono ?_); (rintro e w1 ⟨rfl, b1⟩); (have p1 := bel' pr b1); (have KA1 := KA.below b1 KA.lt); (have KB1 := KB.below b1 KB.lt); (have hKA10 := KA1.at 0); (have hKA11 := KA1.at 1); (simp at hKA10 hKA11); (have hKB10 := KB1.at 0); (have hKB11 := KB1.at 1); (simp at hKB10 hKB11))
    | fail)
  go_ret
  exact ⟨rfl, p2⟩
set_option maxRecDepth 100000 in
set_option maxHeartbeats 3200000 in
theorem Reckon_e (n d m k : ByteArray) (what c : Int) (w : World) (hw : ¬ what = 1) (hc : (c != 0) = true) (TW : ∀ x, Below w.heap.size w x → Calls Tryz.prog 26 #[.agg #[.string n, .string d], .agg #[.string m, .string k]] x fun e w' => e = .returned (.int .i64 c) ∧ Below x.heap.size x w') : Calls Tryz.prog 7 #[.int .i64 what, .agg #[.string n, .string d], .agg #[.string m, .string k]] w fun e w' => e = .returned (.tuple #[.agg #[.string ⟨#[]⟩, .string ⟨#[]⟩], .int .i64 c]) ∧ Below w.heap.size w w' := by
  have KA := (((Blk.new w #[.string n, .string d] 23).alloc (.cells #[.string m, .string k] 23)).alloc (.cells #[.string ⟨#[]⟩, .string ⟨#[]⟩] 23))
  have KB := ((Blk.new (w.alloc (.cells #[.string n, .string d] 23)) #[.string m, .string k] 23).alloc (.cells #[.string ⟨#[]⟩, .string ⟨#[]⟩] 23))
  have KR := (Blk.new ((w.alloc (.cells #[.string n, .string d] 23)).alloc (.cells #[.string m, .string k] 23)) #[.string ⟨#[]⟩, .string ⟨#[]⟩] 23)
  have pr : Below w.heap.size w (((w.alloc (.cells #[.string n, .string d] 23)).alloc (.cells #[.string m, .string k] 23)).alloc (.cells #[.string ⟨#[]⟩, .string ⟨#[]⟩] 23)) := ((((Below.refl _ _).alloc (by simp; try omega) _).alloc (by simp; try omega) _).alloc (by simp; try omega) _)
  simp only [World.size_alloc] at KB KR
  go_enter Tryz.func7, Tryz.ntmps7
  go_wp2_with (first
    | (go_at_call 26; (refine (TW _ pr).mono ?_); (rintro e w1 ⟨rfl, b1⟩); (have p1 := bel' pr b1); (have KA1 := KA.below b1 KA.lt); (have KB1 := KB.below b1 KB.lt); (have KR1 := KR.below b1 KR.lt); (have K1 := KR1); (have z0 := K1.at 0); (have z1 := K1.at 1); (have y0 := K1.free 0); (have y1 := K1.free 1); (simp at z0 z1))
    | fail)
  have KE := bput (bput K1 0 (.string ⟨#[]⟩)) 1 (.string ⟨#[]⟩)
  have bE := (p1.setCell (p := ⟨w.heap.size + 1 + 1, 0, none⟩) (show w.heap.size ≤ w.heap.size + 1 + 1 by omega) (.string ⟨#[]⟩)).setCell (p := ⟨w.heap.size + 1 + 1, 1, none⟩) (show w.heap.size ≤ w.heap.size + 1 + 1 by omega) (.string ⟨#[]⟩)
  have q0 := KE.at 0
  have q1 := KE.at 1
  simp at q0 q1
  exact bodyPost_ret (v := .tuple #[.agg #[.string ⟨#[]⟩, .string ⟨#[]⟩], .int .i64 c]) (by simp [results, Tryz.results7, go_sem, q0, q1]) rfl ⟨rfl, bE⟩
set_option maxRecDepth 100000 in
set_option maxHeartbeats 3200000 in
theorem Reckon_e1 (n d m k : ByteArray) (c0 c : Int) (w : World) (hc : (c != 0) = true) (TW : ∀ x, Below w.heap.size w x → Calls Tryz.prog 26 #[.agg #[.string n, .string d], .agg #[.string m, .string k]] x fun e w' => e = .returned (.int .i64 c0) ∧ Below x.heap.size x w') (GD : ∀ x, Below w.heap.size w x → Calls Tryz.prog 9 #[.agg #[.string n, .string d]] x fun e w' => e = .returned (.int .i64 c) ∧ Below x.heap.size x w') : Calls Tryz.prog 7 #[.int .i64 1, .agg #[.string n, .string d], .agg #[.string m, .string k]] w fun e w' => e = .returned (.tuple #[.agg #[.string ⟨#[]⟩, .string ⟨#[]⟩], .int .i64 c]) ∧ Below w.heap.size w w' := by
  have KA := (((Blk.new w #[.string n, .string d] 23).alloc (.cells #[.string m, .string k] 23)).alloc (.cells #[.string ⟨#[]⟩, .string ⟨#[]⟩] 23))
  have KB := ((Blk.new (w.alloc (.cells #[.string n, .string d] 23)) #[.string m, .string k] 23).alloc (.cells #[.string ⟨#[]⟩, .string ⟨#[]⟩] 23))
  have KR := (Blk.new ((w.alloc (.cells #[.string n, .string d] 23)).alloc (.cells #[.string m, .string k] 23)) #[.string ⟨#[]⟩, .string ⟨#[]⟩] 23)
  have pr : Below w.heap.size w (((w.alloc (.cells #[.string n, .string d] 23)).alloc (.cells #[.string m, .string k] 23)).alloc (.cells #[.string ⟨#[]⟩, .string ⟨#[]⟩] 23)) := ((((Below.refl _ _).alloc (by simp; try omega) _).alloc (by simp; try omega) _).alloc (by simp; try omega) _)
  simp only [World.size_alloc] at KB KR
  go_enter Tryz.func7, Tryz.ntmps7
  go_wp2_with (first
    | (go_at_call 9; (have mk2 := p1); (refine (GD _ p1).mono ?_); (rintro e w2 ⟨rfl, b2⟩); (have p2 := bel' p1 b2); (have KA2 := KA1.below b2 KA1.lt); (have KR2 := KR1.below b2 KR1.lt); (have K1 := KR2); (have z0 := K1.at 0); (have z1 := K1.at 1); (have y0 := K1.free 0); (have y1 := K1.free 1); (simp at z0 z1))
    | (go_at_call 26; (refine (TW _ pr).mono ?_); (rintro e w1 ⟨rfl, b1⟩); (have p1 := bel' pr b1); (have KA1 := KA.below b1 KA.lt); (have KR1 := KR.below b1 KR.lt); (have hKA10 := KA1.at 0); (have hKA11 := KA1.at 1); (simp at hKA10 hKA11))
    | fail)
  have KE := bput (bput K1 0 (.string ⟨#[]⟩)) 1 (.string ⟨#[]⟩)
  have bE := (p2.setCell (p := ⟨w.heap.size + 1 + 1, 0, none⟩) (show w.heap.size ≤ w.heap.size + 1 + 1 by omega) (.string ⟨#[]⟩)).setCell (p := ⟨w.heap.size + 1 + 1, 1, none⟩) (show w.heap.size ≤ w.heap.size + 1 + 1 by omega) (.string ⟨#[]⟩)
  have q0 := KE.at 0
  have q1 := KE.at 1
  simp at q0 q1
  exact bodyPost_ret (v := .tuple #[.agg #[.string ⟨#[]⟩, .string ⟨#[]⟩], .int .i64 c]) (by simp [results, Tryz.results7, go_sem, q0, q1]) rfl ⟨rfl, bE⟩
set_option maxRecDepth 100000 in
set_option maxHeartbeats 3200000 in
theorem Reckon_neg (n d m k : ByteArray) (c0 : Int) (r t : Rat) (u v : ByteArray) (er : Int) (w : World) (TW : ∀ x, Below w.heap.size w x → Calls Tryz.prog 26 #[.agg #[.string n, .string d], .agg #[.string m, .string k]] x fun e w' => e = .returned (.int .i64 c0) ∧ Below x.heap.size x w') (GD : ∀ x, Below w.heap.size w x → Calls Tryz.prog 9 #[.agg #[.string n, .string d]] x fun e w' => e = .returned (.int .i64 0) ∧ Below x.heap.size x w') (I1 : ∀ x, Below w.heap.size w x → Calls Tryz.prog 27 #[.agg #[.string n, .string d]] x (Qf r x)) (MI : ∀ x v1, L.IsQ x v1 r → Calls Tryz.prog 28 #[v1] x (Qf t x)) (OU : ∀ x v1, L.IsQ x v1 t → Calls Tryz.prog 29 #[v1] x fun e w' => e = .returned (.tuple #[.agg #[.string u, .string v], .int .i64 er]) ∧ Below x.heap.size x w') : Calls Tryz.prog 7 #[.int .i64 1, .agg #[.string n, .string d], .agg #[.string m, .string k]] w fun e w' => e = .returned (.tuple #[.agg #[.string u, .string v], .int .i64 er]) ∧ Below w.heap.size w w' := by
  have KA := (((Blk.new w #[.string n, .string d] 23).alloc (.cells #[.string m, .string k] 23)).alloc (.cells #[.string ⟨#[]⟩, .string ⟨#[]⟩] 23))
  have KB := ((Blk.new (w.alloc (.cells #[.string n, .string d] 23)) #[.string m, .string k] 23).alloc (.cells #[.string ⟨#[]⟩, .string ⟨#[]⟩] 23))
  have KR := (Blk.new ((w.alloc (.cells #[.string n, .string d] 23)).alloc (.cells #[.string m, .string k] 23)) #[.string ⟨#[]⟩, .string ⟨#[]⟩] 23)
  have pr : Below w.heap.size w (((w.alloc (.cells #[.string n, .string d] 23)).alloc (.cells #[.string m, .string k] 23)).alloc (.cells #[.string ⟨#[]⟩, .string ⟨#[]⟩] 23)) := ((((Below.refl _ _).alloc (by simp; try omega) _).alloc (by simp; try omega) _).alloc (by simp; try omega) _)
  simp only [World.size_alloc] at KB KR
  go_enter Tryz.func7, Tryz.ntmps7
  go_wp2_with (first
    | (go_at_call 29; (have mk5 := p4); (refine (OU _ _ t4).mono ?_); (rintro e w5 ⟨rfl, b5⟩); (have p5 := bel' p4 b5); (have KR5 := KR4.below b5 KR4.lt); (have K1 := KR5); (have z0 := K1.at 0); (have z1 := K1.at 1); (have y0 := K1.free 0); (have y1 := K1.free 1); (simp at z0 z1))
    | (go_at_call 28; (have mk4 := p3); (refine (MI _ _ q3).mono ?_); (rintro e w4 ⟨g4, a4, l4, c4, a4', l4', c4', rfl, t4, b4⟩); (have p4 := bel' p3 b4); (have KR4 := KR3.below b4 KR3.lt); (have NB3_4 := NB3.grow b4); (have q3_4 := q3.grow b4))
    | (go_at_call 27; (have mk3 := p2); (refine (I1 _ p2).mono ?_); (rintro e w3 ⟨g3, a3, l3, c3, a3', l3', c3', rfl, t3, b3⟩); (have al3 := (Below.refl w3.heap.size w3).alloc (Nat.le_refl _) (.cells #[.bool g3, .slice a3 l3 c3, .slice a3' l3' c3'] 66)); (have NB3 := Rb.new w3 (.bool g3) (.slice a3 l3 c3) (.slice a3' l3' c3') 66); (have bb3 := bel' b3 al3); (have p3 := bel' p2 bb3); (have KR3 := KR2.below bb3 KR2.lt); (have rNB330 := NB3.c0); (have rNB331 := NB3.c1); (have rNB332 := NB3.c2); (have q3 := t3.grow al3))
    | (go_at_call 9; (have mk2 := p1); (refine (GD _ p1).mono ?_); (rintro e w2 ⟨rfl, b2⟩); (have p2 := bel' p1 b2); (have KA2 := KA1.below b2 KA1.lt); (have KR2 := KR1.below b2 KR1.lt); (have hKA20 := KA2.at 0); (have hKA21 := KA2.at 1); (simp at hKA20 hKA21))
    | (go_at_call 26; (refine (TW _ pr).mono ?_); (rintro e w1 ⟨rfl, b1⟩); (have p1 := bel' pr b1); (have KA1 := KA.below b1 KA.lt); (have KR1 := KR.below b1 KR.lt); (have hKA10 := KA1.at 0); (have hKA11 := KA1.at 1); (simp at hKA10 hKA11))
    | fail)
  have KE := bput (bput K1 0 (.string u)) 1 (.string v)
  have bE := (p5.setCell (p := ⟨w.heap.size + 1 + 1, 0, none⟩) (show w.heap.size ≤ w.heap.size + 1 + 1 by omega) (.string u)).setCell (p := ⟨w.heap.size + 1 + 1, 1, none⟩) (show w.heap.size ≤ w.heap.size + 1 + 1 by omega) (.string v)
  have q0 := KE.at 0
  have q1 := KE.at 1
  simp at q0 q1
  exact bodyPost_ret (v := .tuple #[.agg #[.string u, .string v], .int .i64 er]) (by simp [results, Tryz.results7, go_sem, q0, q1]) rfl ⟨rfl, bE⟩
set_option maxRecDepth 100000 in
set_option maxHeartbeats 3200000 in
theorem Reckon_Add (n d m k : ByteArray) (r s t : Rat) (u v : ByteArray) (er : Int) (w : World) (TW : ∀ x, Below w.heap.size w x → Calls Tryz.prog 26 #[.agg #[.string n, .string d], .agg #[.string m, .string k]] x fun e w' => e = .returned (.int .i64 0) ∧ Below x.heap.size x w') (I1 : ∀ x, Below w.heap.size w x → Calls Tryz.prog 27 #[.agg #[.string n, .string d]] x (Qf r x)) (I2 : ∀ x, Below w.heap.size w x → Calls Tryz.prog 27 #[.agg #[.string m, .string k]] x (Qf s x)) (OP : ∀ x v1 v2, L.IsQ x v1 r → L.IsQ x v2 s → Calls Tryz.prog 30 #[v1, v2] x (Qf t x)) (OU : ∀ x v1, L.IsQ x v1 t → Calls Tryz.prog 29 #[v1] x fun e w' => e = .returned (.tuple #[.agg #[.string u, .string v], .int .i64 er]) ∧ Below x.heap.size x w') : Calls Tryz.prog 7 #[.int .i64 2, .agg #[.string n, .string d], .agg #[.string m, .string k]] w fun e w' => e = .returned (.tuple #[.agg #[.string u, .string v], .int .i64 er]) ∧ Below w.heap.size w w' := by
  have KA := (((Blk.new w #[.string n, .string d] 23).alloc (.cells #[.string m, .string k] 23)).alloc (.cells #[.string ⟨#[]⟩, .string ⟨#[]⟩] 23))
  have KB := ((Blk.new (w.alloc (.cells #[.string n, .string d] 23)) #[.string m, .string k] 23).alloc (.cells #[.string ⟨#[]⟩, .string ⟨#[]⟩] 23))
  have KR := (Blk.new ((w.alloc (.cells #[.string n, .string d] 23)).alloc (.cells #[.string m, .string k] 23)) #[.string ⟨#[]⟩, .string ⟨#[]⟩] 23)
  have pr : Below w.heap.size w (((w.alloc (.cells #[.string n, .string d] 23)).alloc (.cells #[.string m, .string k] 23)).alloc (.cells #[.string ⟨#[]⟩, .string ⟨#[]⟩] 23)) := ((((Below.refl _ _).alloc (by simp; try omega) _).alloc (by simp; try omega) _).alloc (by simp; try omega) _)
  simp only [World.size_alloc] at KB KR
  go_enter Tryz.func7, Tryz.ntmps7
  go_wp2_with (first
    | (go_at_call 29; (have mk5 := p4); (refine (OU _ _ t4).mono ?_); (rintro e w5 ⟨rfl, b5⟩); (have p5 := bel' p4 b5); (have KR5 := KR4.below b5 KR4.lt); (have K1 := KR5); (have z0 := K1.at 0); (have z1 := K1.at 1); (have y0 := K1.free 0); (have y1 := K1.free 1); (simp at z0 z1))
    | (go_at_call 30; (have mk4 := p3); (refine (OP _ _ _ q2_3 q3).mono ?_); (rintro e w4 ⟨g4, a4, l4, c4, a4', l4', c4', rfl, t4, b4⟩); (have p4 := bel' p3 b4); (have KR4 := KR3.below b4 KR3.lt); (have NB2_4 := NB2_3.grow b4); (have NB3_4 := NB3.grow b4); (have q2_4 := q2_3.grow b4); (have q3_4 := q3.grow b4))
    | (go_at_call 27; (have mk3 := p2); (refine (I2 _ p2).mono ?_); (rintro e w3 ⟨g3, a3, l3, c3, a3', l3', c3', rfl, t3, b3⟩); (have al3 := (Below.refl w3.heap.size w3).alloc (Nat.le_refl _) (.cells #[.bool g3, .slice a3 l3 c3, .slice a3' l3' c3'] 66)); (have NB3 := Rb.new w3 (.bool g3) (.slice a3 l3 c3) (.slice a3' l3' c3') 66); (have bb3 := bel' b3 al3); (have p3 := bel' p2 bb3); (have KR3 := KR2.below bb3 KR2.lt); (have NB2_3 := NB2.grow bb3); (have q2_3 := q2.grow bb3); (have rNB230 := NB2_3.c0); (have rNB231 := NB2_3.c1); (have rNB232 := NB2_3.c2); (have rNB330 := NB3.c0); (have rNB331 := NB3.c1); (have rNB332 := NB3.c2); (have q3 := t3.grow al3))
    | (go_at_call 27; (have mk2 := p1); (refine (I1 _ p1).mono ?_); (rintro e w2 ⟨g2, a2, l2, c2, a2', l2', c2', rfl, t2, b2⟩); (have al2 := (Below.refl w2.heap.size w2).alloc (Nat.le_refl _) (.cells #[.bool g2, .slice a2 l2 c2, .slice a2' l2' c2'] 66)); (have NB2 := Rb.new w2 (.bool g2) (.slice a2 l2 c2) (.slice a2' l2' c2') 66); (have bb2 := bel' b2 al2); (have p2 := bel' p1 bb2); (have KB2 := KB1.below bb2 KB1.lt); (have KR2 := KR1.below bb2 KR1.lt); (have hKB20 := KB2.at 0); (have hKB21 := KB2.at 1); (simp at hKB20 hKB21); (have q2 := t2.grow al2))
    | (go_at_call 26; (refine (TW _ pr).mono ?_); (rintro e w1 ⟨rfl, b1⟩); (have p1 := bel' pr b1); (have KA1 := KA.below b1 KA.lt); (have KB1 := KB.below b1 KB.lt); (have KR1 := KR.below b1 KR.lt); (have hKA10 := KA1.at 0); (have hKA11 := KA1.at 1); (simp at hKA10 hKA11))
    | fail)
  have KE := bput (bput K1 0 (.string u)) 1 (.string v)
  have bE := (p5.setCell (p := ⟨w.heap.size + 1 + 1, 0, none⟩) (show w.heap.size ≤ w.heap.size + 1 + 1 by omega) (.string u)).setCell (p := ⟨w.heap.size + 1 + 1, 1, none⟩) (show w.heap.size ≤ w.heap.size + 1 + 1 by omega) (.string v)
  have q0 := KE.at 0
  have q1 := KE.at 1
  simp at q0 q1
  exact bodyPost_ret (v := .tuple #[.agg #[.string u, .string v], .int .i64 er]) (by simp [results, Tryz.results7, go_sem, q0, q1]) rfl ⟨rfl, bE⟩
set_option maxRecDepth 100000 in
set_option maxHeartbeats 3200000 in
theorem Reckon_Sub (n d m k : ByteArray) (r s t : Rat) (u v : ByteArray) (er : Int) (w : World) (TW : ∀ x, Below w.heap.size w x → Calls Tryz.prog 26 #[.agg #[.string n, .string d], .agg #[.string m, .string k]] x fun e w' => e = .returned (.int .i64 0) ∧ Below x.heap.size x w') (I1 : ∀ x, Below w.heap.size w x → Calls Tryz.prog 27 #[.agg #[.string n, .string d]] x (Qf r x)) (I2 : ∀ x, Below w.heap.size w x → Calls Tryz.prog 27 #[.agg #[.string m, .string k]] x (Qf s x)) (OP : ∀ x v1 v2, L.IsQ x v1 r → L.IsQ x v2 s → Calls Tryz.prog 31 #[v1, v2] x (Qf t x)) (OU : ∀ x v1, L.IsQ x v1 t → Calls Tryz.prog 29 #[v1] x fun e w' => e = .returned (.tuple #[.agg #[.string u, .string v], .int .i64 er]) ∧ Below x.heap.size x w') : Calls Tryz.prog 7 #[.int .i64 3, .agg #[.string n, .string d], .agg #[.string m, .string k]] w fun e w' => e = .returned (.tuple #[.agg #[.string u, .string v], .int .i64 er]) ∧ Below w.heap.size w w' := by
  have KA := (((Blk.new w #[.string n, .string d] 23).alloc (.cells #[.string m, .string k] 23)).alloc (.cells #[.string ⟨#[]⟩, .string ⟨#[]⟩] 23))
  have KB := ((Blk.new (w.alloc (.cells #[.string n, .string d] 23)) #[.string m, .string k] 23).alloc (.cells #[.string ⟨#[]⟩, .string ⟨#[]⟩] 23))
  have KR := (Blk.new ((w.alloc (.cells #[.string n, .string d] 23)).alloc (.cells #[.string m, .string k] 23)) #[.string ⟨#[]⟩, .string ⟨#[]⟩] 23)
  have pr : Below w.heap.size w (((w.alloc (.cells #[.string n, .string d] 23)).alloc (.cells #[.string m, .string k] 23)).alloc (.cells #[.string ⟨#[]⟩, .string ⟨#[]⟩] 23)) := ((((Below.refl _ _).alloc (by simp; try omega) _).alloc (by simp; try omega) _).alloc (by simp; try omega) _)
  simp only [World.size_alloc] at KB KR
  go_enter Tryz.func7, Tryz.ntmps7
  go_wp2_with (first
    | (go_at_call 29; (have mk5 := p4); (refine (OU _ _ t4).mono ?_); (rintro e w5 ⟨rfl, b5⟩); (have p5 := bel' p4 b5); (have KR5 := KR4.below b5 KR4.lt); (have K1 := KR5); (have z0 := K1.at 0); (have z1 := K1.at 1); (have y0 := K1.free 0); (have y1 := K1.free 1); (simp at z0 z1))
    | (go_at_call 31; (have mk4 := p3); (refine (OP _ _ _ q2_3 q3).mono ?_); (rintro e w4 ⟨g4, a4, l4, c4, a4', l4', c4', rfl, t4, b4⟩); (have p4 := bel' p3 b4); (have KR4 := KR3.below b4 KR3.lt); (have NB2_4 := NB2_3.grow b4); (have NB3_4 := NB3.grow b4); (have q2_4 := q2_3.grow b4); (have q3_4 := q3.grow b4))
    | (go_at_call 27; (have mk3 := p2); (refine (I2 _ p2).mono ?_); (rintro e w3 ⟨g3, a3, l3, c3, a3', l3', c3', rfl, t3, b3⟩); (have al3 := (Below.refl w3.heap.size w3).alloc (Nat.le_refl _) (.cells #[.bool g3, .slice a3 l3 c3, .slice a3' l3' c3'] 66)); (have NB3 := Rb.new w3 (.bool g3) (.slice a3 l3 c3) (.slice a3' l3' c3') 66); (have bb3 := bel' b3 al3); (have p3 := bel' p2 bb3); (have KR3 := KR2.below bb3 KR2.lt); (have NB2_3 := NB2.grow bb3); (have q2_3 := q2.grow bb3); (have rNB230 := NB2_3.c0); (have rNB231 := NB2_3.c1); (have rNB232 := NB2_3.c2); (have rNB330 := NB3.c0); (have rNB331 := NB3.c1); (have rNB332 := NB3.c2); (have q3 := t3.grow al3))
    | (go_at_call 27; (have mk2 := p1); (refine (I1 _ p1).mono ?_); (rintro e w2 ⟨g2, a2, l2, c2, a2', l2', c2', rfl, t2, b2⟩); (have al2 := (Below.refl w2.heap.size w2).alloc (Nat.le_refl _) (.cells #[.bool g2, .slice a2 l2 c2, .slice a2' l2' c2'] 66)); (have NB2 := Rb.new w2 (.bool g2) (.slice a2 l2 c2) (.slice a2' l2' c2') 66); (have bb2 := bel' b2 al2); (have p2 := bel' p1 bb2); (have KB2 := KB1.below bb2 KB1.lt); (have KR2 := KR1.below bb2 KR1.lt); (have hKB20 := KB2.at 0); (have hKB21 := KB2.at 1); (simp at hKB20 hKB21); (have q2 := t2.grow al2))
    | (go_at_call 26; (refine (TW _ pr).mono ?_); (rintro e w1 ⟨rfl, b1⟩); (have p1 := bel' pr b1); (have KA1 := KA.below b1 KA.lt); (have KB1 := KB.below b1 KB.lt); (have KR1 := KR.below b1 KR.lt); (have hKA10 := KA1.at 0); (have hKA11 := KA1.at 1); (simp at hKA10 hKA11))
    | fail)
  have KE := bput (bput K1 0 (.string u)) 1 (.string v)
  have bE := (p5.setCell (p := ⟨w.heap.size + 1 + 1, 0, none⟩) (show w.heap.size ≤ w.heap.size + 1 + 1 by omega) (.string u)).setCell (p := ⟨w.heap.size + 1 + 1, 1, none⟩) (show w.heap.size ≤ w.heap.size + 1 + 1 by omega) (.string v)
  have q0 := KE.at 0
  have q1 := KE.at 1
  simp at q0 q1
  exact bodyPost_ret (v := .tuple #[.agg #[.string u, .string v], .int .i64 er]) (by simp [results, Tryz.results7, go_sem, q0, q1]) rfl ⟨rfl, bE⟩
set_option maxRecDepth 100000 in
set_option maxHeartbeats 3200000 in
theorem Reckon_Mul (n d m k : ByteArray) (r s t : Rat) (u v : ByteArray) (er : Int) (w : World) (TW : ∀ x, Below w.heap.size w x → Calls Tryz.prog 26 #[.agg #[.string n, .string d], .agg #[.string m, .string k]] x fun e w' => e = .returned (.int .i64 0) ∧ Below x.heap.size x w') (I1 : ∀ x, Below w.heap.size w x → Calls Tryz.prog 27 #[.agg #[.string n, .string d]] x (Qf r x)) (I2 : ∀ x, Below w.heap.size w x → Calls Tryz.prog 27 #[.agg #[.string m, .string k]] x (Qf s x)) (OP : ∀ x v1 v2, L.IsQ x v1 r → L.IsQ x v2 s → Calls Tryz.prog 32 #[v1, v2] x (Qf t x)) (OU : ∀ x v1, L.IsQ x v1 t → Calls Tryz.prog 29 #[v1] x fun e w' => e = .returned (.tuple #[.agg #[.string u, .string v], .int .i64 er]) ∧ Below x.heap.size x w') : Calls Tryz.prog 7 #[.int .i64 4, .agg #[.string n, .string d], .agg #[.string m, .string k]] w fun e w' => e = .returned (.tuple #[.agg #[.string u, .string v], .int .i64 er]) ∧ Below w.heap.size w w' := by
  have KA := (((Blk.new w #[.string n, .string d] 23).alloc (.cells #[.string m, .string k] 23)).alloc (.cells #[.string ⟨#[]⟩, .string ⟨#[]⟩] 23))
  have KB := ((Blk.new (w.alloc (.cells #[.string n, .string d] 23)) #[.string m, .string k] 23).alloc (.cells #[.string ⟨#[]⟩, .string ⟨#[]⟩] 23))
  have KR := (Blk.new ((w.alloc (.cells #[.string n, .string d] 23)).alloc (.cells #[.string m, .string k] 23)) #[.string ⟨#[]⟩, .string ⟨#[]⟩] 23)
  have pr : Below w.heap.size w (((w.alloc (.cells #[.string n, .string d] 23)).alloc (.cells #[.string m, .string k] 23)).alloc (.cells #[.string ⟨#[]⟩, .string ⟨#[]⟩] 23)) := ((((Below.refl _ _).alloc (by simp; try omega) _).alloc (by simp; try omega) _).alloc (by simp; try omega) _)
  simp only [World.size_alloc] at KB KR
  go_enter Tryz.func7, Tryz.ntmps7
  go_wp2_with (first
    | (go_at_call 29; (have mk5 := p4); (refine (OU _ _ t4).mono ?_); (rintro e w5 ⟨rfl, b5⟩); (have p5 := bel' p4 b5); (have KR5 := KR4.below b5 KR4.lt); (have K1 := KR5); (have z0 := K1.at 0); (have z1 := K1.at 1); (have y0 := K1.free 0); (have y1 := K1.free 1); (simp at z0 z1))
    | (go_at_call 32; (have mk4 := p3); (refine (OP _ _ _ q2_3 q3).mono ?_); (rintro e w4 ⟨g4, a4, l4, c4, a4', l4', c4', rfl, t4, b4⟩); (have p4 := bel' p3 b4); (have KR4 := KR3.below b4 KR3.lt); (have NB2_4 := NB2_3.grow b4); (have NB3_4 := NB3.grow b4); (have q2_4 := q2_3.grow b4); (have q3_4 := q3.grow b4))
    | (go_at_call 27; (have mk3 := p2); (refine (I2 _ p2).mono ?_); (rintro e w3 ⟨g3, a3, l3, c3, a3', l3', c3', rfl, t3, b3⟩); (have al3 := (Below.refl w3.heap.size w3).alloc (Nat.le_refl _) (.cells #[.bool g3, .slice a3 l3 c3, .slice a3' l3' c3'] 66)); (have NB3 := Rb.new w3 (.bool g3) (.slice a3 l3 c3) (.slice a3' l3' c3') 66); (have bb3 := bel' b3 al3); (have p3 := bel' p2 bb3); (have KR3 := KR2.below bb3 KR2.lt); (have NB2_3 := NB2.grow bb3); (have q2_3 := q2.grow bb3); (have rNB230 := NB2_3.c0); (have rNB231 := NB2_3.c1); (have rNB232 := NB2_3.c2); (have rNB330 := NB3.c0); (have rNB331 := NB3.c1); (have rNB332 := NB3.c2); (have q3 := t3.grow al3))
    | (go_at_call 27; (have mk2 := p1); (refine (I1 _ p1).mono ?_); (rintro e w2 ⟨g2, a2, l2, c2, a2', l2', c2', rfl, t2, b2⟩); (have al2 := (Below.refl w2.heap.size w2).alloc (Nat.le_refl _) (.cells #[.bool g2, .slice a2 l2 c2, .slice a2' l2' c2'] 66)); (have NB2 := Rb.new w2 (.bool g2) (.slice a2 l2 c2) (.slice a2' l2' c2') 66); (have bb2 := bel' b2 al2); (have p2 := bel' p1 bb2); (have KB2 := KB1.below bb2 KB1.lt); (have KR2 := KR1.below bb2 KR1.lt); (have hKB20 := KB2.at 0); (have hKB21 := KB2.at 1); (simp at hKB20 hKB21); (have q2 := t2.grow al2))
    | (go_at_call 26; (refine (TW _ pr).mono ?_); (rintro e w1 ⟨rfl, b1⟩); (have p1 := bel' pr b1); (have KA1 := KA.below b1 KA.lt); (have KB1 := KB.below b1 KB.lt); (have KR1 := KR.below b1 KR.lt); (have hKA10 := KA1.at 0); (have hKA11 := KA1.at 1); (simp at hKA10 hKA11))
    | fail)
  have KE := bput (bput K1 0 (.string u)) 1 (.string v)
  have bE := (p5.setCell (p := ⟨w.heap.size + 1 + 1, 0, none⟩) (show w.heap.size ≤ w.heap.size + 1 + 1 by omega) (.string u)).setCell (p := ⟨w.heap.size + 1 + 1, 1, none⟩) (show w.heap.size ≤ w.heap.size + 1 + 1 by omega) (.string v)
  have q0 := KE.at 0
  have q1 := KE.at 1
  simp at q0 q1
  exact bodyPost_ret (v := .tuple #[.agg #[.string u, .string v], .int .i64 er]) (by simp [results, Tryz.results7, go_sem, q0, q1]) rfl ⟨rfl, bE⟩
set_option maxRecDepth 100000 in
set_option maxHeartbeats 3200000 in
theorem Reckon_div0 (n d m k : ByteArray) (r s : Rat) (w : World) (TW : ∀ x, Below w.heap.size w x → Calls Tryz.prog 26 #[.agg #[.string n, .string d], .agg #[.string m, .string k]] x fun e w' => e = .returned (.int .i64 0) ∧ Below x.heap.size x w') (I1 : ∀ x, Below w.heap.size w x → Calls Tryz.prog 27 #[.agg #[.string n, .string d]] x (Qf r x)) (I2 : ∀ x, Below w.heap.size w x → Calls Tryz.prog 27 #[.agg #[.string m, .string k]] x (Qf s x)) (SG : ∀ x v1, L.IsQ x v1 s → Calls Tryz.prog 33 #[v1] x fun e w' => e = .returned (.int .i64 0) ∧ Below x.heap.size x w') : Calls Tryz.prog 7 #[.int .i64 5, .agg #[.string n, .string d], .agg #[.string m, .string k]] w fun e w' => e = .returned (.tuple #[.agg #[.string ⟨#[]⟩, .string ⟨#[]⟩], .int .i64 4]) ∧ Below w.heap.size w w' := by
  have KA := (((Blk.new w #[.string n, .string d] 23).alloc (.cells #[.string m, .string k] 23)).alloc (.cells #[.string ⟨#[]⟩, .string ⟨#[]⟩] 23))
  have KB := ((Blk.new (w.alloc (.cells #[.string n, .string d] 23)) #[.string m, .string k] 23).alloc (.cells #[.string ⟨#[]⟩, .string ⟨#[]⟩] 23))
  have KR := (Blk.new ((w.alloc (.cells #[.string n, .string d] 23)).alloc (.cells #[.string m, .string k] 23)) #[.string ⟨#[]⟩, .string ⟨#[]⟩] 23)
  have pr : Below w.heap.size w (((w.alloc (.cells #[.string n, .string d] 23)).alloc (.cells #[.string m, .string k] 23)).alloc (.cells #[.string ⟨#[]⟩, .string ⟨#[]⟩] 23)) := ((((Below.refl _ _).alloc (by simp; try omega) _).alloc (by simp; try omega) _).alloc (by simp; try omega) _)
  simp only [World.size_alloc] at KB KR
  go_enter Tryz.func7, Tryz.ntmps7
  go_wp2_with (first
    | (go_at_call 33; (have mk4 := p3); (refine (SG _ _ q3).mono ?_); (rintro e w4 ⟨rfl, b4⟩); (have p4 := bel' p3 b4); (have KR4 := KR3.below b4 KR3.lt); (have K1 := KR4); (have z0 := K1.at 0); (have z1 := K1.at 1); (have y0 := K1.free 0); (have y1 := K1.free 1); (simp at z0 z1))
    | (go_at_call 27; (have mk3 := p2); (refine (I2 _ p2).mono ?_); (rintro e w3 ⟨g3, a3, l3, c3, a3', l3', c3', rfl, t3, b3⟩); (have al3 := (Below.refl w3.heap.size w3).alloc (Nat.le_refl _) (.cells #[.bool g3, .slice a3 l3 c3, .slice a3' l3' c3'] 66)); (have NB3 := Rb.new w3 (.bool g3) (.slice a3 l3 c3) (.slice a3' l3' c3') 66); (have bb3 := bel' b3 al3); (have p3 := bel' p2 bb3); (have KR3 := KR2.below bb3 KR2.lt); (have NB2_3 := NB2.grow bb3); (have q2_3 := q2.grow bb3); (have rNB230 := NB2_3.c0); (have rNB231 := NB2_3.c1); (have rNB232 := NB2_3.c2); (have rNB330 := NB3.c0); (have rNB331 := NB3.c1); (have rNB332 := NB3.c2); (have q3 := t3.grow al3))
    | (go_at_call 27; (have mk2 := p1); (refine (I1 _ p1).mono ?_); (rintro e w2 ⟨g2, a2, l2, c2, a2', l2', c2', rfl, t2, b2⟩); (have al2 := (Below.refl w2.heap.size w2).alloc (Nat.le_refl _) (.cells #[.bool g2, .slice a2 l2 c2, .slice a2' l2' c2'] 66)); (have NB2 := Rb.new w2 (.bool g2) (.slice a2 l2 c2) (.slice a2' l2' c2') 66); (have bb2 := bel' b2 al2); (have p2 := bel' p1 bb2); (have KB2 := KB1.below bb2 KB1.lt); (have KR2 := KR1.below bb2 KR1.lt); (have hKB20 := KB2.at 0); (have hKB21 := KB2.at 1); (simp at hKB20 hKB21); (have q2 := t2.grow al2))
    | (go_at_call 26; (refine (TW _ pr).mono ?_); (rintro e w1 ⟨rfl, b1⟩); (have p1 := bel' pr b1); (have KA1 := KA.below b1 KA.lt); (have KB1 := KB.below b1 KB.lt); (have KR1 := KR.below b1 KR.lt); (have hKA10 := KA1.at 0); (have hKA11 := KA1.at 1); (simp at hKA10 hKA11))
    | fail)
  have KE := bput (bput K1 0 (.string ⟨#[]⟩)) 1 (.string ⟨#[]⟩)
  have bE := (p4.setCell (p := ⟨w.heap.size + 1 + 1, 0, none⟩) (show w.heap.size ≤ w.heap.size + 1 + 1 by omega) (.string ⟨#[]⟩)).setCell (p := ⟨w.heap.size + 1 + 1, 1, none⟩) (show w.heap.size ≤ w.heap.size + 1 + 1 by omega) (.string ⟨#[]⟩)
  have q0 := KE.at 0
  have q1 := KE.at 1
  simp at q0 q1
  exact bodyPost_ret (v := .tuple #[.agg #[.string ⟨#[]⟩, .string ⟨#[]⟩], .int .i64 4]) (by simp [results, Tryz.results7, go_sem, q0, q1]) rfl ⟨rfl, bE⟩
set_option maxRecDepth 100000 in
set_option maxHeartbeats 3200000 in
theorem Reckon_Div (n d m k : ByteArray) (r s t : Rat) (u v : ByteArray) (er z : Int) (w : World) (hz : (z == 0) = false) (TW : ∀ x, Below w.heap.size w x → Calls Tryz.prog 26 #[.agg #[.string n, .string d], .agg #[.string m, .string k]] x fun e w' => e = .returned (.int .i64 0) ∧ Below x.heap.size x w') (I1 : ∀ x, Below w.heap.size w x → Calls Tryz.prog 27 #[.agg #[.string n, .string d]] x (Qf r x)) (I2 : ∀ x, Below w.heap.size w x → Calls Tryz.prog 27 #[.agg #[.string m, .string k]] x (Qf s x)) (SG : ∀ x v1, L.IsQ x v1 s → Calls Tryz.prog 33 #[v1] x fun e w' => e = .returned (.int .i64 z) ∧ Below x.heap.size x w') (OP : ∀ x v1 v2, L.IsQ x v1 r → L.IsQ x v2 s → Calls Tryz.prog 34 #[v1, v2] x (Qf t x)) (OU : ∀ x v1, L.IsQ x v1 t → Calls Tryz.prog 29 #[v1] x fun e w' => e = .returned (.tuple #[.agg #[.string u, .string v], .int .i64 er]) ∧ Below x.heap.size x w') : Calls Tryz.prog 7 #[.int .i64 5, .agg #[.string n, .string d], .agg #[.string m, .string k]] w fun e w' => e = .returned (.tuple #[.agg #[.string u, .string v], .int .i64 er]) ∧ Below w.heap.size w w' := by
  have KA := (((Blk.new w #[.string n, .string d] 23).alloc (.cells #[.string m, .string k] 23)).alloc (.cells #[.string ⟨#[]⟩, .string ⟨#[]⟩] 23))
  have KB := ((Blk.new (w.alloc (.cells #[.string n, .string d] 23)) #[.string m, .string k] 23).alloc (.cells #[.string ⟨#[]⟩, .string ⟨#[]⟩] 23))
  have KR := (Blk.new ((w.alloc (.cells #[.string n, .string d] 23)).alloc (.cells #[.string m, .string k] 23)) #[.string ⟨#[]⟩, .string ⟨#[]⟩] 23)
  have pr : Below w.heap.size w (((w.alloc (.cells #[.string n, .string d] 23)).alloc (.cells #[.string m, .string k] 23)).alloc (.cells #[.string ⟨#[]⟩, .string ⟨#[]⟩] 23)) := ((((Below.refl _ _).alloc (by simp; try omega) _).alloc (by simp; try omega) _).alloc (by simp; try omega) _)
  simp only [World.size_alloc] at KB KR
  go_enter Tryz.func7, Tryz.ntmps7
  go_wp2_with (first
    | (go_at_call 29; (have mk6 := p5); (refine (OU _ _ t5).mono ?_); (rintro e w6 ⟨rfl, b6⟩); (have p6 := bel' p5 b6); (have KR6 := KR5.below b6 KR5.lt); (have K1 := KR6); (have z0 := K1.at 0); (have z1 := K1.at 1); (have y0 := K1.free 0); (have y1 := K1.free 1); (simp at z0 z1))
    | (go_at_call 34; (have mk5 := p4); (refine (OP _ _ _ q2_4 q3_4).mono ?_); (rintro e w5 ⟨g5, a5, l5, c5, a5', l5', c5', rfl, t5, b5⟩); (have p5 := bel' p4 b5); (have KR5 := KR4.below b5 KR4.lt); (have NB2_5 := NB2_4.grow b5); (have NB3_5 := NB3_4.grow b5); (have q2_5 := q2_4.grow b5); (have q3_5 := q3_4.grow b5))
    | (go_at_call 33; (have mk4 := p3); (refine (SG _ _ q3).mono ?_); (rintro e w4 ⟨rfl, b4⟩); (have p4 := bel' p3 b4); (have KR4 := KR3.below b4 KR3.lt); (have NB2_4 := NB2_3.grow b4); (have NB3_4 := NB3.grow b4); (have q2_4 := q2_3.grow b4); (have q3_4 := q3.grow b4); (have rNB240 := NB2_4.c0); (have rNB241 := NB2_4.c1); (have rNB242 := NB2_4.c2); (have rNB340 := NB3_4.c0); (have rNB341 := NB3_4.c1); (have rNB342 := NB3_4.c2))
    | (go_at_call 27; (have mk3 := p2); (refine (I2 _ p2).mono ?_); (rintro e w3 ⟨g3, a3, l3, c3, a3', l3', c3', rfl, t3, b3⟩); (have al3 := (Below.refl w3.heap.size w3).alloc (Nat.le_refl _) (.cells #[.bool g3, .slice a3 l3 c3, .slice a3' l3' c3'] 66)); (have NB3 := Rb.new w3 (.bool g3) (.slice a3 l3 c3) (.slice a3' l3' c3') 66); (have bb3 := bel' b3 al3); (have p3 := bel' p2 bb3); (have KR3 := KR2.below bb3 KR2.lt); (have NB2_3 := NB2.grow bb3); (have q2_3 := q2.grow bb3); (have rNB230 := NB2_3.c0); (have rNB231 := NB2_3.c1); (have rNB232 := NB2_3.c2); (have rNB330 := NB3.c0); (have rNB331 := NB3.c1); (have rNB332 := NB3.c2); (have q3 := t3.grow al3))
    | (go_at_call 27; (have mk2 := p1); (refine (I1 _ p1).mono ?_); (rintro e w2 ⟨g2, a2, l2, c2, a2', l2', c2', rfl, t2, b2⟩); (have al2 := (Below.refl w2.heap.size w2).alloc (Nat.le_refl _) (.cells #[.bool g2, .slice a2 l2 c2, .slice a2' l2' c2'] 66)); (have NB2 := Rb.new w2 (.bool g2) (.slice a2 l2 c2) (.slice a2' l2' c2') 66); (have bb2 := bel' b2 al2); (have p2 := bel' p1 bb2); (have KB2 := KB1.below bb2 KB1.lt); (have KR2 := KR1.below bb2 KR1.lt); (have hKB20 := KB2.at 0); (have hKB21 := KB2.at 1); (simp at hKB20 hKB21); (have q2 := t2.grow al2))
    | (go_at_call 26; (refine (TW _ pr).mono ?_); (rintro e w1 ⟨rfl, b1⟩); (have p1 := bel' pr b1); (have KA1 := KA.below b1 KA.lt); (have KB1 := KB.below b1 KB.lt); (have KR1 := KR.below b1 KR.lt); (have hKA10 := KA1.at 0); (have hKA11 := KA1.at 1); (simp at hKA10 hKA11))
    | fail)
  have KE := bput (bput K1 0 (.string u)) 1 (.string v)
  have bE := (p6.setCell (p := ⟨w.heap.size + 1 + 1, 0, none⟩) (show w.heap.size ≤ w.heap.size + 1 + 1 by omega) (.string u)).setCell (p := ⟨w.heap.size + 1 + 1, 1, none⟩) (show w.heap.size ≤ w.heap.size + 1 + 1 by omega) (.string v)
  have q0 := KE.at 0
  have q1 := KE.at 1
  simp at q0 q1
  exact bodyPost_ret (v := .tuple #[.agg #[.string u, .string v], .int .i64 er]) (by simp [results, Tryz.results7, go_sem, q0, q1]) rfl ⟨rfl, bE⟩
set_option maxRecDepth 100000 in
set_option maxHeartbeats 3200000 in
theorem RSign_e (n d : ByteArray) (c : Int) (w : World) (hc : (c != 0) = true) (GD : ∀ x, Below w.heap.size w x → Calls Tryz.prog 9 #[.agg #[.string n, .string d]] x fun e w' => e = .returned (.int .i64 c) ∧ Below x.heap.size x w') : Calls Tryz.prog 18 #[.agg #[.string n, .string d]] w fun e w' => e = .returned (.tuple #[.int .i64 0, .int .i64 c]) ∧ Below w.heap.size w w' := by
  have KA := (Blk.new w #[.string n, .string d] 23)
  have pr : Below w.heap.size w (w.alloc (.cells #[.string n, .string d] 23)) := ((Below.refl _ _).alloc (by simp; try omega) _)
  go_enter Tryz.func18, Tryz.ntmps18
  go_wp2_with (first
    | (go_at_call 9; (refine (GD _ pr).mono ?_); (rintro e w1 ⟨rfl, b1⟩); (have p1 := bel' pr b1); (have KA1 := KA.below b1 KA.lt); (have hKA10 := KA1.at 0); (have hKA11 := KA1.at 1); (simp at hKA10 hKA11))
    | fail)
  go_ret2
  exact ⟨rfl, p1⟩
set_option maxRecDepth 100000 in
set_option maxHeartbeats 3200000 in
theorem RSign_k (n d : ByteArray) (s : Rat) (z : Int) (w : World) (GD : ∀ x, Below w.heap.size w x → Calls Tryz.prog 9 #[.agg #[.string n, .string d]] x fun e w' => e = .returned (.int .i64 0) ∧ Below x.heap.size x w') (I1 : ∀ x, Below w.heap.size w x → Calls Tryz.prog 27 #[.agg #[.string n, .string d]] x (Qf s x)) (SG : ∀ x v1, L.IsQ x v1 s → Calls Tryz.prog 33 #[v1] x fun e w' => e = .returned (.int .i64 z) ∧ Below x.heap.size x w') : Calls Tryz.prog 18 #[.agg #[.string n, .string d]] w fun e w' => e = .returned (.tuple #[.int .i64 z, .int .i64 0]) ∧ Below w.heap.size w w' := by
  have KA := (Blk.new w #[.string n, .string d] 23)
  have pr : Below w.heap.size w (w.alloc (.cells #[.string n, .string d] 23)) := ((Below.refl _ _).alloc (by simp; try omega) _)
  go_enter Tryz.func18, Tryz.ntmps18
  go_wp2_with (first
    | (go_at_call 33; (have mk3 := p2); (refine (SG _ _ t2).mono ?_); (rintro e w3 ⟨rfl, b3⟩); (have p3 := bel' p2 b3); (have KA3 := KA2.below b3 KA2.lt); (have hKA30 := KA3.at 0); (have hKA31 := KA3.at 1); (simp at hKA30 hKA31))
    | (go_at_call 27; (have mk2 := p1); (refine (I1 _ p1).mono ?_); (rintro e w2 ⟨g2, a2, l2, c2, a2', l2', c2', rfl, t2, b2⟩); (have p2 := bel' p1 b2); (have KA2 := KA1.below b2 KA1.lt); (have hKA20 := KA2.at 0); (have hKA21 := KA2.at 1); (simp at hKA20 hKA21))
    | (go_at_call 9; (refine (GD _ pr).mono ?_); (rintro e w1 ⟨rfl, b1⟩); (have p1 := bel' pr b1); (have KA1 := KA.below b1 KA.lt); (have hKA10 := KA1.at 0); (have hKA11 := KA1.at 1); (simp at hKA10 hKA11))
    | fail)
  go_ret2
  exact ⟨rfl, p3⟩
set_option maxRecDepth 100000 in
set_option maxHeartbeats 3200000 in
theorem RCmp_e (n d m k : ByteArray) (c : Int) (w : World) (hc : (c != 0) = true) (TW : ∀ x, Below w.heap.size w x → Calls Tryz.prog 26 #[.agg #[.string n, .string d], .agg #[.string m, .string k]] x fun e w' => e = .returned (.int .i64 c) ∧ Below x.heap.size x w') : Calls Tryz.prog 16 #[.agg #[.string n, .string d], .agg #[.string m, .string k]] w fun e w' => e = .returned (.tuple #[.int .i64 0, .int .i64 c]) ∧ Below w.heap.size w w' := by
  have KA := ((Blk.new w #[.string n, .string d] 23).alloc (.cells #[.string m, .string k] 23))
  have KB := (Blk.new (w.alloc (.cells #[.string n, .string d] 23)) #[.string m, .string k] 23)
  have pr : Below w.heap.size w ((w.alloc (.cells #[.string n, .string d] 23)).alloc (.cells #[.string m, .string k] 23)) := (((Below.refl _ _).alloc (by simp; try omega) _).alloc (by simp; try omega) _)
  simp only [World.size_alloc] at KB
  go_enter Tryz.func16, Tryz.ntmps16
  go_wp2_with (first
    | (go_at_call 26; (refine (TW _ pr).mono ?_); (rintro e w1 ⟨rfl, b1⟩); (have p1 := bel' pr b1); (have KA1 := KA.below b1 KA.lt); (have KB1 := KB.below b1 KB.lt); (have hKA10 := KA1.at 0); (have hKA11 := KA1.at 1); (simp at hKA10 hKA11); (have hKB10 := KB1.at 0); (have hKB11 := KB1.at 1); (simp at hKB10 hKB11))
    | fail)
  go_ret2
  exact ⟨rfl, p1⟩
set_option maxRecDepth 100000 in
set_option maxHeartbeats 3200000 in
theorem RCmp_k (n d m k : ByteArray) (r s : Rat) (z : Int) (w : World) (TW : ∀ x, Below w.heap.size w x → Calls Tryz.prog 26 #[.agg #[.string n, .string d], .agg #[.string m, .string k]] x fun e w' => e = .returned (.int .i64 0) ∧ Below x.heap.size x w') (I1 : ∀ x, Below w.heap.size w x → Calls Tryz.prog 27 #[.agg #[.string n, .string d]] x (Qf r x)) (I2 : ∀ x, Below w.heap.size w x → Calls Tryz.prog 27 #[.agg #[.string m, .string k]] x (Qf s x)) (CM : ∀ x v1 v2, L.IsQ x v1 r → L.IsQ x v2 s → Calls Tryz.prog 45 #[v1, v2] x fun e w' => e = .returned (.int .i64 z) ∧ Below x.heap.size x w') : Calls Tryz.prog 16 #[.agg #[.string n, .string d], .agg #[.string m, .string k]] w fun e w' => e = .returned (.tuple #[.int .i64 z, .int .i64 0]) ∧ Below w.heap.size w w' := by
  have KA := ((Blk.new w #[.string n, .string d] 23).alloc (.cells #[.string m, .string k] 23))
  have KB := (Blk.new (w.alloc (.cells #[.string n, .string d] 23)) #[.string m, .string k] 23)
  have pr : Below w.heap.size w ((w.alloc (.cells #[.string n, .string d] 23)).alloc (.cells #[.string m, .string k] 23)) := (((Below.refl _ _).alloc (by simp; try omega) _).alloc (by simp; try omega) _)
  simp only [World.size_alloc] at KB
  go_enter Tryz.func16, Tryz.ntmps16
  go_wp2_with (first
    | (go_at_call 26; (refine (TW _ pr).mono ?_); (rintro e w1 ⟨rfl, b1⟩); (have p1 := bel' pr b1); (have KA1 := KA.below b1 KA.lt); (have KB1 := KB.below b1 KB.lt); (have hKA10 := KA1.at 0); (have hKA11 := KA1.at 1); (simp at hKA10 hKA11); (have hKB10 := KB1.at 0); (have hKB11 := KB1.at 1); (simp at hKB10 hKB11))
    | fail)
  go_region_held3 (fun x => x.cell? ⟨w.heap.size, 0, none⟩ = some (.string n) ∧ x.cell? ⟨w.heap.size, 1, none⟩ = some (.string d) ∧ x.cell? ⟨w.heap.size + 1, 0, none⟩ = some (.string m) ∧ x.cell? ⟨w.heap.size + 1, 1, none⟩ = some (.string k)) (first | exact ⟨s40, s41, s42, s43⟩ | exact ⟨s30, s31, s32, s33⟩ | exact ⟨s20, s21, s22, s23⟩ | go_keep) (first
    | (go_at_call 45; (have mk4 := p3); (refine (CM _ _ _ (t2.grow b3) t3).mono ?_); (rintro e w4 ⟨rfl, b4⟩); (have d4 := b4); (have p4 := bel' p3 d4); (have KA4 := KA3.below d4 KA3.lt); (have KB4 := KB3.below d4 KB3.lt); (have s40 := KA4.at 0); (have s41 := KA4.at 1); (have s42 := KB4.at 0); (have s43 := KB4.at 1); (simp at s40 s41 s42 s43))
    | (go_at_call 27; (have mk3 := p2); (refine (I2 _ p2).mono ?_); (rintro e w3 ⟨g3, a3, l3, c3, a3', l3', c3', rfl, t3, b3⟩); (have d3 := b3); (have p3 := bel' p2 d3); (have KA3 := KA2.below d3 KA2.lt); (have KB3 := KB2.below d3 KB2.lt); (have s30 := KA3.at 0); (have s31 := KA3.at 1); (have s32 := KB3.at 0); (have s33 := KB3.at 1); (simp at s30 s31 s32 s33))
    | (go_at_call 27; (have mk2 := p1); (refine (I1 _ (p1.drew)).mono ?_); (rintro e w2 ⟨g2, a2, l2, c2, a2', l2', c2', rfl, t2, b2⟩); (have d2 := undrew b2); (have p2 := bel' p1 d2); (have KA2 := KA1.below d2 KA1.lt); (have KB2 := KB1.below d2 KB1.lt); (have s20 := KA2.at 0); (have s21 := KA2.at 1); (have s22 := KB2.at 0); (have s23 := KB2.at 1); (simp at s20 s21 s22 s23))
    | fail)
  go_wp2_with fail
  go_ret2
  exact ⟨rfl, p4⟩
end Go.Proofs.YtfalncbcomlelaaGreatDoor.Mo
