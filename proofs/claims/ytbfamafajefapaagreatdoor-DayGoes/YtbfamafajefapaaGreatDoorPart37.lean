import Derived.Test.YtbfamafajefapaaGreatDoorPart06
import Derived.Test.YtbfamafajefapaaGreatDoorPart36

namespace Go.Proofs.YtbfamafajefapaaGreatDoor.Dy
open Go.RowKit Tn
set_option maxHeartbeats 1600000 in
set_option maxRecDepth 100000 in
theorem Part_bad (y m d u v e D : Int) (w : World) (G : Gl w) (E h : Int) (hE : E ≠ 0) (DF : ∀ W, Gl W → Calls Tryz.prog 48 #[.agg #[.int .i64 y, .int .i64 m, .int .i64 d], .agg #[.int .i64 u, .int .i64 v, .int .i64 e]] W fun x w' => x = .returned (.tuple #[.int .i64 D, .int .i64 E]) ∧ Below W.heap.size W w') : Calls Tryz.prog 16 #[.agg #[.int .i64 y, .int .i64 m, .int .i64 d], .agg #[.int .i64 u, .int .i64 v, .int .i64 e], .int .i64 h] w fun x w' => x = .returned (.tuple #[.agg #[.string ⟨#[]⟩, .string ⟨#[]⟩], .int .i64 E]) ∧ Below w.heap.size w w' := by
  have Ka0 := ((Blk.new w #[.int .i64 y, .int .i64 m, .int .i64 d] 38).alloc (.cells #[.int .i64 u, .int .i64 v, .int .i64 e] 38)).alloc (.cells #[.string ⟨#[]⟩, .string ⟨#[]⟩] 23)
  have Kb0 := (Blk.new (w.alloc (.cells #[.int .i64 y, .int .i64 m, .int .i64 d] 38)) #[.int .i64 u, .int .i64 v, .int .i64 e] 38).alloc (.cells #[.string ⟨#[]⟩, .string ⟨#[]⟩] 23)
  have R0 := Blk.new ((w.alloc (.cells #[.int .i64 y, .int .i64 m, .int .i64 d] 38)).alloc (.cells #[.int .i64 u, .int .i64 v, .int .i64 e] 38)) #[.string ⟨#[]⟩, .string ⟨#[]⟩] 23
  simp only [World.size_alloc] at Kb0 R0
  have pr : Below w.heap.size w (((w.alloc (.cells #[.int .i64 y, .int .i64 m, .int .i64 d] 38)).alloc (.cells #[.int .i64 u, .int .i64 v, .int .i64 e] 38)).alloc (.cells #[.string ⟨#[]⟩, .string ⟨#[]⟩] 23)) := (((Below.refl _ _).alloc (Nat.le_refl _) _).alloc (by simp) _).alloc (by simp; omega) _
  have G0 := ((G.alloc (.cells #[.int .i64 y, .int .i64 m, .int .i64 d] 38)).alloc (.cells #[.int .i64 u, .int .i64 v, .int .i64 e] 38)).alloc (.cells #[.string ⟨#[]⟩, .string ⟨#[]⟩] 23)
  have ka00 := Ka0.c0
  have ka01 := Ka0.c1
  have ka02 := Ka0.c2
  have kb00 := Kb0.c0
  have kb01 := Kb0.c1
  have kb02 := Kb0.c2
  go_enter Tryz.func16, Tryz.ntmps16
  go_wp2_with (first
    | (go_at_call 48; refine (DF _ G0).mono ?_; rintro x w1 ⟨rfl, b1⟩; have Ka1 := Ka0.below b1 Ka0.lt; have Kb1 := Kb0.below b1 Kb0.lt; have R1 := R0.below b1 R0.lt; have G1 := G0.grow b1; have p1 := bel' pr b1; have ka10 := Ka1.c0; have ka11 := Ka1.c1; have ka12 := Ka1.c2; have kb10 := Kb1.c0; have kb11 := Kb1.c1; have kb12 := Kb1.c2; have rr10 := R1.at 0; have rr11 := R1.at 1; have rf10 := R1.free 0; have rf11 := R1.free 1; simp at rr10 rr11)
    | fail)
  have KE := dput (dput R1 0 (.string ⟨#[]⟩)) 1 (.string ⟨#[]⟩)
  have bE := (p1.setCell (p := ⟨w.heap.size + 1 + 1, 0, none⟩) (show w.heap.size ≤ w.heap.size + 1 + 1 by omega) (.string ⟨#[]⟩)).setCell (p := ⟨w.heap.size + 1 + 1, 1, none⟩) (show w.heap.size ≤ w.heap.size + 1 + 1 by omega) (.string ⟨#[]⟩)
  generalize (w1.setCell ⟨w.heap.size + 1 + 1, 0, none⟩ (.string ⟨#[]⟩)).setCell ⟨w.heap.size + 1 + 1, 1, none⟩ (.string ⟨#[]⟩) = WE at *
  have z0 := KE.at 0
  have z1 := KE.at 1
  simp at z0 z1
  exact bodyPost_ret (v := .tuple #[.agg #[.string ⟨#[]⟩, .string ⟨#[]⟩], .int .i64 E]) (by simp [results, Tryz.results16, go_sem, z0, z1]) rfl ⟨rfl, bE⟩
set_option maxHeartbeats 1600000 in
set_option maxRecDepth 100000 in
theorem Part_none (y m d u v e D : Int) (w : World) (G : Gl w) (h : Int) (h1 : h ≠ 1) (h2 : h ≠ 2) (h3 : h ≠ 3) (h4 : h ≠ 4) (DF : ∀ W, Gl W → Calls Tryz.prog 48 #[.agg #[.int .i64 y, .int .i64 m, .int .i64 d], .agg #[.int .i64 u, .int .i64 v, .int .i64 e]] W fun x w' => x = .returned (.tuple #[.int .i64 D, .int .i64 0]) ∧ Below W.heap.size W w') : Calls Tryz.prog 16 #[.agg #[.int .i64 y, .int .i64 m, .int .i64 d], .agg #[.int .i64 u, .int .i64 v, .int .i64 e], .int .i64 h] w fun x w' => x = .returned (.tuple #[.agg #[.string ⟨#[]⟩, .string ⟨#[]⟩], .int .i64 1]) ∧ Below w.heap.size w w' := by
  have Ka0 := ((Blk.new w #[.int .i64 y, .int .i64 m, .int .i64 d] 38).alloc (.cells #[.int .i64 u, .int .i64 v, .int .i64 e] 38)).alloc (.cells #[.string ⟨#[]⟩, .string ⟨#[]⟩] 23)
  have Kb0 := (Blk.new (w.alloc (.cells #[.int .i64 y, .int .i64 m, .int .i64 d] 38)) #[.int .i64 u, .int .i64 v, .int .i64 e] 38).alloc (.cells #[.string ⟨#[]⟩, .string ⟨#[]⟩] 23)
  have R0 := Blk.new ((w.alloc (.cells #[.int .i64 y, .int .i64 m, .int .i64 d] 38)).alloc (.cells #[.int .i64 u, .int .i64 v, .int .i64 e] 38)) #[.string ⟨#[]⟩, .string ⟨#[]⟩] 23
  simp only [World.size_alloc] at Kb0 R0
  have pr : Below w.heap.size w (((w.alloc (.cells #[.int .i64 y, .int .i64 m, .int .i64 d] 38)).alloc (.cells #[.int .i64 u, .int .i64 v, .int .i64 e] 38)).alloc (.cells #[.string ⟨#[]⟩, .string ⟨#[]⟩] 23)) := (((Below.refl _ _).alloc (Nat.le_refl _) _).alloc (by simp) _).alloc (by simp; omega) _
  have G0 := ((G.alloc (.cells #[.int .i64 y, .int .i64 m, .int .i64 d] 38)).alloc (.cells #[.int .i64 u, .int .i64 v, .int .i64 e] 38)).alloc (.cells #[.string ⟨#[]⟩, .string ⟨#[]⟩] 23)
  have ka00 := Ka0.c0
  have ka01 := Ka0.c1
  have ka02 := Ka0.c2
  have kb00 := Kb0.c0
  have kb01 := Kb0.c1
  have kb02 := Kb0.c2
  go_enter Tryz.func16, Tryz.ntmps16
  go_wp2_with (first
    | (go_at_call 48; refine (DF _ G0).mono ?_; rintro x w1 ⟨rfl, b1⟩; have Ka1 := Ka0.below b1 Ka0.lt; have Kb1 := Kb0.below b1 Kb0.lt; have R1 := R0.below b1 R0.lt; have G1 := G0.grow b1; have p1 := bel' pr b1; have ka10 := Ka1.c0; have ka11 := Ka1.c1; have ka12 := Ka1.c2; have kb10 := Kb1.c0; have kb11 := Kb1.c1; have kb12 := Kb1.c2; have rr10 := R1.at 0; have rr11 := R1.at 1; have rf10 := R1.free 0; have rf11 := R1.free 1; simp at rr10 rr11)
    | fail)
  have KE := dput (dput R1 0 (.string ⟨#[]⟩)) 1 (.string ⟨#[]⟩)
  have bE := (p1.setCell (p := ⟨w.heap.size + 1 + 1, 0, none⟩) (show w.heap.size ≤ w.heap.size + 1 + 1 by omega) (.string ⟨#[]⟩)).setCell (p := ⟨w.heap.size + 1 + 1, 1, none⟩) (show w.heap.size ≤ w.heap.size + 1 + 1 by omega) (.string ⟨#[]⟩)
  generalize (w1.setCell ⟨w.heap.size + 1 + 1, 0, none⟩ (.string ⟨#[]⟩)).setCell ⟨w.heap.size + 1 + 1, 1, none⟩ (.string ⟨#[]⟩) = WE at *
  have z0 := KE.at 0
  have z1 := KE.at 1
  simp at z0 z1
  exact bodyPost_ret (v := .tuple #[.agg #[.string ⟨#[]⟩, .string ⟨#[]⟩], .int .i64 1]) (by simp [results, Tryz.results16, go_sem, z0, z1]) rfl ⟨rfl, bE⟩
set_option maxHeartbeats 1600000 in
set_option maxRecDepth 100000 in
theorem Part_365 (y m d u v e D : Int) (w : World) (G : Gl w) (s t : ByteArray) (DF : ∀ W, Gl W → Calls Tryz.prog 48 #[.agg #[.int .i64 y, .int .i64 m, .int .i64 d], .agg #[.int .i64 u, .int .i64 v, .int .i64 e]] W fun x w' => x = .returned (.tuple #[.int .i64 D, .int .i64 0]) ∧ Below W.heap.size W w') (OF : ∀ W, Below w.heap.size w W → Calls Tryz.prog 50 #[.int .i64 (D * 366), .int .i64 133590] W fun x w' => x = .returned (.tuple #[.agg #[.string s, .string t], .int .i64 0]) ∧ Below W.heap.size W w') (e1 : IntKind.i64.wrap (D * 366) = D * 366) : Calls Tryz.prog 16 #[.agg #[.int .i64 y, .int .i64 m, .int .i64 d], .agg #[.int .i64 u, .int .i64 v, .int .i64 e], .int .i64 1] w fun x w' => x = .returned (.tuple #[.agg #[.string s, .string t], .int .i64 0]) ∧ Below w.heap.size w w' := by
  have Ka0 := ((Blk.new w #[.int .i64 y, .int .i64 m, .int .i64 d] 38).alloc (.cells #[.int .i64 u, .int .i64 v, .int .i64 e] 38)).alloc (.cells #[.string ⟨#[]⟩, .string ⟨#[]⟩] 23)
  have Kb0 := (Blk.new (w.alloc (.cells #[.int .i64 y, .int .i64 m, .int .i64 d] 38)) #[.int .i64 u, .int .i64 v, .int .i64 e] 38).alloc (.cells #[.string ⟨#[]⟩, .string ⟨#[]⟩] 23)
  have R0 := Blk.new ((w.alloc (.cells #[.int .i64 y, .int .i64 m, .int .i64 d] 38)).alloc (.cells #[.int .i64 u, .int .i64 v, .int .i64 e] 38)) #[.string ⟨#[]⟩, .string ⟨#[]⟩] 23
  simp only [World.size_alloc] at Kb0 R0
  have pr : Below w.heap.size w (((w.alloc (.cells #[.int .i64 y, .int .i64 m, .int .i64 d] 38)).alloc (.cells #[.int .i64 u, .int .i64 v, .int .i64 e] 38)).alloc (.cells #[.string ⟨#[]⟩, .string ⟨#[]⟩] 23)) := (((Below.refl _ _).alloc (Nat.le_refl _) _).alloc (by simp) _).alloc (by simp; omega) _
  have G0 := ((G.alloc (.cells #[.int .i64 y, .int .i64 m, .int .i64 d] 38)).alloc (.cells #[.int .i64 u, .int .i64 v, .int .i64 e] 38)).alloc (.cells #[.string ⟨#[]⟩, .string ⟨#[]⟩] 23)
  have ka00 := Ka0.c0
  have ka01 := Ka0.c1
  have ka02 := Ka0.c2
  have kb00 := Kb0.c0
  have kb01 := Kb0.c1
  have kb02 := Kb0.c2
  go_enter Tryz.func16, Tryz.ntmps16
  go_wp2_with (first
    | (go_at_call 48; refine (DF _ G0).mono ?_; rintro x w1 ⟨rfl, b1⟩; have Ka1 := Ka0.below b1 Ka0.lt; have Kb1 := Kb0.below b1 Kb0.lt; have R1 := R0.below b1 R0.lt; have G1 := G0.grow b1; have p1 := bel' pr b1; have ka10 := Ka1.c0; have ka11 := Ka1.c1; have ka12 := Ka1.c2; have kb10 := Kb1.c0; have kb11 := Kb1.c1; have kb12 := Kb1.c2; have rr10 := R1.at 0; have rr11 := R1.at 1; have rf10 := R1.free 0; have rf11 := R1.free 1; simp at rr10 rr11)
    | (go_at_call 50; refine (OF _ p1).mono ?_; rintro x w2 ⟨rfl, b2⟩; have Ka2 := Ka1.below b2 Ka1.lt; have Kb2 := Kb1.below b2 Kb1.lt; have R2 := R1.below b2 R1.lt; have G2 := G1.grow b2; have p2 := bel' p1 b2; have rr20 := R2.at 0; have rr21 := R2.at 1; have rf20 := R2.free 0; have rf21 := R2.free 1; simp at rr20 rr21)
    | fail)
  have KE := dput (dput R2 0 (.string s)) 1 (.string t)
  have bE := (p2.setCell (p := ⟨w.heap.size + 1 + 1, 0, none⟩) (show w.heap.size ≤ w.heap.size + 1 + 1 by omega) (.string s)).setCell (p := ⟨w.heap.size + 1 + 1, 1, none⟩) (show w.heap.size ≤ w.heap.size + 1 + 1 by omega) (.string t)
  generalize (w2.setCell ⟨w.heap.size + 1 + 1, 0, none⟩ (.string s)).setCell ⟨w.heap.size + 1 + 1, 1, none⟩ (.string t) = WE at *
  have z0 := KE.at 0
  have z1 := KE.at 1
  simp at z0 z1
  exact bodyPost_ret (v := .tuple #[.agg #[.string s, .string t], .int .i64 0]) (by simp [results, Tryz.results16, go_sem, z0, z1]) rfl ⟨rfl, bE⟩
set_option maxHeartbeats 1600000 in
set_option maxRecDepth 100000 in
theorem Part_360 (y m d u v e D : Int) (w : World) (G : Gl w) (s t : ByteArray) (DF : ∀ W, Gl W → Calls Tryz.prog 48 #[.agg #[.int .i64 y, .int .i64 m, .int .i64 d], .agg #[.int .i64 u, .int .i64 v, .int .i64 e]] W fun x w' => x = .returned (.tuple #[.int .i64 D, .int .i64 0]) ∧ Below W.heap.size W w') (OF : ∀ W, Below w.heap.size w W → Calls Tryz.prog 50 #[.int .i64 (D), .int .i64 360] W fun x w' => x = .returned (.tuple #[.agg #[.string s, .string t], .int .i64 0]) ∧ Below W.heap.size W w') : Calls Tryz.prog 16 #[.agg #[.int .i64 y, .int .i64 m, .int .i64 d], .agg #[.int .i64 u, .int .i64 v, .int .i64 e], .int .i64 2] w fun x w' => x = .returned (.tuple #[.agg #[.string s, .string t], .int .i64 0]) ∧ Below w.heap.size w w' := by
  have Ka0 := ((Blk.new w #[.int .i64 y, .int .i64 m, .int .i64 d] 38).alloc (.cells #[.int .i64 u, .int .i64 v, .int .i64 e] 38)).alloc (.cells #[.string ⟨#[]⟩, .string ⟨#[]⟩] 23)
  have Kb0 := (Blk.new (w.alloc (.cells #[.int .i64 y, .int .i64 m, .int .i64 d] 38)) #[.int .i64 u, .int .i64 v, .int .i64 e] 38).alloc (.cells #[.string ⟨#[]⟩, .string ⟨#[]⟩] 23)
  have R0 := Blk.new ((w.alloc (.cells #[.int .i64 y, .int .i64 m, .int .i64 d] 38)).alloc (.cells #[.int .i64 u, .int .i64 v, .int .i64 e] 38)) #[.string ⟨#[]⟩, .string ⟨#[]⟩] 23
  simp only [World.size_alloc] at Kb0 R0
  have pr : Below w.heap.size w (((w.alloc (.cells #[.int .i64 y, .int .i64 m, .int .i64 d] 38)).alloc (.cells #[.int .i64 u, .int .i64 v, .int .i64 e] 38)).alloc (.cells #[.string ⟨#[]⟩, .string ⟨#[]⟩] 23)) := (((Below.refl _ _).alloc (Nat.le_refl _) _).alloc (by simp) _).alloc (by simp; omega) _
  have G0 := ((G.alloc (.cells #[.int .i64 y, .int .i64 m, .int .i64 d] 38)).alloc (.cells #[.int .i64 u, .int .i64 v, .int .i64 e] 38)).alloc (.cells #[.string ⟨#[]⟩, .string ⟨#[]⟩] 23)
  have ka00 := Ka0.c0
  have ka01 := Ka0.c1
  have ka02 := Ka0.c2
  have kb00 := Kb0.c0
  have kb01 := Kb0.c1
  have kb02 := Kb0.c2
  go_enter Tryz.func16, Tryz.ntmps16
  go_wp2_with (first
    | (go_at_call 48; refine (DF _ G0).mono ?_; rintro x w1 ⟨rfl, b1⟩; have Ka1 := Ka0.below b1 Ka0.lt; have Kb1 := Kb0.below b1 Kb0.lt; have R1 := R0.below b1 R0.lt; have G1 := G0.grow b1; have p1 := bel' pr b1; have ka10 := Ka1.c0; have ka11 := Ka1.c1; have ka12 := Ka1.c2; have kb10 := Kb1.c0; have kb11 := Kb1.c1; have kb12 := Kb1.c2; have rr10 := R1.at 0; have rr11 := R1.at 1; have rf10 := R1.free 0; have rf11 := R1.free 1; simp at rr10 rr11)
    | (go_at_call 50; refine (OF _ p1).mono ?_; rintro x w2 ⟨rfl, b2⟩; have Ka2 := Ka1.below b2 Ka1.lt; have Kb2 := Kb1.below b2 Kb1.lt; have R2 := R1.below b2 R1.lt; have G2 := G1.grow b2; have p2 := bel' p1 b2; have rr20 := R2.at 0; have rr21 := R2.at 1; have rf20 := R2.free 0; have rf21 := R2.free 1; simp at rr20 rr21)
    | fail)
  have KE := dput (dput R2 0 (.string s)) 1 (.string t)
  have bE := (p2.setCell (p := ⟨w.heap.size + 1 + 1, 0, none⟩) (show w.heap.size ≤ w.heap.size + 1 + 1 by omega) (.string s)).setCell (p := ⟨w.heap.size + 1 + 1, 1, none⟩) (show w.heap.size ≤ w.heap.size + 1 + 1 by omega) (.string t)
  generalize (w2.setCell ⟨w.heap.size + 1 + 1, 0, none⟩ (.string s)).setCell ⟨w.heap.size + 1 + 1, 1, none⟩ (.string t) = WE at *
  have z0 := KE.at 0
  have z1 := KE.at 1
  simp at z0 z1
  exact bodyPost_ret (v := .tuple #[.agg #[.string s, .string t], .int .i64 0]) (by simp [results, Tryz.results16, go_sem, z0, z1]) rfl ⟨rfl, bE⟩
structure PY1 (W x : World) (V0 : Value) (V1 : Value) (V2 : Value) (V3 : Value) (V4 : Value) (y0 y1 y2 y3 y4 : Bool) (t30 t31 t32 t33 t34 : Value) : Prop where
  bel : Below W.heap.size W x
  o0 : y0 = true → t30 = V0
  o1 : y1 = true → t31 = V1
  o2 : y2 = true → t32 = V2
  o3 : y3 = true → t33 = V3
  o4 : y4 = true → t34 = V4
theorem PY1.grow {W x x' : World} {V0 : Value} {V1 : Value} {V2 : Value} {V3 : Value} {V4 : Value} {y0 y1 y2 y3 y4 : Bool} {t30 t31 t32 t33 t34 : Value} (h : PY1 W x V0 V1 V2 V3 V4 y0 y1 y2 y3 y4 t30 t31 t32 t33 t34) (b : Below x.heap.size x x') : PY1 W x' V0 V1 V2 V3 V4 y0 y1 y2 y3 y4 t30 t31 t32 t33 t34 where
  bel := bel' h.bel b
  o0 := h.o0
  o1 := h.o1
  o2 := h.o2
  o3 := h.o3
  o4 := h.o4
set_option maxHeartbeats 1600000 in
set_option maxRecDepth 100000 in
theorem Part_years (y m d u v e D : Int) (w : World) (G : Gl w) (L1 L2 L M Q : Int) (s t : ByteArray) (DF : ∀ W, Gl W → Calls Tryz.prog 48 #[.agg #[.int .i64 y, .int .i64 m, .int .i64 d], .agg #[.int .i64 u, .int .i64 v, .int .i64 e]] W fun x w' => x = .returned (.tuple #[.int .i64 D, .int .i64 0]) ∧ Below W.heap.size W w') (LA : ∀ W, Gl W → Calls Tryz.prog 49 #[.agg #[.int .i64 y, .int .i64 m, .int .i64 d]] W fun x w' => x = .returned (.int .i64 L1) ∧ Below W.heap.size W w') (LB : ∀ W, Gl W → Calls Tryz.prog 49 #[.agg #[.int .i64 u, .int .i64 v, .int .i64 e]] W fun x w' => x = .returned (.int .i64 L2) ∧ Below W.heap.size W w') (eL : IntKind.i64.wrap (L2 - L1) = L) (eM : IntKind.i64.wrap (D - L) = M) (e1 : IntKind.i64.wrap (L * 365) = L * 365) (e2 : IntKind.i64.wrap (M * 366) = M * 366) (e3 : IntKind.i64.wrap (L * 365 + M * 366) = Q) (OF : ∀ W, Below w.heap.size w W → Calls Tryz.prog 50 #[.int .i64 (Q), .int .i64 133590] W fun x w' => x = .returned (.tuple #[.agg #[.string s, .string t], .int .i64 0]) ∧ Below W.heap.size W w') : Calls Tryz.prog 16 #[.agg #[.int .i64 y, .int .i64 m, .int .i64 d], .agg #[.int .i64 u, .int .i64 v, .int .i64 e], .int .i64 3] w fun x w' => x = .returned (.tuple #[.agg #[.string s, .string t], .int .i64 0]) ∧ Below w.heap.size w w' := by
  have Ka0 := ((Blk.new w #[.int .i64 y, .int .i64 m, .int .i64 d] 38).alloc (.cells #[.int .i64 u, .int .i64 v, .int .i64 e] 38)).alloc (.cells #[.string ⟨#[]⟩, .string ⟨#[]⟩] 23)
  have Kb0 := (Blk.new (w.alloc (.cells #[.int .i64 y, .int .i64 m, .int .i64 d] 38)) #[.int .i64 u, .int .i64 v, .int .i64 e] 38).alloc (.cells #[.string ⟨#[]⟩, .string ⟨#[]⟩] 23)
  have R0 := Blk.new ((w.alloc (.cells #[.int .i64 y, .int .i64 m, .int .i64 d] 38)).alloc (.cells #[.int .i64 u, .int .i64 v, .int .i64 e] 38)) #[.string ⟨#[]⟩, .string ⟨#[]⟩] 23
  simp only [World.size_alloc] at Kb0 R0
  have pr : Below w.heap.size w (((w.alloc (.cells #[.int .i64 y, .int .i64 m, .int .i64 d] 38)).alloc (.cells #[.int .i64 u, .int .i64 v, .int .i64 e] 38)).alloc (.cells #[.string ⟨#[]⟩, .string ⟨#[]⟩] 23)) := (((Below.refl _ _).alloc (Nat.le_refl _) _).alloc (by simp) _).alloc (by simp; omega) _
  have G0 := ((G.alloc (.cells #[.int .i64 y, .int .i64 m, .int .i64 d] 38)).alloc (.cells #[.int .i64 u, .int .i64 v, .int .i64 e] 38)).alloc (.cells #[.string ⟨#[]⟩, .string ⟨#[]⟩] 23)
  have ka00 := Ka0.c0
  have ka01 := Ka0.c1
  have ka02 := Ka0.c2
  have kb00 := Kb0.c0
  have kb01 := Kb0.c1
  have kb02 := Kb0.c2
  go_enter Tryz.func16, Tryz.ntmps16
  go_wp2_with (first
    | (go_at_call 48; refine (DF _ G0).mono ?_; rintro x w1 ⟨rfl, b1⟩; have Ka1 := Ka0.below b1 Ka0.lt; have Kb1 := Kb0.below b1 Kb0.lt; have R1 := R0.below b1 R0.lt; have G1 := G0.grow b1; have p1 := bel' pr b1; have ka10 := Ka1.c0; have ka11 := Ka1.c1; have ka12 := Ka1.c2; have kb10 := Kb1.c0; have kb11 := Kb1.c1; have kb12 := Kb1.c2; have rr10 := R1.at 0; have rr11 := R1.at 1; have rf10 := R1.free 0; have rf11 := R1.free 1; simp at rr10 rr11)
    | fail)
  go_cut [10] from 30 to 34 (fun x wc => x = .int .i64 L ∧ Below w1.heap.size w1 wc)
  case first =>
    rename_i hm hJ
    refine wp_region_held (S := fun _ => True) (by kernel_rfl) (any_inv (fun listed a x => ∃ (y0 y1 y2 y3 y4 : Bool) (t30 t31 t32 t33 t34 : Value) (z10 : Value), a = ⟨#[.agg #[.int .i64 y, .int .i64 m, .int .i64 d], .agg #[.int .i64 u, .int .i64 v, .int .i64 e], .int .i64 3, .pointer (some ⟨w.heap.size, 0, none⟩), .pointer (some ⟨w.heap.size + 1, 0, none⟩), undef, .pointer (some ⟨w.heap.size + 1 + 1, 0, none⟩), .int .i64 0, .int .i64 D, .int .i64 0, z10, .tuple #[.int .i64 D, .int .i64 0], .agg #[.int .i64 y, .int .i64 m, .int .i64 d], .agg #[.int .i64 u, .int .i64 v, .int .i64 e], .tuple #[.int .i64 D, .int .i64 0], .int .i64 D, .int .i64 0, .int .i64 0, .bool false, undef, undef, .int .i64 3, .bool true, .bool true, undef, undef, undef, undef, undef, undef, t30, t31, t32, t33, t34, undef, undef, undef, undef, undef, undef, undef, undef, undef, undef, undef, undef, undef, undef, undef, undef, undef, undef, undef, undef, undef], []⟩ ∧ ((listed = #[y0, y1, y2, y3, y4, false] ∧ PY1 w1 x (.agg #[.int .i64 u, .int .i64 v, .int .i64 e]) (.int .i64 L2) (.agg #[.int .i64 y, .int .i64 m, .int .i64 d]) (.int .i64 L1) (.int .i64 L) y0 y1 y2 y3 y4 t30 t31 t32 t33 t34 ∧ z10 = .int .i64 0) ∨ (listed = #[true, true, true, true, true, true] ∧ t34 = .int .i64 L ∧ z10 = .int .i64 L ∧ Below w1.heap.size w1 x))) ?_ ?_ _ _ _ _ (by decide) ?_)
    · rintro listed a x i ⟨y0, y1, y2, y3, y4, t30, t31, t32, t33, t34, z10, rfl, h⟩ hi
      have hr : i < 6 := List.mem_range.1 (List.mem_filter.1 hi).1
      have hc := (List.mem_filter.1 hi).2
      rcases h with ⟨rfl, h⟩ | ⟨rfl, h⟩
      · rcases (show i = 0 ∨ i = 1 ∨ i = 2 ∨ i = 3 ∨ i = 4 ∨ i = 5 by omega) with rfl | rfl | rfl | rfl | rfl | rfl
        · obtain ⟨h, rfl⟩ := h
          clear hc hi
          have kd0 := (Kb1.below h.bel Kb1.lt).c0
          have kd1 := (Kb1.below h.bel Kb1.lt).c1
          have kd2 := (Kb1.below h.bel Kb1.lt).c2
          refine wpOp_step rfl (fun K hK0 => ?_)
          have hK : Hid _ := hK0
          clear hK0
          rw [if_pos (by rfl)]
          go_wp2_with fail
          exact hK.out _ _ ⟨true, y1, y2, y3, y4, .agg #[.int .i64 u, .int .i64 v, .int .i64 e], t31, t32, t33, t34, .int .i64 0, rfl, Or.inl ⟨rfl, ⟨{ h with o0 := fun _ => rfl }, rfl⟩⟩⟩
        · obtain ⟨h, rfl⟩ := h
          have e0 : y0 = true := by
            revert hc
            cases y0 <;> simp [Region.binds]
          have r0 := h.o0 e0
          subst r0
          clear hc hi
          refine wpOp_step rfl (fun K hK0 => ?_)
          have hK : Hid _ := hK0
          clear hK0
          rw [if_pos (by rfl)]
          go_wp2_with (first | (go_at_call 49; go_must (refine (LB x (G1.grow h.bel)).mono ?_; rintro e x2 ⟨rfl, bb⟩)) | fail)
          exact hK.out _ _ ⟨y0, true, y2, y3, y4, _, _, t32, t33, t34, .int .i64 0, rfl, Or.inl ⟨rfl, ⟨{ h.grow bb with o1 := fun _ => rfl }, rfl⟩⟩⟩
        · obtain ⟨h, rfl⟩ := h
          clear hc hi
          have kd0 := (Ka1.below h.bel Ka1.lt).c0
          have kd1 := (Ka1.below h.bel Ka1.lt).c1
          have kd2 := (Ka1.below h.bel Ka1.lt).c2
          refine wpOp_step rfl (fun K hK0 => ?_)
          have hK : Hid _ := hK0
          clear hK0
          rw [if_pos (by rfl)]
          go_wp2_with fail
          exact hK.out _ _ ⟨y0, y1, true, y3, y4, t30, t31, .agg #[.int .i64 y, .int .i64 m, .int .i64 d], t33, t34, .int .i64 0, rfl, Or.inl ⟨rfl, ⟨{ h with o2 := fun _ => rfl }, rfl⟩⟩⟩
        · obtain ⟨h, rfl⟩ := h
          have e2 : y2 = true := by
            revert hc
            cases y2 <;> simp [Region.binds]
          have r2 := h.o2 e2
          subst r2
          clear hc hi
          refine wpOp_step rfl (fun K hK0 => ?_)
          have hK : Hid _ := hK0
          clear hK0
          rw [if_pos (by rfl)]
          go_wp2_with (first | (go_at_call 49; go_must (refine (LA x (G1.grow h.bel)).mono ?_; rintro e x2 ⟨rfl, bb⟩)) | fail)
          exact hK.out _ _ ⟨y0, y1, y2, true, y4, t30, t31, _, _, t34, .int .i64 0, rfl, Or.inl ⟨rfl, ⟨{ h.grow bb with o3 := fun _ => rfl }, rfl⟩⟩⟩
        · obtain ⟨h, rfl⟩ := h
          have e1 : y1 = true := by
            revert hc
            cases y1 <;> simp [Region.binds]
          have e3 : y3 = true := by
            revert hc
            cases y3 <;> simp [Region.binds]
          have r1 := h.o1 e1
          subst r1
          have r3 := h.o3 e3
          subst r3
          clear hc hi
          have q := eL
          refine wpOp_step rfl (fun K hK0 => ?_)
          have hK : Hid _ := hK0
          clear hK0
          rw [if_pos (by rfl)]
          go_wp2_with fail
          exact hK.out _ _ ⟨y0, y1, y2, y3, true, t30, _, t32, _, .int .i64 L, .int .i64 0, rfl, Or.inl ⟨rfl, ⟨{ h with o4 := fun _ => rfl }, rfl⟩⟩⟩
        · obtain ⟨h, rfl⟩ := h
          have e0 : y0 = true := by
            revert hc
            cases y0 <;> simp [Region.binds]
          have e1 : y1 = true := by
            revert hc
            cases y1 <;> simp [Region.binds]
          have e2 : y2 = true := by
            revert hc
            cases y2 <;> simp [Region.binds]
          have e3 : y3 = true := by
            revert hc
            cases y3 <;> simp [Region.binds]
          have e4 : y4 = true := by
            revert hc
            cases y4 <;> simp [Region.binds]
          have r4 := h.o4 e4
          subst r4
          clear hc hi
          subst e0 e1 e2 e3 e4
          have bl := h.bel
          clear h
          refine wpOp_step rfl (fun K hK0 => ?_)
          have hK : Hid _ := hK0
          clear hK0
          rw [if_pos (by rfl)]
          go_wp2_with fail
          exact hK.out _ _ ⟨true, true, true, true, true, t30, t31, t32, t33, _, _, rfl, Or.inr (⟨rfl, rfl, rfl, bl⟩)⟩
      · rcases (show i = 0 ∨ i = 1 ∨ i = 2 ∨ i = 3 ∨ i = 4 ∨ i = 5 by omega) with rfl | rfl | rfl | rfl | rfl | rfl <;> simp at hc
    · rintro listed a x ⟨y0, y1, y2, y3, y4, t30, t31, t32, t33, t34, z10, rfl, h⟩ hn
      have al := all_listed (by decide +kernel) hn
      rcases h with ⟨rfl, h⟩ | ⟨rfl, h⟩
      · have z := al 5 (by decide)
        simp at z
      · obtain ⟨rfl, rfl, bl⟩ := h
        refine hJ _ _ ?_
        go_meet
        case rel => exact ⟨rfl, bl⟩
    · exact ⟨false, false, false, false, false, undef, undef, undef, undef, undef, .int .i64 0, rfl, Or.inl ⟨rfl, ⟨{ bel := (Below.refl _ _).drew, o0 := (by intro q; cases q), o1 := (by intro q; cases q), o2 := (by intro q; cases q), o3 := (by intro q; cases q), o4 := (by intro q; cases q) }, rfl⟩⟩⟩
  case rest =>
    obtain ⟨rfl, b2⟩ := hcut
    rename World => w2
    have R2 := R1.below b2 R1.lt
    have G2 := G1.grow b2
    have p2 := bel' p1 b2
    have Ka2 := Ka1.below b2 Ka1.lt
    have Kb2 := Kb1.below b2 Kb1.lt
    go_wp2_with (first
      | (go_at_call 50; refine (OF _ p2).mono ?_; rintro x w3 ⟨rfl, b3⟩; have Ka3 := Ka2.below b3 Ka2.lt; have Kb3 := Kb2.below b3 Kb2.lt; have R3 := R2.below b3 R2.lt; have G3 := G2.grow b3; have p3 := bel' p2 b3; have rr30 := R3.at 0; have rr31 := R3.at 1; have rf30 := R3.free 0; have rf31 := R3.free 1; simp at rr30 rr31)
      | fail)
    have KE := dput (dput R3 0 (.string s)) 1 (.string t)
    have bE := (p3.setCell (p := ⟨w.heap.size + 1 + 1, 0, none⟩) (show w.heap.size ≤ w.heap.size + 1 + 1 by omega) (.string s)).setCell (p := ⟨w.heap.size + 1 + 1, 1, none⟩) (show w.heap.size ≤ w.heap.size + 1 + 1 by omega) (.string t)
    generalize (w3.setCell ⟨w.heap.size + 1 + 1, 0, none⟩ (.string s)).setCell ⟨w.heap.size + 1 + 1, 1, none⟩ (.string t) = WE at *
    have z0 := KE.at 0
    have z1 := KE.at 1
    simp at z0 z1
    exact bodyPost_ret (v := .tuple #[.agg #[.string s, .string t], .int .i64 0]) (by simp [results, Tryz.results16, go_sem, z0, z1]) rfl ⟨rfl, bE⟩
structure PT1 (W x : World) (V0 : Value) (V1 : Value) (V2 : Value) (V3 : Value) (V4 : Value) (y0 y1 y2 y3 y4 : Bool) (t46 t47 t48 t49 t50 : Value) : Prop where
  bel : Below W.heap.size W x
  o0 : y0 = true → t46 = V0
  o1 : y1 = true → t47 = V1
  o2 : y2 = true → t48 = V2
  o3 : y3 = true → t49 = V3
  o4 : y4 = true → t50 = V4
theorem PT1.grow {W x x' : World} {V0 : Value} {V1 : Value} {V2 : Value} {V3 : Value} {V4 : Value} {y0 y1 y2 y3 y4 : Bool} {t46 t47 t48 t49 t50 : Value} (h : PT1 W x V0 V1 V2 V3 V4 y0 y1 y2 y3 y4 t46 t47 t48 t49 t50) (b : Below x.heap.size x x') : PT1 W x' V0 V1 V2 V3 V4 y0 y1 y2 y3 y4 t46 t47 t48 t49 t50 where
  bel := bel' h.bel b
  o0 := h.o0
  o1 := h.o1
  o2 := h.o2
  o3 := h.o3
  o4 := h.o4
set_option maxHeartbeats 1600000 in
set_option maxRecDepth 100000 in
theorem Part_third (y m d u v e D : Int) (w : World) (G : Gl w) (L1 L2 L : Int) (s t : ByteArray) (DF : ∀ W, Gl W → Calls Tryz.prog 48 #[.agg #[.int .i64 y, .int .i64 m, .int .i64 d], .agg #[.int .i64 u, .int .i64 v, .int .i64 e]] W fun x w' => x = .returned (.tuple #[.int .i64 D, .int .i64 0]) ∧ Below W.heap.size W w') (LA : ∀ W, Gl W → Calls Tryz.prog 51 #[.agg #[.int .i64 y, .int .i64 m, .int .i64 d]] W fun x w' => x = .returned (.int .i64 L1) ∧ Below W.heap.size W w') (LB : ∀ W, Gl W → Calls Tryz.prog 51 #[.agg #[.int .i64 u, .int .i64 v, .int .i64 e]] W fun x w' => x = .returned (.int .i64 L2) ∧ Below W.heap.size W w') (eL : IntKind.i64.wrap (L2 - L1) = L) (OF : ∀ W, Below w.heap.size w W → Calls Tryz.prog 50 #[.int .i64 (L), .int .i64 360] W fun x w' => x = .returned (.tuple #[.agg #[.string s, .string t], .int .i64 0]) ∧ Below W.heap.size W w') : Calls Tryz.prog 16 #[.agg #[.int .i64 y, .int .i64 m, .int .i64 d], .agg #[.int .i64 u, .int .i64 v, .int .i64 e], .int .i64 4] w fun x w' => x = .returned (.tuple #[.agg #[.string s, .string t], .int .i64 0]) ∧ Below w.heap.size w w' := by
  have Ka0 := ((Blk.new w #[.int .i64 y, .int .i64 m, .int .i64 d] 38).alloc (.cells #[.int .i64 u, .int .i64 v, .int .i64 e] 38)).alloc (.cells #[.string ⟨#[]⟩, .string ⟨#[]⟩] 23)
  have Kb0 := (Blk.new (w.alloc (.cells #[.int .i64 y, .int .i64 m, .int .i64 d] 38)) #[.int .i64 u, .int .i64 v, .int .i64 e] 38).alloc (.cells #[.string ⟨#[]⟩, .string ⟨#[]⟩] 23)
  have R0 := Blk.new ((w.alloc (.cells #[.int .i64 y, .int .i64 m, .int .i64 d] 38)).alloc (.cells #[.int .i64 u, .int .i64 v, .int .i64 e] 38)) #[.string ⟨#[]⟩, .string ⟨#[]⟩] 23
  simp only [World.size_alloc] at Kb0 R0
  have pr : Below w.heap.size w (((w.alloc (.cells #[.int .i64 y, .int .i64 m, .int .i64 d] 38)).alloc (.cells #[.int .i64 u, .int .i64 v, .int .i64 e] 38)).alloc (.cells #[.string ⟨#[]⟩, .string ⟨#[]⟩] 23)) := (((Below.refl _ _).alloc (Nat.le_refl _) _).alloc (by simp) _).alloc (by simp; omega) _
  have G0 := ((G.alloc (.cells #[.int .i64 y, .int .i64 m, .int .i64 d] 38)).alloc (.cells #[.int .i64 u, .int .i64 v, .int .i64 e] 38)).alloc (.cells #[.string ⟨#[]⟩, .string ⟨#[]⟩] 23)
  have ka00 := Ka0.c0
  have ka01 := Ka0.c1
  have ka02 := Ka0.c2
  have kb00 := Kb0.c0
  have kb01 := Kb0.c1
  have kb02 := Kb0.c2
  go_enter Tryz.func16, Tryz.ntmps16
  go_wp2_with (first
    | (go_at_call 48; refine (DF _ G0).mono ?_; rintro x w1 ⟨rfl, b1⟩; have Ka1 := Ka0.below b1 Ka0.lt; have Kb1 := Kb0.below b1 Kb0.lt; have R1 := R0.below b1 R0.lt; have G1 := G0.grow b1; have p1 := bel' pr b1; have ka10 := Ka1.c0; have ka11 := Ka1.c1; have ka12 := Ka1.c2; have kb10 := Kb1.c0; have kb11 := Kb1.c1; have kb12 := Kb1.c2; have rr10 := R1.at 0; have rr11 := R1.at 1; have rf10 := R1.free 0; have rf11 := R1.free 1; simp at rr10 rr11)
    | fail)
  refine Code.wp_mono (Q := fun ex a x => ex = .normal ∧ (fun a x => ∃ t46 t47 t48 t49 t50, a = ⟨#[.agg #[.int .i64 y, .int .i64 m, .int .i64 d], .agg #[.int .i64 u, .int .i64 v, .int .i64 e], .int .i64 4, .pointer (some ⟨w.heap.size, 0, none⟩), .pointer (some ⟨w.heap.size + 1, 0, none⟩), undef, .pointer (some ⟨w.heap.size + 1 + 1, 0, none⟩), .int .i64 0, .int .i64 L, .int .i64 0, .int .i64 0, .tuple #[.int .i64 D, .int .i64 0], .agg #[.int .i64 y, .int .i64 m, .int .i64 d], .agg #[.int .i64 u, .int .i64 v, .int .i64 e], .tuple #[.int .i64 D, .int .i64 0], .int .i64 D, .int .i64 0, .int .i64 0, .bool false, undef, undef, .int .i64 4, .bool false, .bool false, .bool false, .bool false, .bool true, .bool true, undef, undef, undef, undef, undef, undef, undef, undef, undef, undef, undef, undef, undef, undef, undef, undef, undef, undef, t46, t47, t48, t49, t50, undef, undef, undef, undef, undef], []⟩ ∧ Below w1.heap.size w1 x) a x) ?_ ?_
  rotate_left
  · refine wp_region_held (S := fun _ => True) (by kernel_rfl) (any_inv (fun listed a x => ∃ (y0 y1 y2 y3 y4 : Bool) (t46 t47 t48 t49 t50 : Value) (z8 : Value), a = ⟨#[.agg #[.int .i64 y, .int .i64 m, .int .i64 d], .agg #[.int .i64 u, .int .i64 v, .int .i64 e], .int .i64 4, .pointer (some ⟨w.heap.size, 0, none⟩), .pointer (some ⟨w.heap.size + 1, 0, none⟩), undef, .pointer (some ⟨w.heap.size + 1 + 1, 0, none⟩), .int .i64 0, z8, .int .i64 0, .int .i64 0, .tuple #[.int .i64 D, .int .i64 0], .agg #[.int .i64 y, .int .i64 m, .int .i64 d], .agg #[.int .i64 u, .int .i64 v, .int .i64 e], .tuple #[.int .i64 D, .int .i64 0], .int .i64 D, .int .i64 0, .int .i64 0, .bool false, undef, undef, .int .i64 4, .bool false, .bool false, .bool false, .bool false, .bool true, .bool true, undef, undef, undef, undef, undef, undef, undef, undef, undef, undef, undef, undef, undef, undef, undef, undef, undef, undef, t46, t47, t48, t49, t50, undef, undef, undef, undef, undef], []⟩ ∧ ((listed = #[y0, y1, y2, y3, y4, false] ∧ PT1 w1 x (.agg #[.int .i64 u, .int .i64 v, .int .i64 e]) (.int .i64 L2) (.agg #[.int .i64 y, .int .i64 m, .int .i64 d]) (.int .i64 L1) (.int .i64 L) y0 y1 y2 y3 y4 t46 t47 t48 t49 t50 ∧ z8 = .int .i64 D) ∨ (listed = #[true, true, true, true, true, true] ∧ t50 = .int .i64 L ∧ z8 = .int .i64 L ∧ Below w1.heap.size w1 x))) ?_ ?_ _ _ _ _ (by decide) ?_)
    · rintro listed a x i ⟨y0, y1, y2, y3, y4, t46, t47, t48, t49, t50, z8, rfl, h⟩ hi
      have hr : i < 6 := List.mem_range.1 (List.mem_filter.1 hi).1
      have hc := (List.mem_filter.1 hi).2
      rcases h with ⟨rfl, h⟩ | ⟨rfl, h⟩
      · rcases (show i = 0 ∨ i = 1 ∨ i = 2 ∨ i = 3 ∨ i = 4 ∨ i = 5 by omega) with rfl | rfl | rfl | rfl | rfl | rfl
        · obtain ⟨h, rfl⟩ := h
          clear hc hi
          have kd0 := (Kb1.below h.bel Kb1.lt).c0
          have kd1 := (Kb1.below h.bel Kb1.lt).c1
          have kd2 := (Kb1.below h.bel Kb1.lt).c2
          refine wpOp_step rfl (fun K hK0 => ?_)
          have hK : Hid _ := hK0
          clear hK0
          rw [if_pos (by rfl)]
          go_wp2_with fail
          exact hK.out _ _ ⟨true, y1, y2, y3, y4, .agg #[.int .i64 u, .int .i64 v, .int .i64 e], t47, t48, t49, t50, .int .i64 D, rfl, Or.inl ⟨rfl, ⟨{ h with o0 := fun _ => rfl }, rfl⟩⟩⟩
        · obtain ⟨h, rfl⟩ := h
          have e0 : y0 = true := by
            revert hc
            cases y0 <;> simp [Region.binds]
          have r0 := h.o0 e0
          subst r0
          clear hc hi
          refine wpOp_step rfl (fun K hK0 => ?_)
          have hK : Hid _ := hK0
          clear hK0
          rw [if_pos (by rfl)]
          go_wp2_with (first | (go_at_call 51; go_must (refine (LB x (G1.grow h.bel)).mono ?_; rintro e x2 ⟨rfl, bb⟩)) | fail)
          exact hK.out _ _ ⟨y0, true, y2, y3, y4, _, _, t48, t49, t50, .int .i64 D, rfl, Or.inl ⟨rfl, ⟨{ h.grow bb with o1 := fun _ => rfl }, rfl⟩⟩⟩
        · obtain ⟨h, rfl⟩ := h
          clear hc hi
          have kd0 := (Ka1.below h.bel Ka1.lt).c0
          have kd1 := (Ka1.below h.bel Ka1.lt).c1
          have kd2 := (Ka1.below h.bel Ka1.lt).c2
          refine wpOp_step rfl (fun K hK0 => ?_)
          have hK : Hid _ := hK0
          clear hK0
          rw [if_pos (by rfl)]
          go_wp2_with fail
          exact hK.out _ _ ⟨y0, y1, true, y3, y4, t46, t47, .agg #[.int .i64 y, .int .i64 m, .int .i64 d], t49, t50, .int .i64 D, rfl, Or.inl ⟨rfl, ⟨{ h with o2 := fun _ => rfl }, rfl⟩⟩⟩
        · obtain ⟨h, rfl⟩ := h
          have e2 : y2 = true := by
            revert hc
            cases y2 <;> simp [Region.binds]
          have r2 := h.o2 e2
          subst r2
          clear hc hi
          refine wpOp_step rfl (fun K hK0 => ?_)
          have hK : Hid _ := hK0
          clear hK0
          rw [if_pos (by rfl)]
          go_wp2_with (first | (go_at_call 51; go_must (refine (LA x (G1.grow h.bel)).mono ?_; rintro e x2 ⟨rfl, bb⟩)) | fail)
          exact hK.out _ _ ⟨y0, y1, y2, true, y4, t46, t47, _, _, t50, .int .i64 D, rfl, Or.inl ⟨rfl, ⟨{ h.grow bb with o3 := fun _ => rfl }, rfl⟩⟩⟩
        · obtain ⟨h, rfl⟩ := h
          have e1 : y1 = true := by
            revert hc
            cases y1 <;> simp [Region.binds]
          have e3 : y3 = true := by
            revert hc
            cases y3 <;> simp [Region.binds]
          have r1 := h.o1 e1
          subst r1
          have r3 := h.o3 e3
          subst r3
          clear hc hi
          have q := eL
          refine wpOp_step rfl (fun K hK0 => ?_)
          have hK : Hid _ := hK0
          clear hK0
          rw [if_pos (by rfl)]
          go_wp2_with fail
          exact hK.out _ _ ⟨y0, y1, y2, y3, true, t46, _, t48, _, .int .i64 L, .int .i64 D, rfl, Or.inl ⟨rfl, ⟨{ h with o4 := fun _ => rfl }, rfl⟩⟩⟩
        · obtain ⟨h, rfl⟩ := h
          have e0 : y0 = true := by
            revert hc
            cases y0 <;> simp [Region.binds]
          have e1 : y1 = true := by
            revert hc
            cases y1 <;> simp [Region.binds]
          have e2 : y2 = true := by
            revert hc
            cases y2 <;> simp [Region.binds]
          have e3 : y3 = true := by
            revert hc
            cases y3 <;> simp [Region.binds]
          have e4 : y4 = true := by
            revert hc
            cases y4 <;> simp [Region.binds]
          have r4 := h.o4 e4
          subst r4
          clear hc hi
          subst e0 e1 e2 e3 e4
          have bl := h.bel
          clear h
          refine wpOp_step rfl (fun K hK0 => ?_)
          have hK : Hid _ := hK0
          clear hK0
          rw [if_pos (by rfl)]
          go_wp2_with fail
          exact hK.out _ _ ⟨true, true, true, true, true, t46, t47, t48, t49, _, _, rfl, Or.inr (⟨rfl, rfl, rfl, bl⟩)⟩
      · rcases (show i = 0 ∨ i = 1 ∨ i = 2 ∨ i = 3 ∨ i = 4 ∨ i = 5 by omega) with rfl | rfl | rfl | rfl | rfl | rfl <;> simp at hc
    · rintro listed a x ⟨y0, y1, y2, y3, y4, t46, t47, t48, t49, t50, z8, rfl, h⟩ hn
      have al := all_listed (by decide +kernel) hn
      rcases h with ⟨rfl, h⟩ | ⟨rfl, h⟩
      · have z := al 5 (by decide)
        simp at z
      · obtain ⟨rfl, rfl, bl⟩ := h
        refine ⟨rfl, ?_⟩
        exact ⟨_, _, _, _, _, rfl, bl⟩
    · exact ⟨false, false, false, false, false, undef, undef, undef, undef, undef, .int .i64 D, rfl, Or.inl ⟨rfl, ⟨{ bel := (Below.refl _ _).drew, o0 := (by intro q; cases q), o1 := (by intro q; cases q), o2 := (by intro q; cases q), o3 := (by intro q; cases q), o4 := (by intro q; cases q) }, rfl⟩⟩⟩
  · rintro _ a w2 ⟨rfl, t46, t47, t48, t49, t50, rfl, b2⟩
    have R2 := R1.below b2 R1.lt
    have G2 := G1.grow b2
    have p2 := bel' p1 b2
    have Ka2 := Ka1.below b2 Ka1.lt
    have Kb2 := Kb1.below b2 Kb1.lt
    go_wp2_with (first
      | (go_at_call 50; refine (OF _ p2).mono ?_; rintro x w3 ⟨rfl, b3⟩; have Ka3 := Ka2.below b3 Ka2.lt; have Kb3 := Kb2.below b3 Kb2.lt; have R3 := R2.below b3 R2.lt; have G3 := G2.grow b3; have p3 := bel' p2 b3; have rr30 := R3.at 0; have rr31 := R3.at 1; have rf30 := R3.free 0; have rf31 := R3.free 1; simp at rr30 rr31)
      | fail)
    have KE := dput (dput R3 0 (.string s)) 1 (.string t)
    have bE := (p3.setCell (p := ⟨w.heap.size + 1 + 1, 0, none⟩) (show w.heap.size ≤ w.heap.size + 1 + 1 by omega) (.string s)).setCell (p := ⟨w.heap.size + 1 + 1, 1, none⟩) (show w.heap.size ≤ w.heap.size + 1 + 1 by omega) (.string t)
    generalize (w3.setCell ⟨w.heap.size + 1 + 1, 0, none⟩ (.string s)).setCell ⟨w.heap.size + 1 + 1, 1, none⟩ (.string t) = WE at *
    have z0 := KE.at 0
    have z1 := KE.at 1
    simp at z0 z1
    exact bodyPost_ret (v := .tuple #[.agg #[.string s, .string t], .int .i64 0]) (by simp [results, Tryz.results16, go_sem, z0, z1]) rfl ⟨rfl, bE⟩
end Go.Proofs.YtbfamafajefapaaGreatDoor.Dy
