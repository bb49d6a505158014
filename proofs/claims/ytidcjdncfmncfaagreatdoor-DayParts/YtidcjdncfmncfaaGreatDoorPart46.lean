import Derived.Test.YtidcjdncfmncfaaGreatDoorPart27
import Derived.Test.YtidcjdncfmncfaaGreatDoorPart28
import Derived.Test.YtidcjdncfmncfaaGreatDoorPart45

namespace Go.Proofs.YtidcjdncfmncfaaGreatDoor.Dy
open Go.RowKit Tn
structure RP6 (W x : World) (V0 : Value) (V1 : Value) (V2 : Value) (V3 : Value) (V4 : Value) (y0 y1 y2 y3 y4 : Bool) (t32 t33 t34 t35 t36 : Value) : Prop where
  bel : Below W.heap.size W x
  o0 : y0 = true → t32 = V0
  o1 : y1 = true → t33 = V1
  o2 : y2 = true → t34 = V2
  o3 : y3 = true → t35 = V3
  o4 : y4 = true → t36 = V4
theorem RP6.grow {W x x' : World} {V0 : Value} {V1 : Value} {V2 : Value} {V3 : Value} {V4 : Value} {y0 y1 y2 y3 y4 : Bool} {t32 t33 t34 t35 t36 : Value} (h : RP6 W x V0 V1 V2 V3 V4 y0 y1 y2 y3 y4 t32 t33 t34 t35 t36) (b : Below x.heap.size x x') : RP6 W x' V0 V1 V2 V3 V4 y0 y1 y2 y3 y4 t32 t33 t34 t35 t36 where
  bel := bel' h.bel b
  o0 := h.o0
  o1 := h.o1
  o2 := h.o2
  o3 := h.o3
  o4 := h.o4
set_option maxHeartbeats 3200000 in
set_option maxRecDepth 100000 in
theorem RPart_bad (y m d u v e : Int) (w : World) (G : Gl w) (E h : Int) (hE : E ≠ 0) (TW : ∀ W, Gl W → Calls Tryz.prog 42 #[.agg #[.int .i64 y, .int .i64 m, .int .i64 d], .agg #[.int .i64 u, .int .i64 v, .int .i64 e]] W fun x w' => x = .returned (.int .i64 E) ∧ Below W.heap.size W w') : Calls Tryz.prog 15 #[.agg #[.int .i64 y, .int .i64 m, .int .i64 d], .agg #[.int .i64 u, .int .i64 v, .int .i64 e], .int .i64 h] w fun x w' => x = .returned (.tuple #[.agg #[.string ⟨#[]⟩, .string ⟨#[]⟩], .int .i64 E]) ∧ Below w.heap.size w w' := by
  have Ka0 := ((Blk.new w #[.int .i64 y, .int .i64 m, .int .i64 d] 38).alloc (.cells #[.int .i64 u, .int .i64 v, .int .i64 e] 38)).alloc (.cells #[.string ⟨#[]⟩, .string ⟨#[]⟩] 23)
  have Kb0 := (Blk.new (w.alloc (.cells #[.int .i64 y, .int .i64 m, .int .i64 d] 38)) #[.int .i64 u, .int .i64 v, .int .i64 e] 38).alloc (.cells #[.string ⟨#[]⟩, .string ⟨#[]⟩] 23)
  have R0 := Blk.new ((w.alloc (.cells #[.int .i64 y, .int .i64 m, .int .i64 d] 38)).alloc (.cells #[.int .i64 u, .int .i64 v, .int .i64 e] 38)) #[.string ⟨#[]⟩, .string ⟨#[]⟩] 23
  simp only [World.size_alloc] at Kb0 R0
  have pr : Below w.heap.size w (((w.alloc (.cells #[.int .i64 y, .int .i64 m, .int .i64 d] 38)).alloc (.cells #[.int .i64 u, .int .i64 v, .int .i64 e] 38)).alloc (.cells #[.string ⟨#[]⟩, .string ⟨#[]⟩] 23)) := (((Below.refl _ _).alloc (Nat.le_refl _) _).alloc (by simp) _).alloc (by simp; omega) _
  have G0 := ((G.alloc (.cells #[.int .i64 y, .int .i64 m, .int .i64 d] 38)).alloc (.cells #[.int .i64 u, .int .i64 v, .int .i64 e] 38)).alloc (.cells #[.string ⟨#[]⟩, .string ⟨#[]⟩] 23)
  have ka00 := Ka0.c0
  have ka01 := Ka0.c1
  have ka02 := Ka0.c2
  have kb00 := Kb0.c0
  have kb01 := Kb0.c1
  have kb02 := Kb0.c2
  go_enter Tryz.func15, Tryz.ntmps15
  go_wp2_with (first
    | (go_at_call 42; refine (TW _ G0).mono ?_; rintro x w1 ⟨rfl, b1⟩; have Ka1 := Ka0.below b1 Ka0.lt; have Kb1 := Kb0.below b1 Kb0.lt; have R1 := R0.below b1 R0.lt; have p1 := bel' pr b1; have ka10 := Ka1.c0; have ka11 := Ka1.c1; have ka12 := Ka1.c2; have kb10 := Kb1.c0; have kb11 := Kb1.c1; have kb12 := Kb1.c2; have rr10 := R1.at 0; have rr11 := R1.at 1; have rf10 := R1.free 0; have rf11 := R1.free 1; simp at rr10 rr11)
    | fail)
  have KE := dput (dput R1 0 (.string ⟨#[]⟩)) 1 (.string ⟨#[]⟩)
  have bE := (p1.setCell (p := ⟨w.heap.size + 1 + 1, 0, none⟩) (show w.heap.size ≤ w.heap.size + 1 + 1 by omega) (.string ⟨#[]⟩)).setCell (p := ⟨w.heap.size + 1 + 1, 1, none⟩) (show w.heap.size ≤ w.heap.size + 1 + 1 by omega) (.string ⟨#[]⟩)
  generalize (w1.setCell ⟨w.heap.size + 1 + 1, 0, none⟩ (.string ⟨#[]⟩)).setCell ⟨w.heap.size + 1 + 1, 1, none⟩ (.string ⟨#[]⟩) = WE at *
  have z0 := KE.at 0
  have z1 := KE.at 1
  simp at z0 z1
  exact bodyPost_ret (v := .tuple #[.agg #[.string ⟨#[]⟩, .string ⟨#[]⟩], .int .i64 E]) (by simp [results, Tryz.results15, go_sem, z0, z1]) rfl ⟨rfl, bE⟩
set_option maxHeartbeats 3200000 in
set_option maxRecDepth 100000 in
theorem RPart_none (y m d u v e : Int) (w : World) (G : Gl w) (h : Int) (hh : h < 1 ∨ 4 < h) (TW : ∀ W, Gl W → Calls Tryz.prog 42 #[.agg #[.int .i64 y, .int .i64 m, .int .i64 d], .agg #[.int .i64 u, .int .i64 v, .int .i64 e]] W fun x w' => x = .returned (.int .i64 0) ∧ Below W.heap.size W w') : Calls Tryz.prog 15 #[.agg #[.int .i64 y, .int .i64 m, .int .i64 d], .agg #[.int .i64 u, .int .i64 v, .int .i64 e], .int .i64 h] w fun x w' => x = .returned (.tuple #[.agg #[.string ⟨#[]⟩, .string ⟨#[]⟩], .int .i64 1]) ∧ Below w.heap.size w w' := by
  have Ka0 := ((Blk.new w #[.int .i64 y, .int .i64 m, .int .i64 d] 38).alloc (.cells #[.int .i64 u, .int .i64 v, .int .i64 e] 38)).alloc (.cells #[.string ⟨#[]⟩, .string ⟨#[]⟩] 23)
  have Kb0 := (Blk.new (w.alloc (.cells #[.int .i64 y, .int .i64 m, .int .i64 d] 38)) #[.int .i64 u, .int .i64 v, .int .i64 e] 38).alloc (.cells #[.string ⟨#[]⟩, .string ⟨#[]⟩] 23)
  have R0 := Blk.new ((w.alloc (.cells #[.int .i64 y, .int .i64 m, .int .i64 d] 38)).alloc (.cells #[.int .i64 u, .int .i64 v, .int .i64 e] 38)) #[.string ⟨#[]⟩, .string ⟨#[]⟩] 23
  simp only [World.size_alloc] at Kb0 R0
  have pr : Below w.heap.size w (((w.alloc (.cells #[.int .i64 y, .int .i64 m, .int .i64 d] 38)).alloc (.cells #[.int .i64 u, .int .i64 v, .int .i64 e] 38)).alloc (.cells #[.string ⟨#[]⟩, .string ⟨#[]⟩] 23)) := (((Below.refl _ _).alloc (Nat.le_refl _) _).alloc (by simp) _).alloc (by simp; omega) _
  have G0 := ((G.alloc (.cells #[.int .i64 y, .int .i64 m, .int .i64 d] 38)).alloc (.cells #[.int .i64 u, .int .i64 v, .int .i64 e] 38)).alloc (.cells #[.string ⟨#[]⟩, .string ⟨#[]⟩] 23)
  have ka00 := Ka0.c0
  have ka01 := Ka0.c1
  have ka02 := Ka0.c2
  have kb00 := Kb0.c0
  have kb01 := Kb0.c1
  have kb02 := Kb0.c2
  go_enter Tryz.func15, Tryz.ntmps15
  by_cases h1 : h < 1
  · clear hh
    go_wp2_with (first
      | (go_at_call 42; refine (TW _ G0).mono ?_; rintro x w1 ⟨rfl, b1⟩; have Ka1 := Ka0.below b1 Ka0.lt; have Kb1 := Kb0.below b1 Kb0.lt; have R1 := R0.below b1 R0.lt; have p1 := bel' pr b1; have ka10 := Ka1.c0; have ka11 := Ka1.c1; have ka12 := Ka1.c2; have kb10 := Kb1.c0; have kb11 := Kb1.c1; have kb12 := Kb1.c2; have rr10 := R1.at 0; have rr11 := R1.at 1; have rf10 := R1.free 0; have rf11 := R1.free 1; simp at rr10 rr11)
      | fail)
    have KE := dput (dput R1 0 (.string ⟨#[]⟩)) 1 (.string ⟨#[]⟩)
    have bE := (p1.setCell (p := ⟨w.heap.size + 1 + 1, 0, none⟩) (show w.heap.size ≤ w.heap.size + 1 + 1 by omega) (.string ⟨#[]⟩)).setCell (p := ⟨w.heap.size + 1 + 1, 1, none⟩) (show w.heap.size ≤ w.heap.size + 1 + 1 by omega) (.string ⟨#[]⟩)
    generalize (w1.setCell ⟨w.heap.size + 1 + 1, 0, none⟩ (.string ⟨#[]⟩)).setCell ⟨w.heap.size + 1 + 1, 1, none⟩ (.string ⟨#[]⟩) = WE at *
    have z0 := KE.at 0
    have z1 := KE.at 1
    simp at z0 z1
    exact bodyPost_ret (v := .tuple #[.agg #[.string ⟨#[]⟩, .string ⟨#[]⟩], .int .i64 1]) (by simp [results, Tryz.results15, go_sem, z0, z1]) rfl ⟨rfl, bE⟩
  · have h4 : 4 < h := by omega
    clear hh
    go_wp2_with (first
      | (go_at_call 42; refine (TW _ G0).mono ?_; rintro x w1 ⟨rfl, b1⟩; have Ka1 := Ka0.below b1 Ka0.lt; have Kb1 := Kb0.below b1 Kb0.lt; have R1 := R0.below b1 R0.lt; have p1 := bel' pr b1; have ka10 := Ka1.c0; have ka11 := Ka1.c1; have ka12 := Ka1.c2; have kb10 := Kb1.c0; have kb11 := Kb1.c1; have kb12 := Kb1.c2; have rr10 := R1.at 0; have rr11 := R1.at 1; have rf10 := R1.free 0; have rf11 := R1.free 1; simp at rr10 rr11)
      | fail)
    have KE := dput (dput R1 0 (.string ⟨#[]⟩)) 1 (.string ⟨#[]⟩)
    have bE := (p1.setCell (p := ⟨w.heap.size + 1 + 1, 0, none⟩) (show w.heap.size ≤ w.heap.size + 1 + 1 by omega) (.string ⟨#[]⟩)).setCell (p := ⟨w.heap.size + 1 + 1, 1, none⟩) (show w.heap.size ≤ w.heap.size + 1 + 1 by omega) (.string ⟨#[]⟩)
    generalize (w1.setCell ⟨w.heap.size + 1 + 1, 0, none⟩ (.string ⟨#[]⟩)).setCell ⟨w.heap.size + 1 + 1, 1, none⟩ (.string ⟨#[]⟩) = WE at *
    have z0 := KE.at 0
    have z1 := KE.at 1
    simp at z0 z1
    exact bodyPost_ret (v := .tuple #[.agg #[.string ⟨#[]⟩, .string ⟨#[]⟩], .int .i64 1]) (by simp [results, Tryz.results15, go_sem, z0, z1]) rfl ⟨rfl, bE⟩
set_option maxHeartbeats 3200000 in
set_option maxRecDepth 100000 in
theorem RPart_365 (y m d u v e : Int) (w : World) (G : Gl w) (Na Nb D : Int) (r : Rat) (s t : ByteArray) (TW : ∀ W, Gl W → Calls Tryz.prog 42 #[.agg #[.int .i64 y, .int .i64 m, .int .i64 d], .agg #[.int .i64 u, .int .i64 v, .int .i64 e]] W fun x w' => x = .returned (.int .i64 0) ∧ Below W.heap.size W w') (NA : ∀ W, Calls Tryz.prog 43 #[.agg #[.int .i64 y, .int .i64 m, .int .i64 d]] W fun x w' => x = .returned (.int .i64 Na) ∧ Below W.heap.size W w') (NB : ∀ W, Calls Tryz.prog 43 #[.agg #[.int .i64 u, .int .i64 v, .int .i64 e]] W fun x w' => x = .returned (.int .i64 Nb) ∧ Below W.heap.size W w') (eD : IntKind.i64.wrap (Nb - Na) = D) (FR : ∀ W, Calls Tryz.prog 37 #[.int .i64 D, .int .i64 365] W fun x w' => ∃ v, x = .returned v ∧ L.IsQ w' v r ∧ Below W.heap.size W w') (OU : ∀ v W, L.IsQ W v r → Calls Tryz.prog 44 #[v] W fun x w' => x = .returned (.tuple #[.agg #[.string s, .string t], .int .i64 0]) ∧ Below W.heap.size W w') : Calls Tryz.prog 15 #[.agg #[.int .i64 y, .int .i64 m, .int .i64 d], .agg #[.int .i64 u, .int .i64 v, .int .i64 e], .int .i64 1] w fun x w' => x = .returned (.tuple #[.agg #[.string s, .string t], .int .i64 0]) ∧ Below w.heap.size w w' := by
  have Ka0 := ((Blk.new w #[.int .i64 y, .int .i64 m, .int .i64 d] 38).alloc (.cells #[.int .i64 u, .int .i64 v, .int .i64 e] 38)).alloc (.cells #[.string ⟨#[]⟩, .string ⟨#[]⟩] 23)
  have Kb0 := (Blk.new (w.alloc (.cells #[.int .i64 y, .int .i64 m, .int .i64 d] 38)) #[.int .i64 u, .int .i64 v, .int .i64 e] 38).alloc (.cells #[.string ⟨#[]⟩, .string ⟨#[]⟩] 23)
  have R0 := Blk.new ((w.alloc (.cells #[.int .i64 y, .int .i64 m, .int .i64 d] 38)).alloc (.cells #[.int .i64 u, .int .i64 v, .int .i64 e] 38)) #[.string ⟨#[]⟩, .string ⟨#[]⟩] 23
  simp only [World.size_alloc] at Kb0 R0
  have pr : Below w.heap.size w (((w.alloc (.cells #[.int .i64 y, .int .i64 m, .int .i64 d] 38)).alloc (.cells #[.int .i64 u, .int .i64 v, .int .i64 e] 38)).alloc (.cells #[.string ⟨#[]⟩, .string ⟨#[]⟩] 23)) := (((Below.refl _ _).alloc (Nat.le_refl _) _).alloc (by simp) _).alloc (by simp; omega) _
  have G0 := ((G.alloc (.cells #[.int .i64 y, .int .i64 m, .int .i64 d] 38)).alloc (.cells #[.int .i64 u, .int .i64 v, .int .i64 e] 38)).alloc (.cells #[.string ⟨#[]⟩, .string ⟨#[]⟩] 23)
  have ka00 := Ka0.c0
  have ka01 := Ka0.c1
  have ka02 := Ka0.c2
  have kb00 := Kb0.c0
  have kb01 := Kb0.c1
  have kb02 := Kb0.c2
  go_enter Tryz.func15, Tryz.ntmps15
  go_wp2_with (first
    | (go_at_call 42; refine (TW _ G0).mono ?_; rintro x w1 ⟨rfl, b1⟩; have Ka1 := Ka0.below b1 Ka0.lt; have Kb1 := Kb0.below b1 Kb0.lt; have R1 := R0.below b1 R0.lt; have p1 := bel' pr b1; have ka10 := Ka1.c0; have ka11 := Ka1.c1; have ka12 := Ka1.c2; have kb10 := Kb1.c0; have kb11 := Kb1.c1; have kb12 := Kb1.c2; have rr10 := R1.at 0; have rr11 := R1.at 1; have rf10 := R1.free 0; have rf11 := R1.free 1; simp at rr10 rr11)
    | fail)
  go_cut [9] from 32 to 36 (fun x wc => x = .int .i64 D ∧ Below w1.heap.size w1 wc)
  case first =>
    rename_i hm hJ
    refine wp_region_held (S := fun _ => True) (by kernel_rfl) (any_inv (fun listed a x => ∃ (y0 y1 y2 y3 y4 : Bool) (t32 t33 t34 t35 t36 : Value) (z9 : Value), a = ⟨#[.agg #[.int .i64 y, .int .i64 m, .int .i64 d], .agg #[.int .i64 u, .int .i64 v, .int .i64 e], .int .i64 1, .pointer (some ⟨w.heap.size, 0, none⟩), .pointer (some ⟨w.heap.size + 1, 0, none⟩), undef, .pointer (some ⟨w.heap.size + 1 + 1, 0, none⟩), .int .i64 0, .int .i64 0, z9, undef, undef, undef, undef, undef, .agg #[.int .i64 y, .int .i64 m, .int .i64 d], .agg #[.int .i64 u, .int .i64 v, .int .i64 e], .int .i64 0, .int .i64 0, .bool true, .bool true, .int .i64 1, .bool false, .bool false, .int .i64 1, .bool false, .bool false, .bool false, .int .i64 0, .bool false, undef, undef, t32, t33, t34, t35, t36, undef, undef, undef, undef, undef, undef, undef, undef, undef, undef, undef, undef, undef, undef, undef, undef, undef, undef, undef, undef, undef, undef, undef, undef, undef, undef, undef, undef, undef, undef, undef, undef, undef, undef, undef, undef, undef, undef, undef, undef, undef, undef, undef, undef, undef, undef, undef, undef, undef, undef, undef, undef, undef, undef, undef, undef, undef, undef, undef, undef, undef, undef, undef, undef, undef, undef, undef, undef, undef, undef, undef, undef, undef, undef, undef, undef, undef, undef, undef, undef, undef, undef, undef], []⟩ ∧ ((listed = #[y0, y1, y2, y3, y4, false] ∧ RP6 w1 x (.agg #[.int .i64 u, .int .i64 v, .int .i64 e]) (.int .i64 Nb) (.agg #[.int .i64 y, .int .i64 m, .int .i64 d]) (.int .i64 Na) (.int .i64 D) y0 y1 y2 y3 y4 t32 t33 t34 t35 t36 ∧ z9 = undef) ∨ (listed = #[true, true, true, true, true, true] ∧ t36 = .int .i64 D ∧ z9 = .int .i64 D ∧ Below w1.heap.size w1 x))) ?_ ?_ _ _ _ _ (by decide) ?_)
    · rintro listed a x i ⟨y0, y1, y2, y3, y4, t32, t33, t34, t35, t36, z9, rfl, h⟩ hi
      have hr : i < 6 := List.mem_range.1 (List.mem_filter.1 hi).1
      have hc := (List.mem_filter.1 hi).2
      rcases h with ⟨rfl, h⟩ | ⟨rfl, h⟩
      · rcases (show i = 0 ∨ i = 1 ∨ i = 2 ∨ i = 3 ∨ i = 4 ∨ i = 5 by omega) with rfl | rfl | rfl | rfl | rfl | rfl
        · obtain ⟨h, rfl⟩ := h
          clear hc hi
          have kd0 := (Kb1.below h.bel Kb1.lt).c0
          have kd1 := (Kb1.below h.bel Kb1.lt).c1
          have kd2 := (Kb1.below h.bel Kb1.lt).c2
          refine wpOp_step rfl (fun K hK0 => ?_)
          have hK : Hid _ := hK0
          clear hK0
          rw [if_pos (by rfl)]
          go_wp2_with fail
          exact hK.out _ _ ⟨true, y1, y2, y3, y4, .agg #[.int .i64 u, .int .i64 v, .int .i64 e], t33, t34, t35, t36, undef, rfl, Or.inl ⟨rfl, ⟨{ h with o0 := fun _ => rfl }, rfl⟩⟩⟩
        · obtain ⟨h, rfl⟩ := h
          have e0 : y0 = true := by
            revert hc
            cases y0 <;> simp [Region.binds]
          have r0 := h.o0 e0
          subst r0
          clear hc hi
          refine wpOp_step rfl (fun K hK0 => ?_)
          have hK : Hid _ := hK0
          clear hK0
          rw [if_pos (by rfl)]
          go_wp2_with (first | (go_at_call 43; go_must (refine (NB x).mono ?_; rintro e x2 ⟨rfl, bb⟩)) | fail)
          exact hK.out _ _ ⟨y0, true, y2, y3, y4, _, _, t34, t35, t36, undef, rfl, Or.inl ⟨rfl, ⟨{ h.grow bb with o1 := fun _ => rfl }, rfl⟩⟩⟩
        · obtain ⟨h, rfl⟩ := h
          clear hc hi
          have kd0 := (Ka1.below h.bel Ka1.lt).c0
          have kd1 := (Ka1.below h.bel Ka1.lt).c1
          have kd2 := (Ka1.below h.bel Ka1.lt).c2
          refine wpOp_step rfl (fun K hK0 => ?_)
          have hK : Hid _ := hK0
          clear hK0
          rw [if_pos (by rfl)]
          go_wp2_with fail
          exact hK.out _ _ ⟨y0, y1, true, y3, y4, t32, t33, .agg #[.int .i64 y, .int .i64 m, .int .i64 d], t35, t36, undef, rfl, Or.inl ⟨rfl, ⟨{ h with o2 := fun _ => rfl }, rfl⟩⟩⟩
        · obtain ⟨h, rfl⟩ := h
          have e2 : y2 = true := by
            revert hc
            cases y2 <;> simp [Region.binds]
          have r2 := h.o2 e2
          subst r2
          clear hc hi
          refine wpOp_step rfl (fun K hK0 => ?_)
          have hK : Hid _ := hK0
          clear hK0
          rw [if_pos (by rfl)]
          go_wp2_with (first | (go_at_call 43; go_must (refine (NA x).mono ?_; rintro e x2 ⟨rfl, bb⟩)) | fail)
          exact hK.out _ _ ⟨y0, y1, y2, true, y4, t32, t33, _, _, t36, undef, rfl, Or.inl ⟨rfl, ⟨{ h.grow bb with o3 := fun _ => rfl }, rfl⟩⟩⟩
        · obtain ⟨h, rfl⟩ := h
          have e1 : y1 = true := by
            revert hc
            cases y1 <;> simp [Region.binds]
          have e3 : y3 = true := by
            revert hc
            cases y3 <;> simp [Region.binds]
          have r1 := h.o1 e1
          subst r1
          have r3 := h.o3 e3
          subst r3
          clear hc hi
          have q := eD
          refine wpOp_step rfl (fun K hK0 => ?_)
          have hK : Hid _ := hK0
          clear hK0
          rw [if_pos (by rfl)]
          go_wp2_with fail
          exact hK.out _ _ ⟨y0, y1, y2, y3, true, t32, _, t34, _, .int .i64 D, undef, rfl, Or.inl ⟨rfl, ⟨{ h with o4 := fun _ => rfl }, rfl⟩⟩⟩
        · obtain ⟨h, rfl⟩ := h
          have e0 : y0 = true := by
            revert hc
            cases y0 <;> simp [Region.binds]
          have e1 : y1 = true := by
            revert hc
            cases y1 <;> simp [Region.binds]
          have e2 : y2 = true := by
            revert hc
            cases y2 <;> simp [Region.binds]
          have e3 : y3 = true := by
            revert hc
            cases y3 <;> simp [Region.binds]
          have e4 : y4 = true := by
            revert hc
            cases y4 <;> simp [Region.binds]
          have r4 := h.o4 e4
          subst r4
          clear hc hi
          subst e0 e1 e2 e3 e4
          have bl := h.bel
          clear h
          refine wpOp_step rfl (fun K hK0 => ?_)
          have hK : Hid _ := hK0
          clear hK0
          rw [if_pos (by rfl)]
          go_wp2_with fail
          exact hK.out _ _ ⟨true, true, true, true, true, t32, t33, t34, t35, _, _, rfl, Or.inr (⟨rfl, rfl, rfl, bl⟩)⟩
      · rcases (show i = 0 ∨ i = 1 ∨ i = 2 ∨ i = 3 ∨ i = 4 ∨ i = 5 by omega) with rfl | rfl | rfl | rfl | rfl | rfl <;> simp at hc
    · rintro listed a x ⟨y0, y1, y2, y3, y4, t32, t33, t34, t35, t36, z9, rfl, h⟩ hn
      have al := all_listed (by decide +kernel) hn
      rcases h with ⟨rfl, h⟩ | ⟨rfl, h⟩
      · have z := al 5 (by decide)
        simp at z
      · obtain ⟨rfl, rfl, bl⟩ := h
        refine hJ _ _ ?_
        go_meet
        case rel => exact ⟨rfl, bl⟩
    · exact ⟨false, false, false, false, false, undef, undef, undef, undef, undef, undef, rfl, Or.inl ⟨rfl, ⟨{ bel := (Below.refl _ _).drew, o0 := (by intro q; cases q), o1 := (by intro q; cases q), o2 := (by intro q; cases q), o3 := (by intro q; cases q), o4 := (by intro q; cases q) }, rfl⟩⟩⟩
  case rest =>
    obtain ⟨rfl, b2⟩ := hcut
    rename World => w2
    have Ka2 := Ka1.below b2 Ka1.lt
    have Kb2 := Kb1.below b2 Kb1.lt
    have R2 := R1.below b2 R1.lt
    have p2 := bel' p1 b2
    have ka20 := Ka2.c0
    have ka21 := Ka2.c1
    have ka22 := Ka2.c2
    have kb20 := Kb2.c0
    have kb21 := Kb2.c1
    have kb22 := Kb2.c2
    have rr20 := R2.at 0
    have rr21 := R2.at 1
    have rf20 := R2.free 0
    have rf21 := R2.free 1
    simp at rr20 rr21
    go_wp2_with (first
      | (go_at_call 37; refine (FR _).mono ?_; rintro x w3 ⟨v3, rfl, q3, b3⟩; have Ka3 := Ka2.below b3 Ka2.lt; have Kb3 := Kb2.below b3 Kb2.lt; have R3 := R2.below b3 R2.lt; have p3 := bel' p2 b3; have rr30 := R3.at 0; have rr31 := R3.at 1; have rf30 := R3.free 0; have rf31 := R3.free 1; simp at rr30 rr31)
      | (go_at_call 44; refine (OU _ _ q3).mono ?_; rintro x w4 ⟨rfl, b4⟩; have Ka4 := Ka3.below b4 Ka3.lt; have Kb4 := Kb3.below b4 Kb3.lt; have R4 := R3.below b4 R3.lt; have p4 := bel' p3 b4; have rr40 := R4.at 0; have rr41 := R4.at 1; have rf40 := R4.free 0; have rf41 := R4.free 1; simp at rr40 rr41)
      | fail)
    have KE := dput (dput R4 0 (.string s)) 1 (.string t)
    have bE := (p4.setCell (p := ⟨w.heap.size + 1 + 1, 0, none⟩) (show w.heap.size ≤ w.heap.size + 1 + 1 by omega) (.string s)).setCell (p := ⟨w.heap.size + 1 + 1, 1, none⟩) (show w.heap.size ≤ w.heap.size + 1 + 1 by omega) (.string t)
    generalize (w4.setCell ⟨w.heap.size + 1 + 1, 0, none⟩ (.string s)).setCell ⟨w.heap.size + 1 + 1, 1, none⟩ (.string t) = WE at *
    have z0 := KE.at 0
    have z1 := KE.at 1
    simp at z0 z1
    exact bodyPost_ret (v := .tuple #[.agg #[.string s, .string t], .int .i64 0]) (by simp [results, Tryz.results15, go_sem, z0, z1]) rfl ⟨rfl, bE⟩
set_option maxHeartbeats 3200000 in
set_option maxRecDepth 100000 in
theorem RPart_360 (y m d u v e : Int) (w : World) (G : Gl w) (Na Nb D : Int) (r : Rat) (s t : ByteArray) (TW : ∀ W, Gl W → Calls Tryz.prog 42 #[.agg #[.int .i64 y, .int .i64 m, .int .i64 d], .agg #[.int .i64 u, .int .i64 v, .int .i64 e]] W fun x w' => x = .returned (.int .i64 0) ∧ Below W.heap.size W w') (NA : ∀ W, Calls Tryz.prog 43 #[.agg #[.int .i64 y, .int .i64 m, .int .i64 d]] W fun x w' => x = .returned (.int .i64 Na) ∧ Below W.heap.size W w') (NB : ∀ W, Calls Tryz.prog 43 #[.agg #[.int .i64 u, .int .i64 v, .int .i64 e]] W fun x w' => x = .returned (.int .i64 Nb) ∧ Below W.heap.size W w') (eD : IntKind.i64.wrap (Nb - Na) = D) (FR : ∀ W, Calls Tryz.prog 37 #[.int .i64 D, .int .i64 360] W fun x w' => ∃ v, x = .returned v ∧ L.IsQ w' v r ∧ Below W.heap.size W w') (OU : ∀ v W, L.IsQ W v r → Calls Tryz.prog 44 #[v] W fun x w' => x = .returned (.tuple #[.agg #[.string s, .string t], .int .i64 0]) ∧ Below W.heap.size W w') : Calls Tryz.prog 15 #[.agg #[.int .i64 y, .int .i64 m, .int .i64 d], .agg #[.int .i64 u, .int .i64 v, .int .i64 e], .int .i64 2] w fun x w' => x = .returned (.tuple #[.agg #[.string s, .string t], .int .i64 0]) ∧ Below w.heap.size w w' := by
  have Ka0 := ((Blk.new w #[.int .i64 y, .int .i64 m, .int .i64 d] 38).alloc (.cells #[.int .i64 u, .int .i64 v, .int .i64 e] 38)).alloc (.cells #[.string ⟨#[]⟩, .string ⟨#[]⟩] 23)
  have Kb0 := (Blk.new (w.alloc (.cells #[.int .i64 y, .int .i64 m, .int .i64 d] 38)) #[.int .i64 u, .int .i64 v, .int .i64 e] 38).alloc (.cells #[.string ⟨#[]⟩, .string ⟨#[]⟩] 23)
  have R0 := Blk.new ((w.alloc (.cells #[.int .i64 y, .int .i64 m, .int .i64 d] 38)).alloc (.cells #[.int .i64 u, .int .i64 v, .int .i64 e] 38)) #[.string ⟨#[]⟩, .string ⟨#[]⟩] 23
  simp only [World.size_alloc] at Kb0 R0
  have pr : Below w.heap.size w (((w.alloc (.cells #[.int .i64 y, .int .i64 m, .int .i64 d] 38)).alloc (.cells #[.int .i64 u, .int .i64 v, .int .i64 e] 38)).alloc (.cells #[.string ⟨#[]⟩, .string ⟨#[]⟩] 23)) := (((Below.refl _ _).alloc (Nat.le_refl _) _).alloc (by simp) _).alloc (by simp; omega) _
  have G0 := ((G.alloc (.cells #[.int .i64 y, .int .i64 m, .int .i64 d] 38)).alloc (.cells #[.int .i64 u, .int .i64 v, .int .i64 e] 38)).alloc (.cells #[.string ⟨#[]⟩, .string ⟨#[]⟩] 23)
  have ka00 := Ka0.c0
  have ka01 := Ka0.c1
  have ka02 := Ka0.c2
  have kb00 := Kb0.c0
  have kb01 := Kb0.c1
  have kb02 := Kb0.c2
  go_enter Tryz.func15, Tryz.ntmps15
  go_wp2_with (first
    | (go_at_call 42; refine (TW _ G0).mono ?_; rintro x w1 ⟨rfl, b1⟩; have Ka1 := Ka0.below b1 Ka0.lt; have Kb1 := Kb0.below b1 Kb0.lt; have R1 := R0.below b1 R0.lt; have p1 := bel' pr b1; have ka10 := Ka1.c0; have ka11 := Ka1.c1; have ka12 := Ka1.c2; have kb10 := Kb1.c0; have kb11 := Kb1.c1; have kb12 := Kb1.c2; have rr10 := R1.at 0; have rr11 := R1.at 1; have rf10 := R1.free 0; have rf11 := R1.free 1; simp at rr10 rr11)
    | fail)
  go_cut [9] from 32 to 36 (fun x wc => x = .int .i64 D ∧ Below w1.heap.size w1 wc)
  case first =>
    rename_i hm hJ
    refine wp_region_held (S := fun _ => True) (by kernel_rfl) (any_inv (fun listed a x => ∃ (y0 y1 y2 y3 y4 : Bool) (t32 t33 t34 t35 t36 : Value) (z9 : Value), a = ⟨#[.agg #[.int .i64 y, .int .i64 m, .int .i64 d], .agg #[.int .i64 u, .int .i64 v, .int .i64 e], .int .i64 2, .pointer (some ⟨w.heap.size, 0, none⟩), .pointer (some ⟨w.heap.size + 1, 0, none⟩), undef, .pointer (some ⟨w.heap.size + 1 + 1, 0, none⟩), .int .i64 0, .int .i64 0, z9, undef, undef, undef, undef, undef, .agg #[.int .i64 y, .int .i64 m, .int .i64 d], .agg #[.int .i64 u, .int .i64 v, .int .i64 e], .int .i64 0, .int .i64 0, .bool true, .bool true, .int .i64 2, .bool false, .bool false, .int .i64 2, .bool false, .bool false, .bool false, .int .i64 0, .bool false, undef, undef, t32, t33, t34, t35, t36, undef, undef, undef, undef, undef, undef, undef, undef, undef, undef, undef, undef, undef, undef, undef, undef, undef, undef, undef, undef, undef, undef, undef, undef, undef, undef, undef, undef, undef, undef, undef, undef, undef, undef, undef, undef, undef, undef, undef, undef, undef, undef, undef, undef, undef, undef, undef, undef, undef, undef, undef, undef, undef, undef, undef, undef, undef, undef, undef, undef, undef, undef, undef, undef, undef, undef, undef, undef, undef, undef, undef, undef, undef, undef, undef, undef, undef, undef, undef, undef, undef, undef, undef], []⟩ ∧ ((listed = #[y0, y1, y2, y3, y4, false] ∧ RP6 w1 x (.agg #[.int .i64 u, .int .i64 v, .int .i64 e]) (.int .i64 Nb) (.agg #[.int .i64 y, .int .i64 m, .int .i64 d]) (.int .i64 Na) (.int .i64 D) y0 y1 y2 y3 y4 t32 t33 t34 t35 t36 ∧ z9 = undef) ∨ (listed = #[true, true, true, true, true, true] ∧ t36 = .int .i64 D ∧ z9 = .int .i64 D ∧ Below w1.heap.size w1 x))) ?_ ?_ _ _ _ _ (by decide) ?_)
    · rintro listed a x i ⟨y0, y1, y2, y3, y4, t32, t33, t34, t35, t36, z9, rfl, h⟩ hi
      have hr : i < 6 := List.mem_range.1 (List.mem_filter.1 hi).1
      have hc := (List.mem_filter.1 hi).2
      rcases h with ⟨rfl, h⟩ | ⟨rfl, h⟩
      · rcases (show i = 0 ∨ i = 1 ∨ i = 2 ∨ i = 3 ∨ i = 4 ∨ i = 5 by omega) with rfl | rfl | rfl | rfl | rfl | rfl
        · obtain ⟨h, rfl⟩ := h
          clear hc hi
          have kd0 := (Kb1.below h.bel Kb1.lt).c0
          have kd1 := (Kb1.below h.bel Kb1.lt).c1
          have kd2 := (Kb1.below h.bel Kb1.lt).c2
          refine wpOp_step rfl (fun K hK0 => ?_)
          have hK : Hid _ := hK0
          clear hK0
          rw [if_pos (by rfl)]
          go_wp2_with fail
          exact hK.out _ _ ⟨true, y1, y2, y3, y4, .agg #[.int .i64 u, .int .i64 v, .int .i64 e], t33, t34, t35, t36, undef, rfl, Or.inl ⟨rfl, ⟨{ h with o0 := fun _ => rfl }, rfl⟩⟩⟩
        · obtain ⟨h, rfl⟩ := h
          have e0 : y0 = true := by
            revert hc
            cases y0 <;> simp [Region.binds]
          have r0 := h.o0 e0
          subst r0
          clear hc hi
          refine wpOp_step rfl (fun K hK0 => ?_)
          have hK : Hid _ := hK0
          clear hK0
          rw [if_pos (by rfl)]
          go_wp2_with (first | (go_at_call 43; go_must (refine (NB x).mono ?_; rintro e x2 ⟨rfl, bb⟩)) | fail)
          exact hK.out _ _ ⟨y0, true, y2, y3, y4, _, _, t34, t35, t36, undef, rfl, Or.inl ⟨rfl, ⟨{ h.grow bb with o1 := fun _ => rfl }, rfl⟩⟩⟩
        · obtain ⟨h, rfl⟩ := h
          clear hc hi
          have kd0 := (Ka1.below h.bel Ka1.lt).c0
          have kd1 := (Ka1.below h.bel Ka1.lt).c1
          have kd2 := (Ka1.below h.bel Ka1.lt).c2
          refine wpOp_step rfl (fun K hK0 => ?_)
          have hK : Hid _ := hK0
          clear hK0
          rw [if_pos (by rfl)]
          go_wp2_with fail
          exact hK.out _ _ ⟨y0, y1, true, y3, y4, t32, t33, .agg #[.int .i64 y, .int .i64 m, .int .i64 d], t35, t36, undef, rfl, Or.inl ⟨rfl, ⟨{ h with o2 := fun _ => rfl }, rfl⟩⟩⟩
        · obtain ⟨h, rfl⟩ := h
          have e2 : y2 = true := by
            revert hc
            cases y2 <;> simp [Region.binds]
          have r2 := h.o2 e2
          subst r2
          clear hc hi
          refine wpOp_step rfl (fun K hK0 => ?_)
          have hK : Hid _ := hK0
          clear hK0
          rw [if_pos (by rfl)]
          go_wp2_with (first | (go_at_call 43; go_must (refine (NA x).mono ?_; rintro e x2 ⟨rfl, bb⟩)) | fail)
          exact hK.out _ _ ⟨y0, y1, y2, true, y4, t32, t33, _, _, t36, undef, rfl, Or.inl ⟨rfl, ⟨{ h.grow bb with o3 := fun _ => rfl }, rfl⟩⟩⟩
        · obtain ⟨h, rfl⟩ := h
          have e1 : y1 = true := by
            revert hc
            cases y1 <;> simp [Region.binds]
          have e3 : y3 = true := by
            revert hc
            cases y3 <;> simp [Region.binds]
          have r1 := h.o1 e1
          subst r1
          have r3 := h.o3 e3
          subst r3
          clear hc hi
          have q := eD
          refine wpOp_step rfl (fun K hK0 => ?_)
          have hK : Hid _ := hK0
          clear hK0
          rw [if_pos (by rfl)]
          go_wp2_with fail
          exact hK.out _ _ ⟨y0, y1, y2, y3, true, t32, _, t34, _, .int .i64 D, undef, rfl, Or.inl ⟨rfl, ⟨{ h with o4 := fun _ => rfl }, rfl⟩⟩⟩
        · obtain ⟨h, rfl⟩ := h
          have e0 : y0 = true := by
            revert hc
            cases y0 <;> simp [Region.binds]
          have e1 : y1 = true := by
            revert hc
            cases y1 <;> simp [Region.binds]
          have e2 : y2 = true := by
            revert hc
            cases y2 <;> simp [Region.binds]
          have e3 : y3 = true := by
            revert hc
            cases y3 <;> simp [Region.binds]
          have e4 : y4 = true := by
            revert hc
            cases y4 <;> simp [Region.binds]
          have r4 := h.o4 e4
          subst r4
          clear hc hi
          subst e0 e1 e2 e3 e4
          have bl := h.bel
          clear h
          refine wpOp_step rfl (fun K hK0 => ?_)
          have hK : Hid _ := hK0
          clear hK0
          rw [if_pos (by rfl)]
          go_wp2_with fail
          exact hK.out _ _ ⟨true, true, true, true, true, t32, t33, t34, t35, _, _, rfl, Or.inr (⟨rfl, rfl, rfl, bl⟩)⟩
      · rcases (show i = 0 ∨ i = 1 ∨ i = 2 ∨ i = 3 ∨ i = 4 ∨ i = 5 by omega) with rfl | rfl | rfl | rfl | rfl | rfl <;> simp at hc
    · rintro listed a x ⟨y0, y1, y2, y3, y4, t32, t33, t34, t35, t36, z9, rfl, h⟩ hn
      have al := all_listed (by decide +kernel) hn
      rcases h with ⟨rfl, h⟩ | ⟨rfl, h⟩
      · have z := al 5 (by decide)
        simp at z
      · obtain ⟨rfl, rfl, bl⟩ := h
        refine hJ _ _ ?_
        go_meet
        case rel => exact ⟨rfl, bl⟩
    · exact ⟨false, false, false, false, false, undef, undef, undef, undef, undef, undef, rfl, Or.inl ⟨rfl, ⟨{ bel := (Below.refl _ _).drew, o0 := (by intro q; cases q), o1 := (by intro q; cases q), o2 := (by intro q; cases q), o3 := (by intro q; cases q), o4 := (by intro q; cases q) }, rfl⟩⟩⟩
  case rest =>
    obtain ⟨rfl, b2⟩ := hcut
    rename World => w2
    have Ka2 := Ka1.below b2 Ka1.lt
    have Kb2 := Kb1.below b2 Kb1.lt
    have R2 := R1.below b2 R1.lt
    have p2 := bel' p1 b2
    have ka20 := Ka2.c0
    have ka21 := Ka2.c1
    have ka22 := Ka2.c2
    have kb20 := Kb2.c0
    have kb21 := Kb2.c1
    have kb22 := Kb2.c2
    have rr20 := R2.at 0
    have rr21 := R2.at 1
    have rf20 := R2.free 0
    have rf21 := R2.free 1
    simp at rr20 rr21
    go_wp2_with (first
      | (go_at_call 37; refine (FR _).mono ?_; rintro x w3 ⟨v3, rfl, q3, b3⟩; have Ka3 := Ka2.below b3 Ka2.lt; have Kb3 := Kb2.below b3 Kb2.lt; have R3 := R2.below b3 R2.lt; have p3 := bel' p2 b3; have rr30 := R3.at 0; have rr31 := R3.at 1; have rf30 := R3.free 0; have rf31 := R3.free 1; simp at rr30 rr31)
      | (go_at_call 44; refine (OU _ _ q3).mono ?_; rintro x w4 ⟨rfl, b4⟩; have Ka4 := Ka3.below b4 Ka3.lt; have Kb4 := Kb3.below b4 Kb3.lt; have R4 := R3.below b4 R3.lt; have p4 := bel' p3 b4; have rr40 := R4.at 0; have rr41 := R4.at 1; have rf40 := R4.free 0; have rf41 := R4.free 1; simp at rr40 rr41)
      | fail)
    have KE := dput (dput R4 0 (.string s)) 1 (.string t)
    have bE := (p4.setCell (p := ⟨w.heap.size + 1 + 1, 0, none⟩) (show w.heap.size ≤ w.heap.size + 1 + 1 by omega) (.string s)).setCell (p := ⟨w.heap.size + 1 + 1, 1, none⟩) (show w.heap.size ≤ w.heap.size + 1 + 1 by omega) (.string t)
    generalize (w4.setCell ⟨w.heap.size + 1 + 1, 0, none⟩ (.string s)).setCell ⟨w.heap.size + 1 + 1, 1, none⟩ (.string t) = WE at *
    have z0 := KE.at 0
    have z1 := KE.at 1
    simp at z0 z1
    exact bodyPost_ret (v := .tuple #[.agg #[.string s, .string t], .int .i64 0]) (by simp [results, Tryz.results15, go_sem, z0, z1]) rfl ⟨rfl, bE⟩
set_option maxHeartbeats 3200000 in
set_option maxRecDepth 100000 in
theorem RPart_third (y m d u v e : Int) (w : World) (G : Gl w) (Na Nb D Q : Int) (r : Rat) (s t : ByteArray) (y0 : 0 ≤ y) (y1 : y ≤ 20000) (u0 : 0 ≤ u) (u1 : u ≤ 20000) (m0 : 0 ≤ m) (m1 : m ≤ 12) (v0 : 0 ≤ v) (v1 : v ≤ 12) (d0 : 0 ≤ d) (d1 : d ≤ 31) (e0 : 0 ≤ e) (e1 : e ≤ 31) (hQ : Q = 360 * (u - y) + 30 * (v - m) + min e 30 - min d 30) (TW : ∀ W, Gl W → Calls Tryz.prog 42 #[.agg #[.int .i64 y, .int .i64 m, .int .i64 d], .agg #[.int .i64 u, .int .i64 v, .int .i64 e]] W fun x w' => x = .returned (.int .i64 0) ∧ Below W.heap.size W w') (NA : ∀ W, Calls Tryz.prog 43 #[.agg #[.int .i64 y, .int .i64 m, .int .i64 d]] W fun x w' => x = .returned (.int .i64 Na) ∧ Below W.heap.size W w') (NB : ∀ W, Calls Tryz.prog 43 #[.agg #[.int .i64 u, .int .i64 v, .int .i64 e]] W fun x w' => x = .returned (.int .i64 Nb) ∧ Below W.heap.size W w') (eD : IntKind.i64.wrap (Nb - Na) = D) (FR : ∀ p W, p = Q → Calls Tryz.prog 37 #[.int .i64 p, .int .i64 360] W fun x w' => ∃ v, x = .returned v ∧ L.IsQ w' v r ∧ Below W.heap.size W w') (OU : ∀ v W, L.IsQ W v r → Calls Tryz.prog 44 #[v] W fun x w' => x = .returned (.tuple #[.agg #[.string s, .string t], .int .i64 0]) ∧ Below W.heap.size W w') : Calls Tryz.prog 15 #[.agg #[.int .i64 y, .int .i64 m, .int .i64 d], .agg #[.int .i64 u, .int .i64 v, .int .i64 e], .int .i64 4] w fun x w' => x = .returned (.tuple #[.agg #[.string s, .string t], .int .i64 0]) ∧ Below w.heap.size w w' := by
  have Ka0 := ((Blk.new w #[.int .i64 y, .int .i64 m, .int .i64 d] 38).alloc (.cells #[.int .i64 u, .int .i64 v, .int .i64 e] 38)).alloc (.cells #[.string ⟨#[]⟩, .string ⟨#[]⟩] 23)
  have Kb0 := (Blk.new (w.alloc (.cells #[.int .i64 y, .int .i64 m, .int .i64 d] 38)) #[.int .i64 u, .int .i64 v, .int .i64 e] 38).alloc (.cells #[.string ⟨#[]⟩, .string ⟨#[]⟩] 23)
  have R0 := Blk.new ((w.alloc (.cells #[.int .i64 y, .int .i64 m, .int .i64 d] 38)).alloc (.cells #[.int .i64 u, .int .i64 v, .int .i64 e] 38)) #[.string ⟨#[]⟩, .string ⟨#[]⟩] 23
  simp only [World.size_alloc] at Kb0 R0
  have pr : Below w.heap.size w (((w.alloc (.cells #[.int .i64 y, .int .i64 m, .int .i64 d] 38)).alloc (.cells #[.int .i64 u, .int .i64 v, .int .i64 e] 38)).alloc (.cells #[.string ⟨#[]⟩, .string ⟨#[]⟩] 23)) := (((Below.refl _ _).alloc (Nat.le_refl _) _).alloc (by simp) _).alloc (by simp; omega) _
  have G0 := ((G.alloc (.cells #[.int .i64 y, .int .i64 m, .int .i64 d] 38)).alloc (.cells #[.int .i64 u, .int .i64 v, .int .i64 e] 38)).alloc (.cells #[.string ⟨#[]⟩, .string ⟨#[]⟩] 23)
  have ka00 := Ka0.c0
  have ka01 := Ka0.c1
  have ka02 := Ka0.c2
  have kb00 := Kb0.c0
  have kb01 := Kb0.c1
  have kb02 := Kb0.c2
  go_enter Tryz.func15, Tryz.ntmps15
  go_wp2_with (first
    | (go_at_call 42; refine (TW _ G0).mono ?_; rintro x w1 ⟨rfl, b1⟩; have Ka1 := Ka0.below b1 Ka0.lt; have Kb1 := Kb0.below b1 Kb0.lt; have R1 := R0.below b1 R0.lt; have p1 := bel' pr b1; have ka10 := Ka1.c0; have ka11 := Ka1.c1; have ka12 := Ka1.c2; have kb10 := Kb1.c0; have kb11 := Kb1.c1; have kb12 := Kb1.c2; have rr10 := R1.at 0; have rr11 := R1.at 1; have rf10 := R1.free 0; have rf11 := R1.free 1; simp at rr10 rr11)
    | fail)
  go_cut [9] from 32 to 36 (fun x wc => x = .int .i64 D ∧ Below w1.heap.size w1 wc)
  case first =>
    rename_i hm hJ
    refine wp_region_held (S := fun _ => True) (by kernel_rfl) (any_inv (fun listed a x => ∃ (y0 y1 y2 y3 y4 : Bool) (t32 t33 t34 t35 t36 : Value) (z9 : Value), a = ⟨#[.agg #[.int .i64 y, .int .i64 m, .int .i64 d], .agg #[.int .i64 u, .int .i64 v, .int .i64 e], .int .i64 4, .pointer (some ⟨w.heap.size, 0, none⟩), .pointer (some ⟨w.heap.size + 1, 0, none⟩), undef, .pointer (some ⟨w.heap.size + 1 + 1, 0, none⟩), .int .i64 0, .int .i64 0, z9, undef, undef, undef, undef, undef, .agg #[.int .i64 y, .int .i64 m, .int .i64 d], .agg #[.int .i64 u, .int .i64 v, .int .i64 e], .int .i64 0, .int .i64 0, .bool true, .bool true, .int .i64 4, .bool false, .bool false, .int .i64 4, .bool false, .bool false, .bool false, .int .i64 0, .bool false, undef, undef, t32, t33, t34, t35, t36, undef, undef, undef, undef, undef, undef, undef, undef, undef, undef, undef, undef, undef, undef, undef, undef, undef, undef, undef, undef, undef, undef, undef, undef, undef, undef, undef, undef, undef, undef, undef, undef, undef, undef, undef, undef, undef, undef, undef, undef, undef, undef, undef, undef, undef, undef, undef, undef, undef, undef, undef, undef, undef, undef, undef, undef, undef, undef, undef, undef, undef, undef, undef, undef, undef, undef, undef, undef, undef, undef, undef, undef, undef, undef, undef, undef, undef, undef, undef, undef, undef, undef, undef], []⟩ ∧ ((listed = #[y0, y1, y2, y3, y4, false] ∧ RP6 w1 x (.agg #[.int .i64 u, .int .i64 v, .int .i64 e]) (.int .i64 Nb) (.agg #[.int .i64 y, .int .i64 m, .int .i64 d]) (.int .i64 Na) (.int .i64 D) y0 y1 y2 y3 y4 t32 t33 t34 t35 t36 ∧ z9 = undef) ∨ (listed = #[true, true, true, true, true, true] ∧ t36 = .int .i64 D ∧ z9 = .int .i64 D ∧ Below w1.heap.size w1 x))) ?_ ?_ _ _ _ _ (by decide) ?_)
    · rintro listed a x i ⟨y0, y1, y2, y3, y4, t32, t33, t34, t35, t36, z9, rfl, h⟩ hi
      have hr : i < 6 := List.mem_range.1 (List.mem_filter.1 hi).1
      have hc := (List.mem_filter.1 hi).2
      rcases h with ⟨rfl, h⟩ | ⟨rfl, h⟩
      · rcases (show i = 0 ∨ i = 1 ∨ i = 2 ∨ i = 3 ∨ i = 4 ∨ i = 5 by omega) with rfl | rfl | rfl | rfl | rfl | rfl
        · obtain ⟨h, rfl⟩ := h
          clear hc hi
          have kd0 := (Kb1.below h.bel Kb1.lt).c0
          have kd1 := (Kb1.below h.bel Kb1.lt).c1
          have kd2 := (Kb1.below h.bel Kb1.lt).c2
          refine wpOp_step rfl (fun K hK0 => ?_)
          have hK : Hid _ := hK0
          clear hK0
          rw [if_pos (by rfl)]
          go_wp2_with fail
          exact hK.out _ _ ⟨true, y1, y2, y3, y4, .agg #[.int .i64 u, .int .i64 v, .int .i64 e], t33, t34, t35, t36, undef, rfl, Or.inl ⟨rfl, ⟨{ h with o0 := fun _ => rfl }, rfl⟩⟩⟩
        · obtain ⟨h, rfl⟩ := h
          have e0 : y0 = true := by
            revert hc
            cases y0 <;> simp [Region.binds]
          have r0 := h.o0 e0
          subst r0
          clear hc hi
          refine wpOp_step rfl (fun K hK0 => ?_)
          have hK : Hid _ := hK0
          clear hK0
          rw [if_pos (by rfl)]
          go_wp2_with (first | (go_at_call 43; go_must (refine (NB x).mono ?_; rintro e x2 ⟨rfl, bb⟩)) | fail)
          exact hK.out _ _ ⟨y0, true, y2, y3, y4, _, _, t34, t35, t36, undef, rfl, Or.inl ⟨rfl, ⟨{ h.grow bb with o1 := fun _ => rfl }, rfl⟩⟩⟩
        · obtain ⟨h, rfl⟩ := h
          clear hc hi
          have kd0 := (Ka1.below h.bel Ka1.lt).c0
          have kd1 := (Ka1.below h.bel Ka1.lt).c1
          have kd2 := (Ka1.below h.bel Ka1.lt).c2
          refine wpOp_step rfl (fun K hK0 => ?_)
          have hK : Hid _ := hK0
          clear hK0
          rw [if_pos (by rfl)]
          go_wp2_with fail
          exact hK.out _ _ ⟨y0, y1, true, y3, y4, t32, t33, .agg #[.int .i64 y, .int .i64 m, .int .i64 d], t35, t36, undef, rfl, Or.inl ⟨rfl, ⟨{ h with o2 := fun _ => rfl }, rfl⟩⟩⟩
        · obtain ⟨h, rfl⟩ := h
          have e2 : y2 = true := by
            revert hc
            cases y2 <;> simp [Region.binds]
          have r2 := h.o2 e2
          subst r2
          clear hc hi
          refine wpOp_step rfl (fun K hK0 => ?_)
          have hK : Hid _ := hK0
          clear hK0
          rw [if_pos (by rfl)]
          go_wp2_with (first | (go_at_call 43; go_must (refine (NA x).mono ?_; rintro e x2 ⟨rfl, bb⟩)) | fail)
          exact hK.out _ _ ⟨y0, y1, y2, true, y4, t32, t33, _, _, t36, undef, rfl, Or.inl ⟨rfl, ⟨{ h.grow bb with o3 := fun _ => rfl }, rfl⟩⟩⟩
        · obtain ⟨h, rfl⟩ := h
          have e1 : y1 = true := by
            revert hc
            cases y1 <;> simp [Region.binds]
          have e3 : y3 = true := by
            revert hc
            cases y3 <;> simp [Region.binds]
          have r1 := h.o1 e1
          subst r1
          have r3 := h.o3 e3
          subst r3
          clear hc hi
          have q := eD
          refine wpOp_step rfl (fun K hK0 => ?_)
          have hK : Hid _ := hK0
          clear hK0
          rw [if_pos (by rfl)]
          go_wp2_with fail
          exact hK.out _ _ ⟨y0, y1, y2, y3, true, t32, _, t34, _, .int .i64 D, undef, rfl, Or.inl ⟨rfl, ⟨{ h with o4 := fun _ => rfl }, rfl⟩⟩⟩
        · obtain ⟨h, rfl⟩ := h
          have e0 : y0 = true := by
            revert hc
            cases y0 <;> simp [Region.binds]
          have e1 : y1 = true := by
            revert hc
            cases y1 <;> simp [Region.binds]
          have e2 : y2 = true := by
            revert hc
            cases y2 <;> simp [Region.binds]
          have e3 : y3 = true := by
            revert hc
            cases y3 <;> simp [Region.binds]
          have e4 : y4 = true := by
            revert hc
            cases y4 <;> simp [Region.binds]
          have r4 := h.o4 e4
          subst r4
          clear hc hi
          subst e0 e1 e2 e3 e4
          have bl := h.bel
          clear h
          refine wpOp_step rfl (fun K hK0 => ?_)
          have hK : Hid _ := hK0
          clear hK0
          rw [if_pos (by rfl)]
          go_wp2_with fail
          exact hK.out _ _ ⟨true, true, true, true, true, t32, t33, t34, t35, _, _, rfl, Or.inr (⟨rfl, rfl, rfl, bl⟩)⟩
      · rcases (show i = 0 ∨ i = 1 ∨ i = 2 ∨ i = 3 ∨ i = 4 ∨ i = 5 by omega) with rfl | rfl | rfl | rfl | rfl | rfl <;> simp at hc
    · rintro listed a x ⟨y0, y1, y2, y3, y4, t32, t33, t34, t35, t36, z9, rfl, h⟩ hn
      have al := all_listed (by decide +kernel) hn
      rcases h with ⟨rfl, h⟩ | ⟨rfl, h⟩
      · have z := al 5 (by decide)
        simp at z
      · obtain ⟨rfl, rfl, bl⟩ := h
        refine hJ _ _ ?_
        go_meet
        case rel => exact ⟨rfl, bl⟩
    · exact ⟨false, false, false, false, false, undef, undef, undef, undef, undef, undef, rfl, Or.inl ⟨rfl, ⟨{ bel := (Below.refl _ _).drew, o0 := (by intro q; cases q), o1 := (by intro q; cases q), o2 := (by intro q; cases q), o3 := (by intro q; cases q), o4 := (by intro q; cases q) }, rfl⟩⟩⟩
  case rest =>
    obtain ⟨rfl, b2⟩ := hcut
    rename World => w2
    have Ka2 := Ka1.below b2 Ka1.lt
    have Kb2 := Kb1.below b2 Kb1.lt
    have R2 := R1.below b2 R1.lt
    have p2 := bel' p1 b2
    have ka20 := Ka2.c0
    have ka21 := Ka2.c1
    have ka22 := Ka2.c2
    have kb20 := Kb2.c0
    have kb21 := Kb2.c1
    have kb22 := Kb2.c2
    have rr20 := R2.at 0
    have rr21 := R2.at 1
    have rf20 := R2.free 0
    have rf21 := R2.free 1
    simp at rr20 rr21
    have HQ : Hid _ := hQ
    clear hQ
    by_cases c1 : e ≤ 30
    all_goals
      by_cases c2 : d ≤ 30
    all_goals
      go_wp2_with (first
        | (go_at_call 37; refine (FR _ _ (by have := HQ.out; omega)).mono ?_; rintro x w3 ⟨v3, rfl, q3, b3⟩; have Ka3 := Ka2.below b3 Ka2.lt; have Kb3 := Kb2.below b3 Kb2.lt; have R3 := R2.below b3 R2.lt; have p3 := bel' p2 b3; have rr30 := R3.at 0; have rr31 := R3.at 1; have rf30 := R3.free 0; have rf31 := R3.free 1; simp at rr30 rr31)
        | (go_at_call 44; refine (OU _ _ q3).mono ?_; rintro x w4 ⟨rfl, b4⟩; have Ka4 := Ka3.below b4 Ka3.lt; have Kb4 := Kb3.below b4 Kb3.lt; have R4 := R3.below b4 R3.lt; have p4 := bel' p3 b4; have rr40 := R4.at 0; have rr41 := R4.at 1; have rf40 := R4.free 0; have rf41 := R4.free 1; simp at rr40 rr41)
        | fail)
    all_goals
      have KE := dput (dput R4 0 (.string s)) 1 (.string t)
      have bE := (p4.setCell (p := ⟨w.heap.size + 1 + 1, 0, none⟩) (show w.heap.size ≤ w.heap.size + 1 + 1 by omega) (.string s)).setCell (p := ⟨w.heap.size + 1 + 1, 1, none⟩) (show w.heap.size ≤ w.heap.size + 1 + 1 by omega) (.string t)
      generalize (w4.setCell ⟨w.heap.size + 1 + 1, 0, none⟩ (.string s)).setCell ⟨w.heap.size + 1 + 1, 1, none⟩ (.string t) = WE at *
      have z0 := KE.at 0
      have z1 := KE.at 1
      simp at z0 z1
      exact bodyPost_ret (v := .tuple #[.agg #[.string s, .string t], .int .i64 0]) (by simp [results, Tryz.results15, go_sem, z0, z1]) rfl ⟨rfl, bE⟩
end Go.Proofs.YtidcjdncfmncfaaGreatDoor.Dy
