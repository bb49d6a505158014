import Derived.Test.YtfalncbcomlelaaGreatDoorEr11
namespace Go.Proofs.YtfalncbcomlelaaGreatDoor.Mo
open Go.RowKit Fu Tn Go.Lib

set_option maxHeartbeats 1600000 in
set_option maxRecDepth 100000 in
theorem Write_big1 (g : Bool) (P1 P2 : Option Addr) (M1 C1 M2 C2 : Nat) (L1 : Int) (w : World) (l1 : 13654 < L1)
    (B1 : ∀ x, Below w.heap.size w x → Calls Tryz.prog 103 #[.agg #[.slice P1 M1 C1]] x fun e w' => e = .returned (.int .i64 L1) ∧ Below x.heap.size x w') :
    Calls Tryz.prog 69 #[.bool g, .agg #[.slice P1 M1 C1], .agg #[.slice P2 M2 C2]] w fun e w' => e = .returned (.tuple #[.agg #[.string ⟨#[]⟩, .string ⟨#[]⟩], .int .i64 3]) ∧ Below w.heap.size w w' := by
  have KX := ((Bx.new w (.slice P1 M1 C1) 56).alloc (.cells #[.slice P2 M2 C2] 56)).alloc (.cells #[.string ⟨#[]⟩, .string ⟨#[]⟩] 23)
  have KY := (Bx.new (w.alloc (.cells #[.slice P1 M1 C1] 56)) (.slice P2 M2 C2) 56).alloc (.cells #[.string ⟨#[]⟩, .string ⟨#[]⟩] 23)
  have KR := Blk.new ((w.alloc (.cells #[.slice P1 M1 C1] 56)).alloc (.cells #[.slice P2 M2 C2] 56)) #[.string ⟨#[]⟩, .string ⟨#[]⟩] 23
  simp only [World.size_alloc] at KY KR
  have pr : Below w.heap.size w (((w.alloc (.cells #[.slice P1 M1 C1] 56)).alloc (.cells #[.slice P2 M2 C2] 56)).alloc (.cells #[.string ⟨#[]⟩, .string ⟨#[]⟩] 23)) := (((Below.refl _ _).alloc (Nat.le_refl _) _).alloc (by simp) _).alloc (by simp; omega) _
  go_enter Tryz.func69, Tryz.ntmps69
  go_wp2_with fail
  generalize ((w.alloc (.cells #[.slice P1 M1 C1] 56)).alloc (.cells #[.slice P2 M2 C2] 56)).alloc (.cells #[.string ⟨#[]⟩, .string ⟨#[]⟩] 23) = W0 at *
  have kx := KX.1
  have ky := KY.1
  go_wp2_with (first
    | (go_at_call 103; go_must (refine (B1 _ pr).mono ?_; rintro e w1 ⟨rfl, b1⟩; (have p1 := bel' pr b1); (have KR1 := KR.below b1 KR.lt); (have kr0 := KR1.at 0); (have kr1 := KR1.at 1); (have kf0 := KR1.free 0); (have kf1 := KR1.free 1); (simp at kr0 kr1)))
    | fail)
  have KE := bput (bput KR1 0 (.string ⟨#[]⟩)) 1 (.string ⟨#[]⟩)
  have bE := (p1.setCell (p := ⟨w.heap.size + 1 + 1, 0, none⟩) (show w.heap.size ≤ w.heap.size + 1 + 1 by omega) (.string ⟨#[]⟩)).setCell (p := ⟨w.heap.size + 1 + 1, 1, none⟩) (show w.heap.size ≤ w.heap.size + 1 + 1 by omega) (.string ⟨#[]⟩)
  generalize (w1.setCell ⟨w.heap.size + 1 + 1, 0, none⟩ (.string ⟨#[]⟩)).setCell ⟨w.heap.size + 1 + 1, 1, none⟩ (.string ⟨#[]⟩) = WE at *
  have z0 := KE.at 0
  have z1 := KE.at 1
  simp at z0 z1
  exact bodyPost_ret (v := .tuple #[.agg #[.string ⟨#[]⟩, .string ⟨#[]⟩], .int .i64 3]) (by simp [results, Tryz.results69, go_sem, z0, z1]) rfl ⟨rfl, bE⟩
set_option maxHeartbeats 1600000 in
set_option maxRecDepth 100000 in
theorem Write_big2 (g : Bool) (P1 P2 : Option Addr) (M1 C1 M2 C2 : Nat) (L1 L2 : Int) (w : World) (l1 : L1 ≤ 13654) (l2 : 13654 < L2)
    (B1 : ∀ x, Below w.heap.size w x → Calls Tryz.prog 103 #[.agg #[.slice P1 M1 C1]] x fun e w' => e = .returned (.int .i64 L1) ∧ Below x.heap.size x w')
    (B2 : ∀ x, Below w.heap.size w x → Calls Tryz.prog 103 #[.agg #[.slice P2 M2 C2]] x fun e w' => e = .returned (.int .i64 L2) ∧ Below x.heap.size x w') :
    Calls Tryz.prog 69 #[.bool g, .agg #[.slice P1 M1 C1], .agg #[.slice P2 M2 C2]] w fun e w' => e = .returned (.tuple #[.agg #[.string ⟨#[]⟩, .string ⟨#[]⟩], .int .i64 3]) ∧ Below w.heap.size w w' := by
  have KX := ((Bx.new w (.slice P1 M1 C1) 56).alloc (.cells #[.slice P2 M2 C2] 56)).alloc (.cells #[.string ⟨#[]⟩, .string ⟨#[]⟩] 23)
  have KY := (Bx.new (w.alloc (.cells #[.slice P1 M1 C1] 56)) (.slice P2 M2 C2) 56).alloc (.cells #[.string ⟨#[]⟩, .string ⟨#[]⟩] 23)
  have KR := Blk.new ((w.alloc (.cells #[.slice P1 M1 C1] 56)).alloc (.cells #[.slice P2 M2 C2] 56)) #[.string ⟨#[]⟩, .string ⟨#[]⟩] 23
  simp only [World.size_alloc] at KY KR
  have pr : Below w.heap.size w (((w.alloc (.cells #[.slice P1 M1 C1] 56)).alloc (.cells #[.slice P2 M2 C2] 56)).alloc (.cells #[.string ⟨#[]⟩, .string ⟨#[]⟩] 23)) := (((Below.refl _ _).alloc (Nat.le_refl _) _).alloc (by simp) _).alloc (by simp; omega) _
  go_enter Tryz.func69, Tryz.ntmps69
  go_wp2_with fail
  generalize ((w.alloc (.cells #[.slice P1 M1 C1] 56)).alloc (.cells #[.slice P2 M2 C2] 56)).alloc (.cells #[.string ⟨#[]⟩, .string ⟨#[]⟩] 23) = W0 at *
  have kx := KX.1
  have ky := KY.1
  go_wp2_with (first
    | (go_at_call 103; have q := b1; refine (B2 _ p1).mono ?_; rintro e w2 ⟨rfl, b2⟩; have p2 := bel' p1 b2; have KR2 := KR1.below b2 KR1.lt; (have kr0 := KR2.at 0); (have kr1 := KR2.at 1); (have kf0 := KR2.free 0); (have kf1 := KR2.free 1); (simp at kr0 kr1))
    | (go_at_call 103; refine (B1 _ pr).mono ?_; rintro e w1 ⟨rfl, b1⟩; have p1 := bel' pr b1; have KX1 := KX.below b1; have KY1 := KY.below b1; have ky1 := KY1.1; have KR1 := KR.below b1 KR.lt)
    | fail)
  have KE := bput (bput KR2 0 (.string ⟨#[]⟩)) 1 (.string ⟨#[]⟩)
  have bE := (p2.setCell (p := ⟨w.heap.size + 1 + 1, 0, none⟩) (show w.heap.size ≤ w.heap.size + 1 + 1 by omega) (.string ⟨#[]⟩)).setCell (p := ⟨w.heap.size + 1 + 1, 1, none⟩) (show w.heap.size ≤ w.heap.size + 1 + 1 by omega) (.string ⟨#[]⟩)
  generalize (w2.setCell ⟨w.heap.size + 1 + 1, 0, none⟩ (.string ⟨#[]⟩)).setCell ⟨w.heap.size + 1 + 1, 1, none⟩ (.string ⟨#[]⟩) = WE at *
  have z0 := KE.at 0
  have z1 := KE.at 1
  simp at z0 z1
  exact bodyPost_ret (v := .tuple #[.agg #[.string ⟨#[]⟩, .string ⟨#[]⟩], .int .i64 3]) (by simp [results, Tryz.results69, go_sem, z0, z1]) rfl ⟨rfl, bE⟩
set_option maxHeartbeats 1600000 in
set_option maxRecDepth 100000 in
theorem Write_many1 (g : Bool) (P1 P2 : Option Addr) (M1 C1 M2 C2 : Nat) (s t : ByteArray) (L1 L2 : Int) (w : World) (l1 : L1 ≤ 13654) (l2 : L2 ≤ 13654) (s1 : 4096 < s.size)
    (T1 : ∀ x, Below w.heap.size w x → Calls Tryz.prog 104 #[.agg #[.slice P1 M1 C1]] x fun e w' => e = .returned (.string s) ∧ Below x.heap.size x w')
    (T2 : ∀ x, Below w.heap.size w x → Calls Tryz.prog 104 #[.agg #[.slice P2 M2 C2]] x fun e w' => e = .returned (.string t) ∧ Below x.heap.size x w')
    (B1 : ∀ x, Below w.heap.size w x → Calls Tryz.prog 103 #[.agg #[.slice P1 M1 C1]] x fun e w' => e = .returned (.int .i64 L1) ∧ Below x.heap.size x w')
    (B2 : ∀ x, Below w.heap.size w x → Calls Tryz.prog 103 #[.agg #[.slice P2 M2 C2]] x fun e w' => e = .returned (.int .i64 L2) ∧ Below x.heap.size x w') :
    Calls Tryz.prog 69 #[.bool g, .agg #[.slice P1 M1 C1], .agg #[.slice P2 M2 C2]] w fun e w' => e = .returned (.tuple #[.agg #[.string ⟨#[]⟩, .string ⟨#[]⟩], .int .i64 3]) ∧ Below w.heap.size w w' := by
  have KX := ((Bx.new w (.slice P1 M1 C1) 56).alloc (.cells #[.slice P2 M2 C2] 56)).alloc (.cells #[.string ⟨#[]⟩, .string ⟨#[]⟩] 23)
  have KY := (Bx.new (w.alloc (.cells #[.slice P1 M1 C1] 56)) (.slice P2 M2 C2) 56).alloc (.cells #[.string ⟨#[]⟩, .string ⟨#[]⟩] 23)
  have KR := Blk.new ((w.alloc (.cells #[.slice P1 M1 C1] 56)).alloc (.cells #[.slice P2 M2 C2] 56)) #[.string ⟨#[]⟩, .string ⟨#[]⟩] 23
  simp only [World.size_alloc] at KY KR
  have pr : Below w.heap.size w (((w.alloc (.cells #[.slice P1 M1 C1] 56)).alloc (.cells #[.slice P2 M2 C2] 56)).alloc (.cells #[.string ⟨#[]⟩, .string ⟨#[]⟩] 23)) := (((Below.refl _ _).alloc (Nat.le_refl _) _).alloc (by simp) _).alloc (by simp; omega) _
  have s1' : (4096 : Int) < (s.size : Int) := by omega
  go_enter Tryz.func69, Tryz.ntmps69
  go_wp2_with fail
  generalize ((w.alloc (.cells #[.slice P1 M1 C1] 56)).alloc (.cells #[.slice P2 M2 C2] 56)).alloc (.cells #[.string ⟨#[]⟩, .string ⟨#[]⟩] 23) = W0 at *
  have kx := KX.1
  have ky := KY.1
  go_wp2_with (first
    | (go_at_call 103; have q := b1; refine (B2 _ p1).mono ?_; rintro e w2 ⟨rfl, b2⟩; have p2 := bel' p1 b2; have KX2 := KX1.below b2; have KY2 := KY1.below b2; have KR2 := KR1.below b2 KR1.lt)
    | (go_at_call 103; refine (B1 _ pr).mono ?_; rintro e w1 ⟨rfl, b1⟩; have p1 := bel' pr b1; have KX1 := KX.below b1; have KY1 := KY.below b1; have ky1 := KY1.1; have KR1 := KR.below b1 KR.lt)
    | fail)
  clear KX KY KR KX1 KY1 KR1 kx ky ky1 B1 B2 b1 b2 p1 pr
  go_cut [8, 9] from 19 to 22 (fun x y wc => x = .string s ∧ y = .string t ∧ Below w2.heap.size w2 wc)
  case first =>
    rename_i hm hJ
    refine wp_region_held (S := fun _ => True) (by kernel_rfl) (any_inv (fun listed a x => ∃ (y0 y1 y2 y3 : Bool) (t19 t20 t21 t22 : Value) (z8 z9 : Value), a = ⟨#[.bool g, .agg #[.slice P1 M1 C1], .agg #[.slice P2 M2 C2], undef, .pointer (some ⟨w.heap.size, 0, none⟩), .pointer (some ⟨w.heap.size + 1, 0, none⟩), .pointer (some ⟨w.heap.size + 1 + 1, 0, none⟩), .int .i64 0, z8, z9, .agg #[.slice P1 M1 C1], .int .i64 L1, .bool (decide (13654 < L1)), .bool (decide (13654 < L1)), .agg #[.slice P2 M2 C2], .int .i64 L2, .bool (decide (13654 < L2)), .bool (decide (13654 < L1) || decide (13654 < L2)), undef, t19, t20, t21, t22, undef, undef, undef, undef, undef, undef, undef, undef, undef, undef, undef, undef, undef, undef], []⟩ ∧ ((listed = #[y0, y1, y2, y3, false, false] ∧ WT3 w2 x (.agg #[.slice P1 M1 C1]) (.string s) (.agg #[.slice P2 M2 C2]) (.string t) y0 y1 y2 y3 t19 t20 t21 t22 ∧ z8 = undef ∧ z9 = undef) ∨ (listed = #[true, true, true, true, true, false] ∧ t20 = .string s ∧ t22 = .string t ∧ z8 = .string s ∧ z9 = undef ∧ Below w2.heap.size w2 x) ∨ (listed = #[true, true, true, true, true, true] ∧ t20 = .string s ∧ t22 = .string t ∧ z8 = .string s ∧ z9 = .string t ∧ Below w2.heap.size w2 x))) ?_ ?_ _ _ _ _ (by decide) ?_)
    · rintro listed a x i ⟨y0, y1, y2, y3, t19, t20, t21, t22, z8, z9, rfl, h⟩ hi
      have hr : i < 6 := List.mem_range.1 (List.mem_filter.1 hi).1
      have hc := (List.mem_filter.1 hi).2
      rcases h with ⟨rfl, h⟩ | ⟨rfl, h⟩ | ⟨rfl, h⟩
      · rcases (show i = 0 ∨ i = 1 ∨ i = 2 ∨ i = 3 ∨ i = 4 ∨ i = 5 by omega) with rfl | rfl | rfl | rfl | rfl | rfl
        · obtain ⟨h, rfl, rfl⟩ := h
          clear hc hi
          have kd := (KX2.below h.bel).1
          refine wpOp_step rfl (fun K hK0 => ?_)
          have hK : Hid _ := hK0
          clear hK0
          rw [if_pos (by rfl)]
          go_wp2_with fail
          exact hK.out _ _ ⟨true, y1, y2, y3, .agg #[.slice P1 M1 C1], t20, t21, t22, undef, undef, rfl, Or.inl ⟨rfl, ⟨{ h with o0 := fun _ => rfl }, rfl, rfl⟩⟩⟩
        · obtain ⟨h, rfl, rfl⟩ := h
          have e0 : y0 = true := by
            revert hc
            cases y0 <;> simp [Region.binds]
          have r0 := h.o0 e0
          subst r0
          clear hc hi
          refine wpOp_step rfl (fun K hK0 => ?_)
          have hK : Hid _ := hK0
          clear hK0
          rw [if_pos (by rfl)]
          go_wp2_with (first | (go_at_call 104; go_must (refine (T1 x (bel' p2 h.bel)).mono ?_; rintro e x2 ⟨rfl, bb⟩)) | fail)
          exact hK.out _ _ ⟨y0, true, y2, y3, _, _, t21, t22, undef, undef, rfl, Or.inl ⟨rfl, ⟨{ h.grow bb with o1 := fun _ => rfl }, rfl, rfl⟩⟩⟩
        · obtain ⟨h, rfl, rfl⟩ := h
          clear hc hi
          have kd := (KY2.below h.bel).1
          refine wpOp_step rfl (fun K hK0 => ?_)
          have hK : Hid _ := hK0
          clear hK0
          rw [if_pos (by rfl)]
          go_wp2_with fail
          exact hK.out _ _ ⟨y0, y1, true, y3, t19, t20, .agg #[.slice P2 M2 C2], t22, undef, undef, rfl, Or.inl ⟨rfl, ⟨{ h with o2 := fun _ => rfl, d3_2 := fun _ => rfl }, rfl, rfl⟩⟩⟩
        · obtain ⟨h, rfl, rfl⟩ := h
          have e2 : y2 = true := by
            revert hc
            cases y2 <;> simp [Region.binds]
          have r2 := h.o2 e2
          subst r2
          clear hc hi
          refine wpOp_step rfl (fun K hK0 => ?_)
          have hK : Hid _ := hK0
          clear hK0
          rw [if_pos (by rfl)]
          go_wp2_with (first | (go_at_call 104; go_must (refine (T2 x (bel' p2 h.bel)).mono ?_; rintro e x2 ⟨rfl, bb⟩)) | fail)
          exact hK.out _ _ ⟨y0, y1, y2, true, t19, t20, _, _, undef, undef, rfl, Or.inl ⟨rfl, ⟨{ h.grow bb with o3 := fun _ => rfl, d3_2 := fun _ => e2 }, rfl, rfl⟩⟩⟩
        · obtain ⟨h, rfl, rfl⟩ := h
          have e0 : y0 = true := by
            revert hc
            cases y0 <;> simp [Region.binds]
          have e1 : y1 = true := by
            revert hc
            cases y1 <;> simp [Region.binds]
          have e3 : y3 = true := by
            revert hc
            cases y3 <;> simp [Region.binds]
          have e2 := h.d3_2 e3
          have r1 := h.o1 e1
          subst r1
          have r3 := h.o3 e3
          subst r3
          clear hc hi
          subst e0 e1 e2 e3
          have bl := h.bel
          clear h
          refine wpOp_step rfl (fun K hK0 => ?_)
          have hK : Hid _ := hK0
          clear hK0
          rw [if_pos (by rfl)]
          go_wp2_with fail
          exact hK.out _ _ ⟨true, true, true, true, t19, _, t21, _, _, _, rfl, Or.inr (Or.inl ⟨rfl, rfl, rfl, rfl, rfl, bl⟩)⟩
        · simp [Region.binds] at hc
      · rcases (show i = 0 ∨ i = 1 ∨ i = 2 ∨ i = 3 ∨ i = 4 ∨ i = 5 by omega) with rfl | rfl | rfl | rfl | rfl | rfl
        · simp at hc
        · simp at hc
        · simp at hc
        · simp at hc
        · simp at hc
        · clear hc hi
          obtain ⟨rfl, rfl, rfl, rfl, bl⟩ := h
          refine wpOp_step rfl (fun K hK0 => ?_)
          have hK : Hid _ := hK0
          clear hK0
          rw [if_pos (by rfl)]
          go_wp2_with fail
          exact hK.out _ _ ⟨true, true, true, true, _, _, _, _, _, _, rfl, Or.inr (Or.inr (⟨rfl, rfl, rfl, rfl, rfl, bl⟩))⟩
      · rcases (show i = 0 ∨ i = 1 ∨ i = 2 ∨ i = 3 ∨ i = 4 ∨ i = 5 by omega) with rfl | rfl | rfl | rfl | rfl | rfl <;> simp at hc
    · rintro listed a x ⟨y0, y1, y2, y3, t19, t20, t21, t22, z8, z9, rfl, h⟩ hn
      have al := all_listed (by decide +kernel) hn
      rcases h with ⟨rfl, h⟩ | ⟨rfl, h⟩ | ⟨rfl, h⟩
      · have z := al 4 (by decide)
        simp at z
      · have z := al 5 (by decide)
        simp at z
      · obtain ⟨rfl, rfl, rfl, rfl, bl⟩ := h
        refine hJ _ _ ?_
        go_meet
        case rel => exact ⟨rfl, rfl, bl⟩
    · exact ⟨false, false, false, false, undef, undef, undef, undef, undef, undef, rfl, Or.inl ⟨rfl, ⟨{ bel := (Below.refl _ _).drew, o0 := (by intro q; cases q), o1 := (by intro q; cases q), o2 := (by intro q; cases q), o3 := (by intro q; cases q), d3_2 := (by intro q; cases q) }, rfl, rfl⟩⟩⟩
  case rest =>
    obtain ⟨rfl, rfl, b3⟩ := hcut
    have p3 := bel' p2 b3
    have KR3 := KR2.below b3 KR2.lt
    have kr0 := KR3.at 0
    have kr1 := KR3.at 1
    have kf0 := KR3.free 0
    have kf1 := KR3.free 1
    simp at kr0 kr1
    clear T1 T2 KX2 KY2 KR2 p2 b3
    go_wp2_with fail
    rename World => wc
    have KE := bput (bput KR3 0 (.string ⟨#[]⟩)) 1 (.string ⟨#[]⟩)
    have bE := (p3.setCell (p := ⟨w.heap.size + 1 + 1, 0, none⟩) (show w.heap.size ≤ w.heap.size + 1 + 1 by omega) (.string ⟨#[]⟩)).setCell (p := ⟨w.heap.size + 1 + 1, 1, none⟩) (show w.heap.size ≤ w.heap.size + 1 + 1 by omega) (.string ⟨#[]⟩)
    generalize (wc.setCell ⟨w.heap.size + 1 + 1, 0, none⟩ (.string ⟨#[]⟩)).setCell ⟨w.heap.size + 1 + 1, 1, none⟩ (.string ⟨#[]⟩) = WE at *
    have z0 := KE.at 0
    have z1 := KE.at 1
    simp at z0 z1
    exact bodyPost_ret (v := .tuple #[.agg #[.string ⟨#[]⟩, .string ⟨#[]⟩], .int .i64 3]) (by simp [results, Tryz.results69, go_sem, z0, z1]) rfl ⟨rfl, bE⟩
set_option maxHeartbeats 1600000 in
set_option maxRecDepth 100000 in
theorem Write_many2 (g : Bool) (P1 P2 : Option Addr) (M1 C1 M2 C2 : Nat) (s t : ByteArray) (L1 L2 : Int) (w : World) (l1 : L1 ≤ 13654) (l2 : L2 ≤ 13654) (s1 : s.size ≤ 4096) (s2 : 4096 < t.size)
    (T1 : ∀ x, Below w.heap.size w x → Calls Tryz.prog 104 #[.agg #[.slice P1 M1 C1]] x fun e w' => e = .returned (.string s) ∧ Below x.heap.size x w')
    (T2 : ∀ x, Below w.heap.size w x → Calls Tryz.prog 104 #[.agg #[.slice P2 M2 C2]] x fun e w' => e = .returned (.string t) ∧ Below x.heap.size x w')
    (B1 : ∀ x, Below w.heap.size w x → Calls Tryz.prog 103 #[.agg #[.slice P1 M1 C1]] x fun e w' => e = .returned (.int .i64 L1) ∧ Below x.heap.size x w')
    (B2 : ∀ x, Below w.heap.size w x → Calls Tryz.prog 103 #[.agg #[.slice P2 M2 C2]] x fun e w' => e = .returned (.int .i64 L2) ∧ Below x.heap.size x w') :
    Calls Tryz.prog 69 #[.bool g, .agg #[.slice P1 M1 C1], .agg #[.slice P2 M2 C2]] w fun e w' => e = .returned (.tuple #[.agg #[.string ⟨#[]⟩, .string ⟨#[]⟩], .int .i64 3]) ∧ Below w.heap.size w w' := by
  have KX := ((Bx.new w (.slice P1 M1 C1) 56).alloc (.cells #[.slice P2 M2 C2] 56)).alloc (.cells #[.string ⟨#[]⟩, .string ⟨#[]⟩] 23)
  have KY := (Bx.new (w.alloc (.cells #[.slice P1 M1 C1] 56)) (.slice P2 M2 C2) 56).alloc (.cells #[.string ⟨#[]⟩, .string ⟨#[]⟩] 23)
  have KR := Blk.new ((w.alloc (.cells #[.slice P1 M1 C1] 56)).alloc (.cells #[.slice P2 M2 C2] 56)) #[.string ⟨#[]⟩, .string ⟨#[]⟩] 23
  simp only [World.size_alloc] at KY KR
  have pr : Below w.heap.size w (((w.alloc (.cells #[.slice P1 M1 C1] 56)).alloc (.cells #[.slice P2 M2 C2] 56)).alloc (.cells #[.string ⟨#[]⟩, .string ⟨#[]⟩] 23)) := (((Below.refl _ _).alloc (Nat.le_refl _) _).alloc (by simp) _).alloc (by simp; omega) _
  have s1' : (s.size : Int) ≤ 4096 := by omega
  have s2' : (4096 : Int) < (t.size : Int) := by omega
  go_enter Tryz.func69, Tryz.ntmps69
  go_wp2_with fail
  generalize ((w.alloc (.cells #[.slice P1 M1 C1] 56)).alloc (.cells #[.slice P2 M2 C2] 56)).alloc (.cells #[.string ⟨#[]⟩, .string ⟨#[]⟩] 23) = W0 at *
  have kx := KX.1
  have ky := KY.1
  go_wp2_with (first
    | (go_at_call 103; have q := b1; refine (B2 _ p1).mono ?_; rintro e w2 ⟨rfl, b2⟩; have p2 := bel' p1 b2; have KX2 := KX1.below b2; have KY2 := KY1.below b2; have KR2 := KR1.below b2 KR1.lt)
    | (go_at_call 103; refine (B1 _ pr).mono ?_; rintro e w1 ⟨rfl, b1⟩; have p1 := bel' pr b1; have KX1 := KX.below b1; have KY1 := KY.below b1; have ky1 := KY1.1; have KR1 := KR.below b1 KR.lt)
    | fail)
  clear KX KY KR KX1 KY1 KR1 kx ky ky1 B1 B2 b1 b2 p1 pr
  go_cut [8, 9] from 19 to 22 (fun x y wc => x = .string s ∧ y = .string t ∧ Below w2.heap.size w2 wc)
  case first =>
    rename_i hm hJ
    refine wp_region_held (S := fun _ => True) (by kernel_rfl) (any_inv (fun listed a x => ∃ (y0 y1 y2 y3 : Bool) (t19 t20 t21 t22 : Value) (z8 z9 : Value), a = ⟨#[.bool g, .agg #[.slice P1 M1 C1], .agg #[.slice P2 M2 C2], undef, .pointer (some ⟨w.heap.size, 0, none⟩), .pointer (some ⟨w.heap.size + 1, 0, none⟩), .pointer (some ⟨w.heap.size + 1 + 1, 0, none⟩), .int .i64 0, z8, z9, .agg #[.slice P1 M1 C1], .int .i64 L1, .bool (decide (13654 < L1)), .bool (decide (13654 < L1)), .agg #[.slice P2 M2 C2], .int .i64 L2, .bool (decide (13654 < L2)), .bool (decide (13654 < L1) || decide (13654 < L2)), undef, t19, t20, t21, t22, undef, undef, undef, undef, undef, undef, undef, undef, undef, undef, undef, undef, undef, undef], []⟩ ∧ ((listed = #[y0, y1, y2, y3, false, false] ∧ WT3 w2 x (.agg #[.slice P1 M1 C1]) (.string s) (.agg #[.slice P2 M2 C2]) (.string t) y0 y1 y2 y3 t19 t20 t21 t22 ∧ z8 = undef ∧ z9 = undef) ∨ (listed = #[true, true, true, true, true, false] ∧ t20 = .string s ∧ t22 = .string t ∧ z8 = .string s ∧ z9 = undef ∧ Below w2.heap.size w2 x) ∨ (listed = #[true, true, true, true, true, true] ∧ t20 = .string s ∧ t22 = .string t ∧ z8 = .string s ∧ z9 = .string t ∧ Below w2.heap.size w2 x))) ?_ ?_ _ _ _ _ (by decide) ?_)
    · rintro listed a x i ⟨y0, y1, y2, y3, t19, t20, t21, t22, z8, z9, rfl, h⟩ hi
      have hr : i < 6 := List.mem_range.1 (List.mem_filter.1 hi).1
      have hc := (List.mem_filter.1 hi).2
      rcases h with ⟨rfl, h⟩ | ⟨rfl, h⟩ | ⟨rfl, h⟩
      · rcases (show i = 0 ∨ i = 1 ∨ i = 2 ∨ i = 3 ∨ i = 4 ∨ i = 5 by omega) with rfl | rfl | rfl | rfl | rfl | rfl
        · obtain ⟨h, rfl, rfl⟩ := h
          clear hc hi
          have kd := (KX2.below h.bel).1
          refine wpOp_step rfl (fun K hK0 => ?_)
          have hK : Hid _ := hK0
          clear hK0
          rw [if_pos (by rfl)]
          go_wp2_with fail
          exact hK.out _ _ ⟨true, y1, y2, y3, .agg #[.slice P1 M1 C1], t20, t21, t22, undef, undef, rfl, Or.inl ⟨rfl, ⟨{ h with o0 := fun _ => rfl }, rfl, rfl⟩⟩⟩
        · obtain ⟨h, rfl, rfl⟩ := h
          have e0 : y0 = true := by
            revert hc
            cases y0 <;> simp [Region.binds]
          have r0 := h.o0 e0
          subst r0
          clear hc hi
          refine wpOp_step rfl (fun K hK0 => ?_)
          have hK : Hid _ := hK0
          clear hK0
          rw [if_pos (by rfl)]
          go_wp2_with (first | (go_at_call 104; go_must (refine (T1 x (bel' p2 h.bel)).mono ?_; rintro e x2 ⟨rfl, bb⟩)) | fail)
          exact hK.out _ _ ⟨y0, true, y2, y3, _, _, t21, t22, undef, undef, rfl, Or.inl ⟨rfl, ⟨{ h.grow bb with o1 := fun _ => rfl }, rfl, rfl⟩⟩⟩
        · obtain ⟨h, rfl, rfl⟩ := h
          clear hc hi
          have kd := (KY2.below h.bel).1
          refine wpOp_step rfl (fun K hK0 => ?_)
          have hK : Hid _ := hK0
          clear hK0
          rw [if_pos (by rfl)]
          go_wp2_with fail
          exact hK.out _ _ ⟨y0, y1, true, y3, t19, t20, .agg #[.slice P2 M2 C2], t22, undef, undef, rfl, Or.inl ⟨rfl, ⟨{ h with o2 := fun _ => rfl, d3_2 := fun _ => rfl }, rfl, rfl⟩⟩⟩
        · obtain ⟨h, rfl, rfl⟩ := h
          have e2 : y2 = true := by
            revert hc
            cases y2 <;> simp [Region.binds]
          have r2 := h.o2 e2
          subst r2
          clear hc hi
          refine wpOp_step rfl (fun K hK0 => ?_)
          have hK : Hid _ := hK0
          clear hK0
          rw [if_pos (by rfl)]
          go_wp2_with (first | (go_at_call 104; go_must (refine (T2 x (bel' p2 h.bel)).mono ?_; rintro e x2 ⟨rfl, bb⟩)) | fail)
          exact hK.out _ _ ⟨y0, y1, y2, true, t19, t20, _, _, undef, undef, rfl, Or.inl ⟨rfl, ⟨{ h.grow bb with o3 := fun _ => rfl, d3_2 := fun _ => e2 }, rfl, rfl⟩⟩⟩
        · obtain ⟨h, rfl, rfl⟩ := h
          have e0 : y0 = true := by
            revert hc
            cases y0 <;> simp [Region.binds]
          have e1 : y1 = true := by
            revert hc
            cases y1 <;> simp [Region.binds]
          have e3 : y3 = true := by
            revert hc
            cases y3 <;> simp [Region.binds]
          have e2 := h.d3_2 e3
          have r1 := h.o1 e1
          subst r1
          have r3 := h.o3 e3
          subst r3
          clear hc hi
          subst e0 e1 e2 e3
          have bl := h.bel
          clear h
          refine wpOp_step rfl (fun K hK0 => ?_)
          have hK : Hid _ := hK0
          clear hK0
          rw [if_pos (by rfl)]
          go_wp2_with fail
          exact hK.out _ _ ⟨true, true, true, true, t19, _, t21, _, _, _, rfl, Or.inr (Or.inl ⟨rfl, rfl, rfl, rfl, rfl, bl⟩)⟩
        · simp [Region.binds] at hc
      · rcases (show i = 0 ∨ i = 1 ∨ i = 2 ∨ i = 3 ∨ i = 4 ∨ i = 5 by omega) with rfl | rfl | rfl | rfl | rfl | rfl
        · simp at hc
        · simp at hc
        · simp at hc
        · simp at hc
        · simp at hc
        · clear hc hi
          obtain ⟨rfl, rfl, rfl, rfl, bl⟩ := h
          refine wpOp_step rfl (fun K hK0 => ?_)
          have hK : Hid _ := hK0
          clear hK0
          rw [if_pos (by rfl)]
          go_wp2_with fail
          exact hK.out _ _ ⟨true, true, true, true, _, _, _, _, _, _, rfl, Or.inr (Or.inr (⟨rfl, rfl, rfl, rfl, rfl, bl⟩))⟩
      · rcases (show i = 0 ∨ i = 1 ∨ i = 2 ∨ i = 3 ∨ i = 4 ∨ i = 5 by omega) with rfl | rfl | rfl | rfl | rfl | rfl <;> simp at hc
    · rintro listed a x ⟨y0, y1, y2, y3, t19, t20, t21, t22, z8, z9, rfl, h⟩ hn
      have al := all_listed (by decide +kernel) hn
      rcases h with ⟨rfl, h⟩ | ⟨rfl, h⟩ | ⟨rfl, h⟩
      · have z := al 4 (by decide)
        simp at z
      · have z := al 5 (by decide)
        simp at z
      · obtain ⟨rfl, rfl, rfl, rfl, bl⟩ := h
        refine hJ _ _ ?_
        go_meet
        case rel => exact ⟨rfl, rfl, bl⟩
    · exact ⟨false, false, false, false, undef, undef, undef, undef, undef, undef, rfl, Or.inl ⟨rfl, ⟨{ bel := (Below.refl _ _).drew, o0 := (by intro q; cases q), o1 := (by intro q; cases q), o2 := (by intro q; cases q), o3 := (by intro q; cases q), d3_2 := (by intro q; cases q) }, rfl, rfl⟩⟩⟩
  case rest =>
    obtain ⟨rfl, rfl, b3⟩ := hcut
    have p3 := bel' p2 b3
    have KR3 := KR2.below b3 KR2.lt
    have kr0 := KR3.at 0
    have kr1 := KR3.at 1
    have kf0 := KR3.free 0
    have kf1 := KR3.free 1
    simp at kr0 kr1
    clear T1 T2 KX2 KY2 KR2 p2 b3
    go_wp2_with fail
    rename World => wc
    have KE := bput (bput KR3 0 (.string ⟨#[]⟩)) 1 (.string ⟨#[]⟩)
    have bE := (p3.setCell (p := ⟨w.heap.size + 1 + 1, 0, none⟩) (show w.heap.size ≤ w.heap.size + 1 + 1 by omega) (.string ⟨#[]⟩)).setCell (p := ⟨w.heap.size + 1 + 1, 1, none⟩) (show w.heap.size ≤ w.heap.size + 1 + 1 by omega) (.string ⟨#[]⟩)
    generalize (wc.setCell ⟨w.heap.size + 1 + 1, 0, none⟩ (.string ⟨#[]⟩)).setCell ⟨w.heap.size + 1 + 1, 1, none⟩ (.string ⟨#[]⟩) = WE at *
    have z0 := KE.at 0
    have z1 := KE.at 1
    simp at z0 z1
    exact bodyPost_ret (v := .tuple #[.agg #[.string ⟨#[]⟩, .string ⟨#[]⟩], .int .i64 3]) (by simp [results, Tryz.results69, go_sem, z0, z1]) rfl ⟨rfl, bE⟩
end Go.Proofs.YtfalncbcomlelaaGreatDoor.Mo
