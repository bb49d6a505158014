import Derived.Test.YtebilgnmnambnaaGreatDoorPart34
import Derived.Test.YtebilgnmnambnaaGreatDoorPart29
import Derived.Deep.RegionHeld3

namespace Go.Proofs.YtebilgnmnambnaaGreatDoor.Mo
open Go.RowKit Fu Tn Go.Lib
set_option maxHeartbeats 1600000 in
set_option maxRecDepth 100000 in
theorem Write_big1 (g : Bool) (P1 P2 : Option Addr) (M1 C1 M2 C2 : Nat) (L1 : Int) (w : World) (l1 : 13654 < L1)
    (B1 : ∀ x, Below w.heap.size w x → Calls Tryz.prog 111 #[.agg #[.slice P1 M1 C1]] x fun e w' => e = .returned (.int .i64 L1) ∧ Below x.heap.size x w') :
    Calls Tryz.prog 105 #[.bool g, .agg #[.slice P1 M1 C1], .agg #[.slice P2 M2 C2]] w fun e w' => e = .returned (.tuple #[.agg #[.string ⟨#[]⟩, .string ⟨#[]⟩], .int .i64 3]) ∧ Below w.heap.size w w' := by
  have KX := ((Bx.new w (.slice P1 M1 C1) 65).alloc (.cells #[.slice P2 M2 C2] 65)).alloc (.cells #[.string ⟨#[]⟩, .string ⟨#[]⟩] 23)
  have KY := (Bx.new (w.alloc (.cells #[.slice P1 M1 C1] 65)) (.slice P2 M2 C2) 65).alloc (.cells #[.string ⟨#[]⟩, .string ⟨#[]⟩] 23)
  have KR := Blk.new ((w.alloc (.cells #[.slice P1 M1 C1] 65)).alloc (.cells #[.slice P2 M2 C2] 65)) #[.string ⟨#[]⟩, .string ⟨#[]⟩] 23
  simp only [World.size_alloc] at KY KR
  have pr : Below w.heap.size w (((w.alloc (.cells #[.slice P1 M1 C1] 65)).alloc (.cells #[.slice P2 M2 C2] 65)).alloc (.cells #[.string ⟨#[]⟩, .string ⟨#[]⟩] 23)) := (((Below.refl _ _).alloc (Nat.le_refl _) _).alloc (by simp) _).alloc (by simp; omega) _
  go_enter Tryz.func105, Tryz.ntmps105
  go_wp2_with fail
  generalize ((w.alloc (.cells #[.slice P1 M1 C1] 65)).alloc (.cells #[.slice P2 M2 C2] 65)).alloc (.cells #[.string ⟨#[]⟩, .string ⟨#[]⟩] 23) = W0 at *
  have kx := KX.1
  have ky := KY.1
  go_wp2_with (first
    | (go_at_call 111; go_must (refine (B1 _ pr).mono ?_; rintro e w1 ⟨rfl, b1⟩; (have p1 := bel' pr b1); (have KR1 := KR.below b1 KR.lt); (have kr0 := KR1.at 0); (have kr1 := KR1.at 1); (have kf0 := KR1.free 0); (have kf1 := KR1.free 1); (simp at kr0 kr1)))
    | fail)
  have KE := bput (bput KR1 0 (.string ⟨#[]⟩)) 1 (.string ⟨#[]⟩)
  have bE := (p1.setCell (p := ⟨w.heap.size + 1 + 1, 0, none⟩) (show w.heap.size ≤ w.heap.size + 1 + 1 by omega) (.string ⟨#[]⟩)).setCell (p := ⟨w.heap.size + 1 + 1, 1, none⟩) (show w.heap.size ≤ w.heap.size + 1 + 1 by omega) (.string ⟨#[]⟩)
  generalize (w1.setCell ⟨w.heap.size + 1 + 1, 0, none⟩ (.string ⟨#[]⟩)).setCell ⟨w.heap.size + 1 + 1, 1, none⟩ (.string ⟨#[]⟩) = WE at *
  have z0 := KE.at 0
  have z1 := KE.at 1
  simp at z0 z1
  exact bodyPost_ret (v := .tuple #[.agg #[.string ⟨#[]⟩, .string ⟨#[]⟩], .int .i64 3]) (by simp [results, Tryz.results105, go_sem, z0, z1]) rfl ⟨rfl, bE⟩
set_option maxHeartbeats 1600000 in
set_option maxRecDepth 100000 in
theorem Write_big2 (g : Bool) (P1 P2 : Option Addr) (M1 C1 M2 C2 : Nat) (L1 L2 : Int) (w : World) (l1 : L1 ≤ 13654) (l2 : 13654 < L2)
    (B1 : ∀ x, Below w.heap.size w x → Calls Tryz.prog 111 #[.agg #[.slice P1 M1 C1]] x fun e w' => e = .returned (.int .i64 L1) ∧ Below x.heap.size x w')
    (B2 : ∀ x, Below w.heap.size w x → Calls Tryz.prog 111 #[.agg #[.slice P2 M2 C2]] x fun e w' => e = .returned (.int .i64 L2) ∧ Below x.heap.size x w') :
    Calls Tryz.prog 105 #[.bool g, .agg #[.slice P1 M1 C1], .agg #[.slice P2 M2 C2]] w fun e w' => e = .returned (.tuple #[.agg #[.string ⟨#[]⟩, .string ⟨#[]⟩], .int .i64 3]) ∧ Below w.heap.size w w' := by
  have KX := ((Bx.new w (.slice P1 M1 C1) 65).alloc (.cells #[.slice P2 M2 C2] 65)).alloc (.cells #[.string ⟨#[]⟩, .string ⟨#[]⟩] 23)
  have KY := (Bx.new (w.alloc (.cells #[.slice P1 M1 C1] 65)) (.slice P2 M2 C2) 65).alloc (.cells #[.string ⟨#[]⟩, .string ⟨#[]⟩] 23)
  have KR := Blk.new ((w.alloc (.cells #[.slice P1 M1 C1] 65)).alloc (.cells #[.slice P2 M2 C2] 65)) #[.string ⟨#[]⟩, .string ⟨#[]⟩] 23
  simp only [World.size_alloc] at KY KR
  have pr : Below w.heap.size w (((w.alloc (.cells #[.slice P1 M1 C1] 65)).alloc (.cells #[.slice P2 M2 C2] 65)).alloc (.cells #[.string ⟨#[]⟩, .string ⟨#[]⟩] 23)) := (((Below.refl _ _).alloc (Nat.le_refl _) _).alloc (by simp) _).alloc (by simp; omega) _
  go_enter Tryz.func105, Tryz.ntmps105
  go_wp2_with fail
  generalize ((w.alloc (.cells #[.slice P1 M1 C1] 65)).alloc (.cells #[.slice P2 M2 C2] 65)).alloc (.cells #[.string ⟨#[]⟩, .string ⟨#[]⟩] 23) = W0 at *
  have kx := KX.1
  have ky := KY.1
  go_wp2_with (first
    | (go_at_call 111; have q := b1; refine (B2 _ p1).mono ?_; rintro e w2 ⟨rfl, b2⟩; have p2 := bel' p1 b2; have KR2 := KR1.below b2 KR1.lt; (have kr0 := KR2.at 0); (have kr1 := KR2.at 1); (have kf0 := KR2.free 0); (have kf1 := KR2.free 1); (simp at kr0 kr1))
    | (go_at_call 111; refine (B1 _ pr).mono ?_; rintro e w1 ⟨rfl, b1⟩; have p1 := bel' pr b1; have KX1 := KX.below b1; have KY1 := KY.below b1; have ky1 := KY1.1; have KR1 := KR.below b1 KR.lt)
    | fail)
  have KE := bput (bput KR2 0 (.string ⟨#[]⟩)) 1 (.string ⟨#[]⟩)
  have bE := (p2.setCell (p := ⟨w.heap.size + 1 + 1, 0, none⟩) (show w.heap.size ≤ w.heap.size + 1 + 1 by omega) (.string ⟨#[]⟩)).setCell (p := ⟨w.heap.size + 1 + 1, 1, none⟩) (show w.heap.size ≤ w.heap.size + 1 + 1 by omega) (.string ⟨#[]⟩)
  generalize (w2.setCell ⟨w.heap.size + 1 + 1, 0, none⟩ (.string ⟨#[]⟩)).setCell ⟨w.heap.size + 1 + 1, 1, none⟩ (.string ⟨#[]⟩) = WE at *
  have z0 := KE.at 0
  have z1 := KE.at 1
  simp at z0 z1
  exact bodyPost_ret (v := .tuple #[.agg #[.string ⟨#[]⟩, .string ⟨#[]⟩], .int .i64 3]) (by simp [results, Tryz.results105, go_sem, z0, z1]) rfl ⟨rfl, bE⟩
set_option maxHeartbeats 1600000 in
set_option maxRecDepth 100000 in
theorem Write_many1 (g : Bool) (P1 P2 : Option Addr) (M1 C1 M2 C2 : Nat) (s t : ByteArray) (L1 L2 : Int) (w : World) (l1 : L1 ≤ 13654) (l2 : L2 ≤ 13654) (s1 : 4096 < s.size)
    (T1 : ∀ x, Below w.heap.size w x → Calls Tryz.prog 67 #[.agg #[.slice P1 M1 C1]] x fun e w' => e = .returned (.string s) ∧ Below x.heap.size x w')
    (T2 : ∀ x, Below w.heap.size w x → Calls Tryz.prog 67 #[.agg #[.slice P2 M2 C2]] x fun e w' => e = .returned (.string t) ∧ Below x.heap.size x w')
    (B1 : ∀ x, Below w.heap.size w x → Calls Tryz.prog 111 #[.agg #[.slice P1 M1 C1]] x fun e w' => e = .returned (.int .i64 L1) ∧ Below x.heap.size x w')
    (B2 : ∀ x, Below w.heap.size w x → Calls Tryz.prog 111 #[.agg #[.slice P2 M2 C2]] x fun e w' => e = .returned (.int .i64 L2) ∧ Below x.heap.size x w') :
    Calls Tryz.prog 105 #[.bool g, .agg #[.slice P1 M1 C1], .agg #[.slice P2 M2 C2]] w fun e w' => e = .returned (.tuple #[.agg #[.string ⟨#[]⟩, .string ⟨#[]⟩], .int .i64 3]) ∧ Below w.heap.size w w' := by
  have KX := ((Bx.new w (.slice P1 M1 C1) 65).alloc (.cells #[.slice P2 M2 C2] 65)).alloc (.cells #[.string ⟨#[]⟩, .string ⟨#[]⟩] 23)
  have KY := (Bx.new (w.alloc (.cells #[.slice P1 M1 C1] 65)) (.slice P2 M2 C2) 65).alloc (.cells #[.string ⟨#[]⟩, .string ⟨#[]⟩] 23)
  have KR := Blk.new ((w.alloc (.cells #[.slice P1 M1 C1] 65)).alloc (.cells #[.slice P2 M2 C2] 65)) #[.string ⟨#[]⟩, .string ⟨#[]⟩] 23
  simp only [World.size_alloc] at KY KR
  have pr : Below w.heap.size w (((w.alloc (.cells #[.slice P1 M1 C1] 65)).alloc (.cells #[.slice P2 M2 C2] 65)).alloc (.cells #[.string ⟨#[]⟩, .string ⟨#[]⟩] 23)) := (((Below.refl _ _).alloc (Nat.le_refl _) _).alloc (by simp) _).alloc (by simp; omega) _
  have s1' : (4096 : Int) < (s.size : Int) := by omega
  go_enter Tryz.func105, Tryz.ntmps105
  go_wp2_with fail
  generalize ((w.alloc (.cells #[.slice P1 M1 C1] 65)).alloc (.cells #[.slice P2 M2 C2] 65)).alloc (.cells #[.string ⟨#[]⟩, .string ⟨#[]⟩] 23) = W0 at *
  have kx := KX.1
  have ky := KY.1
  go_wp2_with (first
    | (go_at_call 111; have q := b1; refine (B2 _ p1).mono ?_; rintro e w2 ⟨rfl, b2⟩; have p2 := bel' p1 b2; have KX2 := KX1.below b2; have KY2 := KY1.below b2; have KR2 := KR1.below b2 KR1.lt)
    | (go_at_call 111; refine (B1 _ pr).mono ?_; rintro e w1 ⟨rfl, b1⟩; have p1 := bel' pr b1; have KX1 := KX.below b1; have KY1 := KY.below b1; have ky1 := KY1.1; have KR1 := KR.below b1 KR.lt)
    | fail)
  clear KX KY KR KX1 KY1 KR1 kx ky ky1 B1 B2 b1 b2 p1 pr
  go_cut [8, 9] from 19 to 22 (fun x y wc => x = .string s ∧ y = .string t ∧ Below w2.heap.size w2 wc)
  case first =>
    rename_i hm hJ
    refine wp_region_held (S := fun _ => True) (by kernel_rfl) (any_inv (fun listed a x => ∃ (y0 y1 y2 y3 : Bool) (t19 t20 t21 t22 : Value) (z8 z9 : Value), a = ⟨#[.bool g, .agg #[.slice P1 M1 C1], .agg #[.slice P2 M2 C2], undef, .pointer (some ⟨w.heap.size, 0, none⟩), .pointer (some ⟨w.heap.size + 1, 0, none⟩), .pointer (some ⟨w.heap.size + 1 + 1, 0, none⟩), .int .i64 0, z8, z9, .agg #[.slice P1 M1 C1], .int .i64 L1, .bool (decide (13654 < L1)), .bool (decide (13654 < L1)), .agg #[.slice P2 M2 C2], .int .i64 L2, .bool (decide (13654 < L2)), .bool (decide (13654 < L1) || decide (13654 < L2)), undef, t19, t20, t21, t22, undef, undef, undef, undef, undef, undef, undef, undef, undef, undef, undef, undef, undef, undef], []⟩ ∧ ((listed = #[y0, y1, y2, y3, false, false] ∧ WT3 w2 x (.agg #[.slice P1 M1 C1]) (.string s) (.agg #[.slice P2 M2 C2]) (.string t) y0 y1 y2 y3 t19 t20 t21 t22 ∧ z8 = undef ∧ z9 = undef) ∨ (listed = #[true, true, true, true, true, false] ∧ t20 = .string s ∧ t22 = .string t ∧ z8 = .string s ∧ z9 = undef ∧ Below w2.heap.size w2 x) ∨ (listed = #[true, true, true, true, true, true] ∧ t20 = .string s ∧ t22 = .string t ∧ z8 = .string s ∧ z9 = .string t ∧ Below w2.heap.size w2 x))) ?_ ?_ _ _ _ _ (by decide) ?_)
    · rintro listed a x i ⟨y0, y1, y2, y3, t19, t20, t21, t22, z8, z9, rfl, h⟩ hi
      have hr : i < 6 := List.mem_range.1 (List.mem_filter.1 hi).1
      have hc := (List.mem_filter.1 hi).2
      rcases h with ⟨rfl, h⟩ | ⟨rfl, h⟩ | ⟨rfl, h⟩
      · rcases (show i = 0 ∨ i = 1 ∨ i = 2 ∨ i = 3 ∨ i = 4 ∨ i = 5 by omega) with rfl | rfl | rfl | rfl | rfl | rfl
        · obtain ⟨h, rfl, rfl⟩ := h
          clear hc hi
          have kd := (KX2.below h.bel).1
          refine wpOp_go rfl rfl (fun K hK => ?_)
          go_wp2_with fail
          exact hK.out _ _ ⟨true,_,_,_,.agg #[.slice P1 M1 C1],_,_,_,undef,undef,rfl,Or.inl ⟨rfl, ⟨{ h with o0 := fun _ => rfl }, rfl, rfl⟩⟩⟩
        · obtain ⟨h, rfl, rfl⟩ := h
          have e0 : y0 = true := by revert hc; cases y0 <;> simp [Region.binds]
          have r0 := h.o0 e0; subst r0
          clear hc hi
          refine wpOp_go rfl rfl (fun K hK => ?_)
          go_wp2_with (first | (go_at_call 67; go_must (refine (T1 x (bel' p2 h.bel)).mono ?_; rintro e x2 ⟨rfl, bb⟩)) | fail)
          exact hK.out _ _ ⟨_,true,_,_,_,_,_,_,undef,undef,rfl,Or.inl ⟨rfl, ⟨{ h.grow bb with o1 := fun _ => rfl }, rfl, rfl⟩⟩⟩
        · obtain ⟨h, rfl, rfl⟩ := h
          clear hc hi
          have kd := (KY2.below h.bel).1
          refine wpOp_go rfl rfl (fun K hK => ?_)
          go_wp2_with fail
          exact hK.out _ _ ⟨_,_,true,_,_,_,.agg #[.slice P2 M2 C2],_,undef,undef,rfl,Or.inl ⟨rfl, ⟨{ h with o2 := fun _ => rfl, d3_2 := fun _ => rfl }, rfl, rfl⟩⟩⟩
        · obtain ⟨h, rfl, rfl⟩ := h
          have e2 : y2 = true := by revert hc; cases y2 <;> simp [Region.binds]
          have r2 := h.o2 e2; subst r2
          clear hc hi
          refine wpOp_go rfl rfl (fun K hK => ?_)
          go_wp2_with (first | (go_at_call 67; go_must (refine (T2 x (bel' p2 h.bel)).mono ?_; rintro e x2 ⟨rfl, bb⟩)) | fail)
          exact hK.out _ _ ⟨_,_,_,true,_,_,_,_,undef,undef,rfl,Or.inl ⟨rfl, ⟨{ h.grow bb with o3 := fun _ => rfl, d3_2 := fun _ => e2 }, rfl, rfl⟩⟩⟩
        · obtain ⟨h, rfl, rfl⟩ := h
          have e0 : y0 = true := by revert hc; cases y0 <;> simp [Region.binds]
          have e1 : y1 = true := by revert hc; cases y1 <;> simp [Region.binds]
          have e3 : y3 = true := by revert hc; cases y3 <;> simp [Region.binds]
          have e2 := h.d3_2 e3
          have r1 := h.o1 e1; subst r1
          have r3 := h.o3 e3; subst r3
          clear hc hi
          subst e0 e1 e2 e3
          have bl := h.bel
          clear h
          refine wpOp_go rfl rfl (fun K hK => ?_)
          go_wp2_with fail
          exact hK.out _ _ ⟨true,true,true,true,_,_,_,_,_,_,rfl,Or.inr (Or.inl ⟨rfl, rfl, rfl, rfl, rfl, bl⟩)⟩
        · simp [Region.binds] at hc
      · rcases (show i = 0 ∨ i = 1 ∨ i = 2 ∨ i = 3 ∨ i = 4 ∨ i = 5 by omega) with rfl | rfl | rfl | rfl | rfl | rfl
        · simp at hc
        · simp at hc
        · simp at hc
        · simp at hc
        · simp at hc
        · clear hc hi
          obtain ⟨rfl, rfl, rfl, rfl, bl⟩ := h
          refine wpOp_go rfl rfl (fun K hK => ?_)
          go_wp2_with fail
          exact hK.out _ _ ⟨true,true,true,true,_,_,_,_,_,_,rfl,Or.inr (Or.inr (⟨rfl, rfl, rfl, rfl, rfl, bl⟩))⟩
      · rcases (show i = 0 ∨ i = 1 ∨ i = 2 ∨ i = 3 ∨ i = 4 ∨ i = 5 by omega) with rfl | rfl | rfl | rfl | rfl | rfl <;> simp at hc
    · rintro listed a x ⟨y0, y1, y2, y3, t19, t20, t21, t22, z8, z9, rfl, h⟩ hn
      have al := all_listed (by decide +kernel) hn
      rcases h with ⟨rfl, h⟩ | ⟨rfl, h⟩ | ⟨rfl, h⟩
      · have z := al 4 (by decide)
        simp at z
      · have z := al 5 (by decide)
        simp at z
      · obtain ⟨rfl, rfl, rfl, rfl, bl⟩ := h
        refine hJ _ _ ?_
        go_meet
        case rel => exact ⟨rfl, rfl, bl⟩
    · exact ⟨false, false, false, false, undef, undef, undef, undef, undef, undef, rfl, Or.inl ⟨rfl, ⟨{ bel := (Below.refl _ _).drew, o0 := (by intro q; cases q), o1 := (by intro q; cases q), o2 := (by intro q; cases q), o3 := (by intro q; cases q), d3_2 := (by intro q; cases q) }, rfl, rfl⟩⟩⟩
  case rest =>
    obtain ⟨rfl, rfl, b3⟩ := hcut
    have p3 := bel' p2 b3
    have KR3 := KR2.below b3 KR2.lt
    have kr0 := KR3.at 0
    have kr1 := KR3.at 1
    have kf0 := KR3.free 0
    have kf1 := KR3.free 1
    simp at kr0 kr1
    clear T1 T2 KX2 KY2 KR2 p2 b3
    go_wp2_with fail
    rename World => wc
    have KE := bput (bput KR3 0 (.string ⟨#[]⟩)) 1 (.string ⟨#[]⟩)
    have bE := (p3.setCell (p := ⟨w.heap.size + 1 + 1, 0, none⟩) (show w.heap.size ≤ w.heap.size + 1 + 1 by omega) (.string ⟨#[]⟩)).setCell (p := ⟨w.heap.size + 1 + 1, 1, none⟩) (show w.heap.size ≤ w.heap.size + 1 + 1 by omega) (.string ⟨#[]⟩)
    generalize (wc.setCell ⟨w.heap.size + 1 + 1, 0, none⟩ (.string ⟨#[]⟩)).setCell ⟨w.heap.size + 1 + 1, 1, none⟩ (.string ⟨#[]⟩) = WE at *
    have z0 := KE.at 0
    have z1 := KE.at 1
    simp at z0 z1
    exact bodyPost_ret (v := .tuple #[.agg #[.string ⟨#[]⟩, .string ⟨#[]⟩], .int .i64 3]) (by simp [results, Tryz.results105, go_sem, z0, z1]) rfl ⟨rfl, bE⟩
set_option maxHeartbeats 1600000 in
set_option maxRecDepth 100000 in
theorem Write_many2 (g : Bool) (P1 P2 : Option Addr) (M1 C1 M2 C2 : Nat) (s t : ByteArray) (L1 L2 : Int) (w : World) (l1 : L1 ≤ 13654) (l2 : L2 ≤ 13654) (s1 : s.size ≤ 4096) (s2 : 4096 < t.size)
    (T1 : ∀ x, Below w.heap.size w x → Calls Tryz.prog 67 #[.agg #[.slice P1 M1 C1]] x fun e w' => e = .returned (.string s) ∧ Below x.heap.size x w')
    (T2 : ∀ x, Below w.heap.size w x → Calls Tryz.prog 67 #[.agg #[.slice P2 M2 C2]] x fun e w' => e = .returned (.string t) ∧ Below x.heap.size x w')
    (B1 : ∀ x, Below w.heap.size w x → Calls Tryz.prog 111 #[.agg #[.slice P1 M1 C1]] x fun e w' => e = .returned (.int .i64 L1) ∧ Below x.heap.size x w')
    (B2 : ∀ x, Below w.heap.size w x → Calls Tryz.prog 111 #[.agg #[.slice P2 M2 C2]] x fun e w' => e = .returned (.int .i64 L2) ∧ Below x.heap.size x w') :
    Calls Tryz.prog 105 #[.bool g, .agg #[.slice P1 M1 C1], .agg #[.slice P2 M2 C2]] w fun e w' => e = .returned (.tuple #[.agg #[.string ⟨#[]⟩, .string ⟨#[]⟩], .int .i64 3]) ∧ Below w.heap.size w w' := by
  have KX := ((Bx.new w (.slice P1 M1 C1) 65).alloc (.cells #[.slice P2 M2 C2] 65)).alloc (.cells #[.string ⟨#[]⟩, .string ⟨#[]⟩] 23)
  have KY := (Bx.new (w.alloc (.cells #[.slice P1 M1 C1] 65)) (.slice P2 M2 C2) 65).alloc (.cells #[.string ⟨#[]⟩, .string ⟨#[]⟩] 23)
  have KR := Blk.new ((w.alloc (.cells #[.slice P1 M1 C1] 65)).alloc (.cells #[.slice P2 M2 C2] 65)) #[.string ⟨#[]⟩, .string ⟨#[]⟩] 23
  simp only [World.size_alloc] at KY KR
  have pr : Below w.heap.size w (((w.alloc (.cells #[.slice P1 M1 C1] 65)).alloc (.cells #[.slice P2 M2 C2] 65)).alloc (.cells #[.string ⟨#[]⟩, .string ⟨#[]⟩] 23)) := (((Below.refl _ _).alloc (Nat.le_refl _) _).alloc (by simp) _).alloc (by simp; omega) _
  have s1' : (s.size : Int) ≤ 4096 := by omega
  have s2' : (4096 : Int) < (t.size : Int) := by omega
  go_enter Tryz.func105, Tryz.ntmps105
  go_wp2_with fail
  generalize ((w.alloc (.cells #[.slice P1 M1 C1] 65)).alloc (.cells #[.slice P2 M2 C2] 65)).alloc (.cells #[.string ⟨#[]⟩, .string ⟨#[]⟩] 23) = W0 at *
  have kx := KX.1
  have ky := KY.1
  go_wp2_with (first
    | (go_at_call 111; have q := b1; refine (B2 _ p1).mono ?_; rintro e w2 ⟨rfl, b2⟩; have p2 := bel' p1 b2; have KX2 := KX1.below b2; have KY2 := KY1.below b2; have KR2 := KR1.below b2 KR1.lt)
    | (go_at_call 111; refine (B1 _ pr).mono ?_; rintro e w1 ⟨rfl, b1⟩; have p1 := bel' pr b1; have KX1 := KX.below b1; have KY1 := KY.below b1; have ky1 := KY1.1; have KR1 := KR.below b1 KR.lt)
    | fail)
  clear KX KY KR KX1 KY1 KR1 kx ky ky1 B1 B2 b1 b2 p1 pr
  go_cut [8, 9] from 19 to 22 (fun x y wc => x = .string s ∧ y = .string t ∧ Below w2.heap.size w2 wc)
  case first =>
    rename_i hm hJ
    refine wp_region_held (S := fun _ => True) (by kernel_rfl) (any_inv (fun listed a x => ∃ (y0 y1 y2 y3 : Bool) (t19 t20 t21 t22 : Value) (z8 z9 : Value), a = ⟨#[.bool g, .agg #[.slice P1 M1 C1], .agg #[.slice P2 M2 C2], undef, .pointer (some ⟨w.heap.size, 0, none⟩), .pointer (some ⟨w.heap.size + 1, 0, none⟩), .pointer (some ⟨w.heap.size + 1 + 1, 0, none⟩), .int .i64 0, z8, z9, .agg #[.slice P1 M1 C1], .int .i64 L1, .bool (decide (13654 < L1)), .bool (decide (13654 < L1)), .agg #[.slice P2 M2 C2], .int .i64 L2, .bool (decide (13654 < L2)), .bool (decide (13654 < L1) || decide (13654 < L2)), undef, t19, t20, t21, t22, undef, undef, undef, undef, undef, undef, undef, undef, undef, undef, undef, undef, undef, undef], []⟩ ∧ ((listed = #[y0, y1, y2, y3, false, false] ∧ WT3 w2 x (.agg #[.slice P1 M1 C1]) (.string s) (.agg #[.slice P2 M2 C2]) (.string t) y0 y1 y2 y3 t19 t20 t21 t22 ∧ z8 = undef ∧ z9 = undef) ∨ (listed = #[true, true, true, true, true, false] ∧ t20 = .string s ∧ t22 = .string t ∧ z8 = .string s ∧ z9 = undef ∧ Below w2.heap.size w2 x) ∨ (listed = #[true, true, true, true, true, true] ∧ t20 = .string s ∧ t22 = .string t ∧ z8 = .string s ∧ z9 = .string t ∧ Below w2.heap.size w2 x))) ?_ ?_ _ _ _ _ (by decide) ?_)
    · rintro listed a x i ⟨y0, y1, y2, y3, t19, t20, t21, t22, z8, z9, rfl, h⟩ hi
      have hr : i < 6 := List.mem_range.1 (List.mem_filter.1 hi).1
      have hc := (List.mem_filter.1 hi).2
      rcases h with ⟨rfl, h⟩ | ⟨rfl, h⟩ | ⟨rfl, h⟩
      · rcases (show i = 0 ∨ i = 1 ∨ i = 2 ∨ i = 3 ∨ i = 4 ∨ i = 5 by omega) with rfl | rfl | rfl | rfl | rfl | rfl
        · obtain ⟨h, rfl, rfl⟩ := h
          clear hc hi
          have kd := (KX2.below h.bel).1
          refine wpOp_go rfl rfl (fun K hK => ?_)
          go_wp2_with fail
          exact hK.out _ _ ⟨true,_,_,_,.agg #[.slice P1 M1 C1],_,_,_,undef,undef,rfl,Or.inl ⟨rfl, ⟨{ h with o0 := fun _ => rfl }, rfl, rfl⟩⟩⟩
        · obtain ⟨h, rfl, rfl⟩ := h
          have e0 : y0 = true := by revert hc; cases y0 <;> simp [Region.binds]
          have r0 := h.o0 e0; subst r0
          clear hc hi
          refine wpOp_go rfl rfl (fun K hK => ?_)
          go_wp2_with (first | (go_at_call 67; go_must (refine (T1 x (bel' p2 h.bel)).mono ?_; rintro e x2 ⟨rfl, bb⟩)) | fail)
          exact hK.out _ _ ⟨_,true,_,_,_,_,_,_,undef,undef,rfl,Or.inl ⟨rfl, ⟨{ h.grow bb with o1 := fun _ => rfl }, rfl, rfl⟩⟩⟩
        · obtain ⟨h, rfl, rfl⟩ := h
          clear hc hi
          have kd := (KY2.below h.bel).1
          refine wpOp_go rfl rfl (fun K hK => ?_)
          go_wp2_with fail
          exact hK.out _ _ ⟨_,_,true,_,_,_,.agg #[.slice P2 M2 C2],_,undef,undef,rfl,Or.inl ⟨rfl, ⟨{ h with o2 := fun _ => rfl, d3_2 := fun _ => rfl }, rfl, rfl⟩⟩⟩
        · obtain ⟨h, rfl, rfl⟩ := h
          have e2 : y2 = true := by revert hc; cases y2 <;> simp [Region.binds]
          have r2 := h.o2 e2; subst r2
          clear hc hi
          refine wpOp_go rfl rfl (fun K hK => ?_)
          go_wp2_with (first | (go_at_call 67; go_must (refine (T2 x (bel' p2 h.bel)).mono ?_; rintro e x2 ⟨rfl, bb⟩)) | fail)
          exact hK.out _ _ ⟨_,_,_,true,_,_,_,_,undef,undef,rfl,Or.inl ⟨rfl, ⟨{ h.grow bb with o3 := fun _ => rfl, d3_2 := fun _ => e2 }, rfl, rfl⟩⟩⟩
        · obtain ⟨h, rfl, rfl⟩ := h
          have e0 : y0 = true := by revert hc; cases y0 <;> simp [Region.binds]
          have e1 : y1 = true := by revert hc; cases y1 <;> simp [Region.binds]
          have e3 : y3 = true := by revert hc; cases y3 <;> simp [Region.binds]
          have e2 := h.d3_2 e3
          have r1 := h.o1 e1; subst r1
          have r3 := h.o3 e3; subst r3
          clear hc hi
          subst e0 e1 e2 e3
          have bl := h.bel
          clear h
          refine wpOp_go rfl rfl (fun K hK => ?_)
          go_wp2_with fail
          exact hK.out _ _ ⟨true,true,true,true,_,_,_,_,_,_,rfl,Or.inr (Or.inl ⟨rfl, rfl, rfl, rfl, rfl, bl⟩)⟩
        · simp [Region.binds] at hc
      · rcases (show i = 0 ∨ i = 1 ∨ i = 2 ∨ i = 3 ∨ i = 4 ∨ i = 5 by omega) with rfl | rfl | rfl | rfl | rfl | rfl
        · simp at hc
        · simp at hc
        · simp at hc
        · simp at hc
        · simp at hc
        · clear hc hi
          obtain ⟨rfl, rfl, rfl, rfl, bl⟩ := h
          refine wpOp_go rfl rfl (fun K hK => ?_)
          go_wp2_with fail
          exact hK.out _ _ ⟨true,true,true,true,_,_,_,_,_,_,rfl,Or.inr (Or.inr (⟨rfl, rfl, rfl, rfl, rfl, bl⟩))⟩
      · rcases (show i = 0 ∨ i = 1 ∨ i = 2 ∨ i = 3 ∨ i = 4 ∨ i = 5 by omega) with rfl | rfl | rfl | rfl | rfl | rfl <;> simp at hc
    · rintro listed a x ⟨y0, y1, y2, y3, t19, t20, t21, t22, z8, z9, rfl, h⟩ hn
      have al := all_listed (by decide +kernel) hn
      rcases h with ⟨rfl, h⟩ | ⟨rfl, h⟩ | ⟨rfl, h⟩
      · have z := al 4 (by decide)
        simp at z
      · have z := al 5 (by decide)
        simp at z
      · obtain ⟨rfl, rfl, rfl, rfl, bl⟩ := h
        refine hJ _ _ ?_
        go_meet
        case rel => exact ⟨rfl, rfl, bl⟩
    · exact ⟨false, false, false, false, undef, undef, undef, undef, undef, undef, rfl, Or.inl ⟨rfl, ⟨{ bel := (Below.refl _ _).drew, o0 := (by intro q; cases q), o1 := (by intro q; cases q), o2 := (by intro q; cases q), o3 := (by intro q; cases q), d3_2 := (by intro q; cases q) }, rfl, rfl⟩⟩⟩
  case rest =>
    obtain ⟨rfl, rfl, b3⟩ := hcut
    have p3 := bel' p2 b3
    have KR3 := KR2.below b3 KR2.lt
    have kr0 := KR3.at 0
    have kr1 := KR3.at 1
    have kf0 := KR3.free 0
    have kf1 := KR3.free 1
    simp at kr0 kr1
    clear T1 T2 KX2 KY2 KR2 p2 b3
    go_wp2_with fail
    rename World => wc
    have KE := bput (bput KR3 0 (.string ⟨#[]⟩)) 1 (.string ⟨#[]⟩)
    have bE := (p3.setCell (p := ⟨w.heap.size + 1 + 1, 0, none⟩) (show w.heap.size ≤ w.heap.size + 1 + 1 by omega) (.string ⟨#[]⟩)).setCell (p := ⟨w.heap.size + 1 + 1, 1, none⟩) (show w.heap.size ≤ w.heap.size + 1 + 1 by omega) (.string ⟨#[]⟩)
    generalize (wc.setCell ⟨w.heap.size + 1 + 1, 0, none⟩ (.string ⟨#[]⟩)).setCell ⟨w.heap.size + 1 + 1, 1, none⟩ (.string ⟨#[]⟩) = WE at *
    have z0 := KE.at 0
    have z1 := KE.at 1
    simp at z0 z1
    exact bodyPost_ret (v := .tuple #[.agg #[.string ⟨#[]⟩, .string ⟨#[]⟩], .int .i64 3]) (by simp [results, Tryz.results105, go_sem, z0, z1]) rfl ⟨rfl, bE⟩
end Go.Proofs.YtebilgnmnambnaaGreatDoor.Mo

namespace Go.Proofs.YtebilgnmnambnaaGreatDoor.Wt
open Go.RowKit Tn Mo
theorem info_parts {P : Program} {t : TypeId} {z : Value} {s b : Nat} (h : (P.info? t).map (fun i => (i.zero, i.size, i.bytes)) = some (some z, s, b)) : ∃ i, P.info? t = some i ∧ i.zero = some z ∧ i.size = s ∧ i.bytes = b := by
  obtain ⟨i, h1, h2⟩ := Option.map_eq_some_iff.1 h
  simp only [Prod.mk.injEq] at h2
  exact ⟨i, h1, h2.1, h2.2.1, h2.2.2⟩
structure Rg (w : World) (g cap : Nat) (vals : List Value) : Prop where
  blk : ∃ cur : Array Value, w.heap[g]? = some (.cells cur 65 (0, 0)) ∧ cur.size = cap ∧ cur.toList.take vals.length = vals ∧ ∀ u ∈ cur.toList, ∃ a l c, u = Value.slice a l c
  le : vals.length ≤ cap
theorem Rg.lt {w : World} {g cap : Nat} {vals : List Value} (h : Rg w g cap vals) : g < w.heap.size := by
  obtain ⟨cur, e, _⟩ := h.blk
  exact Own.lt ⟨cur, _, e⟩
theorem Rg.grow {w w' : World} {g cap : Nat} {vals : List Value} (h : Rg w g cap vals) (b : Below w.heap.size w w') : Rg w' g cap vals := by
  obtain ⟨⟨cur, e, r⟩, l⟩ := h
  exact ⟨⟨cur, (b.block g (Own.lt ⟨cur, _, e⟩)).trans e, r⟩, l⟩
theorem Rg.at {w : World} {g cap : Nat} {vals : List Value} (h : Rg w g cap vals) {i : Nat} {u : Value} (hi : vals[i]? = some u) : w.cell? ⟨g, i, none⟩ = some u := by
  obtain ⟨⟨cur, e, h1, h2, _⟩, _⟩ := h
  have c := congrArg (fun l : List Value => l[i]?) h2
  have hl : i < vals.length := by
    by_cases c : i < vals.length
    · exact c
    · rw [List.getElem?_eq_none (by omega)] at hi; cases hi
  simp only [List.getElem?_take, hl, if_true, hi, Array.getElem?_toList] at c
  simp only [World.cell?, e, Option.isSome_none, Bool.false_eq_true, if_false]
  exact c
theorem Rg.off {w : World} {g cap : Nat} {vals : List Value} (h : Rg w g cap vals) {b o : Nat} {k : IntKind} {x : Int} (hc : w.cell? ⟨b, o, none⟩ = some (.int k x)) : b ≠ g := by
  rintro rfl
  obtain ⟨⟨cur, e, _, _, h3⟩, _⟩ := h
  simp only [World.cell?, e, Option.isSome_none, Bool.false_eq_true, if_false] at hc
  rw [← Array.getElem?_toList] at hc
  obtain ⟨a, l, c, q⟩ := h3 _ (List.mem_of_getElem? hc)
  cases q
theorem Nn.row {w w' : World} {g cap : Nat} {vals : List Value} {a : Option Addr} {l c : Nat} {N : Int} (h : Nn w a l c N) (R : Rg w g cap vals) (gr : w.grownBy w' (some g)) : Nn w' a l c N := by
  obtain ⟨xs, ⟨hW, a1, c1, e, h1, h2, h3⟩, n, rfl⟩ := h
  refine ⟨xs, ⟨hW, a1, c1, e, h1, h2, fun lt => ?_⟩, n, rfl⟩
  obtain ⟨b, o, e2, q⟩ := h3 lt
  refine ⟨b, o, e2, fun i hi => gr.cell (q i hi) fun e => ?_⟩
  simp only [Option.some.injEq] at e
  exact R.off (q i hi) e
theorem run_rung {w : World} (ty : Nat) (g cap : Nat) (vals : List Value) (R : Rg w g cap vals) (ad c : Nat) (u1 : Option Addr) (u2 u3 : Nat) (hc : w.cell? ⟨ad, 0, none⟩ = some (.slice u1 u2 u3)) (hn : vals.length ≤ 1000) (hcm : cap ≤ maxLen) :
    ∃ g' cap' w', (Builtin.append_ #[137, 137] ty #[.slice (some ⟨g, 0, none⟩) vals.length cap, .slice (some ⟨ad, 0, none⟩) 1 c]).run Tryz.prog w = .ok (.slice (some ⟨g', 0, none⟩) (vals.length + 1) cap') w' ∧ Rg w' g' cap' (vals ++ [.slice u1 u2 u3]) ∧ w.grownBy w' (some g) ∧ cap' ≤ maxLen ∧ (g' = g ∨ w.heap.size ≤ g') := by
  obtain ⟨i, hi, hz0, hz1, hz2⟩ := info_parts (show (Tryz.prog.info? 65).map (fun i => (i.zero, i.size, i.bytes)) = some (some (.agg #[.slice none 0 0]), 1, 24) by kernel_rfl)
  have ht : Tryz.prog.underlying 137 = some (.slice 65) := by kernel_rfl
  have R' := R
  obtain ⟨⟨cur, e, h1, h2, h3⟩, hl⟩ := R
  have hnews : ∀ (j : Nat) (u : Value), [Value.slice u1 u2 u3][j]? = some u → w.cell? ((⟨ad, 0, none⟩ : Addr).add j) = some u := by
    intro j u hj
    match j, hj with
    | 0, hj => simp at hj; subst hj; simpa [Addr.add] using hc
    | j + 1, hj => simp at hj
  by_cases hroom : vals.length + 1 ≤ cap
  · have hr := run_append_room (P := Tryz.prog) w 137 ty 65 i ht hi g vals.length cap cur e ⟨ad, 0, none⟩ 1 c [.slice u1 u2 u3] (by simp [hz1]) hnews (by intro u hu; simp at hu; subst hu; rfl) hroom (by simp [hz1]; omega)
    rw [hz1, Nat.mul_one] at hr
    refine ⟨g, cap, _, hr, ⟨⟨_, setRow_heap w g cur _ 65 _ e, ?_, ?_, ?_⟩, by simp; omega⟩, ⟨rfl, rfl, rfl, by simp, fun k _ hk => setRow_other w g k _ (fun e => hk (by rw [e]))⟩, hcm, Or.inl rfl⟩
    · simp only [List.size_toArray, List.length_append, List.length_take, List.length_drop, Array.length_toList, List.length_cons, List.length_nil]
      omega
    · rw [h2]
      exact List.take_left
    · intro u hu
      simp only [List.mem_append, List.mem_singleton] at hu
      rcases hu with (hu | rfl) | hu
      · exact h3 u (List.mem_of_mem_take hu)
      · exact ⟨_, _, _, rfl⟩
      · exact h3 u (List.mem_of_mem_drop hu)
  · have holds : ∀ (j : Nat) (u : Value), vals[j]? = some u → w.cell? ((⟨g, 0, none⟩ : Addr).add j) = some u := fun j u hj => by
      rw [Addr.add_lit, Nat.zero_add]
      exact R'.at hj
    have hr := run_append_grow (P := Tryz.prog) w 137 ty 65 i (.agg #[.slice none 0 0]) ht hi hz0 ⟨g, 0, none⟩ vals.length cap vals (by rw [hz1, Nat.mul_one]) holds ⟨ad, 0, none⟩ 1 c [.slice u1 u2 u3] (by simp [hz1]) hnews (by omega) (by omega) (by rw [hz2]; exact growslice_fits (by omega) (by omega))
    have gc := grownCap_ge w (vals.length + 1) cap 65
    have gm := grownCap_le_maxLen w (vals.length + 1) cap 65 (by unfold maxLen; omega)
    refine ⟨_, _, _, hr, ⟨⟨_, heap_alloc_new _ _, ?_, ?_, ?_⟩, by simp; exact gc⟩, ⟨rfl, rfl, rfl, by simp, fun k hk _ => heap_alloc_old w.drew _ hk⟩, gm, Or.inr (Nat.le_refl _)⟩
    · simp only [Array.size_append, List.size_toArray, List.length_cons, List.length_nil, size_zeroCells, Value.cells]
      simp
      omega
    · rw [Array.toList_append, Array.toList_append]
      exact List.take_left
    · intro u hu
      simp only [Array.toList_append, List.mem_append, List.mem_singleton] at hu
      rcases hu with (hu | rfl) | hu
      · exact h3 u (by rw [← h2] at hu; exact List.mem_of_mem_take hu)
      · exact ⟨_, _, _, rfl⟩
      · simp only [Builtin.zeroCells, Value.cells] at hu
        have : u = .slice none 0 0 := by
          simp at hu
          obtain ⟨j, _, rfl⟩ := hu
          simp [Nat.mod_one]
        exact ⟨_, _, _, this⟩
theorem wpList_rung {w : World} {ops : Array Oper} {rest : List Oper} {o : Oper} {a : Act} {Q : Exit → Act → World → Prop} (hgd : o.guard = none) (s x : Operand)
    (ho : o.op = .call { callee := .builtin .append, args := #[s, x], argTypes := #[137, 137] })
    (g cap n : Nat) (vals : List Value) (en : n = vals.length) (hs : a.eval s = .slice (some ⟨g, 0, none⟩) n cap) (R : Rg w g cap vals) (ad c : Nat) (u1 : Option Addr) (u2 u3 : Nat) (hx : a.eval x = .slice (some ⟨ad, 0, none⟩) 1 c) (hc : w.cell? ⟨ad, 0, none⟩ = some (.slice u1 u2 u3)) (hn : vals.length ≤ 1000) (hcm : cap ≤ maxLen)
    (h : ∀ g' cap' w', Rg w' g' cap' (vals ++ [.slice u1 u2 u3]) → w.grownBy w' (some g) → cap' ≤ maxLen → (g' = g ∨ w.heap.size ≤ g') → wpList Tryz.prog ops Q rest (a.put o.dst (.slice (some ⟨g', 0, none⟩) (n + 1) cap')) w') : wpList Tryz.prog ops Q (o :: rest) a w := by
  subst en
  obtain ⟨g', cap', w', hr, h1, h2, h3, h4⟩ := run_rung (w := w) o.type g cap vals R ad c u1 u2 u3 hc hn hcm
  refine wpList_plain hgd fun K hK => ?_
  unfold Oper.wp execOp
  simp only [ho, resolve, invoke, builtin, Sem.run_bind, Sem.run_pure, Result.andThen_ok, List.map_toArray, List.map_cons, List.map_nil, hs, hx, hr]
  exact hK _ _ (h g' cap' w' h1 h2 h3 h4)
end Go.Proofs.YtebilgnmnambnaaGreatDoor.Wt

namespace Go.Proofs.YtebilgnmnambnaaGreatDoor.Wt
open Go.RowKit Tn Mo
def rung (i : Nat) : Nat := (10 ^ 19) ^ (2 ^ i)
theorem rung_pos (i : Nat) : 0 < rung i := Nat.pow_pos (Nat.pow_pos (by decide))
theorem rung_next (i : Nat) : rung (i + 1) = rung i * rung i := by
  unfold rung
  have e : 2 ^ (i + 1) = 2 ^ i + 2 ^ i := by rw [Nat.pow_succ]; omega
  rw [e, Nat.pow_add]
theorem rung_mono {i j : Nat} (h : i ≤ j) : rung i ≤ rung j := Nat.pow_le_pow_right (by decide) (Nat.pow_le_pow_right (by decide) h)
theorem rung_7 : 2 ^ 16157 ≤ rung 8 := by unfold rung; decide +kernel
theorem rung_6 : rung 7 < 2 ^ (64 * 128) := by unfold rung; decide +kernel
theorem rung_8 : rung 8 < 2 ^ (64 * 256) := by unfold rung; decide +kernel
theorem nb_spec (V : Nat) : V < 2 ^ nb V ∧ (nb V = 0 ∨ 2 ^ (nb V - 1) ≤ V) := by
  by_cases h : V = 0
  · subst h
    have : nb 0 = 0 := by
      have := nb_le (V := 0) (k := 0) (by decide)
      omega
    rw [this]
    exact ⟨by decide, Or.inl rfl⟩
  · obtain ⟨L, h1, h2⟩ : ∃ L, V < 2 ^ L ∧ 2 ^ (L - 1) ≤ V := by
      refine ⟨V.log2 + 1, Nat.lt_log2_self, ?_⟩
      rw [Nat.add_sub_cancel]
      exact Nat.log2_self_le h
    have e := nb_eq h1 (Or.inr h2)
    rw [← e]
    exact ⟨h1, Or.inr h2⟩
theorem below_square {A k : Nat} (h : nb A < 2 * nb (rung k) - 1) : A < rung (k + 1) := by
  obtain ⟨h1, _⟩ := nb_spec A
  obtain ⟨_, h2⟩ := nb_spec (rung k)
  rcases h2 with h2 | h2
  · rw [h2] at h; omega
  · have e : nb A ≤ (nb (rung k) - 1) + (nb (rung k) - 1) := by omega
    have p : (2 : Nat) ^ nb A ≤ 2 ^ (nb (rung k) - 1) * 2 ^ (nb (rung k) - 1) := by rw [← Nat.pow_add]; exact Nat.pow_le_pow_right (by decide) e
    have q : 2 ^ (nb (rung k) - 1) * 2 ^ (nb (rung k) - 1) ≤ rung k * rung k := Nat.mul_le_mul h2 h2
    rw [rung_next]
    omega
theorem few_rungs {A k : Nat} (hA : nb A ≤ 32000) (h : ¬ nb A < 2 * nb (rung k) - 1) : k ≤ 7 := by
  by_cases c : k ≤ 7
  · exact c
  · exfalso
    have m := rung_mono (show 8 ≤ k by omega)
    have := rung_7
    obtain ⟨h1, _⟩ := nb_spec (rung k)
    have : (2 : Nat) ^ 16157 < 2 ^ nb (rung k) := by omega
    have := (Nat.pow_lt_pow_iff_right (show 1 < 2 by decide)).1 this
    omega
theorem nb_rung {k : Nat} (h : k ≤ 8) : nb (rung k) ≤ 16384 := by
  have := nb_le (k := 64 * 256) (Nat.lt_of_le_of_lt (rung_mono h) rung_8)
  omega
theorem pw_two (n : Nat) : pw n = (2 : Int) ^ (64 * n) := by
  induction n with
  | zero => rfl
  | succ n ih =>
    show 18446744073709551616 * pw n = _
    rw [ih, show 64 * (n + 1) = 64 * n + 64 by omega, Int.pow_add, Int.mul_comm]
    rfl
theorem lt_cast {a n : Nat} (h : a < 2 ^ n) : (a : Int) < (2 : Int) ^ n := by
  have := Int.ofNat_lt.2 h
  rw [Int.natCast_pow] at this
  exact this
theorem rung_pw {k : Nat} (h : k ≤ 8) : ((rung k : Nat) : Int) < pw 256 := by
  have := rung_mono h
  rw [pw_two]
  exact lt_cast (Nat.lt_of_le_of_lt this rung_8)
theorem rung_pw6 {k : Nat} (h : k ≤ 7) : ((rung k : Nat) : Int) < pw 128 := by
  have := rung_mono h
  rw [pw_two]
  exact lt_cast (Nat.lt_of_le_of_lt this rung_6)
structure Lr (w wr : World) (g cap k : Nat) (vals : List Value) : Prop where
  R : Rg wr g cap vals
  cm : cap ≤ maxLen
  len : vals.length = k
  v : ∀ i, i < k → ∃ a l c, vals[i]? = some (.slice a l c) ∧ Nn wr a l c ((rung i : Nat) : Int)
  bel : Below w.heap.size w wr
  ge : w.heap.size < g
end Go.Proofs.YtebilgnmnambnaaGreatDoor.Wt

namespace Go.Proofs.YtebilgnmnambnaaGreatDoor.Wt
open Go.RowKit Tn Mo
theorem Lr.next {w wr x x2 : World} {g cap k g' cap' : Nat} {vals : List Value} (h : Lr w wr g cap k vals) (b : Below wr.heap.size wr x) (gr : x.grownBy x2 (some g)) {a : Option Addr} {l c : Nat} (hn : Nn x a l c ((rung k : Nat) : Int)) (R : Rg x2 g' cap' (vals ++ [.slice a l c])) (hc : cap' ≤ maxLen) (hg : g' = g ∨ x.heap.size ≤ g') : Lr w x2 g' cap' (k + 1) (vals ++ [.slice a l c]) := by
  have R1 := h.R.grow b
  refine ⟨R, hc, by rw [List.length_append, h.len]; rfl, fun i hi => ?_, ?_, ?_⟩
  · by_cases e : i = k
    · subst e
      exact ⟨a, l, c, by rw [List.getElem?_append_right (by rw [h.len]; exact Nat.le_refl _), h.len]; simp, Nn.row hn R1 gr⟩
    · obtain ⟨a1, l1, c1, e1, n1⟩ := h.v i (by omega)
      exact ⟨a1, l1, c1, by rw [List.getElem?_append_left (by rw [h.len]; omega)]; exact e1, Nn.row (n1.grow b) R1 gr⟩
  · have s1 := h.bel.size
    have s2 := b.size
    have ge := h.ge
    refine (h.bel.trans (b.mono s1)).trans ⟨gr.os, gr.tape, gr.output, gr.size, fun j hj => gr.block j (by omega) (fun e => ?_)⟩
    simp only [Option.some.injEq] at e
    omega
  · have s1 := h.bel.size
    have s2 := b.size
    have ge := h.ge
    rcases hg with rfl | hg
    · exact ge
    · have := h.R.lt
      omega
theorem Lr.grow {w wr x : World} {g cap k : Nat} {vals : List Value} (h : Lr w wr g cap k vals) (b : Below wr.heap.size wr x) : Lr w x g cap k vals :=
  ⟨h.R.grow b, h.cm, h.len, fun i hi => by obtain ⟨a, l, c, e, n⟩ := h.v i hi; exact ⟨a, l, c, e, n.grow b⟩, bel' h.bel b, h.ge⟩
def slenV : Value → Nat | .slice _ n _ => n | _ => 0
set_option maxRecDepth 100000 in
set_option maxHeartbeats 3200000 in
theorem ladder_any (p : Option Addr) (l c A : Nat) (w : World) (hA : Nn w p l c (A : Int)) (hb : nb A ≤ 32000) (hAp : (A : Int) < pw 1000000) :
    Calls Tryz.prog 128 #[.agg #[.slice p l c]] w fun e w' => ∃ g cap k vals, e = .returned (.slice (some ⟨g, 0, none⟩) k cap) ∧ 1 ≤ k ∧ k ≤ 9 ∧ k ≤ cap ∧ A < rung k ∧ Lr w w' g cap k vals := by
  have B0 := Bx.new w (.slice p l c) 65
  have al := (Below.refl w.heap.size w).alloc (Nat.le_refl _) (.cells #[.slice p l c] 65)
  have OF := Of_any 10000000000000000000
  go_enter Tryz.func128, Tryz.ntmps128
  go_wp2_with (first
    | (go_at_call 65; go_must (refine (OF _ (by decide) (by decide)).mono ?_; rintro e w1 ⟨r, zs, rfl, q1, n1, v1, b1⟩; obtain ⟨a1, l1, c1, rfl⟩ := q1.shape))
    | fail)
  have b2 := bel' al b1
  have K1 := Blk.new w1 #[.slice a1 l1 c1] 65
  have al1 := (Below.refl w1.heap.size w1).alloc (Nat.le_refl _) (.cells #[.slice a1 l1 c1] 65)
  have L0 : Lr w (w1.alloc (.cells #[.slice a1 l1 c1] 65)) w1.heap.size 1 1 [.slice a1 l1 c1] := by
    refine ⟨⟨⟨_, K1, rfl, rfl, fun u hu => ⟨a1, l1, c1, by simpa using hu⟩⟩, Nat.le_refl _⟩, by decide, rfl, fun i hi => ?_, bel' b2 al1, (by have := b1.size; simp at this; omega)⟩
    obtain rfl : i = 0 := by omega
    refine ⟨a1, l1, c1, rfl, Nn.grow ⟨zs, q1, n1, ?_⟩ al1⟩
    rw [v1]; decide
  have BA := (B0.below b1).below al1
  generalize w1.alloc (.cells #[.slice a1 l1 c1] 65) = W at *
  clear OF q1 n1 v1 b1 b2 K1 al1
  go_loopw [3] (fun v wr => ∃ (g cap k : Nat) (vals : List Value), v = .slice (some ⟨g, 0, none⟩) k cap ∧ 1 ≤ k ∧ k ≤ 9 ∧ Lr w wr g cap k vals ∧ Bx wr w.heap.size (.slice p l c)) (fun v _ => 10 - slenV v)
  case atStart => exact ⟨_, _, 1, _, rfl, by decide, by decide, L0, BA⟩
  case round =>
    clear L0 BA B0
    obtain ⟨g, cap, k, vals, rfl, hk1, hk8, LR, BA⟩ := hrel
    obtain ⟨j, hj⟩ : ∃ j, k = j + 1 := ⟨k - 1, by omega⟩
    obtain ⟨ta, tl, tc, ev, nT⟩ := LR.v j (by omega)
    have ct := LR.R.at ev
    have lg := LR.R.lt
    have x1 : IntKind.i64.wrap ((k : Int) - 1) = (j : Int) := by rw [show (k : Int) - 1 = (j : Int) by omega]; exact wrapI _ (by omega) (by omega)
    have y0 : (0 : Int) ≤ (j : Int) := by omega
    have y1 : ((j : Int)).toNat = j := by omega
    have y2 : (j : Int) < (k : Int) := by omega
    have bT := (Below.refl wr.heap.size wr).alloc (Nat.le_refl _) (.cells #[.slice ta tl tc] 65)
    have KT := Bx.new wr (.slice ta tl tc) 65
    have KA := BA.below bT
    have nT1 := nT.grow bT
    have nA1 := (hA.grow LR.bel).grow bT
    have hj7 : j ≤ 8 := by omega
    obtain ⟨tb, htb⟩ : ∃ t, nb (rung j) = t := ⟨_, rfl⟩
    obtain ⟨ab, hab⟩ : ∃ t, nb A = t := ⟨_, rfl⟩
    have tb8 : tb ≤ 16384 := by rw [← htb]; exact nb_rung hj7
    have CT := fun (x : World) (b : Below (wr.alloc (.cells #[.slice ta tl tc] 65)).heap.size (wr.alloc (.cells #[.slice ta tl tc] 65)) x) => BitLen_n (nT1.grow b) (rung_pw hj7) (by decide)
    have CA := fun (x : World) (b : Below (wr.alloc (.cells #[.slice ta tl tc] 65)).heap.size (wr.alloc (.cells #[.slice ta tl tc] 65)) x) => BitLen_n (nA1.grow b) hAp (by decide)
    rw [htb] at CT
    rw [hab] at CA hb
    have x2 : IntKind.i64.wrap (2 * (tb : Int)) = 2 * (tb : Int) := wrapI _ (by omega) (by omega)
    obtain ⟨Z, hZ⟩ : ∃ Z : Int, 2 * (tb : Int) - 1 = Z := ⟨_, rfl⟩
    have x3 : IntKind.i64.wrap (2 * (tb : Int) - 1) = Z := by rw [hZ]; exact wrapI _ (by omega) (by omega)
    have HS : Hid (Lr w wr g cap k vals) := LR
    have HJ : Hid (k = j + 1) := hj
    clear LR nT hj
    go_wp2_with fail
    generalize wr.alloc (.cells #[.slice ta tl tc] 65) = W1 at *
    have t0 := KT.1
    have t1 := KA.1
    have lT := KT.lt
    have lA := KA.lt
    have CT0 := CT W1.drew ((Below.refl _ _).drew)
    by_cases hgt : ab < 2 * tb - 1
    · have hgt' : (ab : Int) < Z := by omega
      have hlt := below_square (A := A) (k := j) (by rw [hab, htb]; exact hgt)
      clear hgt hZ
      go_region_held3 (fun x => x.cell? ⟨wr.heap.size, 0, none⟩ = some (.slice ta tl tc) ∧ x.cell? ⟨w.heap.size, 0, none⟩ = some (.slice p l c)) (go_keep) (first
        | (go_at_call 111; refine (CA w5 (bel' (Below.refl _ _).drew b5)).mono ?_; rintro e w6 ⟨rfl, b6⟩; have s2 := (b6.cell (p := ⟨wr.heap.size, 0, none⟩) (lt_of_cell s0)).trans s0; have s3 := (b6.cell (p := ⟨w.heap.size, 0, none⟩) (lt_of_cell s1)).trans s1)
        | (go_at_call 111; refine CT0.mono ?_; rintro e w5 ⟨rfl, b5⟩; have s0 := (b5.cell (p := ⟨wr.heap.size, 0, none⟩) lT).trans t0; have s1 := (b5.cell (p := ⟨w.heap.size, 0, none⟩) lA).trans t1)
        | fail)
      all_goals
        have b7 := bel' (bel' bT (bel' (Below.refl _ _).drew b5)) b6
        have LE := HS.out.grow b7
        have hkc : k ≤ cap := by have := HS.out.R.le; rw [HS.out.len] at this; exact this
        clear HS CT CA CT0
        go_wp2
        go_ret
        exact ⟨g, cap, k, vals, rfl, hk1, hk8, hkc, by rw [HJ.out]; exact hlt, LE⟩
    · have hgt' : ¬ (ab : Int) < Z := by omega
      have hj6 := few_rungs (A := A) (k := j) (by rw [hab]; exact hb) (by rw [hab, htb]; exact hgt)
      clear hgt hZ
      go_region_held3 (fun x => x.cell? ⟨wr.heap.size, 0, none⟩ = some (.slice ta tl tc) ∧ x.cell? ⟨w.heap.size, 0, none⟩ = some (.slice p l c)) (go_keep) (first
        | (go_at_call 111; refine (CA w5 (bel' (Below.refl _ _).drew b5)).mono ?_; rintro e w6 ⟨rfl, b6⟩; have s2 := (b6.cell (p := ⟨wr.heap.size, 0, none⟩) (lt_of_cell s0)).trans s0; have s3 := (b6.cell (p := ⟨w.heap.size, 0, none⟩) (lt_of_cell s1)).trans s1)
        | (go_at_call 111; refine CT0.mono ?_; rintro e w5 ⟨rfl, b5⟩; have s0 := (b5.cell (p := ⟨wr.heap.size, 0, none⟩) lT).trans t0; have s1 := (b5.cell (p := ⟨w.heap.size, 0, none⟩) lA).trans t1)
        | fail)
      all_goals
        have b7 := bel' (bel' bT (bel' (Below.refl _ _).drew b5)) b6
        have nT2 := (nT1.grow (bel' (Below.refl _ _).drew b5)).grow b6
        have MU := Mul_n nT2 nT2 (rung_pw6 hj6) (rung_pw6 hj6) (by unfold MulOK; omega)
        rw [show ((rung j : Nat) : Int) * ((rung j : Nat) : Int) = ((rung k : Nat) : Int) by rw [HJ.out, rung_next]; simp] at MU
        have LE := HS.out.grow b7
        clear HS CT CA CT0 hAp hb nT2 nT1 nA1 x2 x3 tb8
        go_wp2_with (first
          | (go_at_call 64; go_must (refine MU.mono ?_; rintro e w7 ⟨ma, ml, mc, rfl, nM, b8⟩; (have b9 := (bel' b8 ((Below.refl w7.heap.size w7).alloc (Nat.le_refl _) (.cells #[.slice ma ml mc] 65)))); (have LF := LE.grow b9); (have c9 : (w7.alloc (.cells #[.slice ma ml mc] 65)).cell? ⟨w7.heap.size, 0, none⟩ = some (.slice ma ml mc) := by simp)))
          | (at_builtin; go_must (refine wpList_rung rfl _ _ rfl g cap k vals LF.len.symm rfl LF.R w7.heap.size 1 ma ml mc rfl c9 (by rw [LF.len]; exact Nat.le_trans hk8 (by decide)) LF.cm ?_; intro g2 cap2 w8 R8 gr8 cm8 gg8))
          | fail)
        have NX := LE.next b9 gr8 (nM.grow ((Below.refl _ _).alloc (Nat.le_refl _) _)) R8 cm8 gg8
        have BA8 : Bx w8 w.heap.size (.slice p l c) := (BA.below (bel' b7 b9)).blocks (gr8.block _ (Nat.lt_of_lt_of_le BA.lt (bel' b7 b9).size) (fun e => by
          simp only [Option.some.injEq] at e
          have := LF.ge
          omega))
        go_roundw
        case rel => exact ⟨g2, cap2, k + 1, _, by go_num, by omega, (by have := HJ.out; omega), NX, BA8⟩
        case measure => simp [slenV]; omega
end Go.Proofs.YtebilgnmnambnaaGreatDoor.Wt
