import Derived.Test.YtidcjdncfmncfaaGreatDoorPart46
import Derived.Test.YtidcjdncfmncfaaGreatDoorPart38

namespace Go.Proofs.YtidcjdncfmncfaaGreatDoor.Dy
open Go.RowKit Tn
structure RP18 (W x : World) (V0 : Value) (V1 : Value) (V2 : Value) (V3 : Value) (V4 : Value) (V5 : Value) (V6 : Value) (V7 : Value) (V8 : Value) (V9 : Value) (V10 : Value) (V11 : Value) (V12 : Value) (V13 : Value) (y0 y1 y2 y3 y4 y5 y6 y7 y8 y9 y10 y11 y12 y13 : Bool) (t87 t88 t89 t90 t91 t92 t93 t94 t95 t96 t97 t98 t99 t13 : Value) : Prop where
  bel : Below W.heap.size W x
  o0 : y0 = true → t87 = V0
  o1 : y1 = true → t88 = V1
  o2 : y2 = true → t89 = V2
  o3 : y3 = true → t90 = V3
  o4 : y4 = true → t91 = V4
  o5 : y5 = true → t92 = V5
  o6 : y6 = true → t93 = V6
  o7 : y7 = true → t94 = V7
  o8 : y8 = true → t95 = V8
  o9 : y9 = true → t96 = V9
  o10 : y10 = true → t97 = V10
  o11 : y11 = true → t98 = V11
  o12 : y12 = true → t99 = V12
  o13 : y13 = true → t13 = V13
theorem RP18.grow {W x x' : World} {V0 : Value} {V1 : Value} {V2 : Value} {V3 : Value} {V4 : Value} {V5 : Value} {V6 : Value} {V7 : Value} {V8 : Value} {V9 : Value} {V10 : Value} {V11 : Value} {V12 : Value} {V13 : Value} {y0 y1 y2 y3 y4 y5 y6 y7 y8 y9 y10 y11 y12 y13 : Bool} {t87 t88 t89 t90 t91 t92 t93 t94 t95 t96 t97 t98 t99 t13 : Value} (h : RP18 W x V0 V1 V2 V3 V4 V5 V6 V7 V8 V9 V10 V11 V12 V13 y0 y1 y2 y3 y4 y5 y6 y7 y8 y9 y10 y11 y12 y13 t87 t88 t89 t90 t91 t92 t93 t94 t95 t96 t97 t98 t99 t13) (b : Below x.heap.size x x') : RP18 W x' V0 V1 V2 V3 V4 V5 V6 V7 V8 V9 V10 V11 V12 V13 y0 y1 y2 y3 y4 y5 y6 y7 y8 y9 y10 y11 y12 y13 t87 t88 t89 t90 t91 t92 t93 t94 t95 t96 t97 t98 t99 t13 where
  bel := bel' h.bel b
  o0 := h.o0
  o1 := h.o1
  o2 := h.o2
  o3 := h.o3
  o4 := h.o4
  o5 := h.o5
  o6 := h.o6
  o7 := h.o7
  o8 := h.o8
  o9 := h.o9
  o10 := h.o10
  o11 := h.o11
  o12 := h.o12
  o13 := h.o13
set_option maxHeartbeats 3200000 in
set_option maxRecDepth 100000 in
theorem RPart_years (y m d u v e : Int) (w : World) (G : Gl w) (Na Nb D Lp Pl : Int) (r r1 r2 : Rat) (s t : ByteArray) (TW : ∀ W, Gl W → Calls Tryz.prog 42 #[.agg #[.int .i64 y, .int .i64 m, .int .i64 d], .agg #[.int .i64 u, .int .i64 v, .int .i64 e]] W fun x w' => x = .returned (.int .i64 0) ∧ Below W.heap.size W w') (NA : ∀ W, Calls Tryz.prog 43 #[.agg #[.int .i64 y, .int .i64 m, .int .i64 d]] W fun x w' => x = .returned (.int .i64 Na) ∧ Below W.heap.size W w') (NB : ∀ W, Calls Tryz.prog 43 #[.agg #[.int .i64 u, .int .i64 v, .int .i64 e]] W fun x w' => x = .returned (.int .i64 Nb) ∧ Below W.heap.size W w') (eD : IntKind.i64.wrap (Nb - Na) = D) (AH : ∀ yy, y ≤ yy → yy ≤ u + 1 → ∀ W, Calls Tryz.prog 45 #[.int .i64 yy] W fun x w' => x = .returned (.int .i64 (hd yy)) ∧ Below W.heap.size W w') (LP : ∀ yy, y ≤ yy → yy ≤ u → ∀ W, Calls Tryz.prog 46 #[.int .i64 yy] W fun x w' => x = .returned (.bool (lp yy)) ∧ Below W.heap.size W w') (F1 : ∀ W, Calls Tryz.prog 37 #[.int .i64 Lp, .int .i64 366] W fun x w' => ∃ v, x = .returned v ∧ L.IsQ w' v r1 ∧ Below W.heap.size W w') (F2 : ∀ W, Calls Tryz.prog 37 #[.int .i64 Pl, .int .i64 365] W fun x w' => ∃ v, x = .returned v ∧ L.IsQ w' v r2 ∧ Below W.heap.size W w') (AD : ∀ v v' W, L.IsQ W v r1 → L.IsQ W v' r2 → Calls Tryz.prog 47 #[v, v'] W fun x w' => ∃ v, x = .returned v ∧ L.IsQ w' v r ∧ Below W.heap.size W w') (OU : ∀ v W, L.IsQ W v r → Calls Tryz.prog 44 #[v] W fun x w' => x = .returned (.tuple #[.agg #[.string s, .string t], .int .i64 0]) ∧ Below W.heap.size W w') (J : Int → Int → Int → Prop) (J0 : J y 0 0) (JN : ∀ yy l p, J yy l p → y ≤ yy ∧ yy ≤ u + 1 ∧ 0 ≤ l ∧ l ≤ 8000000 ∧ 0 ≤ p ∧ p ≤ 8000000) (JS : ∀ yy l p, J yy l p → yy ≤ u → J (yy + 1) (if lp yy then l + (min Nb (hd (yy + 1) + 1) - max Na (hd yy + 1)) else l) (if lp yy then p else p + (min Nb (hd (yy + 1) + 1) - max Na (hd yy + 1)))) (JE : ∀ l p, J (u + 1) l p → l = Lp ∧ p = Pl) (y0 : 0 ≤ y) (y1 : y ≤ 9999) (u0 : 0 ≤ u) (u1 : u ≤ 9999) (hb : ∀ yy, y ≤ yy → yy ≤ u + 1 → 0 ≤ hd yy ∧ hd yy ≤ 4000000) : Calls Tryz.prog 15 #[.agg #[.int .i64 y, .int .i64 m, .int .i64 d], .agg #[.int .i64 u, .int .i64 v, .int .i64 e], .int .i64 3] w fun x w' => x = .returned (.tuple #[.agg #[.string s, .string t], .int .i64 0]) ∧ Below w.heap.size w w' := by
  have Ka0 := ((Blk.new w #[.int .i64 y, .int .i64 m, .int .i64 d] 38).alloc (.cells #[.int .i64 u, .int .i64 v, .int .i64 e] 38)).alloc (.cells #[.string ⟨#[]⟩, .string ⟨#[]⟩] 23)
  have Kb0 := (Blk.new (w.alloc (.cells #[.int .i64 y, .int .i64 m, .int .i64 d] 38)) #[.int .i64 u, .int .i64 v, .int .i64 e] 38).alloc (.cells #[.string ⟨#[]⟩, .string ⟨#[]⟩] 23)
  have R0 := Blk.new ((w.alloc (.cells #[.int .i64 y, .int .i64 m, .int .i64 d] 38)).alloc (.cells #[.int .i64 u, .int .i64 v, .int .i64 e] 38)) #[.string ⟨#[]⟩, .string ⟨#[]⟩] 23
  simp only [World.size_alloc] at Kb0 R0
  have pr : Below w.heap.size w (((w.alloc (.cells #[.int .i64 y, .int .i64 m, .int .i64 d] 38)).alloc (.cells #[.int .i64 u, .int .i64 v, .int .i64 e] 38)).alloc (.cells #[.string ⟨#[]⟩, .string ⟨#[]⟩] 23)) := (((Below.refl _ _).alloc (Nat.le_refl _) _).alloc (by simp) _).alloc (by simp; omega) _
  have G0 := ((G.alloc (.cells #[.int .i64 y, .int .i64 m, .int .i64 d] 38)).alloc (.cells #[.int .i64 u, .int .i64 v, .int .i64 e] 38)).alloc (.cells #[.string ⟨#[]⟩, .string ⟨#[]⟩] 23)
  have ka00 := Ka0.c0
  have ka01 := Ka0.c1
  have ka02 := Ka0.c2
  have kb00 := Kb0.c0
  have kb01 := Kb0.c1
  have kb02 := Kb0.c2
  go_enter Tryz.func15, Tryz.ntmps15
  go_wp2_with (first
    | (go_at_call 42; refine (TW _ G0).mono ?_; rintro x w1 ⟨rfl, b1⟩; have Ka1 := Ka0.below b1 Ka0.lt; have Kb1 := Kb0.below b1 Kb0.lt; have R1 := R0.below b1 R0.lt; have p1 := bel' pr b1; have ka10 := Ka1.c0; have ka11 := Ka1.c1; have ka12 := Ka1.c2; have kb10 := Kb1.c0; have kb11 := Kb1.c1; have kb12 := Kb1.c2; have rr10 := R1.at 0; have rr11 := R1.at 1; have rf10 := R1.free 0; have rf11 := R1.free 1; simp at rr10 rr11)
    | fail)
  go_cut [9] from 32 to 36 (fun x wc => x = .int .i64 D ∧ Below w1.heap.size w1 wc)
  case first =>
    rename_i hm hJ
    refine wp_region_held (S := fun _ => True) (by kernel_rfl) (any_inv (fun listed a x => ∃ (y0 y1 y2 y3 y4 : Bool) (t32 t33 t34 t35 t36 : Value) (z9 : Value), a = ⟨#[.agg #[.int .i64 y, .int .i64 m, .int .i64 d], .agg #[.int .i64 u, .int .i64 v, .int .i64 e], .int .i64 3, .pointer (some ⟨w.heap.size, 0, none⟩), .pointer (some ⟨w.heap.size + 1, 0, none⟩), undef, .pointer (some ⟨w.heap.size + 1 + 1, 0, none⟩), .int .i64 0, .int .i64 0, z9, undef, undef, undef, undef, undef, .agg #[.int .i64 y, .int .i64 m, .int .i64 d], .agg #[.int .i64 u, .int .i64 v, .int .i64 e], .int .i64 0, .int .i64 0, .bool true, .bool true, .int .i64 3, .bool false, .bool false, .int .i64 3, .bool false, .bool false, .bool false, .int .i64 0, .bool false, undef, undef, t32, t33, t34, t35, t36, undef, undef, undef, undef, undef, undef, undef, undef, undef, undef, undef, undef, undef, undef, undef, undef, undef, undef, undef, undef, undef, undef, undef, undef, undef, undef, undef, undef, undef, undef, undef, undef, undef, undef, undef, undef, undef, undef, undef, undef, undef, undef, undef, undef, undef, undef, undef, undef, undef, undef, undef, undef, undef, undef, undef, undef, undef, undef, undef, undef, undef, undef, undef, undef, undef, undef, undef, undef, undef, undef, undef, undef, undef, undef, undef, undef, undef, undef, undef, undef, undef, undef, undef], []⟩ ∧ ((listed = #[y0, y1, y2, y3, y4, false] ∧ RP6 w1 x (.agg #[.int .i64 u, .int .i64 v, .int .i64 e]) (.int .i64 Nb) (.agg #[.int .i64 y, .int .i64 m, .int .i64 d]) (.int .i64 Na) (.int .i64 D) y0 y1 y2 y3 y4 t32 t33 t34 t35 t36 ∧ z9 = undef) ∨ (listed = #[true, true, true, true, true, true] ∧ t36 = .int .i64 D ∧ z9 = .int .i64 D ∧ Below w1.heap.size w1 x))) ?_ ?_ _ _ _ _ (by decide) ?_)
    · rintro listed a x i ⟨y0, y1, y2, y3, y4, t32, t33, t34, t35, t36, z9, rfl, h⟩ hi
      have hr : i < 6 := List.mem_range.1 (List.mem_filter.1 hi).1
      have hc := (List.mem_filter.1 hi).2
      rcases h with ⟨rfl, h⟩ | ⟨rfl, h⟩
      · rcases (show i = 0 ∨ i = 1 ∨ i = 2 ∨ i = 3 ∨ i = 4 ∨ i = 5 by omega) with rfl | rfl | rfl | rfl | rfl | rfl
        · obtain ⟨h, rfl⟩ := h
          clear hc hi
          have kd0 := (Kb1.below h.bel Kb1.lt).c0
          have kd1 := (Kb1.below h.bel Kb1.lt).c1
          have kd2 := (Kb1.below h.bel Kb1.lt).c2
          refine wpOp_step rfl (fun K hK0 => ?_)
          have hK : Hid _ := hK0
          clear hK0
          rw [if_pos (by rfl)]
          go_wp2_with fail
          exact hK.out _ _ ⟨true, y1, y2, y3, y4, .agg #[.int .i64 u, .int .i64 v, .int .i64 e], t33, t34, t35, t36, undef, rfl, Or.inl ⟨rfl, ⟨{ h with o0 := fun _ => rfl }, rfl⟩⟩⟩
        · obtain ⟨h, rfl⟩ := h
          have e0 : y0 = true := by
            revert hc
            cases y0 <;> simp [Region.binds]
          have r0 := h.o0 e0
          subst r0
          clear hc hi
          refine wpOp_step rfl (fun K hK0 => ?_)
          have hK : Hid _ := hK0
          clear hK0
          rw [if_pos (by rfl)]
          go_wp2_with (first | (go_at_call 43; go_must (refine (NB x).mono ?_; rintro e x2 ⟨rfl, bb⟩)) | fail)
          exact hK.out _ _ ⟨y0, true, y2, y3, y4, _, _, t34, t35, t36, undef, rfl, Or.inl ⟨rfl, ⟨{ h.grow bb with o1 := fun _ => rfl }, rfl⟩⟩⟩
        · obtain ⟨h, rfl⟩ := h
          clear hc hi
          have kd0 := (Ka1.below h.bel Ka1.lt).c0
          have kd1 := (Ka1.below h.bel Ka1.lt).c1
          have kd2 := (Ka1.below h.bel Ka1.lt).c2
          refine wpOp_step rfl (fun K hK0 => ?_)
          have hK : Hid _ := hK0
          clear hK0
          rw [if_pos (by rfl)]
          go_wp2_with fail
          exact hK.out _ _ ⟨y0, y1, true, y3, y4, t32, t33, .agg #[.int .i64 y, .int .i64 m, .int .i64 d], t35, t36, undef, rfl, Or.inl ⟨rfl, ⟨{ h with o2 := fun _ => rfl }, rfl⟩⟩⟩
        · obtain ⟨h, rfl⟩ := h
          have e2 : y2 = true := by
            revert hc
            cases y2 <;> simp [Region.binds]
          have r2 := h.o2 e2
          subst r2
          clear hc hi
          refine wpOp_step rfl (fun K hK0 => ?_)
          have hK : Hid _ := hK0
          clear hK0
          rw [if_pos (by rfl)]
          go_wp2_with (first | (go_at_call 43; go_must (refine (NA x).mono ?_; rintro e x2 ⟨rfl, bb⟩)) | fail)
          exact hK.out _ _ ⟨y0, y1, y2, true, y4, t32, t33, _, _, t36, undef, rfl, Or.inl ⟨rfl, ⟨{ h.grow bb with o3 := fun _ => rfl }, rfl⟩⟩⟩
        · obtain ⟨h, rfl⟩ := h
          have e1 : y1 = true := by
            revert hc
            cases y1 <;> simp [Region.binds]
          have e3 : y3 = true := by
            revert hc
            cases y3 <;> simp [Region.binds]
          have r1 := h.o1 e1
          subst r1
          have r3 := h.o3 e3
          subst r3
          clear hc hi
          have q := eD
          refine wpOp_step rfl (fun K hK0 => ?_)
          have hK : Hid _ := hK0
          clear hK0
          rw [if_pos (by rfl)]
          go_wp2_with fail
          exact hK.out _ _ ⟨y0, y1, y2, y3, true, t32, _, t34, _, .int .i64 D, undef, rfl, Or.inl ⟨rfl, ⟨{ h with o4 := fun _ => rfl }, rfl⟩⟩⟩
        · obtain ⟨h, rfl⟩ := h
          have e0 : y0 = true := by
            revert hc
            cases y0 <;> simp [Region.binds]
          have e1 : y1 = true := by
            revert hc
            cases y1 <;> simp [Region.binds]
          have e2 : y2 = true := by
            revert hc
            cases y2 <;> simp [Region.binds]
          have e3 : y3 = true := by
            revert hc
            cases y3 <;> simp [Region.binds]
          have e4 : y4 = true := by
            revert hc
            cases y4 <;> simp [Region.binds]
          have r4 := h.o4 e4
          subst r4
          clear hc hi
          subst e0 e1 e2 e3 e4
          have bl := h.bel
          clear h
          refine wpOp_step rfl (fun K hK0 => ?_)
          have hK : Hid _ := hK0
          clear hK0
          rw [if_pos (by rfl)]
          go_wp2_with fail
          exact hK.out _ _ ⟨true, true, true, true, true, t32, t33, t34, t35, _, _, rfl, Or.inr (⟨rfl, rfl, rfl, bl⟩)⟩
      · rcases (show i = 0 ∨ i = 1 ∨ i = 2 ∨ i = 3 ∨ i = 4 ∨ i = 5 by omega) with rfl | rfl | rfl | rfl | rfl | rfl <;> simp at hc
    · rintro listed a x ⟨y0, y1, y2, y3, y4, t32, t33, t34, t35, t36, z9, rfl, h⟩ hn
      have al := all_listed (by decide +kernel) hn
      rcases h with ⟨rfl, h⟩ | ⟨rfl, h⟩
      · have z := al 5 (by decide)
        simp at z
      · obtain ⟨rfl, rfl, bl⟩ := h
        refine hJ _ _ ?_
        go_meet
        case rel => exact ⟨rfl, bl⟩
    · exact ⟨false, false, false, false, false, undef, undef, undef, undef, undef, undef, rfl, Or.inl ⟨rfl, ⟨{ bel := (Below.refl _ _).drew, o0 := (by intro q; cases q), o1 := (by intro q; cases q), o2 := (by intro q; cases q), o3 := (by intro q; cases q), o4 := (by intro q; cases q) }, rfl⟩⟩⟩
  case rest =>
    obtain ⟨rfl, b2⟩ := hcut
    rename World => w2
    have Ka2 := Ka1.below b2 Ka1.lt
    have Kb2 := Kb1.below b2 Kb1.lt
    have R2 := R1.below b2 R1.lt
    have p2 := bel' p1 b2
    have ka20 := Ka2.c0
    have ka21 := Ka2.c1
    have ka22 := Ka2.c2
    have kb20 := Kb2.c0
    have kb21 := Kb2.c1
    have kb22 := Kb2.c2
    have rr20 := R2.at 0
    have rr21 := R2.at 1
    have rf20 := R2.free 0
    have rf21 := R2.free 1
    simp at rr20 rr21
    go_wp2_with fail
    go_loopw [10, 11, 12] (fun a b c wr => ∃ yy l p, a = .int .i64 l ∧ b = .int .i64 p ∧ c = .int .i64 yy ∧ J yy l p ∧ Blk wr w.heap.size #[.int .i64 y, .int .i64 m, .int .i64 d] 38 ∧ Blk wr (w.heap.size + 1) #[.int .i64 u, .int .i64 v, .int .i64 e] 38 ∧ Blk wr (w.heap.size + 1 + 1) #[.string ⟨#[]⟩, .string ⟨#[]⟩] 23 ∧ Below w.heap.size w wr) (fun _ _ c _ => (u + 1 - RowKit.intOf c).toNat)
    case atStart => exact ⟨y, 0, 0, rfl, rfl, rfl, J0, Ka2, Kb2, R2, p2⟩
    case round =>
      clear Ka0 Kb0 R0 Ka1 Kb1 R1 Ka2 Kb2 R2 pr p1 p2 b1 b2 ka00 ka01 ka02 kb00 kb01 kb02 ka10 ka11 ka12 kb10 kb11 kb12 ka20 ka21 ka22 kb20 kb21 kb22 rr10 rr11 rf10 rf11 rr20 rr21 rf20 rf21 J0
      obtain ⟨yy, l, p, rfl, rfl, rfl, Jy, Ka3, Kb3, R3, p3⟩ := hrel
      have JH : Hid (J yy l p) := Jy
      obtain ⟨k1, k2, l0, l1, pl0, pl1⟩ := JN yy l p Jy
      clear Jy
      have kb30 := Kb3.c0
      by_cases c : yy ≤ u
      · obtain ⟨Ha, hHa⟩ : ∃ z, hd yy = z := ⟨_, rfl⟩
        obtain ⟨Hb, hHb⟩ : ∃ z, hd (yy + 1) = z := ⟨_, rfl⟩
        have AA := AH yy k1 k2
        have AB := AH (yy + 1) (by omega) (by omega)
        have hb1 := hb yy k1 k2
        have hb2 := hb (yy + 1) (by omega) (by omega)
        rw [hHa] at AA hb1
        rw [hHb] at AB hb2
        obtain ⟨hb1a, hb1b⟩ := hb1
        obtain ⟨hb2a, hb2b⟩ := hb2
        obtain ⟨F, eF⟩ : ∃ z, max Na (Ha + 1) = z := ⟨_, rfl⟩
        obtain ⟨Tt, eT⟩ : ∃ z, min Nb (Hb + 1) = z := ⟨_, rfl⟩
        have w1a : IntKind.i64.wrap (Ha + 1) = Ha + 1 := wrapI _ (by omega) (by omega)
        have w1b : IntKind.i64.wrap (Hb + 1) = Hb + 1 := wrapI _ (by omega) (by omega)
        have wyy : IntKind.i64.wrap (yy + 1) = yy + 1 := wrapI _ (by omega) (by omega)
        have HaH : Hid (hd yy = Ha) := hHa
        have HbH : Hid (hd (yy + 1) = Hb) := hHb
        clear hHa hHb
        go_wp2_with fail
        go_cut [13, 14] from 87 to 99 (fun a b wc => a = .int .i64 F ∧ b = .int .i64 Tt ∧ Below wr.heap.size wr wc)
        case first =>
          rename_i hm hJ
          refine wp_region_held (S := fun _ => True) (by kernel_rfl) (any_inv (fun listed a x => ∃ (y0 y1 y2 y3 y4 y5 y6 y7 y8 y9 y10 y11 y12 y13 : Bool) (t87 t88 t89 t90 t91 t92 t93 t94 t95 t96 t97 t98 t99 t13 : Value) (z14 : Value), a = ⟨#[.agg #[.int .i64 y, .int .i64 m, .int .i64 d], .agg #[.int .i64 u, .int .i64 v, .int .i64 e], .int .i64 3, .pointer (some ⟨w.heap.size, 0, none⟩), .pointer (some ⟨w.heap.size + 1, 0, none⟩), undef, .pointer (some ⟨w.heap.size + 1 + 1, 0, none⟩), .int .i64 0, .int .i64 0, .int .i64 D, .int .i64 l, .int .i64 p, .int .i64 yy, t13, z14, .agg #[.int .i64 y, .int .i64 m, .int .i64 d], .agg #[.int .i64 u, .int .i64 v, .int .i64 e], .int .i64 0, .int .i64 0, .bool true, .bool true, .int .i64 3, .bool false, .bool false, .int .i64 3, .bool false, .bool false, .bool false, .int .i64 0, .bool false, undef, undef, u32, u33, u34, u35, u36, .int .i64 3, .bool false, .bool false, undef, undef, undef, undef, undef, .bool false, .bool false, undef, undef, undef, undef, undef, .bool false, .bool false, undef, undef, undef, undef, undef, undef, undef, undef, undef, undef, undef, undef, undef, undef, undef, undef, undef, undef, undef, undef, undef, undef, undef, undef, undef, .pointer (some ⟨w.heap.size, 0, none⟩), .int .i64 y, .int .i64 yy, .pointer (some ⟨w.heap.size + 1, 0, none⟩), .int .i64 u, .bool true, u85, u86, t87, t88, t89, t90, t91, t92, t93, t94, t95, t96, t97, t98, t99, u100, u101, u102, u103, u104, u105, u106, u107, u108, u109, u110, u111, undef, undef, undef, undef, undef, undef, undef, undef], []⟩ ∧ ((listed = #[y0, y1, y2, y3, y4, y5, y6, y7, y8, y9, y10, y11, y12, y13, false] ∧ RP18 wr x (.agg #[.int .i64 y, .int .i64 m, .int .i64 d]) (.int .i64 Na) (.int .i64 yy) (.int .i64 Ha) (.int .i64 (Ha + 1)) (.int .i64 F) (.agg #[.int .i64 u, .int .i64 v, .int .i64 e]) (.int .i64 Nb) (.int .i64 yy) (.int .i64 (yy + 1)) (.int .i64 Hb) (.int .i64 (Hb + 1)) (.int .i64 Tt) (.int .i64 F) y0 y1 y2 y3 y4 y5 y6 y7 y8 y9 y10 y11 y12 y13 t87 t88 t89 t90 t91 t92 t93 t94 t95 t96 t97 t98 t99 t13 ∧ z14 = u14) ∨ (listed = #[true, true, true, true, true, true, true, true, true, true, true, true, true, true, true] ∧ t13 = .int .i64 F ∧ t99 = .int .i64 Tt ∧ z14 = .int .i64 Tt ∧ Below wr.heap.size wr x))) ?_ ?_ _ _ _ _ (by decide) ?_)
          · rintro listed a x i ⟨y0, y1, y2, y3, y4, y5, y6, y7, y8, y9, y10, y11, y12, y13, t87, t88, t89, t90, t91, t92, t93, t94, t95, t96, t97, t98, t99, t13, z14, rfl, h⟩ hi
            have hr : i < 15 := List.mem_range.1 (List.mem_filter.1 hi).1
            have hc := (List.mem_filter.1 hi).2
            rcases h with ⟨rfl, h⟩ | ⟨rfl, h⟩
            · rcases (show i = 0 ∨ i = 1 ∨ i = 2 ∨ i = 3 ∨ i = 4 ∨ i = 5 ∨ i = 6 ∨ i = 7 ∨ i = 8 ∨ i = 9 ∨ i = 10 ∨ i = 11 ∨ i = 12 ∨ i = 13 ∨ i = 14 by omega) with rfl | rfl | rfl | rfl | rfl | rfl | rfl | rfl | rfl | rfl | rfl | rfl | rfl | rfl | rfl
              · obtain ⟨h, rfl⟩ := h
                clear hc hi
                have kd0 := (Ka3.below h.bel Ka3.lt).c0
                have kd1 := (Ka3.below h.bel Ka3.lt).c1
                have kd2 := (Ka3.below h.bel Ka3.lt).c2
                refine wpOp_step rfl (fun K hK0 => ?_)
                have hK : Hid _ := hK0
                clear hK0
                rw [if_pos (by rfl)]
                go_wp2_with fail
                exact hK.out _ _ ⟨true, y1, y2, y3, y4, y5, y6, y7, y8, y9, y10, y11, y12, y13, .agg #[.int .i64 y, .int .i64 m, .int .i64 d], t88, t89, t90, t91, t92, t93, t94, t95, t96, t97, t98, t99, t13, z14, rfl, Or.inl ⟨rfl, ⟨{ h with o0 := fun _ => rfl }, rfl⟩⟩⟩
              · obtain ⟨h, rfl⟩ := h
                have e0 : y0 = true := by
                  revert hc
                  cases y0 <;> simp [Region.binds]
                have r0 := h.o0 e0
                subst r0
                clear hc hi
                refine wpOp_step rfl (fun K hK0 => ?_)
                have hK : Hid _ := hK0
                clear hK0
                rw [if_pos (by rfl)]
                go_wp2_with (first | (go_at_call 43; go_must (refine (NA x).mono ?_; rintro e x2 ⟨rfl, bb⟩)) | fail)
                exact hK.out _ _ ⟨y0, true, y2, y3, y4, y5, y6, y7, y8, y9, y10, y11, y12, y13, _, _, t89, t90, t91, t92, t93, t94, t95, t96, t97, t98, t99, t13, z14, rfl, Or.inl ⟨rfl, ⟨{ h.grow bb with o1 := fun _ => rfl }, rfl⟩⟩⟩
              · obtain ⟨h, rfl⟩ := h
                clear hc hi
                refine wpOp_step rfl (fun K hK0 => ?_)
                have hK : Hid _ := hK0
                clear hK0
                rw [if_pos (by rfl)]
                go_wp2_with fail
                exact hK.out _ _ ⟨y0, y1, true, y3, y4, y5, y6, y7, y8, y9, y10, y11, y12, y13, t87, t88, .int .i64 yy, t90, t91, t92, t93, t94, t95, t96, t97, t98, t99, t13, z14, rfl, Or.inl ⟨rfl, ⟨{ h with o2 := fun _ => rfl }, rfl⟩⟩⟩
              · obtain ⟨h, rfl⟩ := h
                have e2 : y2 = true := by
                  revert hc
                  cases y2 <;> simp [Region.binds]
                have r2 := h.o2 e2
                subst r2
                clear hc hi
                refine wpOp_step rfl (fun K hK0 => ?_)
                have hK : Hid _ := hK0
                clear hK0
                rw [if_pos (by rfl)]
                go_wp2_with (first | (go_at_call 45; go_must (refine (AA x).mono ?_; rintro e x2 ⟨rfl, bb⟩)) | fail)
                exact hK.out _ _ ⟨y0, y1, y2, true, y4, y5, y6, y7, y8, y9, y10, y11, y12, y13, t87, t88, _, _, t91, t92, t93, t94, t95, t96, t97, t98, t99, t13, z14, rfl, Or.inl ⟨rfl, ⟨{ h.grow bb with o3 := fun _ => rfl }, rfl⟩⟩⟩
              · obtain ⟨h, rfl⟩ := h
                have e3 : y3 = true := by
                  revert hc
                  cases y3 <;> simp [Region.binds]
                have r3 := h.o3 e3
                subst r3
                clear hc hi
                have q := w1a
                refine wpOp_step rfl (fun K hK0 => ?_)
                have hK : Hid _ := hK0
                clear hK0
                rw [if_pos (by rfl)]
                go_wp2_with fail
                exact hK.out _ _ ⟨y0, y1, y2, y3, true, y5, y6, y7, y8, y9, y10, y11, y12, y13, t87, t88, t89, _, .int .i64 (Ha + 1), t92, t93, t94, t95, t96, t97, t98, t99, t13, z14, rfl, Or.inl ⟨rfl, ⟨{ h with o4 := fun _ => rfl }, rfl⟩⟩⟩
              · obtain ⟨h, rfl⟩ := h
                have e1 : y1 = true := by
                  revert hc
                  cases y1 <;> simp [Region.binds]
                have e4 : y4 = true := by
                  revert hc
                  cases y4 <;> simp [Region.binds]
                have r1 := h.o1 e1
                subst r1
                have r4 := h.o4 e4
                subst r4
                clear hc hi
                have q := eF
                have hI := h
                clear h
                refine wpOp_step rfl (fun K hK0 => ?_)
                have hK : Hid _ := hK0
                clear hK0
                rw [if_pos (by rfl)]
                go_wp2_with fail
                all_goals exact hK.out _ _ ⟨y0, y1, y2, y3, y4, true, y6, y7, y8, y9, y10, y11, y12, y13, t87, _, t89, t90, _, _, t93, t94, t95, t96, t97, t98, t99, t13, z14, rfl, Or.inl ⟨rfl, ⟨{ hI with o5 := fun _ => congrArg (Value.int .i64) (by omega) }, rfl⟩⟩⟩
              · obtain ⟨h, rfl⟩ := h
                clear hc hi
                have kd0 := (Kb3.below h.bel Kb3.lt).c0
                have kd1 := (Kb3.below h.bel Kb3.lt).c1
                have kd2 := (Kb3.below h.bel Kb3.lt).c2
                refine wpOp_step rfl (fun K hK0 => ?_)
                have hK : Hid _ := hK0
                clear hK0
                rw [if_pos (by rfl)]
                go_wp2_with fail
                exact hK.out _ _ ⟨y0, y1, y2, y3, y4, y5, true, y7, y8, y9, y10, y11, y12, y13, t87, t88, t89, t90, t91, t92, .agg #[.int .i64 u, .int .i64 v, .int .i64 e], t94, t95, t96, t97, t98, t99, t13, z14, rfl, Or.inl ⟨rfl, ⟨{ h with o6 := fun _ => rfl }, rfl⟩⟩⟩
              · obtain ⟨h, rfl⟩ := h
                have e6 : y6 = true := by
                  revert hc
                  cases y6 <;> simp [Region.binds]
                have r6 := h.o6 e6
                subst r6
                clear hc hi
                refine wpOp_step rfl (fun K hK0 => ?_)
                have hK : Hid _ := hK0
                clear hK0
                rw [if_pos (by rfl)]
                go_wp2_with (first | (go_at_call 43; go_must (refine (NB x).mono ?_; rintro e x2 ⟨rfl, bb⟩)) | fail)
                exact hK.out _ _ ⟨y0, y1, y2, y3, y4, y5, y6, true, y8, y9, y10, y11, y12, y13, t87, t88, t89, t90, t91, t92, _, _, t95, t96, t97, t98, t99, t13, z14, rfl, Or.inl ⟨rfl, ⟨{ h.grow bb with o7 := fun _ => rfl }, rfl⟩⟩⟩
              · obtain ⟨h, rfl⟩ := h
                clear hc hi
                refine wpOp_step rfl (fun K hK0 => ?_)
                have hK : Hid _ := hK0
                clear hK0
                rw [if_pos (by rfl)]
                go_wp2_with fail
                exact hK.out _ _ ⟨y0, y1, y2, y3, y4, y5, y6, y7, true, y9, y10, y11, y12, y13, t87, t88, t89, t90, t91, t92, t93, t94, .int .i64 yy, t96, t97, t98, t99, t13, z14, rfl, Or.inl ⟨rfl, ⟨{ h with o8 := fun _ => rfl }, rfl⟩⟩⟩
              · obtain ⟨h, rfl⟩ := h
                have e8 : y8 = true := by
                  revert hc
                  cases y8 <;> simp [Region.binds]
                have r8 := h.o8 e8
                subst r8
                clear hc hi
                have q := wyy
                refine wpOp_step rfl (fun K hK0 => ?_)
                have hK : Hid _ := hK0
                clear hK0
                rw [if_pos (by rfl)]
                go_wp2_with fail
                exact hK.out _ _ ⟨y0, y1, y2, y3, y4, y5, y6, y7, y8, true, y10, y11, y12, y13, t87, t88, t89, t90, t91, t92, t93, t94, _, .int .i64 (yy + 1), t97, t98, t99, t13, z14, rfl, Or.inl ⟨rfl, ⟨{ h with o9 := fun _ => rfl }, rfl⟩⟩⟩
              · obtain ⟨h, rfl⟩ := h
                have e9 : y9 = true := by
                  revert hc
                  cases y9 <;> simp [Region.binds]
                have r9 := h.o9 e9
                subst r9
                clear hc hi
                refine wpOp_step rfl (fun K hK0 => ?_)
                have hK : Hid _ := hK0
                clear hK0
                rw [if_pos (by rfl)]
                go_wp2_with (first | (go_at_call 45; go_must (refine (AB x).mono ?_; rintro e x2 ⟨rfl, bb⟩)) | fail)
                exact hK.out _ _ ⟨y0, y1, y2, y3, y4, y5, y6, y7, y8, y9, true, y11, y12, y13, t87, t88, t89, t90, t91, t92, t93, t94, t95, _, _, t98, t99, t13, z14, rfl, Or.inl ⟨rfl, ⟨{ h.grow bb with o10 := fun _ => rfl }, rfl⟩⟩⟩
              · obtain ⟨h, rfl⟩ := h
                have e10 : y10 = true := by
                  revert hc
                  cases y10 <;> simp [Region.binds]
                have r10 := h.o10 e10
                subst r10
                clear hc hi
                have q := w1b
                refine wpOp_step rfl (fun K hK0 => ?_)
                have hK : Hid _ := hK0
                clear hK0
                rw [if_pos (by rfl)]
                go_wp2_with fail
                exact hK.out _ _ ⟨y0, y1, y2, y3, y4, y5, y6, y7, y8, y9, y10, true, y12, y13, t87, t88, t89, t90, t91, t92, t93, t94, t95, t96, _, .int .i64 (Hb + 1), t99, t13, z14, rfl, Or.inl ⟨rfl, ⟨{ h with o11 := fun _ => rfl }, rfl⟩⟩⟩
              · obtain ⟨h, rfl⟩ := h
                have e7 : y7 = true := by
                  revert hc
                  cases y7 <;> simp [Region.binds]
                have e11 : y11 = true := by
                  revert hc
                  cases y11 <;> simp [Region.binds]
                have r7 := h.o7 e7
                subst r7
                have r11 := h.o11 e11
                subst r11
                clear hc hi
                have q := eT
                have hI := h
                clear h
                refine wpOp_step rfl (fun K hK0 => ?_)
                have hK : Hid _ := hK0
                clear hK0
                rw [if_pos (by rfl)]
                go_wp2_with fail
                all_goals exact hK.out _ _ ⟨y0, y1, y2, y3, y4, y5, y6, y7, y8, y9, y10, y11, true, y13, t87, t88, t89, t90, t91, t92, t93, _, t95, t96, t97, _, _, t13, z14, rfl, Or.inl ⟨rfl, ⟨{ hI with o12 := fun _ => congrArg (Value.int .i64) (by omega) }, rfl⟩⟩⟩
              · obtain ⟨h, rfl⟩ := h
                have e5 : y5 = true := by
                  revert hc
                  cases y5 <;> simp [Region.binds]
                have r5 := h.o5 e5
                subst r5
                clear hc hi
                refine wpOp_step rfl (fun K hK0 => ?_)
                have hK : Hid _ := hK0
                clear hK0
                rw [if_pos (by rfl)]
                go_wp2_with fail
                exact hK.out _ _ ⟨y0, y1, y2, y3, y4, y5, y6, y7, y8, y9, y10, y11, y12, true, t87, t88, t89, t90, t91, _, t93, t94, t95, t96, t97, t98, t99, .int .i64 F, z14, rfl, Or.inl ⟨rfl, ⟨{ h with o13 := fun _ => rfl }, rfl⟩⟩⟩
              · obtain ⟨h, rfl⟩ := h
                have e0 : y0 = true := by
                  revert hc
                  cases y0 <;> simp [Region.binds]
                have e1 : y1 = true := by
                  revert hc
                  cases y1 <;> simp [Region.binds]
                have e2 : y2 = true := by
                  revert hc
                  cases y2 <;> simp [Region.binds]
                have e3 : y3 = true := by
                  revert hc
                  cases y3 <;> simp [Region.binds]
                have e4 : y4 = true := by
                  revert hc
                  cases y4 <;> simp [Region.binds]
                have e5 : y5 = true := by
                  revert hc
                  cases y5 <;> simp [Region.binds]
                have e6 : y6 = true := by
                  revert hc
                  cases y6 <;> simp [Region.binds]
                have e7 : y7 = true := by
                  revert hc
                  cases y7 <;> simp [Region.binds]
                have e8 : y8 = true := by
                  revert hc
                  cases y8 <;> simp [Region.binds]
                have e9 : y9 = true := by
                  revert hc
                  cases y9 <;> simp [Region.binds]
                have e10 : y10 = true := by
                  revert hc
                  cases y10 <;> simp [Region.binds]
                have e11 : y11 = true := by
                  revert hc
                  cases y11 <;> simp [Region.binds]
                have e12 : y12 = true := by
                  revert hc
                  cases y12 <;> simp [Region.binds]
                have e13 : y13 = true := by
                  revert hc
                  cases y13 <;> simp [Region.binds]
                have r12 := h.o12 e12
                subst r12
                have r13 := h.o13 e13
                subst r13
                clear hc hi
                subst e0 e1 e2 e3 e4 e5 e6 e7 e8 e9 e10 e11 e12 e13
                have bl := h.bel
                clear h
                refine wpOp_step rfl (fun K hK0 => ?_)
                have hK : Hid _ := hK0
                clear hK0
                rw [if_pos (by rfl)]
                go_wp2_with fail
                exact hK.out _ _ ⟨true, true, true, true, true, true, true, true, true, true, true, true, true, true, t87, t88, t89, t90, t91, t92, t93, t94, t95, t96, t97, t98, _, _, _, rfl, Or.inr (⟨rfl, rfl, rfl, rfl, bl⟩)⟩
            · rcases (show i = 0 ∨ i = 1 ∨ i = 2 ∨ i = 3 ∨ i = 4 ∨ i = 5 ∨ i = 6 ∨ i = 7 ∨ i = 8 ∨ i = 9 ∨ i = 10 ∨ i = 11 ∨ i = 12 ∨ i = 13 ∨ i = 14 by omega) with rfl | rfl | rfl | rfl | rfl | rfl | rfl | rfl | rfl | rfl | rfl | rfl | rfl | rfl | rfl <;> simp at hc
          · rintro listed a x ⟨y0, y1, y2, y3, y4, y5, y6, y7, y8, y9, y10, y11, y12, y13, t87, t88, t89, t90, t91, t92, t93, t94, t95, t96, t97, t98, t99, t13, z14, rfl, h⟩ hn
            have al := all_listed (by decide +kernel) hn
            rcases h with ⟨rfl, h⟩ | ⟨rfl, h⟩
            · have z := al 14 (by decide)
              simp at z
            · obtain ⟨rfl, rfl, rfl, bl⟩ := h
              refine hJ _ _ ?_
              go_meet
              case rel => exact ⟨rfl, rfl, bl⟩
          · exact ⟨false, false, false, false, false, false, false, false, false, false, false, false, false, false, u87, u88, u89, u90, u91, u92, u93, u94, u95, u96, u97, u98, u99, u13, u14, rfl, Or.inl ⟨rfl, ⟨{ bel := (Below.refl _ _).drew, o0 := (by intro q; cases q), o1 := (by intro q; cases q), o2 := (by intro q; cases q), o3 := (by intro q; cases q), o4 := (by intro q; cases q), o5 := (by intro q; cases q), o6 := (by intro q; cases q), o7 := (by intro q; cases q), o8 := (by intro q; cases q), o9 := (by intro q; cases q), o10 := (by intro q; cases q), o11 := (by intro q; cases q), o12 := (by intro q; cases q), o13 := (by intro q; cases q) }, rfl⟩⟩⟩
        case rest =>
        obtain ⟨rfl, rfl, b4⟩ := hcut
        rename World => w4
        have Ka4 := Ka3.below b4 Ka3.lt
        have Kb4 := Kb3.below b4 Kb3.lt
        have R4 := R3.below b4 R3.lt
        have p4 := bel' p3 b4
        have hHa := HaH.out
        have hHb := HbH.out
        clear Ka3 Kb3 R3 p3 b4 NA NB AA AB kb30
        by_cases hl : lp yy = true
        · have LQ := LP yy k1 c
          rw [hl] at LQ
          have JN1 := JN _ _ _ (JS yy l p JH.out c)
          have JS1 := JS yy l p JH.out c
          rw [hl, hHa, hHb, eF, eT] at JN1 JS1
          simp only [if_true] at JN1 JS1
          obtain ⟨_, _, i1, i2, i3, i4⟩ := JN1
          have JS2 : Hid (J (yy + 1) (l + (Tt - F)) (p)) := JS1
          clear JS1
          have s1 : IntKind.i64.wrap (Tt - F) = Tt - F := wrapI _ (by omega) (by omega)
          have s2 : IntKind.i64.wrap (l + (Tt - F)) = l + (Tt - F) := wrapI _ (by omega) (by omega)
          go_wp2_with (first
            | (go_at_call 46; refine (LQ _).mono ?_; rintro x w5 ⟨rfl, b5⟩; have Ka5 := Ka4.below b5 Ka4.lt; have Kb5 := Kb4.below b5 Kb4.lt; have R5 := R4.below b5 R4.lt; have p5 := bel' p4 b5)
            | fail)
          exact ⟨⟨yy + 1, l + (Tt - F), p, rfl, rfl, rfl, JS2.out, Ka5, Kb5, R5, p5⟩, by simp only [RowKit.intOf]; omega⟩
        · simp only [Bool.not_eq_true] at hl
          have LQ := LP yy k1 c
          rw [hl] at LQ
          have JN1 := JN _ _ _ (JS yy l p JH.out c)
          have JS1 := JS yy l p JH.out c
          rw [hl, hHa, hHb, eF, eT] at JN1 JS1
          simp only [Bool.false_eq_true, if_false] at JN1 JS1
          obtain ⟨_, _, i1, i2, i3, i4⟩ := JN1
          have JS2 : Hid (J (yy + 1) (l) (p + (Tt - F))) := JS1
          clear JS1
          have s1 : IntKind.i64.wrap (Tt - F) = Tt - F := wrapI _ (by omega) (by omega)
          have s2 : IntKind.i64.wrap (p + (Tt - F)) = p + (Tt - F) := wrapI _ (by omega) (by omega)
          go_wp2_with (first
            | (go_at_call 46; refine (LQ _).mono ?_; rintro x w5 ⟨rfl, b5⟩; have Ka5 := Ka4.below b5 Ka4.lt; have Kb5 := Kb4.below b5 Kb4.lt; have R5 := R4.below b5 R4.lt; have p5 := bel' p4 b5)
            | fail)
          exact ⟨⟨yy + 1, l, p + (Tt - F), rfl, rfl, rfl, JS2.out, Ka5, Kb5, R5, p5⟩, by simp only [RowKit.intOf]; omega⟩
      · obtain rfl : yy = u + 1 := by omega
        obtain ⟨rfl, rfl⟩ := JE l p JH.out
        go_wp2_with (first
          | (go_at_call 37; have q := q4; refine (F2 _).mono ?_; rintro x w5 ⟨v5, rfl, q5, b5⟩; have q4' := q4.grow b5; have R5 := R4.below b5 R4.lt; have p5 := bel' p4 b5)
          | (go_at_call 37; refine (F1 _).mono ?_; rintro x w4 ⟨v4, rfl, q4, b4⟩; have R4 := R3.below b4 R3.lt; have p4 := bel' p3 b4)
          | (go_at_call 47; refine (AD _ _ _ q4' q5).mono ?_; rintro x w6 ⟨v6, rfl, q6, b6⟩; have R6 := R5.below b6 R5.lt; have p6 := bel' p5 b6)
          | (go_at_call 44; refine (OU _ _ q6).mono ?_; rintro x w7 ⟨rfl, b7⟩; have R7 := R6.below b7 R6.lt; have p7 := bel' p6 b7; have rr70 := R7.at 0; have rr71 := R7.at 1; have rf70 := R7.free 0; have rf71 := R7.free 1; simp at rr70 rr71)
          | fail)
        have KE := dput (dput R7 0 (.string s)) 1 (.string t)
        have bE := (p7.setCell (p := ⟨w.heap.size + 1 + 1, 0, none⟩) (show w.heap.size ≤ w.heap.size + 1 + 1 by omega) (.string s)).setCell (p := ⟨w.heap.size + 1 + 1, 1, none⟩) (show w.heap.size ≤ w.heap.size + 1 + 1 by omega) (.string t)
        generalize (w7.setCell ⟨w.heap.size + 1 + 1, 0, none⟩ (.string s)).setCell ⟨w.heap.size + 1 + 1, 1, none⟩ (.string t) = WE at *
        have z0 := KE.at 0
        have z1 := KE.at 1
        simp at z0 z1
        exact bodyPost_ret (v := .tuple #[.agg #[.string s, .string t], .int .i64 0]) (by simp [results, Tryz.results15, go_sem, z0, z1]) rfl ⟨rfl, bE⟩
end Go.Proofs.YtidcjdncfmncfaaGreatDoor.Dy

namespace Go.Proofs.YtidcjdncfmncfaaGreatDoor.Dy
open Go.RowKit Tn Mo

/-- How far the years are counted: what lies in leap years so far, and in the others. -/
def Jy (y m d u v e : Int) (yy l p : Int) : Prop :=
  (yy = y ∧ l = 0 ∧ p = 0) ∨ (y < yy ∧ yy ≤ u ∧ l = 366 * lv yy - la y m d ∧ l + p = hd yy + 1 - num y m d) ∨ (yy = u + 1 ∧ l = la u v e - la y m d ∧ l + p = num u v e - num y m d)
theorem lv_succ (y : Int) : lv (y + 1) = lv y + (if lp y then 1 else 0) := by
  unfold lv lp
  by_cases h4 : y % 4 = 0 <;> by_cases h1 : y % 100 = 0 <;> by_cases h0 : y % 400 = 0 <;> simp [h4, h1, h0] <;> omega
theorem la_eq {y m d : Int} : la y m d = 366 * lv y + (if lp y then num y m d - hd y - 1 else 0) := by
  unfold la num
  split <;> omega
theorem num_year {y m d : Int} (g : good y m d = true) : hd y + 1 ≤ num y m d ∧ num y m d ≤ hd (y + 1) := by
  obtain ⟨g1, g2, g3, g4, g5, g6⟩ := good_iff.1 g
  have cb := cu_bd (lp y) g3 g4
  rw [hd_succ]
  unfold num
  omega
theorem lv_le {y z : Int} (h : y ≤ z) : lv y ≤ lv z := by
  have : ∀ n : Nat, lv y ≤ lv (y + n) := fun n => by
    induction n with
    | zero => simp
    | succ n ih =>
      have e : y + ((n + 1 : Nat) : Int) = (y + n) + 1 := by omega
      rw [e, lv_succ]
      split <;> omega
  have := this (z - y).toNat
  rwa [show y + ((z - y).toNat : Int) = z by omega] at this
/-- Days in other years, from one year's beginning to another's. -/
theorem hd_lv (y : Int) : 0 ≤ y - 1 → 366 * lv y ≤ hd y := by
  intro h
  unfold hd lv
  omega
theorem plain_step (y : Int) : hd (y + 1) - 366 * lv (y + 1) = hd y - 366 * lv y + (if lp y then 0 else 365) := by
  rw [hd_succ, lv_succ]
  unfold sz
  split <;> omega
theorem plain_le {y z : Int} (h : y ≤ z) : hd y - 366 * lv y ≤ hd z - 366 * lv z := by
  have : ∀ n : Nat, hd y - 366 * lv y ≤ hd (y + n) - 366 * lv (y + n) := fun n => by
    induction n with
    | zero => simp
    | succ n ih =>
      have e : y + ((n + 1 : Nat) : Int) = (y + n) + 1 := by omega
      rw [e, plain_step]
      split <;> omega
  have := this (z - y).toNat
  rwa [show y + ((z - y).toNat : Int) = z by omega] at this
theorem Jy_step {y m d u v e : Int} (g1 : good y m d = true) (g2 : good u v e = true) (hn : num y m d ≤ num u v e) (yy l p : Int) (h : Jy y m d u v e yy l p) (hu : yy ≤ u) :
    Jy y m d u v e (yy + 1) (if lp yy then l + (min (num u v e) (hd (yy + 1) + 1) - max (num y m d) (hd yy + 1)) else l) (if lp yy then p else p + (min (num u v e) (hd (yy + 1) + 1) - max (num y m d) (hd yy + 1))) := by
  obtain ⟨a1, a2⟩ := num_year g1
  obtain ⟨b1, b2⟩ := num_year g2
  have eA := la_eq (y := y) (m := m) (d := d)
  have eB := la_eq (y := u) (m := v) (d := e)
  have yu : y ≤ u := by
    by_cases c : y ≤ u
    · exact c
    · have := hd_le (show u + 1 ≤ y by omega); omega
  have s1 := hd_succ yy
  have s2 := lv_succ yy
  have h1 : yy < u → hd (yy + 1) ≤ hd u := fun c => hd_le (by omega)
  have h2 : y < yy → hd (y + 1) ≤ hd yy := fun c => hd_le (by omega)
  have key : ∀ f t : Int, max (num y m d) (hd yy + 1) = f → min (num u v e) (hd (yy + 1) + 1) = t → Jy y m d u v e (yy + 1) (if lp yy then l + (t - f) else l) (if lp yy then p else p + (t - f)) := by
    intro f t hf ht
    by_cases c : yy = u
    · right; right
      subst c
      refine ⟨rfl, ?_, ?_⟩
      · rcases h with ⟨rfl, rfl, rfl⟩ | ⟨c1, c2, c3, c4⟩ | ⟨c1, _⟩
        · rw [eA, eB]; split <;> omega
        · rw [eB]; split <;> omega
        · omega
      · rcases h with ⟨rfl, rfl, rfl⟩ | ⟨c1, c2, c3, c4⟩ | ⟨c1, _⟩
        · split <;> omega
        · split <;> omega
        · omega
    · right; left
      have hh := h1 (by omega)
      unfold sz at s1
      refine ⟨?_, by omega, ?_, ?_⟩
      · rcases h with ⟨rfl, _⟩ | ⟨c1, _⟩ | ⟨c1, _⟩ <;> omega
      · rcases h with ⟨rfl, rfl, rfl⟩ | ⟨c1, c2, c3, c4⟩ | ⟨c1, _⟩
        · rw [eA]; split at s2 <;> simp_all <;> omega
        · split at s2 <;> simp_all <;> omega
        · omega
      · rcases h with ⟨rfl, rfl, rfl⟩ | ⟨c1, c2, c3, c4⟩ | ⟨c1, _⟩
        · split <;> omega
        · split <;> omega
        · omega
  exact key _ _ rfl rfl
end Go.Proofs.YtidcjdncfmncfaaGreatDoor.Dy
