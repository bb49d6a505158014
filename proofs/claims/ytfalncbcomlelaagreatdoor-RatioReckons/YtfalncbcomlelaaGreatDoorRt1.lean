import Derived.Test.YtfalncbcomlelaaGreatDoorPg4
import Derived.Test.YtfalncbcomlelaaGreatDoorSa2
import Derived.Test.YtfalncbcomlelaaGreatDoorRbs
namespace Go.Proofs.YtfalncbcomlelaaGreatDoor.Mo
open Go.RowKit Fu Tn Go.Lib Dc

structure RT7 (W x : World) (V0 : Value) (V1 : Value) (y0 y1 : Bool) (t30 t31 : Value) : Prop where
  bel : Below W.heap.size W x
  o0 : y0 = true → t30 = V0
  o1 : y1 = true → t31 = V1
theorem RT7.grow {W x x' : World} {V0 : Value} {V1 : Value} {y0 y1 : Bool} {t30 t31 : Value} (h : RT7 W x V0 V1 y0 y1 t30 t31) (b : Below x.heap.size x x') : RT7 W x' V0 V1 y0 y1 t30 t31 where
  bel := bel' h.bel b
  o0 := h.o0
  o1 := h.o1
/-- A fraction and no error. -/
def TR (g : Bool) (N D : Int) (t : Value) (x : World) : Prop := ∃ (a : Option Addr × Option Addr) (l c : Nat × Nat), t = .tuple #[.agg #[.bool g, .slice a.1 l.1 c.1, .slice a.2 l.2 c.2], .int .i64 0] ∧ (Nn x a.1 l.1 c.1 N ∧ Nn x a.2 l.2 c.2 D)
def UR (g : Bool) (N D : Int) (t : Value) (x : World) : Prop := ∃ (a : Option Addr × Option Addr) (l c : Nat × Nat), t = .agg #[.bool g, .slice a.1 l.1 c.1, .slice a.2 l.2 c.2] ∧ (Nn x a.1 l.1 c.1 N ∧ Nn x a.2 l.2 c.2 D)
theorem TR.grow {g : Bool} {N D : Int} {t : Value} {x x' : World} (h : TR g N D t x) (b : Below x.heap.size x x') : TR g N D t x' := by
  obtain ⟨a, l, c, e, h⟩ := h
  exact ⟨a, l, c, e, h.1.grow b, h.2.grow b⟩
theorem UR.grow {g : Bool} {N D : Int} {t : Value} {x x' : World} (h : UR g N D t x) (b : Below x.heap.size x x') : UR g N D t x' := by
  obtain ⟨a, l, c, e, h⟩ := h
  exact ⟨a, l, c, e, h.1.grow b, h.2.grow b⟩
set_option maxHeartbeats 8000000 in
set_option maxRecDepth 100000 in
theorem readTwo_raw (s1 t1 s2 t2 : ByteArray) (g1 g2 : Bool) (O1 D1 O2 D2 : Int) (w : World) (C1' : ∀ x, Below w.heap.size w x → Calls Tryz.prog 23 #[.agg #[.string s1, .string t1]] x fun e w' => ∃ (a : Option Addr × Option Addr) (l c : Nat × Nat), e = .returned (.tuple #[.agg #[.bool g1, .slice a.1 l.1 c.1, .slice a.2 l.2 c.2], .int .i64 0]) ∧ (Nn w' a.1 l.1 c.1 O1 ∧ Nn w' a.2 l.2 c.2 D1) ∧ Below x.heap.size x w') (C2' : ∀ x, Below w.heap.size w x → Calls Tryz.prog 23 #[.agg #[.string s2, .string t2]] x fun e w' => ∃ (a : Option Addr × Option Addr) (l c : Nat × Nat), e = .returned (.tuple #[.agg #[.bool g2, .slice a.1 l.1 c.1, .slice a.2 l.2 c.2], .int .i64 0]) ∧ (Nn w' a.1 l.1 c.1 O2 ∧ Nn w' a.2 l.2 c.2 D2) ∧ Below x.heap.size x w') :
    Calls Tryz.prog 39 #[.agg #[.string s1, .string t1], .agg #[.string s2, .string t2]] w fun e w' => ∃ (pa : Option Addr × Option Addr) (pl pc : Nat × Nat) (qa : Option Addr × Option Addr) (ql qc : Nat × Nat), e = .returned (.tuple #[.agg #[.bool g1, .slice pa.1 pl.1 pc.1, .slice pa.2 pl.2 pc.2], .agg #[.bool g2, .slice qa.1 ql.1 qc.1, .slice qa.2 ql.2 qc.2], .int .i64 0]) ∧ (Nn w' pa.1 pl.1 pc.1 O1 ∧ Nn w' pa.2 pl.2 pc.2 D1) ∧ (Nn w' qa.1 ql.1 qc.1 O2 ∧ Nn w' qa.2 ql.2 qc.2 D2) ∧ Below w.heap.size w w' := by
  have KA := Blk.new w #[.string s1, .string t1] 23
  have KB := Blk.new (w.alloc (.cells #[.string s1, .string t1] 23)) #[.string s2, .string t2] 23
  have KR := (Rb.new ((w.alloc (.cells #[.string s1, .string t1] 23)).alloc (.cells #[.string s2, .string t2] 23)) (.bool false) (.slice none 0 0) (.slice none 0 0) 58).alloc (.cells #[.bool false, .slice none 0 0, .slice none 0 0] 58)
  have KT := Rb.new (((w.alloc (.cells #[.string s1, .string t1] 23)).alloc (.cells #[.string s2, .string t2] 23)).alloc (.cells #[.bool false, .slice none 0 0, .slice none 0 0] 58)) (.bool false) (.slice none 0 0) (.slice none 0 0) 58
  have pr : Below w.heap.size w ((((w.alloc (.cells #[.string s1, .string t1] 23)).alloc (.cells #[.string s2, .string t2] 23)).alloc (.cells #[.bool false, .slice none 0 0, .slice none 0 0] 58)).alloc (.cells #[.bool false, .slice none 0 0, .slice none 0 0] 58)) := ((((Below.refl _ _).alloc (Nat.le_refl _) _).alloc (by simp) _).alloc (by simp; omega) _).alloc (by simp; omega) _
  have KA := ((KA.below ((Below.refl _ _).alloc (Nat.le_refl _) (.cells #[.string s2, .string t2] 23)) KA.lt).below ((Below.refl _ _).alloc (Nat.le_refl _) (.cells #[.bool false, .slice none 0 0, .slice none 0 0] 58)) (by simp; try omega)).below ((Below.refl _ _).alloc (Nat.le_refl _) (.cells #[.bool false, .slice none 0 0, .slice none 0 0] 58)) (by simp; try omega)
  have KB := (KB.below ((Below.refl _ _).alloc (Nat.le_refl _) (.cells #[.bool false, .slice none 0 0, .slice none 0 0] 58)) KB.lt).below ((Below.refl _ _).alloc (Nat.le_refl _) (.cells #[.bool false, .slice none 0 0, .slice none 0 0] 58)) (by simp; try omega)
  simp only [World.size_alloc] at KB KR KT
  go_enter Tryz.func39, Tryz.ntmps39
  go_wp2_with fail
  have kb0 := KB.at 0
  have kb1 := KB.at 1
  have ka0 := KA.at 0
  have ka1 := KA.at 1
  simp at kb0 kb1 ka0 ka1
  generalize ((((w.alloc (.cells #[.string s1, .string t1] 23)).alloc (.cells #[.string s2, .string t2] 23)).alloc (.cells #[.bool false, .slice none 0 0, .slice none 0 0] 58)).alloc (.cells #[.bool false, .slice none 0 0, .slice none 0 0] 58)) = W at *
  have sz := pr.size
  refine (C1' _ pr).mono ?_
  rintro e w1 ⟨ya, yl, yc, rfl, hy, b1⟩
  have KY := Rb.new w1 (.bool g1) (.slice ya.1 yl.1 yc.1) (.slice ya.2 yl.2 yc.2) 58
  have q1 := b1.alloc b1.size (.cells #[.bool g1, .slice ya.1 yl.1 yc.1, .slice ya.2 yl.2 yc.2] 58)
  have p1 := bel' pr q1
  have KB1 := KB.below q1 KB.lt
  have kc0 := KB1.at 0
  have kc1 := KB1.at 1
  simp at kc0 kc1
  go_wp2_with (first
    | (go_at_call 23; refine (C2' _ p1).mono ?_; rintro e w2 ⟨va, vl, vc, rfl, hv, b2⟩; have KV := Rb.new w2 (.bool g2) (.slice va.1 vl.1 vc.1) (.slice va.2 vl.2 vc.2) 58; have q2 := b2.alloc b2.size (.cells #[.bool g2, .slice va.1 vl.1 vc.1, .slice va.2 vl.2 vc.2] 58); have p2 := bel' p1 q2; have KY2 := KY.grow q2; have KR2 := (KR.grow q1).grow q2; have KT2 := (KT.grow q1).grow q2; have y0 := KY2.c0; have y1 := KY2.c1; have y2 := KY2.c2; have v0 := KV.c0; have v1 := KV.c1; have v2 := KV.c2; have z0 := KR2.c0; have z1 := KR2.c1; have z2 := KR2.c2; have zf0 := KR2.f0; have zf1 := KR2.f1; have zf2 := KR2.f2)
    | fail)
  have hy2 : Nn (w2.alloc (.cells #[.bool g2, .slice va.1 vl.1 vc.1, .slice va.2 vl.2 vc.2] 58)) ya.1 yl.1 yc.1 O1 ∧ Nn (w2.alloc (.cells #[.bool g2, .slice va.1 vl.1 vc.1, .slice va.2 vl.2 vc.2] 58)) ya.2 yl.2 yc.2 D1 := by
    have al := (Below.refl w1.heap.size w1).alloc (Nat.le_refl _) (.cells #[.bool g1, .slice ya.1 yl.1 yc.1, .slice ya.2 yl.2 yc.2] 58)
    exact ⟨(hy.1.grow al).grow q2, (hy.2.grow al).grow q2⟩
  have hv2 : Nn (w2.alloc (.cells #[.bool g2, .slice va.1 vl.1 vc.1, .slice va.2 vl.2 vc.2] 58)) va.1 vl.1 vc.1 O2 ∧ Nn (w2.alloc (.cells #[.bool g2, .slice va.1 vl.1 vc.1, .slice va.2 vl.2 vc.2] 58)) va.2 vl.2 vc.2 D2 := by
    have al := (Below.refl w2.heap.size w2).alloc (Nat.le_refl _) (.cells #[.bool g2, .slice va.1 vl.1 vc.1, .slice va.2 vl.2 vc.2] 58)
    exact ⟨hv.1.grow al, hv.2.grow al⟩
  have lt : w.heap.size + 1 + 1 + 1 < W.heap.size := L.lt_of_cell KT.c0
  have sz2 := q1.size
  have sz3 := b2.size
  have sz4 := b1.size
  have ne1 : w2.heap.size ≠ w.heap.size + 1 + 1 := by omega
  have ne2 : w.heap.size + 1 + 1 + 1 ≠ w.heap.size + 1 + 1 := by omega
  generalize w2.alloc (.cells #[.bool g2, .slice va.1 vl.1 vc.1, .slice va.2 vl.2 vc.2] 58) = WD at *
  clear KA KB KR KT KY kb0 kb1 ka0 ka1 KB1 kc0 kc1 hy hv C1' C2' b1 b2 q1 q2 p1 pr y0 y1 y2 v0 v1 v2 z0 z1 z2 zf0 zf1 zf2
  refine Code.wp_mono (Q := fun ex a x => ex = .normal ∧ (fun a x => ∃ t30 t31, a = ⟨#[.agg #[.string s1, .string t1], .agg #[.string s2, .string t2], .pointer (some ⟨w.heap.size, 0, none⟩), .pointer (some ⟨w.heap.size + 1, 0, none⟩), .pointer (some ⟨w.heap.size + 1 + 1, 0, none⟩), .pointer (some ⟨w.heap.size + 1 + 1 + 1, 0, none⟩), .int .i64 0, .pointer (some ⟨w1.heap.size, 0, none⟩), .int .i64 0, .pointer (some ⟨w2.heap.size, 0, none⟩), .tuple #[.agg #[.bool g1, .slice ya.1 yl.1 yc.1, .slice ya.2 yl.2 yc.2], .int .i64 0], .agg #[.string s1, .string t1], .tuple #[.agg #[.bool g1, .slice ya.1 yl.1 yc.1, .slice ya.2 yl.2 yc.2], .int .i64 0], .agg #[.bool g1, .slice ya.1 yl.1 yc.1, .slice ya.2 yl.2 yc.2], .int .i64 0, .int .i64 0, .bool false, undef, undef, undef, .tuple #[.agg #[.bool g2, .slice va.1 vl.1 vc.1, .slice va.2 vl.2 vc.2], .int .i64 0], .agg #[.string s2, .string t2], .tuple #[.agg #[.bool g2, .slice va.1 vl.1 vc.1, .slice va.2 vl.2 vc.2], .int .i64 0], .agg #[.bool g2, .slice va.1 vl.1 vc.1, .slice va.2 vl.2 vc.2], .int .i64 0, .int .i64 0, .bool false, undef, undef, undef, t30, t31], []⟩ ∧ (∃ x0, Below WD.heap.size WD x0 ∧ x = ((((((x0.setCell ⟨w.heap.size + 1 + 1, 0, none⟩ (.bool g1)).setCell ⟨w.heap.size + 1 + 1, 1, none⟩ (.slice ya.1 yl.1 yc.1)).setCell ⟨w.heap.size + 1 + 1, 2, none⟩ (.slice ya.2 yl.2 yc.2)).setCell ⟨w.heap.size + 1 + 1 + 1, 0, none⟩ (.bool g2)).setCell ⟨w.heap.size + 1 + 1 + 1, 1, none⟩ (.slice va.1 vl.1 vc.1)).setCell ⟨w.heap.size + 1 + 1 + 1, 2, none⟩ (.slice va.2 vl.2 vc.2)))) a x) ?_ ?_
  rotate_left
  · refine wp_region_held (S := fun _ => True) (by kernel_rfl) (any_inv (fun listed a x => ∃ (y0 y1 : Bool) (t30 t31 : Value) (z6 : Value), a = ⟨#[.agg #[.string s1, .string t1], .agg #[.string s2, .string t2], .pointer (some ⟨w.heap.size, 0, none⟩), .pointer (some ⟨w.heap.size + 1, 0, none⟩), .pointer (some ⟨w.heap.size + 1 + 1, 0, none⟩), .pointer (some ⟨w.heap.size + 1 + 1 + 1, 0, none⟩), z6, .pointer (some ⟨w1.heap.size, 0, none⟩), .int .i64 0, .pointer (some ⟨w2.heap.size, 0, none⟩), .tuple #[.agg #[.bool g1, .slice ya.1 yl.1 yc.1, .slice ya.2 yl.2 yc.2], .int .i64 0], .agg #[.string s1, .string t1], .tuple #[.agg #[.bool g1, .slice ya.1 yl.1 yc.1, .slice ya.2 yl.2 yc.2], .int .i64 0], .agg #[.bool g1, .slice ya.1 yl.1 yc.1, .slice ya.2 yl.2 yc.2], .int .i64 0, .int .i64 0, .bool false, undef, undef, undef, .tuple #[.agg #[.bool g2, .slice va.1 vl.1 vc.1, .slice va.2 vl.2 vc.2], .int .i64 0], .agg #[.string s2, .string t2], .tuple #[.agg #[.bool g2, .slice va.1 vl.1 vc.1, .slice va.2 vl.2 vc.2], .int .i64 0], .agg #[.bool g2, .slice va.1 vl.1 vc.1, .slice va.2 vl.2 vc.2], .int .i64 0, .int .i64 0, .bool false, undef, undef, undef, t30, t31], []⟩ ∧ ((listed = #[y0, y1, false, false, false] ∧ RT7 WD x (.agg #[.bool g1, .slice ya.1 yl.1 yc.1, .slice ya.2 yl.2 yc.2]) (.agg #[.bool g2, .slice va.1 vl.1 vc.1, .slice va.2 vl.2 vc.2]) y0 y1 t30 t31 ∧ z6 = .int .i64 0) ∨ (listed = #[true, y1, true, false, false] ∧ (y1 = true → t31 = .agg #[.bool g2, .slice va.1 vl.1 vc.1, .slice va.2 vl.2 vc.2]) ∧ ∃ x0, Below WD.heap.size WD x0 ∧ x = (((x0.setCell ⟨w.heap.size + 1 + 1, 0, none⟩ (.bool g1)).setCell ⟨w.heap.size + 1 + 1, 1, none⟩ (.slice ya.1 yl.1 yc.1)).setCell ⟨w.heap.size + 1 + 1, 2, none⟩ (.slice ya.2 yl.2 yc.2))) ∨ (listed = #[true, true, true, true, false] ∧ ∃ x0, Below WD.heap.size WD x0 ∧ x = ((((((x0.setCell ⟨w.heap.size + 1 + 1, 0, none⟩ (.bool g1)).setCell ⟨w.heap.size + 1 + 1, 1, none⟩ (.slice ya.1 yl.1 yc.1)).setCell ⟨w.heap.size + 1 + 1, 2, none⟩ (.slice ya.2 yl.2 yc.2)).setCell ⟨w.heap.size + 1 + 1 + 1, 0, none⟩ (.bool g2)).setCell ⟨w.heap.size + 1 + 1 + 1, 1, none⟩ (.slice va.1 vl.1 vc.1)).setCell ⟨w.heap.size + 1 + 1 + 1, 2, none⟩ (.slice va.2 vl.2 vc.2))) ∨ (listed = #[true, true, true, true, true] ∧ (∃ x0, Below WD.heap.size WD x0 ∧ x = ((((((x0.setCell ⟨w.heap.size + 1 + 1, 0, none⟩ (.bool g1)).setCell ⟨w.heap.size + 1 + 1, 1, none⟩ (.slice ya.1 yl.1 yc.1)).setCell ⟨w.heap.size + 1 + 1, 2, none⟩ (.slice ya.2 yl.2 yc.2)).setCell ⟨w.heap.size + 1 + 1 + 1, 0, none⟩ (.bool g2)).setCell ⟨w.heap.size + 1 + 1 + 1, 1, none⟩ (.slice va.1 vl.1 vc.1)).setCell ⟨w.heap.size + 1 + 1 + 1, 2, none⟩ (.slice va.2 vl.2 vc.2))) ∧ z6 = .int .i64 0))) ?_ ?_ _ _ _ _ (by decide) ?_)
    · rintro listed a x i ⟨y0, y1, t30, t31, z6, rfl, h⟩ hi
      have hr : i < 5 := List.mem_range.1 (List.mem_filter.1 hi).1
      have hc := (List.mem_filter.1 hi).2
      rcases h with ⟨rfl, h⟩ | ⟨rfl, h⟩ | ⟨rfl, h⟩ | ⟨rfl, h⟩
      · rcases (show i = 0 ∨ i = 1 ∨ i = 2 ∨ i = 3 ∨ i = 4 by omega) with rfl | rfl | rfl | rfl | rfl
        · obtain ⟨h, rfl⟩ := h
          clear hc hi
          have ky0 := (KY2.grow h.bel).c0
          have ky1 := (KY2.grow h.bel).c1
          have ky2 := (KY2.grow h.bel).c2
          refine wpOp_step rfl (fun K hK0 => ?_)
          have hK : Hid _ := hK0
          clear hK0
          rw [if_pos (by rfl)]
          go_wp2_with fail
          exact hK.out _ _ ⟨true, y1, .agg #[.bool g1, .slice ya.1 yl.1 yc.1, .slice ya.2 yl.2 yc.2], t31, .int .i64 0, rfl, Or.inl ⟨rfl, ⟨{ h with o0 := fun _ => rfl }, rfl⟩⟩⟩
        · obtain ⟨h, rfl⟩ := h
          clear hc hi
          have kv0 := (KV.grow h.bel).c0
          have kv1 := (KV.grow h.bel).c1
          have kv2 := (KV.grow h.bel).c2
          refine wpOp_step rfl (fun K hK0 => ?_)
          have hK : Hid _ := hK0
          clear hK0
          rw [if_pos (by rfl)]
          go_wp2_with fail
          exact hK.out _ _ ⟨y0, true, t30, .agg #[.bool g2, .slice va.1 vl.1 vc.1, .slice va.2 vl.2 vc.2], .int .i64 0, rfl, Or.inl ⟨rfl, ⟨{ h with o1 := fun _ => rfl }, rfl⟩⟩⟩
        · obtain ⟨h, rfl⟩ := h
          have e0 : y0 = true := by
            revert hc
            cases y0 <;> simp [Region.binds]
          have r0 := h.o0 e0
          subst r0
          have hl1 := h.o1
          clear hc hi
          subst e0
          have bl := h.bel
          have kr0 := (KR2.grow bl).c0
          have kr1 := (KR2.grow bl).c1
          have kr2 := (KR2.grow bl).c2
          have kr3 := (KR2.grow bl).f0
          have kr4 := (KR2.grow bl).f1
          have kr5 := (KR2.grow bl).f2
          clear h
          refine wpOp_step rfl (fun K hK0 => ?_)
          have hK : Hid _ := hK0
          clear hK0
          rw [if_pos (by rfl)]
          go_wp2_with fail
          exact hK.out _ _ ⟨true, y1, _, t31, _, rfl, Or.inr (Or.inl ⟨rfl, hl1, x, bl, rfl⟩)⟩
        · simp [Region.binds] at hc
        · simp [Region.binds] at hc
      · rcases (show i = 0 ∨ i = 1 ∨ i = 2 ∨ i = 3 ∨ i = 4 by omega) with rfl | rfl | rfl | rfl | rfl
        · simp at hc
        · clear hc hi
          obtain ⟨hl1, h⟩ := h
          obtain ⟨x0, bl, rfl⟩ := h
          have kq0 := ((KV.grow bl).skip3 ne1 (.bool g1) (.slice ya.1 yl.1 yc.1) (.slice ya.2 yl.2 yc.2)).c0
          have kq1 := ((KV.grow bl).skip3 ne1 (.bool g1) (.slice ya.1 yl.1 yc.1) (.slice ya.2 yl.2 yc.2)).c1
          have kq2 := ((KV.grow bl).skip3 ne1 (.bool g1) (.slice ya.1 yl.1 yc.1) (.slice ya.2 yl.2 yc.2)).c2
          refine wpOp_step rfl (fun K hK0 => ?_)
          have hK : Hid _ := hK0
          clear hK0
          rw [if_pos (by rfl)]
          go_wp2_with fail
          exact hK.out _ _ ⟨true, true, _, _, _, rfl, Or.inr (Or.inl ⟨rfl, fun _ => rfl, x0, bl, rfl⟩)⟩
        · simp at hc
        · have e1 : y1 = true := by
            revert hc
            cases y1 <;> simp [Region.binds]
          obtain ⟨hl1, h⟩ := h
          have r1 := hl1 e1
          clear hl1
          subst e1 r1
          clear hc hi
          obtain ⟨x0, bl, rfl⟩ := h
          have kt0 := ((KT2.grow bl).skip3 ne2 (.bool g1) (.slice ya.1 yl.1 yc.1) (.slice ya.2 yl.2 yc.2)).c0
          have kt1 := ((KT2.grow bl).skip3 ne2 (.bool g1) (.slice ya.1 yl.1 yc.1) (.slice ya.2 yl.2 yc.2)).c1
          have kt2 := ((KT2.grow bl).skip3 ne2 (.bool g1) (.slice ya.1 yl.1 yc.1) (.slice ya.2 yl.2 yc.2)).c2
          have kt3 := ((KT2.grow bl).skip3 ne2 (.bool g1) (.slice ya.1 yl.1 yc.1) (.slice ya.2 yl.2 yc.2)).f0
          have kt4 := ((KT2.grow bl).skip3 ne2 (.bool g1) (.slice ya.1 yl.1 yc.1) (.slice ya.2 yl.2 yc.2)).f1
          have kt5 := ((KT2.grow bl).skip3 ne2 (.bool g1) (.slice ya.1 yl.1 yc.1) (.slice ya.2 yl.2 yc.2)).f2
          refine wpOp_step rfl (fun K hK0 => ?_)
          have hK : Hid _ := hK0
          clear hK0
          rw [if_pos (by rfl)]
          go_wp2_with fail
          exact hK.out _ _ ⟨true, true, _, _, _, rfl, Or.inr (Or.inr (Or.inl ⟨rfl, x0, bl, rfl⟩))⟩
        · simp [Region.binds] at hc
      · rcases (show i = 0 ∨ i = 1 ∨ i = 2 ∨ i = 3 ∨ i = 4 by omega) with rfl | rfl | rfl | rfl | rfl
        · simp at hc
        · simp at hc
        · simp at hc
        · simp at hc
        · clear hc hi
          obtain ⟨x0, bl, rfl⟩ := h
          refine wpOp_step rfl (fun K hK0 => ?_)
          have hK : Hid _ := hK0
          clear hK0
          rw [if_pos (by rfl)]
          go_wp2_with fail
          exact hK.out _ _ ⟨true, true, _, _, _, rfl, Or.inr (Or.inr (Or.inr (⟨rfl, ⟨x0, bl, rfl⟩, rfl⟩)))⟩
      · rcases (show i = 0 ∨ i = 1 ∨ i = 2 ∨ i = 3 ∨ i = 4 by omega) with rfl | rfl | rfl | rfl | rfl <;> simp at hc
    · rintro listed a x ⟨y0, y1, t30, t31, z6, rfl, h⟩ hn
      have al := all_listed2 (by decide +kernel) hn
      rcases h with ⟨rfl, h⟩ | ⟨rfl, h⟩ | ⟨rfl, h⟩ | ⟨rfl, h⟩
      · have z := al 2 (by decide)
        simp at z
      · have z := al 3 (by decide)
        simp at z
      · have z := al 4 (by decide)
        simp at z
      · obtain ⟨⟨x0, bl, rfl⟩, rfl⟩ := h
        refine ⟨rfl, ?_⟩
        exact ⟨_, _, rfl, x0, bl, rfl⟩
    · exact ⟨false, false, undef, undef, .int .i64 0, rfl, Or.inl ⟨rfl, ⟨{ bel := (Below.refl _ _).drew, o0 := (by intro q; cases q), o1 := (by intro q; cases q) }, rfl⟩⟩⟩
  · rintro _ a x ⟨rfl, t30, t31, rfl, x0, bl, rfl⟩
    have KR3 := KR2.grow bl
    have KT3 := (KT2.grow bl).skip3 ne2 (.bool g1) (.slice ya.1 yl.1 yc.1) (.slice ya.2 yl.2 yc.2)
    have RS := KR3.sets (.bool g1) (.slice ya.1 yl.1 yc.1) (.slice ya.2 yl.2 yc.2)
    have p3 := bset3 (n := w.heap.size + 1 + 1 + 1) (x := .bool g2) (y := .slice va.1 vl.1 vc.1) (z := .slice va.2 vl.2 vc.2) (bset3 (n := w.heap.size + 1 + 1) (x := .bool g1) (y := .slice ya.1 yl.1 yc.1) (z := .slice ya.2 yl.2 yc.2) (bel' p2 bl) (by omega)) (by omega)
    have e1 := ((hy2.1.grow bl).putF (x := .bool g1) (y := .slice ya.1 yl.1 yc.1) (z := .slice ya.2 yl.2 yc.2) KR3).putF (x := .bool g2) (y := .slice va.1 vl.1 vc.1) (z := .slice va.2 vl.2 vc.2) KT3
    have e2 := ((hy2.2.grow bl).putF (x := .bool g1) (y := .slice ya.1 yl.1 yc.1) (z := .slice ya.2 yl.2 yc.2) KR3).putF (x := .bool g2) (y := .slice va.1 vl.1 vc.1) (z := .slice va.2 vl.2 vc.2) KT3
    have e3 := ((hv2.1.grow bl).putF (x := .bool g1) (y := .slice ya.1 yl.1 yc.1) (z := .slice ya.2 yl.2 yc.2) KR3).putF (x := .bool g2) (y := .slice va.1 vl.1 vc.1) (z := .slice va.2 vl.2 vc.2) KT3
    have e4 := ((hv2.2.grow bl).putF (x := .bool g1) (y := .slice ya.1 yl.1 yc.1) (z := .slice ya.2 yl.2 yc.2) KR3).putF (x := .bool g2) (y := .slice va.1 vl.1 vc.1) (z := .slice va.2 vl.2 vc.2) KT3
    have R9 := RS.skip3 (Ne.symm ne2) (.bool g2) (.slice va.1 vl.1 vc.1) (.slice va.2 vl.2 vc.2)
    have T9 := KT3.sets (.bool g2) (.slice va.1 vl.1 vc.1) (.slice va.2 vl.2 vc.2)
    have z9 := R9.c0
    have z8 := R9.c1
    have z7 := R9.c2
    have z6 := T9.c0
    have z5 := T9.c1
    have z4 := T9.c2
    go_wp2
    exact bodyPost_ret (v := .tuple #[.agg #[.bool g1, .slice ya.1 yl.1 yc.1, .slice ya.2 yl.2 yc.2], .agg #[.bool g2, .slice va.1 vl.1 vc.1, .slice va.2 vl.2 vc.2], .int .i64 0]) (by simp [results, Tryz.results39, go_sem, z9, z8, z7, z6, z5, z4]) rfl ⟨_, _, _, _, _, _, rfl, ⟨e1, e2⟩, ⟨e3, e4⟩, p3⟩
end Go.Proofs.YtfalncbcomlelaaGreatDoor.Mo
