import Derived.Test.YtebilgnmnambnaaGreatDoorPart10
import Derived.Test.YtebilgnmnambnaaGreatDoorPart11
import Derived.Test.YtebilgnmnambnaaGreatDoorPart06
import Derived.Deep.DeepCutAuto
import Derived.Test.YtebilgnmnambnaaGreatDoorPart01
import Derived.Test.YtebilgnmnambnaaGreatDoorPart02

namespace Go.Proofs.YtebilgnmnambnaaGreatDoor.L
open Go.RowKit Tl Go.Lib
def sgn (r : Rat) : Int := if r.num = 0 then 0 else if r.num < 0 then -1 else 1
set_option maxRecDepth 100000 in
set_option maxHeartbeats 800000 in
theorem Sign_q (v : Value) (r : Rat) (w : World) (h : IsQ w v r) :
    Calls Tryz.prog 53 #[v] w fun e w' => e = .returned (.int .i64 (sgn r)) ∧ Below w.heap.size w w' := by
  obtain ⟨ns, ds, a1, a2, c1, c2, rfl, h1, n1, v1, _⟩ := h
  have K0 := Blk.new w #[.bool (decide (r.num < 0)), .slice a1 ns.length c1, .slice a2 ds.length c2] 56
  have pr : Below w.heap.size w (w.alloc (.cells #[.bool (decide (r.num < 0)), .slice a1 ns.length c1, .slice a2 ds.length c2] 56)) := (Below.refl _ _).alloc (Nat.le_refl _) _
  by_cases z : r.num = 0
  · have l0 : ns.length = 0 := by
      by_cases c : 0 < ns.length
      · have := val_pos h1.1 n1 c; omega
      · omega
    have e : sgn r = 0 := by unfold sgn; rw [if_pos z]
    rw [e, l0] at *
    generalize decide (r.num < 0) = g at *
    clear v1 h1 n1 e z
    go_enter Tryz.func53, Tryz.ntmps53
    go_wp2
    go_ret
    exact ⟨rfl, (Below.refl _ _).alloc (Nat.le_refl _) _⟩
  · have l0 : 0 < ns.length := by
      by_cases c : 0 < ns.length
      · exact c
      · have e : ns = [] := List.eq_nil_of_length_eq_zero (by omega)
        rw [e] at v1
        have : val ([] : List Int) = 0 := rfl
        omega
    have hz : ((ns.length : Int) == 0) = false := by rw [beq_eq_false_iff_ne]; omega
    by_cases g : r.num < 0
    · have e : sgn r = -1 := by unfold sgn; rw [if_neg z, if_pos g]
      rw [e, decide_eq_true g] at *
      clear v1 h1 n1 e z g
      go_enter Tryz.func53, Tryz.ntmps53
      go_wp2
      go_ret
      exact ⟨rfl, pr⟩
    · have e : sgn r = 1 := by unfold sgn; rw [if_neg z, if_neg g]
      rw [e, decide_eq_false g] at *
      clear v1 h1 n1 e z g
      go_enter Tryz.func53, Tryz.ntmps53
      go_wp2
      go_ret
      exact ⟨rfl, pr⟩
def wrq (r : Rat) : Value := .agg #[.string (Mo.sB (Mo.sg (decide (r.num < 0)) (decDigits r.num.natAbs))), .string (Mo.sB (decDigits r.den))]
theorem bput {w : World} {n : Nat} {c : Array Value} {t : TypeId} (h : Blk w n c t) (i : Nat) (v : Value) : Blk (w.setCell ⟨n, i, none⟩ v) n (c.setIfInBounds i v) t := by
  have h' : w.heap[n]? = some (.cells c t (0, 0)) := h
  show (w.setCell ⟨n, i, none⟩ v).heap[n]? = _
  simp [World.setCell, Array.getElem?_modify, h']
theorem bel' {w W w1 : World} (pr : Below w.heap.size w W) (b1 : Below W.heap.size W w1) : Below w.heap.size w w1 := pr.trans (b1.mono pr.size)
structure OQ1 (W x : World) (V0 : Value) (V1 : Value) (V2 : Value) (V3 : Value) (V4 : Value) (V5 : Value) (y0 y1 y2 y3 y4 y5 : Bool) (t6 t7 t8 t9 t10 t11 : Value) : Prop where
  bel : Below W.heap.size W x
  o0 : y0 = true → t6 = V0
  o1 : y1 = true → t7 = V1
  o2 : y2 = true → t8 = V2
  o3 : y3 = true → t9 = V3
  o4 : y4 = true → t10 = V4
  o5 : y5 = true → t11 = V5
  d4_3 : y4 = true → y3 = true
  d5_4 : y5 = true → y4 = true
theorem OQ1.grow {W x x' : World} {V0 : Value} {V1 : Value} {V2 : Value} {V3 : Value} {V4 : Value} {V5 : Value} {y0 y1 y2 y3 y4 y5 : Bool} {t6 t7 t8 t9 t10 t11 : Value} (h : OQ1 W x V0 V1 V2 V3 V4 V5 y0 y1 y2 y3 y4 y5 t6 t7 t8 t9 t10 t11) (b : Below x.heap.size x x') : OQ1 W x' V0 V1 V2 V3 V4 V5 y0 y1 y2 y3 y4 y5 t6 t7 t8 t9 t10 t11 where
  bel := bel' h.bel b
  o0 := h.o0
  o1 := h.o1
  o2 := h.o2
  o3 := h.o3
  o4 := h.o4
  o5 := h.o5
  d4_3 := h.d4_3
  d5_4 := h.d5_4
set_option maxRecDepth 100000 in
set_option maxHeartbeats 1600000 in
theorem out_walk (g : Bool) (a1 a2 : Option Addr) (m1 c1 m2 c2 : Nat) (s t u : ByteArray) (S : Int) (w : World) (s1 : s.size ≤ 4096) (s2 : t.size ≤ 4096) (hS : decide (S < 0) = g) (hu : (⟨#[45]⟩ : ByteArray) ++ s = u)
    (T1 : ∀ x, Below w.heap.size w x → Calls Tryz.prog 55 #[.slice a1 m1 c1] x fun e w' => e = .returned (.string s) ∧ Below x.heap.size x w')
    (T2 : ∀ x, Below w.heap.size w x → Calls Tryz.prog 55 #[.slice a2 m2 c2] x fun e w' => e = .returned (.string t) ∧ Below x.heap.size x w')
    (SG : ∀ x, Below w.heap.size w x → Calls Tryz.prog 53 #[.agg #[.bool g, .slice a1 m1 c1, .slice a2 m2 c2]] x fun e w' => e = .returned (.int .i64 S) ∧ Below x.heap.size x w') :
    Calls Tryz.prog 46 #[.agg #[.bool g, .slice a1 m1 c1, .slice a2 m2 c2]] w fun e w' => e = .returned (.tuple #[.agg #[.string (if g then u else s), .string t], .int .i64 0]) ∧ Below w.heap.size w w' := by
  have K0 := (Blk.new w #[.bool g, .slice a1 m1 c1, .slice a2 m2 c2] 56).alloc (.cells #[.string ⟨#[]⟩, .string ⟨#[]⟩] 23)
  have KR := Blk.new (w.alloc (.cells #[.bool g, .slice a1 m1 c1, .slice a2 m2 c2] 56)) #[.string ⟨#[]⟩, .string ⟨#[]⟩] 23
  simp only [World.size_alloc] at KR
  have pr : Below w.heap.size w ((w.alloc (.cells #[.bool g, .slice a1 m1 c1, .slice a2 m2 c2] 56)).alloc (.cells #[.string ⟨#[]⟩, .string ⟨#[]⟩] 23)) := ((Below.refl _ _).alloc (Nat.le_refl _) _).alloc (by simp) _
  have s1' : (s.size : Int) ≤ 4096 := by omega
  have s2' : (t.size : Int) ≤ 4096 := by omega
  have h2 := fun x : World => run_string_add_sum (P := Tryz.prog) x ⟨#[45]⟩ s (by have : (⟨#[45]⟩ : ByteArray).size = 1 := rfl
                                                                                  omega)
  rw [hu] at h2
  clear hu
  go_enter Tryz.func46, Tryz.ntmps46
  cases g
  all_goals
    have hS' : decide (S < 0) = _ := hS
    clear hS
    go_wp2_with fail
  · have SGx := SG
    clear SG
    generalize (w.alloc (.cells #[.bool false, .slice a1 m1 c1, .slice a2 m2 c2] 56)).alloc (.cells #[.string ⟨#[]⟩, .string ⟨#[]⟩] 23) = W at *
    go_cut [4, 5] from 6 to 11 (fun x y wc => x = .string s ∧ y = .string t ∧ Below W.heap.size W wc)
    case first =>
      rename_i hm hJ
      refine wp_region_held (S := fun _ => True) (by kernel_rfl) (any_inv (fun listed a x => ∃ (y0 y1 y2 y3 y4 y5 : Bool) (t6 t7 t8 t9 t10 t11 : Value) (z4 z5 : Value), a = ⟨#[.agg #[.bool false, .slice a1 m1 c1, .slice a2 m2 c2], .pointer (some ⟨w.heap.size, 0, none⟩), .pointer (some ⟨w.heap.size + 1, 0, none⟩), .int .i64 0, z4, z5, t6, t7, t8, t9, t10, t11, undef, undef, undef, undef, undef, undef, undef, undef, undef, undef, undef, undef, undef, undef, undef, undef, undef], []⟩ ∧ ((listed = #[y0, y1, y2, y3, y4, y5, false, false] ∧ OQ1 W x (.pointer (some ⟨w.heap.size, 1, none⟩)) (.slice a1 m1 c1) (.string s) (.pointer (some ⟨w.heap.size, 2, none⟩)) (.slice a2 m2 c2) (.string t) y0 y1 y2 y3 y4 y5 t6 t7 t8 t9 t10 t11 ∧ z4 = undef ∧ z5 = undef) ∨ (listed = #[true, true, true, true, true, true, true, false] ∧ t8 = .string s ∧ t11 = .string t ∧ z4 = .string s ∧ z5 = undef ∧ Below W.heap.size W x) ∨ (listed = #[true, true, true, true, true, true, true, true] ∧ t8 = .string s ∧ t11 = .string t ∧ z4 = .string s ∧ z5 = .string t ∧ Below W.heap.size W x))) ?_ ?_ _ _ _ _ (by decide) ?_)
      · rintro listed a x i ⟨y0, y1, y2, y3, y4, y5, t6, t7, t8, t9, t10, t11, z4, z5, rfl, h⟩ hi
        have hr : i < 8 := List.mem_range.1 (List.mem_filter.1 hi).1
        have hc := (List.mem_filter.1 hi).2
        rcases h with ⟨rfl, h⟩ | ⟨rfl, h⟩ | ⟨rfl, h⟩
        · rcases (show i = 0 ∨ i = 1 ∨ i = 2 ∨ i = 3 ∨ i = 4 ∨ i = 5 ∨ i = 6 ∨ i = 7 by omega) with rfl | rfl | rfl | rfl | rfl | rfl | rfl | rfl
          · obtain ⟨h, rfl, rfl⟩ := h
            clear hc hi
            refine wpOp_step rfl (fun K hK0 => ?_)
            have hK : Hid _ := hK0
            clear hK0
            rw [if_pos (by rfl)]
            go_wp2_with fail
            exact hK.out _ _ ⟨true,_,_,_,_,_,.pointer (some ⟨w.heap.size, 1, none⟩),_,_,_,_,_,undef,undef,rfl,Or.inl ⟨rfl, ⟨{ h with o0 := fun _ => rfl }, rfl, rfl⟩⟩⟩
          · obtain ⟨h, rfl, rfl⟩ := h
            have e0 : y0 = true := by
              revert hc
              cases y0 <;> simp [Region.binds]
            have r0 := h.o0 e0
            subst r0
            clear hc hi
            have kd := ((K0.below h.bel K0.lt).at 1)
            simp at kd
            refine wpOp_step rfl (fun K hK0 => ?_)
            have hK : Hid _ := hK0
            clear hK0
            rw [if_pos (by rfl)]
            go_wp2_with fail
            exact hK.out _ _ ⟨_,true,_,_,_,_,_,.slice a1 m1 c1,_,_,_,_,undef,undef,rfl,Or.inl ⟨rfl, ⟨{ h with o1 := fun _ => rfl }, rfl, rfl⟩⟩⟩
          · obtain ⟨h, rfl, rfl⟩ := h
            have e1 : y1 = true := by
              revert hc
              cases y1 <;> simp [Region.binds]
            have r1 := h.o1 e1
            subst r1
            clear hc hi
            refine wpOp_step rfl (fun K hK0 => ?_)
            have hK : Hid _ := hK0
            clear hK0
            rw [if_pos (by rfl)]
            go_wp2_with (first | (go_at_call 55; go_must (refine (T1 x (bel' pr h.bel)).mono ?_; rintro e x2 ⟨rfl, bb⟩)) | fail)
            exact hK.out _ _ ⟨_,_,true,_,_,_,_,_,_,_,_,_,undef,undef,rfl,Or.inl ⟨rfl, ⟨{ h.grow bb with o2 := fun _ => rfl }, rfl, rfl⟩⟩⟩
          · obtain ⟨h, rfl, rfl⟩ := h
            clear hc hi
            refine wpOp_step rfl (fun K hK0 => ?_)
            have hK : Hid _ := hK0
            clear hK0
            rw [if_pos (by rfl)]
            go_wp2_with fail
            exact hK.out _ _ ⟨_,_,_,true,_,_,_,_,_,.pointer (some ⟨w.heap.size, 2, none⟩),_,_,undef,undef,rfl,Or.inl ⟨rfl, ⟨{ h with o3 := fun _ => rfl, d4_3 := fun _ => rfl }, rfl, rfl⟩⟩⟩
          · obtain ⟨h, rfl, rfl⟩ := h
            have e3 : y3 = true := by
              revert hc
              cases y3 <;> simp [Region.binds]
            have r3 := h.o3 e3
            subst r3
            clear hc hi
            have kd := ((K0.below h.bel K0.lt).at 2)
            simp at kd
            refine wpOp_step rfl (fun K hK0 => ?_)
            have hK : Hid _ := hK0
            clear hK0
            rw [if_pos (by rfl)]
            go_wp2_with fail
            exact hK.out _ _ ⟨_,_,_,_,true,_,_,_,_,_,.slice a2 m2 c2,_,undef,undef,rfl,Or.inl ⟨rfl, ⟨{ h with o4 := fun _ => rfl, d4_3 := fun _ => e3, d5_4 := fun _ => rfl }, rfl, rfl⟩⟩⟩
          · obtain ⟨h, rfl, rfl⟩ := h
            have e4 : y4 = true := by
              revert hc
              cases y4 <;> simp [Region.binds]
            have r4 := h.o4 e4
            subst r4
            clear hc hi
            refine wpOp_step rfl (fun K hK0 => ?_)
            have hK : Hid _ := hK0
            clear hK0
            rw [if_pos (by rfl)]
            go_wp2_with (first | (go_at_call 55; go_must (refine (T2 x (bel' pr h.bel)).mono ?_; rintro e x2 ⟨rfl, bb⟩)) | fail)
            exact hK.out _ _ ⟨_,_,_,_,_,true,_,_,_,_,_,_,undef,undef,rfl,Or.inl ⟨rfl, ⟨{ h.grow bb with o5 := fun _ => rfl, d5_4 := fun _ => e4 }, rfl, rfl⟩⟩⟩
          · obtain ⟨h, rfl, rfl⟩ := h
            have e0 : y0 = true := by
              revert hc
              cases y0 <;> simp [Region.binds]
            have e1 : y1 = true := by
              revert hc
              cases y1 <;> simp [Region.binds]
            have e2 : y2 = true := by
              revert hc
              cases y2 <;> simp [Region.binds]
            have e5 : y5 = true := by
              revert hc
              cases y5 <;> simp [Region.binds]
            have e4 := h.d5_4 e5
            have e3 := h.d4_3 e4
            have r2 := h.o2 e2
            subst r2
            have r5 := h.o5 e5
            subst r5
            clear hc hi
            subst e0 e1 e2 e3 e4 e5
            have bl := h.bel
            clear h
            refine wpOp_step rfl (fun K hK0 => ?_)
            have hK : Hid _ := hK0
            clear hK0
            rw [if_pos (by rfl)]
            go_wp2_with fail
            exact hK.out _ _ ⟨true,true,true,true,true,true,_,_,_,_,_,_,_,_,rfl,Or.inr (Or.inl ⟨rfl, rfl, rfl, rfl, rfl, bl⟩)⟩
          · simp [Region.binds] at hc
        · rcases (show i = 0 ∨ i = 1 ∨ i = 2 ∨ i = 3 ∨ i = 4 ∨ i = 5 ∨ i = 6 ∨ i = 7 by omega) with rfl | rfl | rfl | rfl | rfl | rfl | rfl | rfl
          · simp at hc
          · simp at hc
          · simp at hc
          · simp at hc
          · simp at hc
          · simp at hc
          · simp at hc
          · clear hc hi
            obtain ⟨rfl, rfl, rfl, rfl, bl⟩ := h
            refine wpOp_step rfl (fun K hK0 => ?_)
            have hK : Hid _ := hK0
            clear hK0
            rw [if_pos (by rfl)]
            go_wp2_with fail
            exact hK.out _ _ ⟨true,true,true,true,true,true,_,_,_,_,_,_,_,_,rfl,Or.inr (Or.inr (⟨rfl, rfl, rfl, rfl, rfl, bl⟩))⟩
        · rcases (show i = 0 ∨ i = 1 ∨ i = 2 ∨ i = 3 ∨ i = 4 ∨ i = 5 ∨ i = 6 ∨ i = 7 by omega) with rfl | rfl | rfl | rfl | rfl | rfl | rfl | rfl <;> simp at hc
      · rintro listed a x ⟨y0, y1, y2, y3, y4, y5, t6, t7, t8, t9, t10, t11, z4, z5, rfl, h⟩ hn
        have al := all_listed (by decide +kernel) hn
        rcases h with ⟨rfl, h⟩ | ⟨rfl, h⟩ | ⟨rfl, h⟩
        · have z := al 6 (by decide)
          simp at z
        · have z := al 7 (by decide)
          simp at z
        · obtain ⟨rfl, rfl, rfl, rfl, bl⟩ := h
          refine hJ _ _ ?_
          go_meet
          case rel => exact ⟨rfl, rfl, bl⟩
      · exact ⟨false, false, false, false, false, false, undef, undef, undef, undef, undef, undef, undef, undef, rfl, Or.inl ⟨rfl, ⟨{ bel := (Below.refl _ _).drew, o0 := (by intro q; cases q), o1 := (by intro q; cases q), o2 := (by intro q; cases q), o3 := (by intro q; cases q), o4 := (by intro q; cases q), o5 := (by intro q; cases q), d4_3 := (by intro q; cases q), d5_4 := (by intro q; cases q) }, rfl, rfl⟩⟩⟩
    case rest =>
      obtain ⟨rfl, rfl, b2⟩ := hcut
      have p2 := bel pr b2
      have KR2 := KR.below b2 KR.lt
      have K2 := K0.below b2 K0.lt
      have k20 := K2.at 0
      have k21 := K2.at 1
      have k22 := K2.at 2
      simp at k20 k21 k22
      clear T1 T2 KR K0 pr b2
      rename World => w2
      go_wp2_with (first
        | (go_at_call 53; refine (SGx _ p2).mono ?_; rintro e w3 ⟨rfl, b3⟩; have p3 := bel p2 b3; have KR3 := KR2.below b3 KR2.lt; have kr0 := KR3.at 0; have kr1 := KR3.at 1; have kf0 := KR3.free 0; have kf1 := KR3.free 1; simp at kr0 kr1)
        | fail)
      have KE := bput (bput KR3 0 (.string s)) 1 (.string t)
      have bE := (p3.setCell (p := ⟨w.heap.size + 1, 0, none⟩) (show w.heap.size ≤ w.heap.size + 1 by omega) (.string s)).setCell (p := ⟨w.heap.size + 1, 1, none⟩) (show w.heap.size ≤ w.heap.size + 1 by omega) (.string t)
      generalize (w3.setCell ⟨w.heap.size + 1, 0, none⟩ (.string s)).setCell ⟨w.heap.size + 1, 1, none⟩ (.string t) = WE at *
      have z0 := KE.at 0
      have z1 := KE.at 1
      simp at z0 z1
      exact bodyPost_ret (v := .tuple #[.agg #[.string s, .string t], .int .i64 0]) (by simp [results, Tryz.results46, go_sem, z0, z1]) rfl ⟨rfl, bE⟩
  · have SGx := SG
    clear SG
    generalize (w.alloc (.cells #[.bool true, .slice a1 m1 c1, .slice a2 m2 c2] 56)).alloc (.cells #[.string ⟨#[]⟩, .string ⟨#[]⟩] 23) = W at *
    go_cut [4, 5] from 6 to 11 (fun x y wc => x = .string s ∧ y = .string t ∧ Below W.heap.size W wc)
    case first =>
      rename_i hm hJ
      refine wp_region_held (S := fun _ => True) (by kernel_rfl) (any_inv (fun listed a x => ∃ (y0 y1 y2 y3 y4 y5 : Bool) (t6 t7 t8 t9 t10 t11 : Value) (z4 z5 : Value), a = ⟨#[.agg #[.bool true, .slice a1 m1 c1, .slice a2 m2 c2], .pointer (some ⟨w.heap.size, 0, none⟩), .pointer (some ⟨w.heap.size + 1, 0, none⟩), .int .i64 0, z4, z5, t6, t7, t8, t9, t10, t11, undef, undef, undef, undef, undef, undef, undef, undef, undef, undef, undef, undef, undef, undef, undef, undef, undef], []⟩ ∧ ((listed = #[y0, y1, y2, y3, y4, y5, false, false] ∧ OQ1 W x (.pointer (some ⟨w.heap.size, 1, none⟩)) (.slice a1 m1 c1) (.string s) (.pointer (some ⟨w.heap.size, 2, none⟩)) (.slice a2 m2 c2) (.string t) y0 y1 y2 y3 y4 y5 t6 t7 t8 t9 t10 t11 ∧ z4 = undef ∧ z5 = undef) ∨ (listed = #[true, true, true, true, true, true, true, false] ∧ t8 = .string s ∧ t11 = .string t ∧ z4 = .string s ∧ z5 = undef ∧ Below W.heap.size W x) ∨ (listed = #[true, true, true, true, true, true, true, true] ∧ t8 = .string s ∧ t11 = .string t ∧ z4 = .string s ∧ z5 = .string t ∧ Below W.heap.size W x))) ?_ ?_ _ _ _ _ (by decide) ?_)
      · rintro listed a x i ⟨y0, y1, y2, y3, y4, y5, t6, t7, t8, t9, t10, t11, z4, z5, rfl, h⟩ hi
        have hr : i < 8 := List.mem_range.1 (List.mem_filter.1 hi).1
        have hc := (List.mem_filter.1 hi).2
        rcases h with ⟨rfl, h⟩ | ⟨rfl, h⟩ | ⟨rfl, h⟩
        · rcases (show i = 0 ∨ i = 1 ∨ i = 2 ∨ i = 3 ∨ i = 4 ∨ i = 5 ∨ i = 6 ∨ i = 7 by omega) with rfl | rfl | rfl | rfl | rfl | rfl | rfl | rfl
          · obtain ⟨h, rfl, rfl⟩ := h
            clear hc hi
            refine wpOp_step rfl (fun K hK0 => ?_)
            have hK : Hid _ := hK0
            clear hK0
            rw [if_pos (by rfl)]
            go_wp2_with fail
            exact hK.out _ _ ⟨true,_,_,_,_,_,.pointer (some ⟨w.heap.size, 1, none⟩),_,_,_,_,_,undef,undef,rfl,Or.inl ⟨rfl, ⟨{ h with o0 := fun _ => rfl }, rfl, rfl⟩⟩⟩
          · obtain ⟨h, rfl, rfl⟩ := h
            have e0 : y0 = true := by
              revert hc
              cases y0 <;> simp [Region.binds]
            have r0 := h.o0 e0
            subst r0
            clear hc hi
            have kd := ((K0.below h.bel K0.lt).at 1)
            simp at kd
            refine wpOp_step rfl (fun K hK0 => ?_)
            have hK : Hid _ := hK0
            clear hK0
            rw [if_pos (by rfl)]
            go_wp2_with fail
            exact hK.out _ _ ⟨_,true,_,_,_,_,_,.slice a1 m1 c1,_,_,_,_,undef,undef,rfl,Or.inl ⟨rfl, ⟨{ h with o1 := fun _ => rfl }, rfl, rfl⟩⟩⟩
          · obtain ⟨h, rfl, rfl⟩ := h
            have e1 : y1 = true := by
              revert hc
              cases y1 <;> simp [Region.binds]
            have r1 := h.o1 e1
            subst r1
            clear hc hi
            refine wpOp_step rfl (fun K hK0 => ?_)
            have hK : Hid _ := hK0
            clear hK0
            rw [if_pos (by rfl)]
            go_wp2_with (first | (go_at_call 55; go_must (refine (T1 x (bel' pr h.bel)).mono ?_; rintro e x2 ⟨rfl, bb⟩)) | fail)
            exact hK.out _ _ ⟨_,_,true,_,_,_,_,_,_,_,_,_,undef,undef,rfl,Or.inl ⟨rfl, ⟨{ h.grow bb with o2 := fun _ => rfl }, rfl, rfl⟩⟩⟩
          · obtain ⟨h, rfl, rfl⟩ := h
            clear hc hi
            refine wpOp_step rfl (fun K hK0 => ?_)
            have hK : Hid _ := hK0
            clear hK0
            rw [if_pos (by rfl)]
            go_wp2_with fail
            exact hK.out _ _ ⟨_,_,_,true,_,_,_,_,_,.pointer (some ⟨w.heap.size, 2, none⟩),_,_,undef,undef,rfl,Or.inl ⟨rfl, ⟨{ h with o3 := fun _ => rfl, d4_3 := fun _ => rfl }, rfl, rfl⟩⟩⟩
          · obtain ⟨h, rfl, rfl⟩ := h
            have e3 : y3 = true := by
              revert hc
              cases y3 <;> simp [Region.binds]
            have r3 := h.o3 e3
            subst r3
            clear hc hi
            have kd := ((K0.below h.bel K0.lt).at 2)
            simp at kd
            refine wpOp_step rfl (fun K hK0 => ?_)
            have hK : Hid _ := hK0
            clear hK0
            rw [if_pos (by rfl)]
            go_wp2_with fail
            exact hK.out _ _ ⟨_,_,_,_,true,_,_,_,_,_,.slice a2 m2 c2,_,undef,undef,rfl,Or.inl ⟨rfl, ⟨{ h with o4 := fun _ => rfl, d4_3 := fun _ => e3, d5_4 := fun _ => rfl }, rfl, rfl⟩⟩⟩
          · obtain ⟨h, rfl, rfl⟩ := h
            have e4 : y4 = true := by
              revert hc
              cases y4 <;> simp [Region.binds]
            have r4 := h.o4 e4
            subst r4
            clear hc hi
            refine wpOp_step rfl (fun K hK0 => ?_)
            have hK : Hid _ := hK0
            clear hK0
            rw [if_pos (by rfl)]
            go_wp2_with (first | (go_at_call 55; go_must (refine (T2 x (bel' pr h.bel)).mono ?_; rintro e x2 ⟨rfl, bb⟩)) | fail)
            exact hK.out _ _ ⟨_,_,_,_,_,true,_,_,_,_,_,_,undef,undef,rfl,Or.inl ⟨rfl, ⟨{ h.grow bb with o5 := fun _ => rfl, d5_4 := fun _ => e4 }, rfl, rfl⟩⟩⟩
          · obtain ⟨h, rfl, rfl⟩ := h
            have e0 : y0 = true := by
              revert hc
              cases y0 <;> simp [Region.binds]
            have e1 : y1 = true := by
              revert hc
              cases y1 <;> simp [Region.binds]
            have e2 : y2 = true := by
              revert hc
              cases y2 <;> simp [Region.binds]
            have e5 : y5 = true := by
              revert hc
              cases y5 <;> simp [Region.binds]
            have e4 := h.d5_4 e5
            have e3 := h.d4_3 e4
            have r2 := h.o2 e2
            subst r2
            have r5 := h.o5 e5
            subst r5
            clear hc hi
            subst e0 e1 e2 e3 e4 e5
            have bl := h.bel
            clear h
            refine wpOp_step rfl (fun K hK0 => ?_)
            have hK : Hid _ := hK0
            clear hK0
            rw [if_pos (by rfl)]
            go_wp2_with fail
            exact hK.out _ _ ⟨true,true,true,true,true,true,_,_,_,_,_,_,_,_,rfl,Or.inr (Or.inl ⟨rfl, rfl, rfl, rfl, rfl, bl⟩)⟩
          · simp [Region.binds] at hc
        · rcases (show i = 0 ∨ i = 1 ∨ i = 2 ∨ i = 3 ∨ i = 4 ∨ i = 5 ∨ i = 6 ∨ i = 7 by omega) with rfl | rfl | rfl | rfl | rfl | rfl | rfl | rfl
          · simp at hc
          · simp at hc
          · simp at hc
          · simp at hc
          · simp at hc
          · simp at hc
          · simp at hc
          · clear hc hi
            obtain ⟨rfl, rfl, rfl, rfl, bl⟩ := h
            refine wpOp_step rfl (fun K hK0 => ?_)
            have hK : Hid _ := hK0
            clear hK0
            rw [if_pos (by rfl)]
            go_wp2_with fail
            exact hK.out _ _ ⟨true,true,true,true,true,true,_,_,_,_,_,_,_,_,rfl,Or.inr (Or.inr (⟨rfl, rfl, rfl, rfl, rfl, bl⟩))⟩
        · rcases (show i = 0 ∨ i = 1 ∨ i = 2 ∨ i = 3 ∨ i = 4 ∨ i = 5 ∨ i = 6 ∨ i = 7 by omega) with rfl | rfl | rfl | rfl | rfl | rfl | rfl | rfl <;> simp at hc
      · rintro listed a x ⟨y0, y1, y2, y3, y4, y5, t6, t7, t8, t9, t10, t11, z4, z5, rfl, h⟩ hn
        have al := all_listed (by decide +kernel) hn
        rcases h with ⟨rfl, h⟩ | ⟨rfl, h⟩ | ⟨rfl, h⟩
        · have z := al 6 (by decide)
          simp at z
        · have z := al 7 (by decide)
          simp at z
        · obtain ⟨rfl, rfl, rfl, rfl, bl⟩ := h
          refine hJ _ _ ?_
          go_meet
          case rel => exact ⟨rfl, rfl, bl⟩
      · exact ⟨false, false, false, false, false, false, undef, undef, undef, undef, undef, undef, undef, undef, rfl, Or.inl ⟨rfl, ⟨{ bel := (Below.refl _ _).drew, o0 := (by intro q; cases q), o1 := (by intro q; cases q), o2 := (by intro q; cases q), o3 := (by intro q; cases q), o4 := (by intro q; cases q), o5 := (by intro q; cases q), d4_3 := (by intro q; cases q), d5_4 := (by intro q; cases q) }, rfl, rfl⟩⟩⟩
    case rest =>
      obtain ⟨rfl, rfl, b2⟩ := hcut
      have p2 := bel pr b2
      have KR2 := KR.below b2 KR.lt
      have K2 := K0.below b2 K0.lt
      have k20 := K2.at 0
      have k21 := K2.at 1
      have k22 := K2.at 2
      simp at k20 k21 k22
      clear T1 T2 KR K0 pr b2
      rename World => w2
      go_wp2_with (first
        | (go_at_call 53; refine (SGx _ p2).mono ?_; rintro e w3 ⟨rfl, b3⟩; have p3 := bel p2 b3; have KR3 := KR2.below b3 KR2.lt; have kr0 := KR3.at 0; have kr1 := KR3.at 1; have kf0 := KR3.free 0; have kf1 := KR3.free 1; simp at kr0 kr1)
        | fail)
      have KE := bput (bput KR3 0 (.string u)) 1 (.string t)
      have bE := (p3.setCell (p := ⟨w.heap.size + 1, 0, none⟩) (show w.heap.size ≤ w.heap.size + 1 by omega) (.string u)).setCell (p := ⟨w.heap.size + 1, 1, none⟩) (show w.heap.size ≤ w.heap.size + 1 by omega) (.string t)
      generalize (w3.setCell ⟨w.heap.size + 1, 0, none⟩ (.string u)).setCell ⟨w.heap.size + 1, 1, none⟩ (.string t) = WE at *
      have z0 := KE.at 0
      have z1 := KE.at 1
      simp at z0 z1
      exact bodyPost_ret (v := .tuple #[.agg #[.string u, .string t], .int .i64 0]) (by simp [results, Tryz.results46, go_sem, z0, z1]) rfl ⟨rfl, bE⟩
theorem Out_q (v : Value) (r : Rat) (K : Nat) (w : World) (h : IsQ w v r) (hK : QS r K) (hK' : K ≤ 1000000000) (l1 : (decDigits r.num.natAbs).length ≤ 4096) (l2 : (decDigits r.den).length ≤ 4096) :
    Calls Tryz.prog 46 #[v] w fun e w' => e = .returned (.tuple #[wrq r, .int .i64 0]) ∧ Below w.heap.size w w' := by
  have SG := fun x (b : Below w.heap.size w x) => Sign_q v r x (h.grow b)
  obtain ⟨ns, ds, a1, a2, c1, c2, rfl, h1, n1, v1, h2, n2, v2⟩ := h
  have k1 : ns.length ≤ K := len_of_lt h1.1 n1 (by rw [v1]; exact hK.1)
  have k2 : ds.length ≤ K := len_of_lt h2.1 n2 (by rw [v2]; exact hK.2)
  have := out_walk (decide (r.num < 0)) a1 a2 ns.length c1 ds.length c2 (Mo.sB (decDigits r.num.natAbs)) (Mo.sB (decDigits r.den)) _ (sgn r) w (by rw [Mo.sB_size]; exact l1) (by rw [Mo.sB_size]; exact l2)
    (by unfold sgn; by_cases z : r.num = 0
        · rw [if_pos z, z]
        · rw [if_neg z]; by_cases g : r.num < 0
          · rw [if_pos g]; simp [g]
          · rw [if_neg g]; simp [g]) rfl
    (fun x b => Text_any _ ns _ x (h1.grow b) n1 (by omega) v1) (fun x b => Text_any _ ds _ x (h2.grow b) n2 (by omega) v2) SG
  refine this.mono ?_
  rintro e w' ⟨rfl, b⟩
  refine ⟨?_, b⟩
  unfold wrq Mo.sg
  by_cases g : r.num < 0
  · rw [decide_eq_true g]
    rw [if_pos rfl, if_pos rfl, ← Mo.sB_add]; rfl
  · rw [decide_eq_false g]
    simp
end Go.Proofs.YtebilgnmnambnaaGreatDoor.L

namespace Go.Proofs.YtebilgnmnambnaaGreatDoor.Ip
theorem mk_parts (a : Int) (b : Nat) (hb : b ≠ 0) : (mkRat a b).num.natAbs ≤ a.natAbs ∧ (mkRat a b).den ≤ b := by
  refine ⟨?_, by rw [Rat.den_mkRat, if_neg hb]; exact Nat.div_le_self _ _⟩
  rw [Rat.num_mkRat, if_neg hb, Int.natAbs_ediv_of_dvd]
  · exact Nat.div_le_self _ _
  · exact Int.ofNat_dvd_left.2 (Nat.gcd_dvd_right _ _)
end Go.Proofs.YtebilgnmnambnaaGreatDoor.Ip
