import Derived.Deep.RegionHeld3
import Derived.Test.YthadighbhdekdaaDoorDu1
import Derived.Test.YthadighbhdekdaaDoorDy9
import Derived.Deep.DeepCutAuto
namespace Go

theorem ready_false {md : Region.Mode} {ops : Array Oper} {listed : Array Bool} {i : Nat} (h : i ∈ Region.ready md ops listed) : listed.toList[i]? = some false := by
  unfold Region.ready at h
  have c := (List.mem_filter.1 h).2
  rw [Bool.and_eq_true] at c
  have d := c.1
  cases e : listed.toList[i]? with
  | none => rw [Array.getD_eq_getD_getElem?, ← Array.getElem?_toList, e] at d; simp at d
  | some b => rw [Array.getD_eq_getD_getElem?, ← Array.getElem?_toList, e] at d; simp at d; rw [d]
theorem count_set_true {l : List Bool} {i : Nat} (h : l[i]? = some false) : (l.set i true).count false + 1 = l.count false := by
  induction l generalizing i with
  | nil => simp at h
  | cons b l ih =>
    cases i with
    | zero => simp at h; subst h; simp
    | succ i =>
      simp at h
      have := ih h
      rw [List.set_cons_succ, List.count_cons, List.count_cons]
      omega
/-- A region in any order, by what holds of the state when some of it has come up. -/
theorem any_inv {P : Program} {md : Region.Mode} {ops : Array Oper} {Q : Exit → Act → World → Prop} (Inv : Array Bool → Act → World → Prop)
    (hs : ∀ listed a w i, Inv listed a w → i ∈ Region.ready md ops listed → wpOp P ops Q i (fun a' w' => Inv (listed.setIfInBounds i true) a' w') a w)
    (hd : ∀ listed a w, Inv listed a w → Region.ready md ops listed = [] → Q .normal a w) :
    ∀ (fuel : Nat) (listed : Array Bool) (a : Act) (w : World), listed.toList.count false ≤ fuel → Inv listed a w → wpAnyH P md ops Q (fun _ => True) fuel listed a w := by
  intro fuel
  induction fuel with
  | zero =>
    intro listed a w hc hi
    have e : Region.ready md ops listed = [] := by
      cases c : Region.ready md ops listed with
      | nil => rfl
      | cons i rs =>
        have r := ready_false (md := md) (ops := ops) (listed := listed) (i := i) (by rw [c]; simp)
        have := count_set_true r
        omega
    exact ⟨e, hd _ _ _ hi e⟩
  | succ fuel ih =>
    intro listed a w hc hi
    refine ⟨fun e => hd _ _ _ hi e, fun i hr => wpOp_mono (fun a' w' h => ⟨trivial, ih _ _ _ ?_ h⟩) (hs _ _ _ _ hi hr)⟩
    have := count_set_true (ready_false hr)
    rw [Array.toList_setIfInBounds]
    omega
/-- Nothing may come up: all has come up, if nothing waits for what stands behind it. -/
theorem all_listed {md : Region.Mode} {ops : Array Oper} {listed : Array Bool} (hdep : (List.range ops.size).all (fun i => ((ops[i]?).map (fun o => o.after.all fun e => decide (e.on < i))).getD false) = true) (h : Region.ready md ops listed = []) : ∀ i, i < ops.size → listed.getD i true = true := by
  intro i
  induction i using Nat.strongRecOn with
  | ind i ih =>
    intro hi
    cases c : listed.getD i true with
    | true => rfl
    | false =>
      exfalso
      have ho : ops[i]? = some ops[i] := Array.getElem?_eq_getElem hi
      have d := List.all_eq_true.1 hdep i (List.mem_range.2 hi)
      rw [ho] at d
      simp only [Option.map_some, Option.getD_some] at d
      have m : i ∈ Region.ready md ops listed := by
        unfold Region.ready
        refine List.mem_filter.2 ⟨List.mem_range.2 hi, ?_⟩
        rw [c, ho]
        simp only [Bool.not_false, Bool.true_and, Option.map_some, Option.getD_some]
        rw [Array.all_eq_true] at d ⊢
        intro k hk
        have e := d k hk
        rw [decide_eq_true_iff] at e
        have t := ih _ e (by omega)
        have t2 : listed.getD (ops[i].after[k]).on false = true := by
          rw [Array.getD_eq_getD_getElem?] at t ⊢
          cases x : listed[(ops[i].after[k]).on]? with
          | none =>
            exfalso
            have z : listed.getD i true = false := c
            rw [Array.getD_eq_getD_getElem?] at z
            have : listed[i]? = none := by
              rw [Array.getElem?_eq_none_iff] at x ⊢
              omega
            rw [this] at z
            simp at z
          | some b => rw [x] at t; simpa using t
        rw [t2]; simp
      rw [h] at m
      cases m
end Go

namespace Go.Proofs.YthadighbhdekdaaDoor.Dt
open Go.RowKit Go.Lib Go.Proofs.YthadighbhdekdaaDoor.Dy Dc
theorem belT {w W w1 : World} (h : Below w.heap.size w W) (k : Below W.heap.size W w1) : Below w.heap.size w w1 := h.trans (Below.mono k h.size)
/-- What has come up of Parse's statement. -/
structure PS (W x : World) (s A B C : ByteArray) (Y M D : Int) (y0 y1 y2 y3 y4 y5 y6 y7 y8 y9 y10 : Bool) (t14 t15 t16 t17 t18 t19 t20 t21 t22 t23 t4 : Value) : Prop where
  bel : Below W.heap.size W x
  o0 : y0 = true → t14 = .string s
  o1 : y1 = true → t15 = .string A
  o2 : y2 = true → t16 = .int .i64 Y
  o3 : y3 = true → t17 = .string s
  o4 : y4 = true → t18 = .string B
  o5 : y5 = true → t19 = .int .i64 M
  o6 : y6 = true → t20 = .string s
  o7 : y7 = true → t21 = .string C
  o8 : y8 = true → t22 = .int .i64 D
  o9 : y9 = true → t23 = .agg #[.int .i64 Y, .int .i64 M, .int .i64 D]
  o10 : y10 = true → ∃ X, t4 = .pointer (some ⟨X, 0, none⟩) ∧ W.heap.size ≤ X ∧ Blk x X #[.int .i64 0, .int .i64 0, .int .i64 0] 23
theorem PS.grow {W x x' : World} {s A B C : ByteArray} {Y M D : Int} {y0 y1 y2 y3 y4 y5 y6 y7 y8 y9 y10 : Bool} {t14 t15 t16 t17 t18 t19 t20 t21 t22 t23 t4 : Value} (h : PS W x s A B C Y M D y0 y1 y2 y3 y4 y5 y6 y7 y8 y9 y10 t14 t15 t16 t17 t18 t19 t20 t21 t22 t23 t4) (b : Below x.heap.size x x') : PS W x' s A B C Y M D y0 y1 y2 y3 y4 y5 y6 y7 y8 y9 y10 t14 t15 t16 t17 t18 t19 t20 t21 t22 t23 t4 where
  bel := belT h.bel b
  o0 := h.o0
  o1 := h.o1
  o2 := h.o2
  o3 := h.o3
  o4 := h.o4
  o5 := h.o5
  o6 := h.o6
  o7 := h.o7
  o8 := h.o8
  o9 := h.o9
  o10 := fun u => by obtain ⟨X, e, l, K⟩ := h.o10 u; exact ⟨X, e, l, K.below b K.lt⟩
set_option maxHeartbeats 6400000 in
set_option maxRecDepth 100000 in
theorem Parse_ok (s A B C : ByteArray) (Y M D : Int) (w : World) (G : Gl w) (hs : s.size = 10) (x1 : s.extract 0 4 = A) (x2 : s.extract 5 7 = B) (x3 : s.extract 8 10 = C)
    (HF : ∀ W, Calls Tryd.prog 21 #[.string s] W fun e w' => e = .returned (.bool true) ∧ ∃ q, w' = W.drewN q)
    (C1 : ∀ W, Calls Tryd.prog 22 #[.string A] W fun e w' => e = .returned (.int .i64 Y) ∧ Below W.heap.size W w') (C2 : ∀ W, Calls Tryd.prog 22 #[.string B] W fun e w' => e = .returned (.int .i64 M) ∧ Below W.heap.size W w') (C3 : ∀ W, Calls Tryd.prog 22 #[.string C] W fun e w' => e = .returned (.int .i64 D) ∧ Below W.heap.size W w')
    (CH : ∀ W, Gl W → Calls Tryd.prog 19 #[dt Y M D] W fun e w' => e = .returned (.int .i64 0) ∧ Below W.heap.size W w') :
    Calls Tryd.prog 7 #[.string s] w fun e w' => e = .returned (.tuple #[dt Y M D, .int .i64 0]) ∧ Below w.heap.size w w' := by
  have R0 := Blk.new w #[.int .i64 0, .int .i64 0, .int .i64 0] 23
  have p0 := bl (w := w) #[.int .i64 0, .int .i64 0, .int .i64 0] 23
  have G0 := G.alloc (.cells #[.int .i64 0, .int .i64 0, .int .i64 0] 23)
  have hs' : (s.size : Int) = 10 := by omega
  clear G
  unfold dt at *
  go_enter Tryd.func7, Tryd.ntmps7
  go_wp2_with (first
    | (go_at_call 21; refine (HF _).mono ?_; rintro x w0 ⟨rfl, q, rfl⟩)
    | fail)
  have R1 : Blk ((w.alloc (.cells #[.int .i64 0, .int .i64 0, .int .i64 0] 23)).drewN q) w.heap.size #[.int .i64 0, .int .i64 0, .int .i64 0] 23 := R0
  have p1 := blN (n := q) p0
  have G1 := G0.drew q
  clear R0 p0 G0
  generalize (w.alloc (.cells #[.int .i64 0, .int .i64 0, .int .i64 0] 23)).drewN q = W at *
  go_cut [4] from 14 to 23 (fun p wc => ∃ X, p = .pointer (some ⟨X, 0, none⟩) ∧ W.heap.size ≤ X ∧ Blk wc X #[.int .i64 Y, .int .i64 M, .int .i64 D] 23 ∧ Below W.heap.size W wc)
  case first =>
    rename_i hm hJ
    refine wp_region_held (S := fun _ => True) (by kernel_rfl) (any_inv (fun listed a x => ∃ (y0 y1 y2 y3 y4 y5 y6 y7 y8 y9 y10 : Bool) (t14 t15 t16 t17 t18 t19 t20 t21 t22 t23 t4 : Value), a = ⟨#[.string s, undef, .pointer (some ⟨w.heap.size, 0, none⟩), .int .i64 0, t4, undef, .string s, .int .i64 10, .bool false, undef, .string s, .bool true, .bool false, undef, t14, t15, t16, t17, t18, t19, t20, t21, t22, t23, undef, undef, undef, undef, undef, undef, undef], []⟩ ∧ ((listed = #[y0, y1, y2, y3, y4, y5, y6, y7, y8, y9, y10, false] ∧ PS W x s A B C Y M D y0 y1 y2 y3 y4 y5 y6 y7 y8 y9 y10 t14 t15 t16 t17 t18 t19 t20 t21 t22 t23 t4) ∨ (listed = #[true, true, true, true, true, true, true, true, true, true, true, true] ∧ ∃ X, t4 = .pointer (some ⟨X, 0, none⟩) ∧ W.heap.size ≤ X ∧ Blk x X #[.int .i64 Y, .int .i64 M, .int .i64 D] 23 ∧ Below W.heap.size W x))) ?_ ?_ _ _ _ _ (by decide) ?_)
    · rintro listed a x i ⟨y0, y1, y2, y3, y4, y5, y6, y7, y8, y9, y10, t14, t15, t16, t17, t18, t19, t20, t21, t22, t23, t4, rfl, h⟩ hi
      have hr : i < 12 := List.mem_range.1 (List.mem_filter.1 hi).1
      have hc := (List.mem_filter.1 hi).2
      rcases h with ⟨rfl, h⟩ | ⟨rfl, h⟩
      · rcases (show i = 0 ∨ i = 1 ∨ i = 2 ∨ i = 3 ∨ i = 4 ∨ i = 5 ∨ i = 6 ∨ i = 7 ∨ i = 8 ∨ i = 9 ∨ i = 10 ∨ i = 11 by omega) with rfl | rfl | rfl | rfl | rfl | rfl | rfl | rfl | rfl | rfl | rfl | rfl
        · -- operation 0
          clear hc hi
          refine wpOp_step rfl (fun K hK0 => ?_)
          have hK : Hid _ := hK0
          clear hK0
          rw [if_pos (by rfl)]
          go_wp2_with fail
          exact hK.out _ _ ⟨true, y1, y2, y3, y4, y5, y6, y7, y8, y9, y10, _, t15, t16, t17, t18, t19, t20, t21, t22, t23, t4, rfl, Or.inl ⟨rfl, { h with o0 := fun _ => rfl }⟩⟩
        · -- operation 1
          have e0 : y0 = true := by
            revert hc
            cases y0 <;> simp [Region.binds]
          have r0 := h.o0 e0
          subst r0
          clear hc hi
          refine wpOp_step rfl (fun K hK0 => ?_)
          have hK : Hid _ := hK0
          clear hK0
          rw [if_pos (by rfl)]
          go_wp2_with fail
          exact hK.out _ _ ⟨y0, true, y2, y3, y4, y5, y6, y7, y8, y9, y10, _, _, t16, t17, t18, t19, t20, t21, t22, t23, t4, rfl, Or.inl ⟨rfl, { h with o1 := fun _ => rfl }⟩⟩
        · -- operation 2
          have e1 : y1 = true := by
            revert hc
            cases y1 <;> simp [Region.binds]
          have r1 := h.o1 e1
          subst r1
          clear hc hi
          refine wpOp_step rfl (fun K hK0 => ?_)
          have hK : Hid _ := hK0
          clear hK0
          rw [if_pos (by rfl)]
          go_wp2_with (first | (go_at_call 22; refine (C1 _).mono ?_; rintro e x2 ⟨rfl, bb⟩) | fail)
          exact hK.out _ _ ⟨y0, y1, true, y3, y4, y5, y6, y7, y8, y9, y10, t14, _, _, t17, t18, t19, t20, t21, t22, t23, t4, rfl, Or.inl ⟨rfl, { h.grow bb with o2 := fun _ => rfl }⟩⟩
        · -- operation 3
          clear hc hi
          refine wpOp_step rfl (fun K hK0 => ?_)
          have hK : Hid _ := hK0
          clear hK0
          rw [if_pos (by rfl)]
          go_wp2_with fail
          exact hK.out _ _ ⟨y0, y1, y2, true, y4, y5, y6, y7, y8, y9, y10, t14, t15, t16, _, t18, t19, t20, t21, t22, t23, t4, rfl, Or.inl ⟨rfl, { h with o3 := fun _ => rfl }⟩⟩
        · -- operation 4
          have e3 : y3 = true := by
            revert hc
            cases y3 <;> simp [Region.binds]
          have r3 := h.o3 e3
          subst r3
          clear hc hi
          refine wpOp_step rfl (fun K hK0 => ?_)
          have hK : Hid _ := hK0
          clear hK0
          rw [if_pos (by rfl)]
          go_wp2_with fail
          exact hK.out _ _ ⟨y0, y1, y2, y3, true, y5, y6, y7, y8, y9, y10, t14, t15, t16, _, _, t19, t20, t21, t22, t23, t4, rfl, Or.inl ⟨rfl, { h with o4 := fun _ => rfl }⟩⟩
        · -- operation 5
          have e4 : y4 = true := by
            revert hc
            cases y4 <;> simp [Region.binds]
          have r4 := h.o4 e4
          subst r4
          clear hc hi
          refine wpOp_step rfl (fun K hK0 => ?_)
          have hK : Hid _ := hK0
          clear hK0
          rw [if_pos (by rfl)]
          go_wp2_with (first | (go_at_call 22; refine (C2 _).mono ?_; rintro e x2 ⟨rfl, bb⟩) | fail)
          exact hK.out _ _ ⟨y0, y1, y2, y3, y4, true, y6, y7, y8, y9, y10, t14, t15, t16, t17, _, _, t20, t21, t22, t23, t4, rfl, Or.inl ⟨rfl, { h.grow bb with o5 := fun _ => rfl }⟩⟩
        · -- operation 6
          clear hc hi
          refine wpOp_step rfl (fun K hK0 => ?_)
          have hK : Hid _ := hK0
          clear hK0
          rw [if_pos (by rfl)]
          go_wp2_with fail
          exact hK.out _ _ ⟨y0, y1, y2, y3, y4, y5, true, y7, y8, y9, y10, t14, t15, t16, t17, t18, t19, _, t21, t22, t23, t4, rfl, Or.inl ⟨rfl, { h with o6 := fun _ => rfl }⟩⟩
        · -- operation 7
          have e6 : y6 = true := by
            revert hc
            cases y6 <;> simp [Region.binds]
          have r6 := h.o6 e6
          subst r6
          clear hc hi
          refine wpOp_step rfl (fun K hK0 => ?_)
          have hK : Hid _ := hK0
          clear hK0
          rw [if_pos (by rfl)]
          go_wp2_with fail
          exact hK.out _ _ ⟨y0, y1, y2, y3, y4, y5, y6, true, y8, y9, y10, t14, t15, t16, t17, t18, t19, _, _, t22, t23, t4, rfl, Or.inl ⟨rfl, { h with o7 := fun _ => rfl }⟩⟩
        · -- operation 8
          have e7 : y7 = true := by
            revert hc
            cases y7 <;> simp [Region.binds]
          have r7 := h.o7 e7
          subst r7
          clear hc hi
          refine wpOp_step rfl (fun K hK0 => ?_)
          have hK : Hid _ := hK0
          clear hK0
          rw [if_pos (by rfl)]
          go_wp2_with (first | (go_at_call 22; refine (C3 _).mono ?_; rintro e x2 ⟨rfl, bb⟩) | fail)
          exact hK.out _ _ ⟨y0, y1, y2, y3, y4, y5, y6, y7, true, y9, y10, t14, t15, t16, t17, t18, t19, t20, _, _, t23, t4, rfl, Or.inl ⟨rfl, { h.grow bb with o8 := fun _ => rfl }⟩⟩
        · -- operation 9
          have e2 : y2 = true := by
            revert hc
            cases y2 <;> simp [Region.binds]
          have e5 : y5 = true := by
            revert hc
            cases y5 <;> simp [Region.binds]
          have e8 : y8 = true := by
            revert hc
            cases y8 <;> simp [Region.binds]
          have r2 := h.o2 e2
          subst r2
          have r5 := h.o5 e5
          subst r5
          have r8 := h.o8 e8
          subst r8
          clear hc hi
          refine wpOp_step rfl (fun K hK0 => ?_)
          have hK : Hid _ := hK0
          clear hK0
          rw [if_pos (by rfl)]
          go_wp2_with fail
          exact hK.out _ _ ⟨y0, y1, y2, y3, y4, y5, y6, y7, y8, true, y10, t14, t15, _, t17, t18, _, t20, t21, _, _, t4, rfl, Or.inl ⟨rfl, { h with o9 := fun _ => rfl }⟩⟩
        · -- operation 10
          clear hc hi
          refine wpOp_step rfl (fun K hK0 => ?_)
          have hK : Hid _ := hK0
          clear hK0
          rw [if_pos (by rfl)]
          go_wp2_with fail
          exact hK.out _ _ ⟨y0, y1, y2, y3, y4, y5, y6, y7, y8, y9, true, t14, t15, t16, t17, t18, t19, t20, t21, t22, t23, _, rfl, Or.inl ⟨rfl, { h.grow (bl _ _) with o10 := fun _ => ⟨_, rfl, h.bel.size, Blk.new _ _ _⟩ }⟩⟩
        · -- the store
          have e0 : y0 = true := by
            revert hc
            cases y0 <;> simp [Region.binds]
          have e1 : y1 = true := by
            revert hc
            cases y1 <;> simp [Region.binds]
          have e2 : y2 = true := by
            revert hc
            cases y2 <;> simp [Region.binds]
          have e3 : y3 = true := by
            revert hc
            cases y3 <;> simp [Region.binds]
          have e4 : y4 = true := by
            revert hc
            cases y4 <;> simp [Region.binds]
          have e5 : y5 = true := by
            revert hc
            cases y5 <;> simp [Region.binds]
          have e6 : y6 = true := by
            revert hc
            cases y6 <;> simp [Region.binds]
          have e7 : y7 = true := by
            revert hc
            cases y7 <;> simp [Region.binds]
          have e8 : y8 = true := by
            revert hc
            cases y8 <;> simp [Region.binds]
          have e9 : y9 = true := by
            revert hc
            cases y9 <;> simp [Region.binds]
          have e10 : y10 = true := by
            revert hc
            cases y10 <;> simp [Region.binds]
          have r9 := h.o9 e9
          subst r9
          obtain ⟨X, rfl, lX, KX⟩ := h.o10 e10
          have hb := h.bel
          clear h hc hi
          subst e0 e1 e2 e3 e4 e5 e6 e7 e8 e9 e10
          have z0 := KX.c0
          have z1 := KX.c1
          have z2 := KX.c2
          have f0 := KX.free 0
          have f1 := KX.free 1
          have f2 := KX.free 2
          refine wpOp_step rfl (fun K hK0 => ?_)
          have hK : Hid _ := hK0
          clear hK0
          rw [if_pos (by rfl)]
          go_wp2_with fail
          exact hK.out _ _ ⟨true, true, true, true, true, true, true, true, true, true, true, t14, t15, t16, t17, t18, t19, t20, t21, t22, _, _, rfl, Or.inr ⟨rfl, X, rfl, lX, dput3 KX Y M D, ((hb.setCell (p := ⟨X, 0, none⟩) lX _).setCell (p := ⟨X, 1, none⟩) lX _).setCell (p := ⟨X, 2, none⟩) lX _⟩⟩
      · rcases (show i = 0 ∨ i = 1 ∨ i = 2 ∨ i = 3 ∨ i = 4 ∨ i = 5 ∨ i = 6 ∨ i = 7 ∨ i = 8 ∨ i = 9 ∨ i = 10 ∨ i = 11 by omega) with rfl | rfl | rfl | rfl | rfl | rfl | rfl | rfl | rfl | rfl | rfl | rfl <;> simp at hc
    · rintro listed a x ⟨y0, y1, y2, y3, y4, y5, y6, y7, y8, y9, y10, t14, t15, t16, t17, t18, t19, t20, t21, t22, t23, t4, rfl, h⟩ hn
      have al := all_listed (by decide +kernel) hn
      rcases h with ⟨rfl, h⟩ | ⟨rfl, h⟩
      · have z := al 11 (by decide)
        simp at z
      · obtain ⟨X, rfl, lX, KX, hb⟩ := h
        refine hJ _ _ ?_
        go_meet
        case rel => exact ⟨X, rfl, lX, KX, hb⟩
    · exact ⟨false, false, false, false, false, false, false, false, false, false, false, undef, undef, undef, undef, undef, undef, undef, undef, undef, undef, undef, rfl, Or.inl ⟨rfl, { bel := blN (n := 1) (Below.refl _ _), o0 := (by intro q; cases q), o1 := (by intro q; cases q), o2 := (by intro q; cases q), o3 := (by intro q; cases q), o4 := (by intro q; cases q), o5 := (by intro q; cases q), o6 := (by intro q; cases q), o7 := (by intro q; cases q), o8 := (by intro q; cases q), o9 := (by intro q; cases q), o10 := (by intro q; cases q) }⟩⟩
  case rest =>
    obtain ⟨X, rfl, lX, KX, bX⟩ := hcut
    have R2 := R1.below bX R1.lt
    have p2 := belT p1 bX
    have G2 := G1.grow bX
    have z0 := KX.c0
    have z1 := KX.c1
    have z2 := KX.c2
    go_wp2_with (first
      | (go_at_call 19; refine (CH _ G2).mono ?_; rintro x w3 ⟨rfl, b3⟩; have R3 := R2.below b3 R2.lt; have p3 := belT p2 b3; have K3 := KX.below b3 KX.lt; have y0 := K3.c0; have y1 := K3.c1; have y2 := K3.c2; have r0 := R3.c0; have r1 := R3.c1; have r2 := R3.c2; have f0 := R3.free 0; have f1 := R3.free 1; have f2 := R3.free 2)
      | fail)
    have KE := dput3 R3 (Y) (M) (D)
    have bE := dset3 (x := .int .i64 (Y)) (y := .int .i64 (M)) (z := .int .i64 (D)) p3 (show w.heap.size ≤ w.heap.size by omega)
    generalize ((w3.setCell ⟨w.heap.size, 0, none⟩ (.int .i64 (Y))).setCell ⟨w.heap.size, 1, none⟩ (.int .i64 (M))).setCell ⟨w.heap.size, 2, none⟩ (.int .i64 (D)) = WE at *
    have z0 := KE.c0
    have z1 := KE.c1
    have z2 := KE.c2
    exact bodyPost_ret (v := .tuple #[.agg #[.int .i64 Y, .int .i64 M, .int .i64 D], .int .i64 0]) (by simp [results, Tryd.results7, go_sem, z0, z1, z2]) rfl ⟨rfl, bE⟩
set_option maxHeartbeats 6400000 in
set_option maxRecDepth 100000 in
theorem Parse_no (s A B C : ByteArray) (Y M D : Int) (w : World) (G : Gl w) (hs : s.size = 10) (x1 : s.extract 0 4 = A) (x2 : s.extract 5 7 = B) (x3 : s.extract 8 10 = C)
    (HF : ∀ W, Calls Tryd.prog 21 #[.string s] W fun e w' => e = .returned (.bool true) ∧ ∃ q, w' = W.drewN q)
    (C1 : ∀ W, Calls Tryd.prog 22 #[.string A] W fun e w' => e = .returned (.int .i64 Y) ∧ Below W.heap.size W w') (C2 : ∀ W, Calls Tryd.prog 22 #[.string B] W fun e w' => e = .returned (.int .i64 M) ∧ Below W.heap.size W w') (C3 : ∀ W, Calls Tryd.prog 22 #[.string C] W fun e w' => e = .returned (.int .i64 D) ∧ Below W.heap.size W w')
    (CH : ∀ W, Gl W → Calls Tryd.prog 19 #[dt Y M D] W fun e w' => e = .returned (.int .i64 70) ∧ Below W.heap.size W w') :
    Calls Tryd.prog 7 #[.string s] w fun e w' => e = .returned (.tuple #[dt 0 0 0, .int .i64 70]) ∧ Below w.heap.size w w' := by
  have R0 := Blk.new w #[.int .i64 0, .int .i64 0, .int .i64 0] 23
  have p0 := bl (w := w) #[.int .i64 0, .int .i64 0, .int .i64 0] 23
  have G0 := G.alloc (.cells #[.int .i64 0, .int .i64 0, .int .i64 0] 23)
  have hs' : (s.size : Int) = 10 := by omega
  clear G
  unfold dt at *
  go_enter Tryd.func7, Tryd.ntmps7
  go_wp2_with (first
    | (go_at_call 21; refine (HF _).mono ?_; rintro x w0 ⟨rfl, q, rfl⟩)
    | fail)
  have R1 : Blk ((w.alloc (.cells #[.int .i64 0, .int .i64 0, .int .i64 0] 23)).drewN q) w.heap.size #[.int .i64 0, .int .i64 0, .int .i64 0] 23 := R0
  have p1 := blN (n := q) p0
  have G1 := G0.drew q
  clear R0 p0 G0
  generalize (w.alloc (.cells #[.int .i64 0, .int .i64 0, .int .i64 0] 23)).drewN q = W at *
  go_cut [4] from 14 to 23 (fun p wc => ∃ X, p = .pointer (some ⟨X, 0, none⟩) ∧ W.heap.size ≤ X ∧ Blk wc X #[.int .i64 Y, .int .i64 M, .int .i64 D] 23 ∧ Below W.heap.size W wc)
  case first =>
    rename_i hm hJ
    refine wp_region_held (S := fun _ => True) (by kernel_rfl) (any_inv (fun listed a x => ∃ (y0 y1 y2 y3 y4 y5 y6 y7 y8 y9 y10 : Bool) (t14 t15 t16 t17 t18 t19 t20 t21 t22 t23 t4 : Value), a = ⟨#[.string s, undef, .pointer (some ⟨w.heap.size, 0, none⟩), .int .i64 0, t4, undef, .string s, .int .i64 10, .bool false, undef, .string s, .bool true, .bool false, undef, t14, t15, t16, t17, t18, t19, t20, t21, t22, t23, undef, undef, undef, undef, undef, undef, undef], []⟩ ∧ ((listed = #[y0, y1, y2, y3, y4, y5, y6, y7, y8, y9, y10, false] ∧ PS W x s A B C Y M D y0 y1 y2 y3 y4 y5 y6 y7 y8 y9 y10 t14 t15 t16 t17 t18 t19 t20 t21 t22 t23 t4) ∨ (listed = #[true, true, true, true, true, true, true, true, true, true, true, true] ∧ ∃ X, t4 = .pointer (some ⟨X, 0, none⟩) ∧ W.heap.size ≤ X ∧ Blk x X #[.int .i64 Y, .int .i64 M, .int .i64 D] 23 ∧ Below W.heap.size W x))) ?_ ?_ _ _ _ _ (by decide) ?_)
    · rintro listed a x i ⟨y0, y1, y2, y3, y4, y5, y6, y7, y8, y9, y10, t14, t15, t16, t17, t18, t19, t20, t21, t22, t23, t4, rfl, h⟩ hi
      have hr : i < 12 := List.mem_range.1 (List.mem_filter.1 hi).1
      have hc := (List.mem_filter.1 hi).2
      rcases h with ⟨rfl, h⟩ | ⟨rfl, h⟩
      · rcases (show i = 0 ∨ i = 1 ∨ i = 2 ∨ i = 3 ∨ i = 4 ∨ i = 5 ∨ i = 6 ∨ i = 7 ∨ i = 8 ∨ i = 9 ∨ i = 10 ∨ i = 11 by omega) with rfl | rfl | rfl | rfl | rfl | rfl | rfl | rfl | rfl | rfl | rfl | rfl
        · -- operation 0
          clear hc hi
          refine wpOp_step rfl (fun K hK0 => ?_)
          have hK : Hid _ := hK0
          clear hK0
          rw [if_pos (by rfl)]
          go_wp2_with fail
          exact hK.out _ _ ⟨true, y1, y2, y3, y4, y5, y6, y7, y8, y9, y10, _, t15, t16, t17, t18, t19, t20, t21, t22, t23, t4, rfl, Or.inl ⟨rfl, { h with o0 := fun _ => rfl }⟩⟩
        · -- operation 1
          have e0 : y0 = true := by
            revert hc
            cases y0 <;> simp [Region.binds]
          have r0 := h.o0 e0
          subst r0
          clear hc hi
          refine wpOp_step rfl (fun K hK0 => ?_)
          have hK : Hid _ := hK0
          clear hK0
          rw [if_pos (by rfl)]
          go_wp2_with fail
          exact hK.out _ _ ⟨y0, true, y2, y3, y4, y5, y6, y7, y8, y9, y10, _, _, t16, t17, t18, t19, t20, t21, t22, t23, t4, rfl, Or.inl ⟨rfl, { h with o1 := fun _ => rfl }⟩⟩
        · -- operation 2
          have e1 : y1 = true := by
            revert hc
            cases y1 <;> simp [Region.binds]
          have r1 := h.o1 e1
          subst r1
          clear hc hi
          refine wpOp_step rfl (fun K hK0 => ?_)
          have hK : Hid _ := hK0
          clear hK0
          rw [if_pos (by rfl)]
          go_wp2_with (first | (go_at_call 22; refine (C1 _).mono ?_; rintro e x2 ⟨rfl, bb⟩) | fail)
          exact hK.out _ _ ⟨y0, y1, true, y3, y4, y5, y6, y7, y8, y9, y10, t14, _, _, t17, t18, t19, t20, t21, t22, t23, t4, rfl, Or.inl ⟨rfl, { h.grow bb with o2 := fun _ => rfl }⟩⟩
        · -- operation 3
          clear hc hi
          refine wpOp_step rfl (fun K hK0 => ?_)
          have hK : Hid _ := hK0
          clear hK0
          rw [if_pos (by rfl)]
          go_wp2_with fail
          exact hK.out _ _ ⟨y0, y1, y2, true, y4, y5, y6, y7, y8, y9, y10, t14, t15, t16, _, t18, t19, t20, t21, t22, t23, t4, rfl, Or.inl ⟨rfl, { h with o3 := fun _ => rfl }⟩⟩
        · -- operation 4
          have e3 : y3 = true := by
            revert hc
            cases y3 <;> simp [Region.binds]
          have r3 := h.o3 e3
          subst r3
          clear hc hi
          refine wpOp_step rfl (fun K hK0 => ?_)
          have hK : Hid _ := hK0
          clear hK0
          rw [if_pos (by rfl)]
          go_wp2_with fail
          exact hK.out _ _ ⟨y0, y1, y2, y3, true, y5, y6, y7, y8, y9, y10, t14, t15, t16, _, _, t19, t20, t21, t22, t23, t4, rfl, Or.inl ⟨rfl, { h with o4 := fun _ => rfl }⟩⟩
        · -- operation 5
          have e4 : y4 = true := by
            revert hc
            cases y4 <;> simp [Region.binds]
          have r4 := h.o4 e4
          subst r4
          clear hc hi
          refine wpOp_step rfl (fun K hK0 => ?_)
          have hK : Hid _ := hK0
          clear hK0
          rw [if_pos (by rfl)]
          go_wp2_with (first | (go_at_call 22; refine (C2 _).mono ?_; rintro e x2 ⟨rfl, bb⟩) | fail)
          exact hK.out _ _ ⟨y0, y1, y2, y3, y4, true, y6, y7, y8, y9, y10, t14, t15, t16, t17, _, _, t20, t21, t22, t23, t4, rfl, Or.inl ⟨rfl, { h.grow bb with o5 := fun _ => rfl }⟩⟩
        · -- operation 6
          clear hc hi
          refine wpOp_step rfl (fun K hK0 => ?_)
          have hK : Hid _ := hK0
          clear hK0
          rw [if_pos (by rfl)]
          go_wp2_with fail
          exact hK.out _ _ ⟨y0, y1, y2, y3, y4, y5, true, y7, y8, y9, y10, t14, t15, t16, t17, t18, t19, _, t21, t22, t23, t4, rfl, Or.inl ⟨rfl, { h with o6 := fun _ => rfl }⟩⟩
        · -- operation 7
          have e6 : y6 = true := by
            revert hc
            cases y6 <;> simp [Region.binds]
          have r6 := h.o6 e6
          subst r6
          clear hc hi
          refine wpOp_step rfl (fun K hK0 => ?_)
          have hK : Hid _ := hK0
          clear hK0
          rw [if_pos (by rfl)]
          go_wp2_with fail
          exact hK.out _ _ ⟨y0, y1, y2, y3, y4, y5, y6, true, y8, y9, y10, t14, t15, t16, t17, t18, t19, _, _, t22, t23, t4, rfl, Or.inl ⟨rfl, { h with o7 := fun _ => rfl }⟩⟩
        · -- operation 8
          have e7 : y7 = true := by
            revert hc
            cases y7 <;> simp [Region.binds]
          have r7 := h.o7 e7
          subst r7
          clear hc hi
          refine wpOp_step rfl (fun K hK0 => ?_)
          have hK : Hid _ := hK0
          clear hK0
          rw [if_pos (by rfl)]
          go_wp2_with (first | (go_at_call 22; refine (C3 _).mono ?_; rintro e x2 ⟨rfl, bb⟩) | fail)
          exact hK.out _ _ ⟨y0, y1, y2, y3, y4, y5, y6, y7, true, y9, y10, t14, t15, t16, t17, t18, t19, t20, _, _, t23, t4, rfl, Or.inl ⟨rfl, { h.grow bb with o8 := fun _ => rfl }⟩⟩
        · -- operation 9
          have e2 : y2 = true := by
            revert hc
            cases y2 <;> simp [Region.binds]
          have e5 : y5 = true := by
            revert hc
            cases y5 <;> simp [Region.binds]
          have e8 : y8 = true := by
            revert hc
            cases y8 <;> simp [Region.binds]
          have r2 := h.o2 e2
          subst r2
          have r5 := h.o5 e5
          subst r5
          have r8 := h.o8 e8
          subst r8
          clear hc hi
          refine wpOp_step rfl (fun K hK0 => ?_)
          have hK : Hid _ := hK0
          clear hK0
          rw [if_pos (by rfl)]
          go_wp2_with fail
          exact hK.out _ _ ⟨y0, y1, y2, y3, y4, y5, y6, y7, y8, true, y10, t14, t15, _, t17, t18, _, t20, t21, _, _, t4, rfl, Or.inl ⟨rfl, { h with o9 := fun _ => rfl }⟩⟩
        · -- operation 10
          clear hc hi
          refine wpOp_step rfl (fun K hK0 => ?_)
          have hK : Hid _ := hK0
          clear hK0
          rw [if_pos (by rfl)]
          go_wp2_with fail
          exact hK.out _ _ ⟨y0, y1, y2, y3, y4, y5, y6, y7, y8, y9, true, t14, t15, t16, t17, t18, t19, t20, t21, t22, t23, _, rfl, Or.inl ⟨rfl, { h.grow (bl _ _) with o10 := fun _ => ⟨_, rfl, h.bel.size, Blk.new _ _ _⟩ }⟩⟩
        · -- the store
          have e0 : y0 = true := by
            revert hc
            cases y0 <;> simp [Region.binds]
          have e1 : y1 = true := by
            revert hc
            cases y1 <;> simp [Region.binds]
          have e2 : y2 = true := by
            revert hc
            cases y2 <;> simp [Region.binds]
          have e3 : y3 = true := by
            revert hc
            cases y3 <;> simp [Region.binds]
          have e4 : y4 = true := by
            revert hc
            cases y4 <;> simp [Region.binds]
          have e5 : y5 = true := by
            revert hc
            cases y5 <;> simp [Region.binds]
          have e6 : y6 = true := by
            revert hc
            cases y6 <;> simp [Region.binds]
          have e7 : y7 = true := by
            revert hc
            cases y7 <;> simp [Region.binds]
          have e8 : y8 = true := by
            revert hc
            cases y8 <;> simp [Region.binds]
          have e9 : y9 = true := by
            revert hc
            cases y9 <;> simp [Region.binds]
          have e10 : y10 = true := by
            revert hc
            cases y10 <;> simp [Region.binds]
          have r9 := h.o9 e9
          subst r9
          obtain ⟨X, rfl, lX, KX⟩ := h.o10 e10
          have hb := h.bel
          clear h hc hi
          subst e0 e1 e2 e3 e4 e5 e6 e7 e8 e9 e10
          have z0 := KX.c0
          have z1 := KX.c1
          have z2 := KX.c2
          have f0 := KX.free 0
          have f1 := KX.free 1
          have f2 := KX.free 2
          refine wpOp_step rfl (fun K hK0 => ?_)
          have hK : Hid _ := hK0
          clear hK0
          rw [if_pos (by rfl)]
          go_wp2_with fail
          exact hK.out _ _ ⟨true, true, true, true, true, true, true, true, true, true, true, t14, t15, t16, t17, t18, t19, t20, t21, t22, _, _, rfl, Or.inr ⟨rfl, X, rfl, lX, dput3 KX Y M D, ((hb.setCell (p := ⟨X, 0, none⟩) lX _).setCell (p := ⟨X, 1, none⟩) lX _).setCell (p := ⟨X, 2, none⟩) lX _⟩⟩
      · rcases (show i = 0 ∨ i = 1 ∨ i = 2 ∨ i = 3 ∨ i = 4 ∨ i = 5 ∨ i = 6 ∨ i = 7 ∨ i = 8 ∨ i = 9 ∨ i = 10 ∨ i = 11 by omega) with rfl | rfl | rfl | rfl | rfl | rfl | rfl | rfl | rfl | rfl | rfl | rfl <;> simp at hc
    · rintro listed a x ⟨y0, y1, y2, y3, y4, y5, y6, y7, y8, y9, y10, t14, t15, t16, t17, t18, t19, t20, t21, t22, t23, t4, rfl, h⟩ hn
      have al := all_listed (by decide +kernel) hn
      rcases h with ⟨rfl, h⟩ | ⟨rfl, h⟩
      · have z := al 11 (by decide)
        simp at z
      · obtain ⟨X, rfl, lX, KX, hb⟩ := h
        refine hJ _ _ ?_
        go_meet
        case rel => exact ⟨X, rfl, lX, KX, hb⟩
    · exact ⟨false, false, false, false, false, false, false, false, false, false, false, undef, undef, undef, undef, undef, undef, undef, undef, undef, undef, undef, rfl, Or.inl ⟨rfl, { bel := blN (n := 1) (Below.refl _ _), o0 := (by intro q; cases q), o1 := (by intro q; cases q), o2 := (by intro q; cases q), o3 := (by intro q; cases q), o4 := (by intro q; cases q), o5 := (by intro q; cases q), o6 := (by intro q; cases q), o7 := (by intro q; cases q), o8 := (by intro q; cases q), o9 := (by intro q; cases q), o10 := (by intro q; cases q) }⟩⟩
  case rest =>
    obtain ⟨X, rfl, lX, KX, bX⟩ := hcut
    have R2 := R1.below bX R1.lt
    have p2 := belT p1 bX
    have G2 := G1.grow bX
    have z0 := KX.c0
    have z1 := KX.c1
    have z2 := KX.c2
    go_wp2_with (first
      | (go_at_call 19; refine (CH _ G2).mono ?_; rintro x w3 ⟨rfl, b3⟩; have R3 := R2.below b3 R2.lt; have p3 := belT p2 b3; have K3 := KX.below b3 KX.lt; have y0 := K3.c0; have y1 := K3.c1; have y2 := K3.c2; have r0 := R3.c0; have r1 := R3.c1; have r2 := R3.c2; have f0 := R3.free 0; have f1 := R3.free 1; have f2 := R3.free 2)
      | fail)
    have KE := dput3 R3 (0) (0) (0)
    have bE := dset3 (x := .int .i64 (0)) (y := .int .i64 (0)) (z := .int .i64 (0)) p3 (show w.heap.size ≤ w.heap.size by omega)
    generalize ((w3.setCell ⟨w.heap.size, 0, none⟩ (.int .i64 (0))).setCell ⟨w.heap.size, 1, none⟩ (.int .i64 (0))).setCell ⟨w.heap.size, 2, none⟩ (.int .i64 (0)) = WE at *
    have z0 := KE.c0
    have z1 := KE.c1
    have z2 := KE.c2
    exact bodyPost_ret (v := .tuple #[.agg #[.int .i64 0, .int .i64 0, .int .i64 0], .int .i64 70]) (by simp [results, Tryd.results7, go_sem, z0, z1, z2]) rfl ⟨rfl, bE⟩
end Go.Proofs.YthadighbhdekdaaDoor.Dt
