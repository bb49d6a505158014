import Derived.Test.YtebilgnmnambnaaGreatDoorPart28

namespace Go.Proofs.YtebilgnmnambnaaGreatDoor.Wt
open Go.RowKit Tn Mo
def Dig (k : Nat) : Prop := ∀ (p : Option Addr) (l c N : Nat) (av : Option Addr) (n cv : Nat) (Y : List Int) (base b o cR : Nat) (w : World) (_ : Nn w p l c (N : Int)) (_ : (N : Int) < pw 1000000) (_ : n = Y.length) (_ : Y.length + 19 * 2 ^ k ≤ 1000000000)
    (_ : w.ownsRow base 5 1 (.slice av n cv) n (Y.map (Value.int .u8))) (_ : base ≤ w.heap.size) (_ : U8 w (.slice av n cv)) (_ : Ru w base b o k) (_ : k ≤ cR), Calls Tryz.prog 127 #[.agg #[.slice p l c], .slice av n cv, .slice (some ⟨b, o, none⟩) k cR] w fun e w' => ∃ gt cap, e = .returned (.slice (some ⟨gt, 0, none⟩) (Y.length + 19 * 2 ^ k) cap) ∧ w'.ownsRow base 5 1 (.slice (some ⟨gt, 0, none⟩) (Y.length + 19 * 2 ^ k) cap) (Y.length + 19 * 2 ^ k) ((Y ++ pd N (19 * 2 ^ k)).map (Value.int .u8)) ∧
      w.grownBy w' (Value.slice av n cv).ownBlock ∧ (some gt = (Value.slice av n cv).ownBlock ∨ w.heap.size ≤ gt) ∧ U8 w' (.slice (some ⟨gt, 0, none⟩) (Y.length + 19 * 2 ^ k) cap)
theorem ten_pow (k : Nat) : (10 : Nat) ^ (19 * 2 ^ k) = (10 ^ 19) ^ (2 ^ k) := Nat.pow_mul ..
set_option maxRecDepth 100000 in
set_option maxHeartbeats 3200000 in
theorem digits_step (top : Nat) (h3 : 3 ≤ top) (h20 : top ≤ 30) (ih : Dig top) : Dig (top + 1) := by
  intro p l c N av n cv Y base b o cR w hN hNb hY hYb hown hbase hU hR hcR
  subst hY
  obtain ⟨m, hm⟩ : ∃ m, top + 1 = m := ⟨_, rfl⟩
  obtain ⟨K, hK⟩ : ∃ K, 19 * 2 ^ top = K := ⟨_, rfl⟩
  have hK2 : 19 * 2 ^ (top + 1) = K + K := by rw [Nat.pow_succ]; omega
  have IH := fun (p : Option Addr) (l c N : Nat) (av : Option Addr) (cv : Nat) (Y : List Int) (w : World) (h1 : Nn w p l c (N : Int)) (h2 : (N : Int) < pw 1000000) (h3 : Y.length + K ≤ 1000000000) (h4 : w.ownsRow base 5 1 (.slice av Y.length cv) Y.length (Y.map (Value.int .u8))) (h5 : base ≤ w.heap.size) (h6 : U8 w (.slice av Y.length cv)) (h7 : Ru w base b o top) => ih p l c N av Y.length cv Y base b o cR w h1 h2 rfl (by omega) h4 h5 h6 h7 (by omega)
  rw [hK] at IH
  rw [hK2] at hYb ⊢
  obtain ⟨ra, rl, rc, cR0, rN, _⟩ := hR.2 top (by omega)
  obtain ⟨D, hD⟩ : ∃ D : Nat, (10 ^ 19) ^ (2 ^ top) = D := ⟨_, rfl⟩
  have hD0 : 0 < D := by rw [← hD]; exact Nat.pow_pos (Nat.pow_pos (by decide))
  have hDK : 10 ^ K = D := by rw [← hD, ← hK]; exact ten_pow top
  rw [hD] at rN
  have hR' := hR.less (k := top) (by omega)
  rw [hm] at hR hcR ⊢
  have B0 := Bx.new w (.slice p l c) 65
  have al := (Below.refl w.heap.size w).alloc (Nat.le_refl _) (.cells #[.slice p l c] 65)
  have oA := own_grow hown al
  have uA := U8.alloc hU hown al
  have rA := hN.grow al
  have rR := hR'.keep (w' := w.alloc (.cells #[.slice p l c] 65)) (fun j _ hj => al.block j hj)
  have rD := rN.grow al
  have cR1 : (w.alloc (.cells #[.slice p l c] 65)).cell? ⟨b, o + top, none⟩ = some (.slice ra rl rc) := (al.cell (p := ⟨b, o + top, none⟩) (lt_of_cell cR0)).trans cR0
  have sA : base ≤ (w.alloc (.cells #[.slice p l c] 65)).heap.size := by simp; omega
  have x1 : IntKind.i64.wrap ((m : Int) - 1) = (top : Int) := by rw [show (m : Int) - 1 = (top : Int) by omega]; exact wrapI _ (by omega) (by omega)
  have x2 : ¬ (m : Int) < 4 := by omega
  have y0 : (0 : Int) ≤ (top : Int) := by omega
  have y1 : ((top : Int)).toNat = top := by omega
  have y2 : (top : Int) < (m : Int) := by omega
  have sl := slice_r b o m cR (top : Int) top rfl (by omega)
  obtain ⟨Hi, hHi⟩ : ∃ H : Nat, N / D = H := ⟨_, rfl⟩
  obtain ⟨Lo, hLo⟩ : ∃ L : Nat, N % D = L := ⟨_, rfl⟩
  have hHb : (Hi : Int) < pw 1000000 := by
    have : Hi ≤ N := by rw [← hHi]; exact Nat.div_le_self _ _
    omega
  have hLb : (Lo : Int) < pw 1000000 := by
    have : Lo ≤ N := by rw [← hLo]; exact Nat.mod_le _ _
    omega
  have hpd : pd N (K + K) = pd Hi K ++ pd Lo K := by rw [pd_two, hDK, hHi, hLo]
  clear hN rN hR hR' hU hown cR0 hm
  go_enter Tryz.func127, Tryz.ntmps127
  go_wp2_with fail
  generalize w.alloc (.cells #[.slice p l c] 65) = W at *
  have KA := B0
  have DM : ∀ x, Below W.heap.size W x → Calls Tryz.prog 115 #[.agg #[.slice p l c], .agg #[.slice ra rl rc]] x fun e w' => ∃ (a : Option Addr × Option Addr) (l c : Nat × Nat), e = .returned (.tuple #[.agg #[.slice a.1 l.1 c.1], .agg #[.slice a.2 l.2 c.2]]) ∧ (Nn w' a.1 l.1 c.1 (Hi : Int) ∧ Nn w' a.2 l.2 c.2 (Lo : Int)) ∧ Below x.heap.size x w' := fun x bx => by
    have t := DivMod_n (rA.grow bx) (rD.grow bx) hNb (by omega) (Nat.le_refl _)
    rw [show ((N : Int) / (D : Int)) = (Hi : Int) by rw [← hHi]; rfl, show ((N : Int) % (D : Int)) = (Lo : Int) by rw [← hLo]; rfl] at t
    exact t
  go_cut [8, 9] from 22 to 30 (fun s t wc => ∃ (X Y : Nat) (a : Option Addr × Option Addr) (l c : Nat × Nat), s = .pointer (some ⟨X, 0, none⟩) ∧ t = .pointer (some ⟨Y, 0, none⟩) ∧ Below W.heap.size W wc ∧ (Nn wc a.1 l.1 c.1 (Hi : Int) ∧ Nn wc a.2 l.2 c.2 (Lo : Int)) ∧ Bx wc X (.slice a.1 l.1 c.1) ∧ Bx wc Y (.slice a.2 l.2 c.2))
  case first =>
    rename_i hm hJ
    refine wp_region_held (S := fun _ => True) (by kernel_rfl) (any_inv (fun listed a x => ∃ (y0 y1 y2 y3 y4 y5 y6 y7 y8 y9 y10 : Bool) (t23 t24 t25 t26 t27 t28 t22 t29 t30 t8 t9 : Value), a = ⟨#[.agg #[.slice p l c], .slice av Y.length cv, .slice (some ⟨b, o, none⟩) m cR, .pointer (some ⟨w.heap.size, 0, none⟩), undef, undef, .slice none 0 0, .int .i64 top, t8, t9, .slice (some ⟨b, o, none⟩) m cR, .int .i64 m, .bool false, undef, undef, undef, undef, undef, undef, .slice (some ⟨b, o, none⟩) m cR, .int .i64 m, .int .i64 top, t22, t23, t24, t25, t26, t27, t28, t29, t30, undef, undef, undef, undef, undef, undef, undef, undef, undef, undef, undef, undef], []⟩ ∧ ((listed = #[y0, y1, y2, y3, y4, y5, y6, y7, y8, y9, y10, false, false] ∧ AP4 W x Hi Lo (.agg #[.slice p l c]) (.slice (some ⟨b, o, none⟩) m cR) (.int .i64 top) (.pointer (some ⟨b, o + top, none⟩)) (.agg #[.slice ra rl rc]) (0) (0) y0 y1 y2 y3 y4 y5 y6 y7 y8 y9 y10 t23 t24 t25 t26 t27 t28 t22 t29 t30 t8 t9) ∨ (listed = #[true, true, true, true, true, true, true, true, y8, true, true, true, false] ∧ (y8 = true → t30 = ey1 t22) ∧ ∃ (X Y : Nat) (a : Option Addr × Option Addr) (l c : Nat × Nat), t22 = .tuple #[.agg #[.slice a.1 l.1 c.1], .agg #[.slice a.2 l.2 c.2]] ∧ t8 = .pointer (some ⟨X, 0, none⟩) ∧ t9 = .pointer (some ⟨Y, 0, none⟩) ∧ W.heap.size ≤ X ∧ W.heap.size ≤ Y ∧ X ≠ Y ∧ Below W.heap.size W x ∧ (Nn x a.1 l.1 c.1 Hi ∧ Nn x a.2 l.2 c.2 Lo) ∧ Bx x X (.slice a.1 l.1 c.1) ∧ Bx x Y (.slice none 0 0)) ∨ (listed = #[true, true, true, true, true, true, true, true, true, true, true, true, true] ∧ ∃ (X Y : Nat) (a : Option Addr × Option Addr) (l c : Nat × Nat), t22 = .tuple #[.agg #[.slice a.1 l.1 c.1], .agg #[.slice a.2 l.2 c.2]] ∧ t8 = .pointer (some ⟨X, 0, none⟩) ∧ t9 = .pointer (some ⟨Y, 0, none⟩) ∧ W.heap.size ≤ X ∧ W.heap.size ≤ Y ∧ X ≠ Y ∧ Below W.heap.size W x ∧ (Nn x a.1 l.1 c.1 Hi ∧ Nn x a.2 l.2 c.2 Lo) ∧ Bx x X (.slice a.1 l.1 c.1) ∧ Bx x Y (.slice a.2 l.2 c.2)))) ?_ ?_ _ _ _ _ (by decide) ?_)
    · rintro listed a x i ⟨y0, y1, y2, y3, y4, y5, y6, y7, y8, y9, y10, t23, t24, t25, t26, t27, t28, t22, t29, t30, t8, t9, rfl, h⟩ hi
      have hr : i < 13 := List.mem_range.1 (List.mem_filter.1 hi).1
      have hc := (List.mem_filter.1 hi).2
      rcases h with ⟨rfl, h⟩ | ⟨rfl, h⟩ | ⟨rfl, h⟩
      · rcases (show i = 0 ∨ i = 1 ∨ i = 2 ∨ i = 3 ∨ i = 4 ∨ i = 5 ∨ i = 6 ∨ i = 7 ∨ i = 8 ∨ i = 9 ∨ i = 10 ∨ i = 11 ∨ i = 12 by omega) with rfl | rfl | rfl | rfl | rfl | rfl | rfl | rfl | rfl | rfl | rfl | rfl | rfl
        · clear hc hi
          have kd := (KA.below h.bel).1
          refine wpOp_step rfl (fun K hK0 => ?_)
          have hK : Hid _ := hK0
          clear hK0
          rw [if_pos (by rfl)]
          go_wp2_with fail
          exact hK.out _ _ ⟨true,_,_,_,_,_,_,_,_,_,_,.agg #[.slice p l c],_,_,_,_,_,_,_,_,_,_,rfl,Or.inl ⟨rfl, { h with o0 := fun _ => rfl }⟩⟩
        · clear hc hi
          refine wpOp_step rfl (fun K hK0 => ?_)
          have hK : Hid _ := hK0
          clear hK0
          rw [if_pos (by rfl)]
          go_wp2_with fail
          exact hK.out _ _ ⟨_,true,_,_,_,_,_,_,_,_,_,_,.slice (some ⟨b, o, none⟩) m cR,_,_,_,_,_,_,_,_,_,rfl,Or.inl ⟨rfl, { h with o1 := fun _ => rfl }⟩⟩
        · clear hc hi
          refine wpOp_step rfl (fun K hK0 => ?_)
          have hK : Hid _ := hK0
          clear hK0
          rw [if_pos (by rfl)]
          go_wp2_with fail
          exact hK.out _ _ ⟨_,_,true,_,_,_,_,_,_,_,_,_,_,.int .i64 top,_,_,_,_,_,_,_,_,rfl,Or.inl ⟨rfl, { h with o2 := fun _ => rfl }⟩⟩
        · have e1 : y1 = true := by
            revert hc
            cases y1 <;> simp [Region.binds]
          have e2 : y2 = true := by
            revert hc
            cases y2 <;> simp [Region.binds]
          have r1 := h.o1 e1
          subst r1
          have r2 := h.o2 e2
          subst r2
          clear hc hi
          refine wpOp_step rfl (fun K hK0 => ?_)
          have hK : Hid _ := hK0
          clear hK0
          rw [if_pos (by rfl)]
          go_wp2_with fail
          exact hK.out _ _ ⟨_,_,_,true,_,_,_,_,_,_,_,_,_,_,.pointer (some ⟨b, o + top, none⟩),_,_,_,_,_,_,_,rfl,Or.inl ⟨rfl, { h with o3 := fun _ => rfl }⟩⟩
        · have e3 : y3 = true := by
            revert hc
            cases y3 <;> simp [Region.binds]
          have r3 := h.o3 e3
          subst r3
          clear hc hi
          have kd := (h.bel.cell (p := ⟨b, o + top, none⟩) (lt_of_cell cR1)).trans cR1
          refine wpOp_step rfl (fun K hK0 => ?_)
          have hK : Hid _ := hK0
          clear hK0
          rw [if_pos (by rfl)]
          go_wp2_with fail
          exact hK.out _ _ ⟨_,_,_,_,true,_,_,_,_,_,_,_,_,_,_,.agg #[.slice ra rl rc],_,_,_,_,_,_,rfl,Or.inl ⟨rfl, { h with o4 := fun _ => rfl }⟩⟩
        · have e0 : y0 = true := by
            revert hc
            cases y0 <;> simp [Region.binds]
          have e4 : y4 = true := by
            revert hc
            cases y4 <;> simp [Region.binds]
          have r0 := h.o0 e0
          subst r0
          have r4 := h.o4 e4
          subst r4
          clear hc hi
          refine wpOp_step rfl (fun K hK0 => ?_)
          have hK : Hid _ := hK0
          clear hK0
          rw [if_pos (by rfl)]
          go_wp2_with (first | (go_at_call 115; go_must (refine (DM x h.bel).mono ?_; rintro e x2 ⟨a9, l9, c9, rfl, H9, bb⟩)) | fail)
          exact hK.out _ _ ⟨_,_,_,_,_,true,_,_,_,_,_,_,_,_,_,_,_,_,_,_,_,_,rfl,Or.inl ⟨rfl, { h.grow bb with o5 := fun _ => ⟨a9, l9, c9, rfl, H9⟩ }⟩⟩
        · have nj : y6 = false := by
            revert hc
            cases y6 <;> simp [Region.binds]
          have e5 : y5 = true := by
            revert hc
            cases y5 <;> simp [Region.binds]
          obtain ⟨a5, l5, c5, rfl, H5⟩ := h.o5 e5
          clear hc hi
          have bb := Below.refl x.heap.size x
          refine wpOp_step rfl (fun K hK0 => ?_)
          have hK : Hid _ := hK0
          clear hK0
          rw [if_pos (by rfl)]
          go_wp2_with (first | (fail) | fail)
          exact hK.out _ _ ⟨_,_,_,_,_,_,true,_,_,_,_,_,_,_,_,_,_,_,_,_,_,_,rfl,Or.inl ⟨rfl, { h.grow bb with o6 := fun _ => ⟨a5, l5, c5, rfl, H5⟩, o7 := fun u => (by have u2 := h.d7_6 u; rw [nj] at u2; cases u2), o8 := fun u => (by have u2 := h.d8_6 u; rw [nj] at u2; cases u2), d7_6 := fun _ => rfl, d8_6 := fun _ => rfl }⟩⟩
        · have e6 : y6 = true := by
            revert hc
            cases y6 <;> simp [Region.binds]
          obtain ⟨a6, l6, c6, rfl, H6⟩ := h.o6 e6
          clear hc hi
          refine wpOp_step rfl (fun K hK0 => ?_)
          have hK : Hid _ := hK0
          clear hK0
          rw [if_pos (by rfl)]
          go_wp2_with fail
          exact hK.out _ _ ⟨_,_,_,_,_,_,_,true,_,_,_,_,_,_,_,_,_,_,_,_,_,_,rfl,Or.inl ⟨rfl, { h with o7 := fun _ => rfl, d7_6 := fun _ => e6 }⟩⟩
        · have e6 : y6 = true := by
            revert hc
            cases y6 <;> simp [Region.binds]
          obtain ⟨a6, l6, c6, rfl, H6⟩ := h.o6 e6
          clear hc hi
          refine wpOp_step rfl (fun K hK0 => ?_)
          have hK : Hid _ := hK0
          clear hK0
          rw [if_pos (by rfl)]
          go_wp2_with fail
          exact hK.out _ _ ⟨_,_,_,_,_,_,_,_,true,_,_,_,_,_,_,_,_,_,_,_,_,_,rfl,Or.inl ⟨rfl, { h with o8 := fun _ => rfl, d8_6 := fun _ => e6 }⟩⟩
        · clear hc hi
          refine wpOp_step rfl (fun K hK0 => ?_)
          have hK : Hid _ := hK0
          clear hK0
          rw [if_pos (by rfl)]
          go_wp2_with fail
          exact hK.out _ _ ⟨_,_,_,_,_,_,_,_,_,true,_,_,_,_,_,_,_,_,_,_,_,_,rfl,Or.inl ⟨rfl, { h.grow ((Below.refl _ _).alloc (Nat.le_refl _) _) with o9 := fun _ => ⟨_, rfl, h.bel.size, Blk.new _ _ _⟩, ne9_10 := fun _ q => by obtain ⟨Y, e, _, K⟩ := h.o10 q; rw [e]; intro c; cases c; exact absurd K.lt (Nat.lt_irrefl _) }⟩⟩
        · clear hc hi
          refine wpOp_step rfl (fun K hK0 => ?_)
          have hK : Hid _ := hK0
          clear hK0
          rw [if_pos (by rfl)]
          go_wp2_with fail
          exact hK.out _ _ ⟨_,_,_,_,_,_,_,_,_,_,true,_,_,_,_,_,_,_,_,_,_,_,rfl,Or.inl ⟨rfl, { h.grow ((Below.refl _ _).alloc (Nat.le_refl _) _) with o10 := fun _ => ⟨_, rfl, h.bel.size, Blk.new _ _ _⟩, ne9_10 := fun q _ => by obtain ⟨Y, e, _, K⟩ := h.o9 q; rw [e]; intro c; cases c; exact absurd K.lt (Nat.lt_irrefl _) }⟩⟩
        · have e0 : y0 = true := by
            revert hc
            cases y0 <;> simp [Region.binds]
          have e1 : y1 = true := by
            revert hc
            cases y1 <;> simp [Region.binds]
          have e2 : y2 = true := by
            revert hc
            cases y2 <;> simp [Region.binds]
          have e3 : y3 = true := by
            revert hc
            cases y3 <;> simp [Region.binds]
          have e4 : y4 = true := by
            revert hc
            cases y4 <;> simp [Region.binds]
          have e5 : y5 = true := by
            revert hc
            cases y5 <;> simp [Region.binds]
          have e6 : y6 = true := by
            revert hc
            cases y6 <;> simp [Region.binds]
          have e7 : y7 = true := by
            revert hc
            cases y7 <;> simp [Region.binds]
          have e9 : y9 = true := by
            revert hc
            cases y9 <;> simp [Region.binds]
          have e10 : y10 = true := by
            revert hc
            cases y10 <;> simp [Region.binds]
          obtain ⟨a6, l6, c6, rfl, H6⟩ := h.o6 e6
          have r7 := h.o7 e7
          subst r7
          obtain ⟨X9, rfl, lX9, K9⟩ := h.o9 e9
          obtain ⟨X10, rfl, lX10, K10⟩ := h.o10 e10
          have hl8 := h.o8
          clear hc hi
          subst e0 e1 e2 e3 e4 e5 e6 e7 e9 e10
          have bl := h.bel
          have nXY : X9 ≠ X10 := by have := h.ne9_10 rfl rfl; simpa using this
          simp only [ey0_t]
          have B9 := bxof K9
          have B10 := bxof K10
          have k0 := B9.1
          have k1 := B9.2
          clear h
          refine wpOp_step rfl (fun K hK0 => ?_)
          have hK : Hid _ := hK0
          clear hK0
          rw [if_pos (by rfl)]
          go_wp2_with fail
          exact hK.out _ _ ⟨true,true,true,true,true,true,true,true,_,true,true,_,_,_,_,_,_,_,_,_,_,_,rfl,Or.inr (Or.inl ⟨rfl, hl8, X9, X10, a6, l6, c6, rfl, rfl, rfl, lX9, lX10, nXY, below_put bl lX9 _, ⟨H6.1.box B9, H6.2.box B9⟩, B9.set _, bxskip B10 (Ne.symm nXY) _⟩)⟩
        · simp [Region.binds] at hc
      · rcases (show i = 0 ∨ i = 1 ∨ i = 2 ∨ i = 3 ∨ i = 4 ∨ i = 5 ∨ i = 6 ∨ i = 7 ∨ i = 8 ∨ i = 9 ∨ i = 10 ∨ i = 11 ∨ i = 12 by omega) with rfl | rfl | rfl | rfl | rfl | rfl | rfl | rfl | rfl | rfl | rfl | rfl | rfl
        · simp at hc
        · simp at hc
        · simp at hc
        · simp at hc
        · simp at hc
        · simp at hc
        · simp at hc
        · simp at hc
        · clear hc hi
          obtain ⟨hl8, h⟩ := h
          obtain ⟨X, Y, a, l, c, rfl, rfl, rfl, lX, lY, nXY, bl, nn, KX, KY⟩ := h
          refine wpOp_step rfl (fun K hK0 => ?_)
          have hK : Hid _ := hK0
          clear hK0
          rw [if_pos (by rfl)]
          go_wp2_with fail
          exact hK.out _ _ ⟨true,true,true,true,true,true,true,true,true,true,true,_,_,_,_,_,_,_,_,_,_,_,rfl,Or.inr (Or.inl ⟨rfl, fun _ => rfl, X, Y, a, l, c, rfl, rfl, rfl, lX, lY, nXY, bl, nn, KX, KY⟩)⟩
        · simp at hc
        · simp at hc
        · simp at hc
        · have e8 : y8 = true := by
            revert hc
            cases y8 <;> simp [Region.binds]
          obtain ⟨hl8, h⟩ := h
          have r8 := hl8 e8
          clear hl8
          subst e8 r8
          clear hc hi
          obtain ⟨X, Y, a, l, c, rfl, rfl, rfl, lX, lY, nXY, bl, nn, KX, KY⟩ := h
          simp only [ey1_t]
          have k0 := KY.1
          have k1 := KY.2
          refine wpOp_step rfl (fun K hK0 => ?_)
          have hK : Hid _ := hK0
          clear hK0
          rw [if_pos (by rfl)]
          go_wp2_with fail
          exact hK.out _ _ ⟨true,true,true,true,true,true,true,true,true,true,true,_,_,_,_,_,_,_,_,_,_,_,rfl,Or.inr (Or.inr (⟨rfl, X, Y, a, l, c, rfl, rfl, rfl, lX, lY, nXY, below_put bl lY _, ⟨nn.1.box KY, nn.2.box KY⟩, bxskip KX nXY _, KY.set _⟩))⟩
      · rcases (show i = 0 ∨ i = 1 ∨ i = 2 ∨ i = 3 ∨ i = 4 ∨ i = 5 ∨ i = 6 ∨ i = 7 ∨ i = 8 ∨ i = 9 ∨ i = 10 ∨ i = 11 ∨ i = 12 by omega) with rfl | rfl | rfl | rfl | rfl | rfl | rfl | rfl | rfl | rfl | rfl | rfl | rfl <;> simp at hc
    · rintro listed a x ⟨y0, y1, y2, y3, y4, y5, y6, y7, y8, y9, y10, t23, t24, t25, t26, t27, t28, t22, t29, t30, t8, t9, rfl, h⟩ hn
      have al := all_listed2 (by decide +kernel) hn
      rcases h with ⟨rfl, h⟩ | ⟨rfl, h⟩ | ⟨rfl, h⟩
      · have z := al 11 (by decide)
        simp at z
      · have z := al 12 (by decide)
        simp at z
      · obtain ⟨X, Y, a, l, c, rfl, rfl, rfl, lX, lY, nXY, bl, nn, KX, KY⟩ := h
        refine hJ _ _ ?_
        go_meet
        case rel => exact ⟨X, Y, a, l, c, rfl, rfl, bl, nn, KX, KY⟩
    · exact ⟨false, false, false, false, false, false, false, false, false, false, false, undef, undef, undef, undef, undef, undef, undef, undef, undef, undef, undef, rfl, Or.inl ⟨rfl, { bel := (Below.refl _ _).drew, o0 := (by intro q; cases q), o1 := (by intro q; cases q), o2 := (by intro q; cases q), o3 := (by intro q; cases q), o4 := (by intro q; cases q), o5 := (by intro q; cases q), o6 := (by intro q; cases q), o7 := (by intro q; cases q), o8 := (by intro q; cases q), o9 := (by intro q; cases q), o10 := (by intro q; cases q), ne9_10 := (by intro q; cases q), d7_6 := (by intro q; cases q), d8_6 := (by intro q; cases q) }⟩⟩
  case rest =>
    rename World => wB
    obtain ⟨X, Y', a, l', c', rfl, rfl, bl, ⟨nH, nL⟩, KX, KY⟩ := hcut
    have pB := bel' al bl
    have oB := own_grow oA bl
    have uB := U8.alloc uA oA bl
    have rB := rR.keep (w' := wB) (fun j _ hj => bl.block j hj)
    have sB : base ≤ wB.heap.size := Nat.le_trans sA bl.size
    have C1 := IH a.1 l'.1 c'.1 Hi av cv Y wB.drew nH hHb (by omega) oB sB uB rB
    have k0 := KX.1
    have k1 := KY.1
    have k0d : wB.drew.cell? ⟨X, 0, none⟩ = some (.slice a.1 l'.1 c'.1) := k0
    have k1d : wB.drew.cell? ⟨Y', 0, none⟩ = some (.slice a.2 l'.2 c'.2) := k1
    have nb1 : ∀ z q1 q2 q3, wB.cell? ⟨z, 0, none⟩ = some (.slice q1 q2 q3) → some z ≠ (Value.slice av Y.length cv).ownBlock := fun z q1 q2 q3 h e => by
      obtain ⟨x, hx⟩ := uB z e.symm 0 _ h
      cases hx
    have nbX := nb1 X _ _ _ k0
    have nbY := nb1 Y' _ _ _ k1
    clear DM rA rD rR oA uA sA cR1 KA B0 nb1 ih
    go_wp2_with fail
    go_region_held3 (fun x => x.cell? ⟨X, 0, none⟩ = some (.slice a.1 l'.1 c'.1)) (go_keep) (first
      | (go_at_call 127; refine C1.mono ?_; rintro e w2 ⟨gt, cap, rfl, o2, gr2, nb2, u2⟩; have q2 := gr2.cell k0d nbX)
      | fail)
    all_goals
      have nL2 := Nn.text (w := wB.drew) (w' := w2) nL uB gr2
      have j1 := gr2.cell k1d nbY
      have s2 : base ≤ w2.heap.size := Nat.le_trans sB gr2.size
      have r2 := rB.keep (w' := w2) (fun j hj hj' => gr2.block j hj' (fun e => by have := (oB.lt j e.symm).1; omega))
      have o2' : w2.ownsRow base 5 1 (.slice (some ⟨gt, 0, none⟩) (Y ++ pd Hi K).length cap) (Y ++ pd Hi K).length ((Y ++ pd Hi K).map (Value.int .u8)) := by rw [List.length_append, pd_len]; exact o2
      have u2' : U8 w2 (.slice (some ⟨gt, 0, none⟩) (Y ++ pd Hi K).length cap) := by rw [List.length_append, pd_len]; exact u2
      have C2 := IH a.2 l'.2 c'.2 Lo (some ⟨gt, 0, none⟩) cap (Y ++ pd Hi K) w2.drew nL2 hLb (by rw [List.length_append, pd_len]; omega) o2' s2 u2' r2
      rw [List.length_append, pd_len] at C2
      have j1d : w2.drew.cell? ⟨Y', 0, none⟩ = some (.slice a.2 l'.2 c'.2) := j1
      have nbZ : some Y' ≠ (Value.slice (some ⟨gt, 0, none⟩) (Y.length + K) cap).ownBlock := fun e => by
        obtain ⟨x, hx⟩ := u2 Y' e.symm 0 _ j1
        cases hx
      go_wp2_with fail
      go_region_held3 (fun x => x.cell? ⟨Y', 0, none⟩ = some (.slice a.2 l'.2 c'.2)) (go_keep) (first
        | (go_at_call 127; refine C2.mono ?_; rintro e w3 ⟨gt2, cap2, rfl, o3, gr3, nb3, u3⟩; have q3 := gr3.cell j1d nbZ)
        | fail)
      all_goals
        have GR : w.grownBy w3 (Value.slice av Y.length cv).ownBlock := grown2 (w1 := wB) (w2 := w2) (r2 := (Value.slice (some ⟨gt, 0, none⟩) (Y.length + K) cap).ownBlock) pB ⟨gr2.os, gr2.tape, gr2.output, gr2.size, gr2.block⟩ ⟨gr3.os, gr3.tape, gr3.output, gr3.size, gr3.block⟩ (fun k hk => by
          simp only [Value.ownBlock, Option.some.injEq] at hk
          subst hk
          rcases nb2 with h | h
          · exact Or.inl h.symm
          · exact Or.inr (Nat.le_trans pB.size h))
        have NB : some gt2 = (Value.slice av Y.length cv).ownBlock ∨ w.heap.size ≤ gt2 := by
          rcases nb3 with h | h
          · simp only [Value.ownBlock, Option.some.injEq] at h
            subst h
            rcases nb2 with h | h
            · exact Or.inl h
            · exact Or.inr (Nat.le_trans pB.size h)
          · exact Or.inr (Nat.le_trans pB.size (Nat.le_trans gr2.size h))
        go_wp2
        go_ret
        refine ⟨gt2, cap2, (by show Ending.returned (.slice (some ⟨gt2, 0, none⟩) (Y.length + K + K) cap2) = _; rw [Nat.add_assoc]), ?_, GR, NB, by rw [← Nat.add_assoc]; exact u3⟩
        rw [hpd, ← Nat.add_assoc, ← List.append_assoc]
        exact o3
theorem digits_any (k : Nat) (h1 : 1 ≤ k) (h2 : k ≤ 30) : Dig k := by
  induction k with
  | zero => omega
  | succ k ih =>
    by_cases h : k + 1 < 4
    · intro p l c N av n cv Y base b o cR w
      exact digits_few (k + 1) (by omega) h p l c N av n cv Y base b o cR w
    · exact digits_step k (by omega) (by omega) (ih (by omega) (by omega))
end Go.Proofs.YtebilgnmnambnaaGreatDoor.Wt
