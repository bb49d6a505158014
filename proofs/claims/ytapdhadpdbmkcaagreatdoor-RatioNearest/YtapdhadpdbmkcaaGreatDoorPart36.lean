import Derived.Test.YtapdhadpdbmkcaaGreatDoorPart35
import Derived.Test.YtapdhadpdbmkcaaGreatDoorPart30
import Derived.Deep.RegionHeld3

namespace Go.Proofs.YtapdhadpdbmkcaaGreatDoor.Wt
open Go.RowKit Tn Mo

theorem elemR : Tryz.prog.elem 94 = 42 := by kernel_rfl
/-- rungs[:h]. -/
theorem slice_r (g o len cap : Nat) (z : Int) (h : Nat) (ez : z = h) (h2 : h ≤ cap) (w : World) :
  (Instr.slice 94 (.slice (some ⟨g, o, none⟩) len cap) none (some (.int .i64 z)) none).run Tryz.prog w = .ok (.slice (some ⟨g, o, none⟩) h cap) w := by
 subst ez
 rw [run_slice_h w 94 _ len cap (by rw [elemR]; exact Tryz.underlying94) .i64 _ (by omega) (by omega), elemR]
 simp [Tryz.sizeOf42, Result.andThen, sliced, Addr.add]
/-- A text that a box was made beside. -/
theorem U8.alloc {w : World} {v : Value} {base n : Nat} {xs : List Value} (h : U8 w v) (ho : w.ownsRow base 5 1 v n xs) {w' : World} (b : Below w.heap.size w w') : U8 w' v := fun k e j u hj => h k e j u ((b.cell (p := ⟨k, j, none⟩) (ho.lt k e).2) ▸ hj)
theorem own_grow {w w' : World} {base n : Nat} {e : TypeId} {v : Value} {xs : List Value} (h : w.ownsRow base e 1 v n xs) (b : Below w.heap.size w w') : w'.ownsRow base e 1 v n xs := by
 obtain ⟨h1, h2⟩ := h
 refine ⟨h1, ?_⟩
 rcases h2 with h2 | ⟨g, cap, cur, e1, e2, e3, r⟩
 ·exact Or.inl h2
 ·exact Or.inr ⟨g, cap, cur, e1, e2, (b.block g (Own.lt ⟨cur, _, e3⟩)).trans e3, r⟩
/-- Texts grow one behind the other. -/
theorem grown2 {w w1 w2 w3 : World} {r r2 : Option Nat} (b : Below w.heap.size w w1) (g1 : w1.grownBy w2 r) (g2 : w2.grownBy w3 r2) (h : ∀ k, r2 = some k → r = some k ∨ w.heap.size ≤ k) : w.grownBy w3 r :=
 ⟨g2.os.trans (g1.os.trans b.os), g2.tape.trans (g1.tape.trans b.tape), g2.output.trans (g1.output.trans b.output), Nat.le_trans b.size (Nat.le_trans g1.size g2.size), fun k hk hn => by
  have s1 := b.size
  have s2 := g1.size
  refine (g2.block k (by omega) (fun e => ?_)).trans ((g1.block k (by omega) hn).trans (b.block k hk))
  rcases h k e.symm with q | q
  ·exact hn q.symm
  ·omega⟩
set_option maxRecDepth 100000 in
set_option maxHeartbeats 3200000 in
theorem digits_few (m : Nat) (h0 : 1 ≤ m) (h4 : m < 4) (p : Option Addr) (l c N : Nat) (av : Option Addr) (n cv : Nat) (Y : List Int) (base b o cR : Nat) (w : World) (hN : Nn w p l c (N : Int)) (hNb : (N : Int) < pw 1000000) (hY : n = Y.length) (hYb : Y.length + 19 * 2 ^ m ≤ 1000000000)
  (hown : w.ownsRow base 5 1 (.slice av n cv) n (Y.map (Value.int .u8))) (hbase : base ≤ w.heap.size) (hU : U8 w (.slice av n cv)) (hR : Ru w base b o m) (hcR : m ≤ cR) : Calls Tryz.prog 67 #[.agg #[.slice p l c], .slice av n cv, .slice (some ⟨b, o, none⟩) m cR] w fun e w' => ∃ gt cap, e = .returned (.slice (some ⟨gt, 0, none⟩) (Y.length + 19 * 2 ^ m) cap) ∧ w'.ownsRow base 5 1 (.slice (some ⟨gt, 0, none⟩) (Y.length + 19 * 2 ^ m) cap) (Y.length + 19 * 2 ^ m) ((Y ++ pd N (19 * 2 ^ m)).map (Value.int .u8)) ∧
   w.grownBy w' (Value.slice av n cv).ownBlock ∧ (some gt = (Value.slice av n cv).ownBlock ∨ w.heap.size ≤ gt) ∧ U8 w' (.slice (some ⟨gt, 0, none⟩) (Y.length + 19 * 2 ^ m) cap) := by
 subst hY
 obtain ⟨xs, hx, hm, hv⟩ := hN
 obtain rfl : l = xs.length := by obtain ⟨_, a', c', e, _⟩ := hx; simp only [Value.slice.injEq] at e; exact e.2.1
 have hl := len_of hx.1 hm (by rw [hv]; exact hNb)
 have B0 := Bx.new w (.slice p xs.length c) 42
 have al := (Below.refl w.heap.size w).alloc (Nat.le_refl _) (.cells #[.slice p xs.length c] 42)
 obtain ⟨G, hG, g2, g8⟩ : ∃ G : Nat, 2 ^ m = G ∧ 1 ≤ G ∧ G ≤ 8 := ⟨_, rfl, Nat.one_le_two_pow, by
  have : m = 1 ∨ m = 2 ∨ m = 3 := by omega
  rcases this with rfl | rfl | rfl <;> decide⟩
 have x1 : IntKind.i64.wrap ((2 : Int) ^ m) = (G : Int) := by
  rw [show (2 : Int) ^ m = (G : Int) by rw [← hG]; simp]
  exact wrapI _ (by omega) (by omega)
 rw [hG] at hYb ⊢
 have AG := fun W x1 x2 x3 x4 => appendGroups_any p c xs N av Y.length cv Y G base W x1 hv hl g2 (by omega) rfl (by omega) x2 x3 x4
 have q0 := B0.1
 have h4' : (m : Int) < 4 := by omega
 have y0 : (0 : Int) ≤ (m : Int) := by omega
 have y1 : ((m : Int)).toNat = m := by omega
 have oA := own_grow hown al
 have uA := U8.alloc hU hown al
 have rA := hx.grow al
 have sA : base ≤ (w.alloc (.cells #[.slice p xs.length c] 42)).heap.size := by simp; omega
 go_enter Tryz.func67, Tryz.ntmps67
 go_wp2_with fail
 generalize w.alloc (.cells #[.slice p xs.length c] 42) = W at *
 have AGD := AG W.drew (Rd.drew rA) oA sA uA
 have nb : some w.heap.size ≠ (Value.slice av Y.length cv).ownBlock := fun e => by
  obtain ⟨x, hx⟩ := uA w.heap.size e.symm 0 _ q0
  cases hx
 have q0d : W.drew.cell? ⟨w.heap.size, 0, none⟩ = some (.slice p xs.length c) := q0
 clear AG oA uA rA sA hown hU hR hx
 go_region_held3 (fun x => x.cell? ⟨w.heap.size, 0, none⟩ = some (.slice p xs.length c)) (go_keep) (first
  | (go_at_call 97; with_reducible refine AGD.mono ?_; rintro e w2 ⟨gt, cap, rfl, o2, gr2, nb2, u2⟩; have q2 := gr2.cell q0d nb)
  | fail)
 all_goals
  go_wp2
  go_ret
  exact ⟨gt, cap, rfl, o2, ⟨gr2.os.trans al.os, gr2.tape.trans al.tape, gr2.output.trans al.output, Nat.le_trans al.size gr2.size, fun k hk hn => (gr2.block k (Nat.lt_of_lt_of_le hk al.size) hn).trans (al.block k hk)⟩, (by rcases nb2 with h | h; exact Or.inl h; exact Or.inr (Nat.le_trans al.size h)), u2⟩
end Go.Proofs.YtapdhadpdbmkcaaGreatDoor.Wt

namespace Go.Proofs.YtapdhadpdbmkcaaGreatDoor.Wt
open Go.RowKit Tn Mo

/-- What appendDigits does with k rungs. -/
def Dig (k : Nat) : Prop := ∀ (p : Option Addr) (l c N : Nat) (av : Option Addr) (n cv : Nat) (Y : List Int) (base b o cR : Nat) (w : World) (_ : Nn w p l c (N : Int)) (_ : (N : Int) < pw 1000000) (_ : n = Y.length) (_ : Y.length + 19 * 2 ^ k ≤ 1000000000)
  (_ : w.ownsRow base 5 1 (.slice av n cv) n (Y.map (Value.int .u8))) (_ : base ≤ w.heap.size) (_ : U8 w (.slice av n cv)) (_ : Ru w base b o k) (_ : k ≤ cR), Calls Tryz.prog 67 #[.agg #[.slice p l c], .slice av n cv, .slice (some ⟨b, o, none⟩) k cR] w fun e w' => ∃ gt cap, e = .returned (.slice (some ⟨gt, 0, none⟩) (Y.length + 19 * 2 ^ k) cap) ∧ w'.ownsRow base 5 1 (.slice (some ⟨gt, 0, none⟩) (Y.length + 19 * 2 ^ k) cap) (Y.length + 19 * 2 ^ k) ((Y ++ pd N (19 * 2 ^ k)).map (Value.int .u8)) ∧
   w.grownBy w' (Value.slice av n cv).ownBlock ∧ (some gt = (Value.slice av n cv).ownBlock ∨ w.heap.size ≤ gt) ∧ U8 w' (.slice (some ⟨gt, 0, none⟩) (Y.length + 19 * 2 ^ k) cap)
theorem ten_pow (k : Nat) : (10 : Nat) ^ (19 * 2 ^ k) = (10 ^ 19) ^ (2 ^ k) := Nat.pow_mul ..
set_option maxRecDepth 100000 in
set_option maxHeartbeats 3200000 in
theorem digits_step (top : Nat) (h3 : 3 ≤ top) (h20 : top ≤ 30) (ih : Dig top) : Dig (top + 1) := by
 intro p l c N av n cv Y base b o cR w hN hNb hY hYb hown hbase hU hR hcR
 subst hY
 obtain ⟨m, hm⟩ : ∃ m, top + 1 = m := ⟨_, rfl⟩
 obtain ⟨K, hK⟩ : ∃ K, 19 * 2 ^ top = K := ⟨_, rfl⟩
 have hK2 : 19 * 2 ^ (top + 1) = K + K := by rw [Nat.pow_succ]; omega
 have IH := fun (p : Option Addr) (l c N : Nat) (av : Option Addr) (cv : Nat) (Y : List Int) (w : World) (h1 : Nn w p l c (N : Int)) (h2 : (N : Int) < pw 1000000) (h3 : Y.length + K ≤ 1000000000) (h4 : w.ownsRow base 5 1 (.slice av Y.length cv) Y.length (Y.map (Value.int .u8))) (h5 : base ≤ w.heap.size) (h6 : U8 w (.slice av Y.length cv)) (h7 : Ru w base b o top) => ih p l c N av Y.length cv Y base b o cR w h1 h2 rfl (by omega) h4 h5 h6 h7 (by omega)
 rw [hK] at IH
 rw [hK2] at hYb ⊢
 obtain ⟨ra, rl, rc, cR0, rN, _⟩ := hR.2 top (by omega)
 obtain ⟨D, hD⟩ : ∃ D : Nat, (10 ^ 19) ^ (2 ^ top) = D := ⟨_, rfl⟩
 have hD0 : 0 < D := by rw [← hD]; exact Nat.pow_pos (Nat.pow_pos (by decide))
 have hDK : 10 ^ K = D := by rw [← hD, ← hK]; exact ten_pow top
 rw [hD] at rN
 have hR' := hR.less (k := top) (by omega)
 rw [hm] at hR hcR ⊢
 have B0 := Bx.new w (.slice p l c) 42
 have al := (Below.refl w.heap.size w).alloc (Nat.le_refl _) (.cells #[.slice p l c] 42)
 have oA := own_grow hown al
 have uA := U8.alloc hU hown al
 have rA := hN.grow al
 have rR := hR'.keep (w' := w.alloc (.cells #[.slice p l c] 42)) (fun j _ hj => al.block j hj)
 have rD := rN.grow al
 have cR1 : (w.alloc (.cells #[.slice p l c] 42)).cell? ⟨b, o + top, none⟩ = some (.slice ra rl rc) := (al.cell (p := ⟨b, o + top, none⟩) (lt_of_cell cR0)).trans cR0
 have sA : base ≤ (w.alloc (.cells #[.slice p l c] 42)).heap.size := by simp; omega
 have x1 : IntKind.i64.wrap ((m : Int) - 1) = (top : Int) := by rw [show (m : Int) - 1 = (top : Int) by omega]; exact wrapI _ (by omega) (by omega)
 have x2 : ¬ (m : Int) < 4 := by omega
 have y0 : (0 : Int) ≤ (top : Int) := by omega
 have y1 : ((top : Int)).toNat = top := by omega
 have y2 : (top : Int) < (m : Int) := by omega
 have sl := slice_r b o m cR (top : Int) top rfl (by omega)
 obtain ⟨Hi, hHi⟩ : ∃ H : Nat, N / D = H := ⟨_, rfl⟩
 obtain ⟨Lo, hLo⟩ : ∃ L : Nat, N % D = L := ⟨_, rfl⟩
 have hHb : (Hi : Int) < pw 1000000 := by
  have : Hi ≤ N := by rw [← hHi]; exact Nat.div_le_self _ _
  omega
 have hLb : (Lo : Int) < pw 1000000 := by
  have : Lo ≤ N := by rw [← hLo]; exact Nat.mod_le _ _
  omega
 have hpd : pd N (K + K) = pd Hi K ++ pd Lo K := by rw [pd_two, hDK, hHi, hLo]
 clear hN rN hR hR' hU hown cR0 hm
 go_enter Tryz.func67, Tryz.ntmps67
 go_wp2_with fail
 generalize w.alloc (.cells #[.slice p l c] 42) = W at *
 have KA := B0
 have DM : ∀ x, Below W.heap.size W x → Calls Tryz.prog 44 #[.agg #[.slice p l c], .agg #[.slice ra rl rc]] x fun e w' => ∃ (a : Option Addr × Option Addr) (l c : Nat × Nat), e = .returned (.tuple #[.agg #[.slice a.1 l.1 c.1], .agg #[.slice a.2 l.2 c.2]]) ∧ (Nn w' a.1 l.1 c.1 (Hi : Int) ∧ Nn w' a.2 l.2 c.2 (Lo : Int)) ∧ Below x.heap.size x w' := fun x bx => by
  have t := DivMod_n (rA.grow bx) (rD.grow bx) hNb (by omega) (Nat.le_refl _)
  rw [show ((N : Int) / (D : Int)) = (Hi : Int) by rw [← hHi]; rfl, show ((N : Int) % (D : Int)) = (Lo : Int) by rw [← hLo]; rfl] at t
  exact t
 go_cut [8, 9] from 22 to 30 (fun s t wc => ∃ (X Y : Nat) (a : Option Addr × Option Addr) (l c : Nat × Nat), s = .pointer (some ⟨X, 0, none⟩) ∧ t = .pointer (some ⟨Y, 0, none⟩) ∧ Below W.heap.size W wc ∧ (Nn wc a.1 l.1 c.1 (Hi : Int) ∧ Nn wc a.2 l.2 c.2 (Lo : Int)) ∧ Bx wc X (.slice a.1 l.1 c.1) ∧ Bx wc Y (.slice a.2 l.2 c.2))
 case first =>
  rename_i hm hJ
  refine wp_region_held (S := fun _ => True) (by kernel_rfl) (any_inv (fun listed a x => ∃ (y0 y1 y2 y3 y4 y5 y6 y7 y8 y9 y10 : Bool) (t23 t24 t25 t26 t27 t28 t22 t29 t30 t8 t9 : Value), a = ⟨#[.agg #[.slice p l c], .slice av Y.length cv, .slice (some ⟨b, o, none⟩) m cR, .pointer (some ⟨w.heap.size, 0, none⟩), undef, undef, .slice none 0 0, .int .i64 top, t8, t9, .slice (some ⟨b, o, none⟩) m cR, .int .i64 m, .bool false, undef, undef, undef, undef, undef, undef, .slice (some ⟨b, o, none⟩) m cR, .int .i64 m, .int .i64 top, t22, t23, t24, t25, t26, t27, t28, t29, t30, undef, undef, undef, undef, undef, undef, undef, undef, undef, undef, undef, undef], []⟩ ∧ ((listed = #[y0, y1, y2, y3, y4, y5, y6, y7, y8, y9, y10, false, false] ∧ AP4 W x Hi Lo (.agg #[.slice p l c]) (.slice (some ⟨b, o, none⟩) m cR) (.int .i64 top) (.pointer (some ⟨b, o + top, none⟩)) (.agg #[.slice ra rl rc]) (0) (0) y0 y1 y2 y3 y4 y5 y6 y7 y8 y9 y10 t23 t24 t25 t26 t27 t28 t22 t29 t30 t8 t9) ∨ (listed = #[true, true, true, true, true, true, true, true, y8, true, true, true, false] ∧ (y8 = true → t30 = ey1 t22) ∧ ∃ (X Y : Nat) (a : Option Addr × Option Addr) (l c : Nat × Nat), t22 = .tuple #[.agg #[.slice a.1 l.1 c.1], .agg #[.slice a.2 l.2 c.2]] ∧ t8 = .pointer (some ⟨X, 0, none⟩) ∧ t9 = .pointer (some ⟨Y, 0, none⟩) ∧ W.heap.size ≤ X ∧ W.heap.size ≤ Y ∧ X ≠ Y ∧ Below W.heap.size W x ∧ (Nn x a.1 l.1 c.1 Hi ∧ Nn x a.2 l.2 c.2 Lo) ∧ Bx x X (.slice a.1 l.1 c.1) ∧ Bx x Y (.slice none 0 0)) ∨ (listed = #[true, true, true, true, true, true, true, true, true, true, true, true, true] ∧ ∃ (X Y : Nat) (a : Option Addr × Option Addr) (l c : Nat × Nat), t22 = .tuple #[.agg #[.slice a.1 l.1 c.1], .agg #[.slice a.2 l.2 c.2]] ∧ t8 = .pointer (some ⟨X, 0, none⟩) ∧ t9 = .pointer (some ⟨Y, 0, none⟩) ∧ W.heap.size ≤ X ∧ W.heap.size ≤ Y ∧ X ≠ Y ∧ Below W.heap.size W x ∧ (Nn x a.1 l.1 c.1 Hi ∧ Nn x a.2 l.2 c.2 Lo) ∧ Bx x X (.slice a.1 l.1 c.1) ∧ Bx x Y (.slice a.2 l.2 c.2)))) ?_ ?_ _ _ _ _ (by decide) ?_)
  ·rintro listed a x i ⟨y0, y1, y2, y3, y4, y5, y6, y7, y8, y9, y10, t23, t24, t25, t26, t27, t28, t22, t29, t30, t8, t9, rfl, h⟩ hi
   have hr : i < 13 := List.mem_range.1 (List.mem_filter.1 hi).1
   have hc := (List.mem_filter.1 hi).2
   rcases h with ⟨rfl, h⟩ | ⟨rfl, h⟩ | ⟨rfl, h⟩
   ·rcases (show i = 0 ∨ i = 1 ∨ i = 2 ∨ i = 3 ∨ i = 4 ∨ i = 5 ∨ i = 6 ∨ i = 7 ∨ i = 8 ∨ i = 9 ∨ i = 10 ∨ i = 11 ∨ i = 12 by omega) with rfl | rfl | rfl | rfl | rfl | rfl | rfl | rfl | rfl | rfl | rfl | rfl | rfl
    ·clear hc hi
     have kd := (KA.below h.bel).1
     refine wpOp_step rfl (fun K hK0 => ?_)
     have hK : Hid _ := hK0
     clear hK0
     rw [if_pos (by rfl)]
     go_wp2_with fail
     exact hK.out _ _ ⟨true, y1, y2, y3, y4, y5, y6, y7, y8, y9, y10, .agg #[.slice p l c], t24, t25, t26, t27, t28, t22, t29, t30, t8, t9, rfl, Or.inl ⟨rfl, { h with o0 := fun _ => rfl }⟩⟩
    ·clear hc hi
     refine wpOp_step rfl (fun K hK0 => ?_)
     have hK : Hid _ := hK0
     clear hK0
     rw [if_pos (by rfl)]
     go_wp2_with fail
     exact hK.out _ _ ⟨y0, true, y2, y3, y4, y5, y6, y7, y8, y9, y10, t23, .slice (some ⟨b, o, none⟩) m cR, t25, t26, t27, t28, t22, t29, t30, t8, t9, rfl, Or.inl ⟨rfl, { h with o1 := fun _ => rfl }⟩⟩
    ·clear hc hi
     refine wpOp_step rfl (fun K hK0 => ?_)
     have hK : Hid _ := hK0
     clear hK0
     rw [if_pos (by rfl)]
     go_wp2_with fail
     exact hK.out _ _ ⟨y0, y1, true, y3, y4, y5, y6, y7, y8, y9, y10, t23, t24, .int .i64 top, t26, t27, t28, t22, t29, t30, t8, t9, rfl, Or.inl ⟨rfl, { h with o2 := fun _ => rfl }⟩⟩
    ·have e1 : y1 = true := by
      revert hc
      cases y1 <;> simp [Region.binds]
     have e2 : y2 = true := by
      revert hc
      cases y2 <;> simp [Region.binds]
     have r1 := h.o1 e1
     subst r1
     have r2 := h.o2 e2
     subst r2
     clear hc hi
     refine wpOp_step rfl (fun K hK0 => ?_)
     have hK : Hid _ := hK0
     clear hK0
     rw [if_pos (by rfl)]
     go_wp2_with fail
     exact hK.out _ _ ⟨y0, y1, y2, true, y4, y5, y6, y7, y8, y9, y10, t23, _, _, .pointer (some ⟨b, o + top, none⟩), t27, t28, t22, t29, t30, t8, t9, rfl, Or.inl ⟨rfl, { h with o3 := fun _ => rfl }⟩⟩
    ·have e3 : y3 = true := by
      revert hc
      cases y3 <;> simp [Region.binds]
     have r3 := h.o3 e3
     subst r3
     clear hc hi
     have kd := (h.bel.cell (p := ⟨b, o + top, none⟩) (lt_of_cell cR1)).trans cR1
     refine wpOp_step rfl (fun K hK0 => ?_)
     have hK : Hid _ := hK0
     clear hK0
     rw [if_pos (by rfl)]
     go_wp2_with fail
     exact hK.out _ _ ⟨y0, y1, y2, y3, true, y5, y6, y7, y8, y9, y10, t23, t24, t25, _, .agg #[.slice ra rl rc], t28, t22, t29, t30, t8, t9, rfl, Or.inl ⟨rfl, { h with o4 := fun _ => rfl }⟩⟩
    ·have e0 : y0 = true := by
      revert hc
      cases y0 <;> simp [Region.binds]
     have e4 : y4 = true := by
      revert hc
      cases y4 <;> simp [Region.binds]
     have r0 := h.o0 e0
     subst r0
     have r4 := h.o4 e4
     subst r4
     clear hc hi
     refine wpOp_step rfl (fun K hK0 => ?_)
     have hK : Hid _ := hK0
     clear hK0
     rw [if_pos (by rfl)]
     go_wp2_with (first | (go_at_call 44; go_must (refine (DM x h.bel).mono ?_; rintro e x2 ⟨a9, l9, c9, rfl, H9, bb⟩)) | fail)
     exact hK.out _ _ ⟨y0, y1, y2, y3, y4, true, y6, y7, y8, y9, y10, _, t24, t25, t26, _, _, t22, t29, t30, t8, t9, rfl, Or.inl ⟨rfl, { h.grow bb with o5 := fun _ => ⟨a9, l9, c9, rfl, H9⟩ }⟩⟩
    ·have nj : y6 = false := by
      revert hc
      cases y6 <;> simp [Region.binds]
     have e5 : y5 = true := by
      revert hc
      cases y5 <;> simp [Region.binds]
     obtain ⟨a5, l5, c5, rfl, H5⟩ := h.o5 e5
     clear hc hi
     have bb := Below.refl x.heap.size x
     refine wpOp_step rfl (fun K hK0 => ?_)
     have hK : Hid _ := hK0
     clear hK0
     rw [if_pos (by rfl)]
     go_wp2_with (first | (fail) | fail)
     exact hK.out _ _ ⟨y0, y1, y2, y3, y4, y5, true, y7, y8, y9, y10, t23, t24, t25, t26, t27, _, _, t29, t30, t8, t9, rfl, Or.inl ⟨rfl, { h.grow bb with o6 := fun _ => ⟨a5, l5, c5, rfl, H5⟩, o7 := fun u => (by have u2 := h.d7_6 u; rw [nj] at u2; cases u2), o8 := fun u => (by have u2 := h.d8_6 u; rw [nj] at u2; cases u2), d7_6 := fun _ => rfl, d8_6 := fun _ => rfl }⟩⟩
    ·have e6 : y6 = true := by
      revert hc
      cases y6 <;> simp [Region.binds]
     obtain ⟨a6, l6, c6, rfl, H6⟩ := h.o6 e6
     clear hc hi
     refine wpOp_step rfl (fun K hK0 => ?_)
     have hK : Hid _ := hK0
     clear hK0
     rw [if_pos (by rfl)]
     go_wp2_with fail
     exact hK.out _ _ ⟨y0, y1, y2, y3, y4, y5, y6, true, y8, y9, y10, t23, t24, t25, t26, t27, t28, _, _, t30, t8, t9, rfl, Or.inl ⟨rfl, { h with o7 := fun _ => rfl, d7_6 := fun _ => e6 }⟩⟩
    ·have e6 : y6 = true := by
      revert hc
      cases y6 <;> simp [Region.binds]
     obtain ⟨a6, l6, c6, rfl, H6⟩ := h.o6 e6
     clear hc hi
     refine wpOp_step rfl (fun K hK0 => ?_)
     have hK : Hid _ := hK0
     clear hK0
     rw [if_pos (by rfl)]
     go_wp2_with fail
     exact hK.out _ _ ⟨y0, y1, y2, y3, y4, y5, y6, y7, true, y9, y10, t23, t24, t25, t26, t27, t28, _, t29, _, t8, t9, rfl, Or.inl ⟨rfl, { h with o8 := fun _ => rfl, d8_6 := fun _ => e6 }⟩⟩
    ·clear hc hi
     refine wpOp_step rfl (fun K hK0 => ?_)
     have hK : Hid _ := hK0
     clear hK0
     rw [if_pos (by rfl)]
     go_wp2_with fail
     exact hK.out _ _ ⟨y0, y1, y2, y3, y4, y5, y6, y7, y8, true, y10, t23, t24, t25, t26, t27, t28, t22, t29, t30, _, t9, rfl, Or.inl ⟨rfl, { h.grow ((Below.refl _ _).alloc (Nat.le_refl _) _) with o9 := fun _ => ⟨_, rfl, h.bel.size, Blk.new _ _ _⟩, ne9_10 := fun _ q => by obtain ⟨Y, e, _, K⟩ := h.o10 q; rw [e]; intro c; cases c; exact absurd K.lt (Nat.lt_irrefl _) }⟩⟩
    ·clear hc hi
     refine wpOp_step rfl (fun K hK0 => ?_)
     have hK : Hid _ := hK0
     clear hK0
     rw [if_pos (by rfl)]
     go_wp2_with fail
     exact hK.out _ _ ⟨y0, y1, y2, y3, y4, y5, y6, y7, y8, y9, true, t23, t24, t25, t26, t27, t28, t22, t29, t30, t8, _, rfl, Or.inl ⟨rfl, { h.grow ((Below.refl _ _).alloc (Nat.le_refl _) _) with o10 := fun _ => ⟨_, rfl, h.bel.size, Blk.new _ _ _⟩, ne9_10 := fun q _ => by obtain ⟨Y, e, _, K⟩ := h.o9 q; rw [e]; intro c; cases c; exact absurd K.lt (Nat.lt_irrefl _) }⟩⟩
    ·have e0 : y0 = true := by
      revert hc
      cases y0 <;> simp [Region.binds]
     have e1 : y1 = true := by
      revert hc
      cases y1 <;> simp [Region.binds]
     have e2 : y2 = true := by
      revert hc
      cases y2 <;> simp [Region.binds]
     have e3 : y3 = true := by
      revert hc
      cases y3 <;> simp [Region.binds]
     have e4 : y4 = true := by
      revert hc
      cases y4 <;> simp [Region.binds]
     have e5 : y5 = true := by
      revert hc
      cases y5 <;> simp [Region.binds]
     have e6 : y6 = true := by
      revert hc
      cases y6 <;> simp [Region.binds]
     have e7 : y7 = true := by
      revert hc
      cases y7 <;> simp [Region.binds]
     have e9 : y9 = true := by
      revert hc
      cases y9 <;> simp [Region.binds]
     have e10 : y10 = true := by
      revert hc
      cases y10 <;> simp [Region.binds]
     obtain ⟨a6, l6, c6, rfl, H6⟩ := h.o6 e6
     have r7 := h.o7 e7
     subst r7
     obtain ⟨X9, rfl, lX9, K9⟩ := h.o9 e9
     obtain ⟨X10, rfl, lX10, K10⟩ := h.o10 e10
     have hl8 := h.o8
     clear hc hi
     subst e0 e1 e2 e3 e4 e5 e6 e7 e9 e10
     have bl := h.bel
     have nXY : X9 ≠ X10 := by have := h.ne9_10 rfl rfl; simpa using this
     simp only [ey0_t]
     have B9 := bxof K9
     have B10 := bxof K10
     have k0 := B9.1
     have k1 := B9.2
     clear h
     refine wpOp_step rfl (fun K hK0 => ?_)
     have hK : Hid _ := hK0
     clear hK0
     rw [if_pos (by rfl)]
     go_wp2_with fail
     exact hK.out _ _ ⟨true, true, true, true, true, true, true, true, y8, true, true, t23, t24, t25, t26, t27, t28, _, _, t30, _, _, rfl, Or.inr (Or.inl ⟨rfl, hl8, X9, X10, a6, l6, c6, rfl, rfl, rfl, lX9, lX10, nXY, below_put bl lX9 _, ⟨H6.1.box B9, H6.2.box B9⟩, B9.set _, bxskip B10 (Ne.symm nXY) _⟩)⟩
    ·simp [Region.binds] at hc
   ·rcases (show i = 0 ∨ i = 1 ∨ i = 2 ∨ i = 3 ∨ i = 4 ∨ i = 5 ∨ i = 6 ∨ i = 7 ∨ i = 8 ∨ i = 9 ∨ i = 10 ∨ i = 11 ∨ i = 12 by omega) with rfl | rfl | rfl | rfl | rfl | rfl | rfl | rfl | rfl | rfl | rfl | rfl | rfl
    ·simp at hc
    ·simp at hc
    ·simp at hc
    ·simp at hc
    ·simp at hc
    ·simp at hc
    ·simp at hc
    ·simp at hc
    ·clear hc hi
     obtain ⟨hl8, h⟩ := h
     obtain ⟨X, Y, a, l, c, rfl, rfl, rfl, lX, lY, nXY, bl, nn, KX, KY⟩ := h
     refine wpOp_step rfl (fun K hK0 => ?_)
     have hK : Hid _ := hK0
     clear hK0
     rw [if_pos (by rfl)]
     go_wp2_with fail
     exact hK.out _ _ ⟨true, true, true, true, true, true, true, true, true, true, true, _, _, _, _, _, _, _, _, _, _, _, rfl, Or.inr (Or.inl ⟨rfl, fun _ => rfl, X, Y, a, l, c, rfl, rfl, rfl, lX, lY, nXY, bl, nn, KX, KY⟩)⟩
    ·simp at hc
    ·simp at hc
    ·simp at hc
    ·have e8 : y8 = true := by
      revert hc
      cases y8 <;> simp [Region.binds]
     obtain ⟨hl8, h⟩ := h
     have r8 := hl8 e8
     clear hl8
     subst e8 r8
     clear hc hi
     obtain ⟨X, Y, a, l, c, rfl, rfl, rfl, lX, lY, nXY, bl, nn, KX, KY⟩ := h
     simp only [ey1_t]
     have k0 := KY.1
     have k1 := KY.2
     refine wpOp_step rfl (fun K hK0 => ?_)
     have hK : Hid _ := hK0
     clear hK0
     rw [if_pos (by rfl)]
     go_wp2_with fail
     exact hK.out _ _ ⟨true, true, true, true, true, true, true, true, true, true, true, _, _, _, _, _, _, _, _, _, _, _, rfl, Or.inr (Or.inr (⟨rfl, X, Y, a, l, c, rfl, rfl, rfl, lX, lY, nXY, below_put bl lY _, ⟨nn.1.box KY, nn.2.box KY⟩, bxskip KX nXY _, KY.set _⟩))⟩
   ·rcases (show i = 0 ∨ i = 1 ∨ i = 2 ∨ i = 3 ∨ i = 4 ∨ i = 5 ∨ i = 6 ∨ i = 7 ∨ i = 8 ∨ i = 9 ∨ i = 10 ∨ i = 11 ∨ i = 12 by omega) with rfl | rfl | rfl | rfl | rfl | rfl | rfl | rfl | rfl | rfl | rfl | rfl | rfl <;> simp at hc
  ·rintro listed a x ⟨y0, y1, y2, y3, y4, y5, y6, y7, y8, y9, y10, t23, t24, t25, t26, t27, t28, t22, t29, t30, t8, t9, rfl, h⟩ hn
   have al := all_listed2 (by decide +kernel) hn
   rcases h with ⟨rfl, h⟩ | ⟨rfl, h⟩ | ⟨rfl, h⟩
   ·have z := al 11 (by decide)
    simp at z
   ·have z := al 12 (by decide)
    simp at z
   ·obtain ⟨X, Y, a, l, c, rfl, rfl, rfl, lX, lY, nXY, bl, nn, KX, KY⟩ := h
    refine hJ _ _ ?_
    go_meet
    case rel => exact ⟨X, Y, a, l, c, rfl, rfl, bl, nn, KX, KY⟩
  ·exact ⟨false, false, false, false, false, false, false, false, false, false, false, undef, undef, undef, undef, undef, undef, undef, undef, undef, undef, undef, rfl, Or.inl ⟨rfl, { bel := (Below.refl _ _).drew, o0 := (by intro q; cases q), o1 := (by intro q; cases q), o2 := (by intro q; cases q), o3 := (by intro q; cases q), o4 := (by intro q; cases q), o5 := (by intro q; cases q), o6 := (by intro q; cases q), o7 := (by intro q; cases q), o8 := (by intro q; cases q), o9 := (by intro q; cases q), o10 := (by intro q; cases q), ne9_10 := (by intro q; cases q), d7_6 := (by intro q; cases q), d8_6 := (by intro q; cases q) }⟩⟩
 case rest =>
  rename World => wB
  obtain ⟨X, Y', a, l', c', rfl, rfl, bl, ⟨nH, nL⟩, KX, KY⟩ := hcut
  have pB := bel' al bl
  have oB := own_grow oA bl
  have uB := U8.alloc uA oA bl
  have rB := rR.keep (w' := wB) (fun j _ hj => bl.block j hj)
  have sB : base ≤ wB.heap.size := Nat.le_trans sA bl.size
  have C1 := IH a.1 l'.1 c'.1 Hi av cv Y wB.drew nH hHb (by omega) oB sB uB rB
  have k0 := KX.1
  have k1 := KY.1
  have k0d : wB.drew.cell? ⟨X, 0, none⟩ = some (.slice a.1 l'.1 c'.1) := k0
  have k1d : wB.drew.cell? ⟨Y', 0, none⟩ = some (.slice a.2 l'.2 c'.2) := k1
  have nb1 : ∀ z q1 q2 q3, wB.cell? ⟨z, 0, none⟩ = some (.slice q1 q2 q3) → some z ≠ (Value.slice av Y.length cv).ownBlock := fun z q1 q2 q3 h e => by
   obtain ⟨x, hx⟩ := uB z e.symm 0 _ h
   cases hx
  have nbX := nb1 X _ _ _ k0
  have nbY := nb1 Y' _ _ _ k1
  clear DM rA rD rR oA uA sA cR1 KA B0 nb1 ih
  go_wp2_with fail
  go_region_held3 (fun x => x.cell? ⟨X, 0, none⟩ = some (.slice a.1 l'.1 c'.1)) (go_keep) (first
   | (go_at_call 67; refine C1.mono ?_; rintro e w2 ⟨gt, cap, rfl, o2, gr2, nb2, u2⟩; have q2 := gr2.cell k0d nbX)
   | fail)
  all_goals
   have nL2 := Nn.text (w := wB.drew) (w' := w2) nL uB gr2
   have j1 := gr2.cell k1d nbY
   have s2 : base ≤ w2.heap.size := Nat.le_trans sB gr2.size
   have r2 := rB.keep (w' := w2) (fun j hj hj' => gr2.block j hj' (fun e => by have := (oB.lt j e.symm).1; omega))
   have o2' : w2.ownsRow base 5 1 (.slice (some ⟨gt, 0, none⟩) (Y ++ pd Hi K).length cap) (Y ++ pd Hi K).length ((Y ++ pd Hi K).map (Value.int .u8)) := by rw [List.length_append, pd_len]; exact o2
   have u2' : U8 w2 (.slice (some ⟨gt, 0, none⟩) (Y ++ pd Hi K).length cap) := by rw [List.length_append, pd_len]; exact u2
   have C2 := IH a.2 l'.2 c'.2 Lo (some ⟨gt, 0, none⟩) cap (Y ++ pd Hi K) w2.drew nL2 hLb (by rw [List.length_append, pd_len]; omega) o2' s2 u2' r2
   rw [List.length_append, pd_len] at C2
   have j1d : w2.drew.cell? ⟨Y', 0, none⟩ = some (.slice a.2 l'.2 c'.2) := j1
   have nbZ : some Y' ≠ (Value.slice (some ⟨gt, 0, none⟩) (Y.length + K) cap).ownBlock := fun e => by
    obtain ⟨x, hx⟩ := u2 Y' e.symm 0 _ j1
    cases hx
   go_wp2_with fail
   go_region_held3 (fun x => x.cell? ⟨Y', 0, none⟩ = some (.slice a.2 l'.2 c'.2)) (go_keep) (first
    | (go_at_call 67; refine C2.mono ?_; rintro e w3 ⟨gt2, cap2, rfl, o3, gr3, nb3, u3⟩; have q3 := gr3.cell j1d nbZ)
    | fail)
   all_goals
    have GR : w.grownBy w3 (Value.slice av Y.length cv).ownBlock := grown2 (w1 := wB) (w2 := w2) (r2 := (Value.slice (some ⟨gt, 0, none⟩) (Y.length + K) cap).ownBlock) pB ⟨gr2.os, gr2.tape, gr2.output, gr2.size, gr2.block⟩ ⟨gr3.os, gr3.tape, gr3.output, gr3.size, gr3.block⟩ (fun k hk => by
     simp only [Value.ownBlock, Option.some.injEq] at hk
     subst hk
     rcases nb2 with h | h
     ·exact Or.inl h.symm
     ·exact Or.inr (Nat.le_trans pB.size h))
    have NB : some gt2 = (Value.slice av Y.length cv).ownBlock ∨ w.heap.size ≤ gt2 := by
     rcases nb3 with h | h
     ·simp only [Value.ownBlock, Option.some.injEq] at h
      subst h
      rcases nb2 with h | h
      ·exact Or.inl h
      ·exact Or.inr (Nat.le_trans pB.size h)
     ·exact Or.inr (Nat.le_trans pB.size (Nat.le_trans gr2.size h))
    go_wp2
    go_ret
    refine ⟨gt2, cap2, (by show Ending.returned (.slice (some ⟨gt2, 0, none⟩) (Y.length + K + K) cap2) = _; rw [Nat.add_assoc]), ?_, GR, NB, by rw [← Nat.add_assoc]; exact u3⟩
    rw [hpd, ← Nat.add_assoc, ← List.append_assoc]
    exact o3
/-- appendDigits, with any number of rungs. -/
theorem digits_any (k : Nat) (h1 : 1 ≤ k) (h2 : k ≤ 30) : Dig k := by
 induction k with
 | zero => omega
 | succ k ih =>
  by_cases h : k + 1 < 4
  ·intro p l c N av n cv Y base b o cR w
   exact digits_few (k + 1) (by omega) h p l c N av n cv Y base b o cR w
  ·exact digits_step k (by omega) (by omega) (ih (by omega) (by omega))
end Go.Proofs.YtapdhadpdbmkcaaGreatDoor.Wt

namespace Go.Proofs.YtapdhadpdbmkcaaGreatDoor.Wt
open Go.RowKit Tn Mo

theorem info_parts {P : Program} {t : TypeId} {z : Value} {s b : Nat} (h : (P.info? t).map (fun i => (i.zero, i.size, i.bytes)) = some (some z, s, b)) : ∃ i, P.info? t = some i ∧ i.zero = some z ∧ i.size = s ∧ i.bytes = b := by
 obtain ⟨i, h1, h2⟩ := Option.map_eq_some_iff.1 h
 simp only [Prod.mk.injEq] at h2
 exact ⟨i, h1, h2.1, h2.2.1, h2.2.2⟩
/-- A row of numbers of one's own: nothing else lies in its block. -/
structure Rg (w : World) (g cap : Nat) (vals : List Value) : Prop where
 blk : ∃ cur : Array Value, w.heap[g]? = some (.cells cur 42 (0, 0)) ∧ cur.size = cap ∧ cur.toList.take vals.length = vals ∧ ∀ u ∈ cur.toList, ∃ a l c, u = Value.slice a l c
 le : vals.length ≤ cap
theorem Rg.lt {w : World} {g cap : Nat} {vals : List Value} (h : Rg w g cap vals) : g < w.heap.size := by
 obtain ⟨cur, e, _⟩ := h.blk
 exact Own.lt ⟨cur, _, e⟩
theorem Rg.grow {w w' : World} {g cap : Nat} {vals : List Value} (h : Rg w g cap vals) (b : Below w.heap.size w w') : Rg w' g cap vals := by
 obtain ⟨⟨cur, e, r⟩, l⟩ := h
 exact ⟨⟨cur, (b.block g (Own.lt ⟨cur, _, e⟩)).trans e, r⟩, l⟩
theorem Rg.at {w : World} {g cap : Nat} {vals : List Value} (h : Rg w g cap vals) {i : Nat} {u : Value} (hi : vals[i]? = some u) : w.cell? ⟨g, i, none⟩ = some u := by
 obtain ⟨⟨cur, e, h1, h2, _⟩, _⟩ := h
 have c := congrArg (fun l : List Value => l[i]?) h2
 have hl : i < vals.length := by
  by_cases c : i < vals.length
  ·exact c
  ·rw [List.getElem?_eq_none (by omega)] at hi; cases hi
 simp only [List.getElem?_take, hl, if_true, hi, Array.getElem?_toList] at c
 simp only [World.cell?, e, Option.isSome_none, Bool.false_eq_true, if_false]
 exact c
theorem Rg.off {w : World} {g cap : Nat} {vals : List Value} (h : Rg w g cap vals) {b o : Nat} {k : IntKind} {x : Int} (hc : w.cell? ⟨b, o, none⟩ = some (.int k x)) : b ≠ g := by
 rintro rfl
 obtain ⟨⟨cur, e, _, _, h3⟩, _⟩ := h
 simp only [World.cell?, e, Option.isSome_none, Bool.false_eq_true, if_false] at hc
 rw [← Array.getElem?_toList] at hc
 obtain ⟨a, l, c, q⟩ := h3 _ (List.mem_of_getElem? hc)
 cases q
theorem Nn.row {w w' : World} {g cap : Nat} {vals : List Value} {a : Option Addr} {l c : Nat} {N : Int} (h : Nn w a l c N) (R : Rg w g cap vals) (gr : w.grownBy w' (some g)) : Nn w' a l c N := by
 obtain ⟨xs, ⟨hW, a1, c1, e, h1, h2, h3⟩, n, rfl⟩ := h
 refine ⟨xs, ⟨hW, a1, c1, e, h1, h2, fun lt => ?_⟩, n, rfl⟩
 obtain ⟨b, o, e2, q⟩ := h3 lt
 refine ⟨b, o, e2, fun i hi => gr.cell (q i hi) fun e => ?_⟩
 simp only [Option.some.injEq] at e
 exact R.off (q i hi) e
/-- append(rungs, r). -/
theorem run_rung {w : World} (ty : Nat) (g cap : Nat) (vals : List Value) (R : Rg w g cap vals) (ad c : Nat) (u1 : Option Addr) (u2 u3 : Nat) (hc : w.cell? ⟨ad, 0, none⟩ = some (.slice u1 u2 u3)) (hn : vals.length ≤ 1000) (hcm : cap ≤ maxLen) :
  ∃ g' cap' w', (Builtin.append_ #[94, 94] ty #[.slice (some ⟨g, 0, none⟩) vals.length cap, .slice (some ⟨ad, 0, none⟩) 1 c]).run Tryz.prog w = .ok (.slice (some ⟨g', 0, none⟩) (vals.length + 1) cap') w' ∧ Rg w' g' cap' (vals ++ [.slice u1 u2 u3]) ∧ w.grownBy w' (some g) ∧ cap' ≤ maxLen ∧ (g' = g ∨ w.heap.size ≤ g') := by
 obtain ⟨i, hi, hz0, hz1, hz2⟩ := info_parts (show (Tryz.prog.info? 42).map (fun i => (i.zero, i.size, i.bytes)) = some (some (.agg #[.slice none 0 0]), 1, 24) by kernel_rfl)
 have ht : Tryz.prog.underlying 94 = some (.slice 42) := by kernel_rfl
 have R' := R
 obtain ⟨⟨cur, e, h1, h2, h3⟩, hl⟩ := R
 have hnews : ∀ (j : Nat) (u : Value), [Value.slice u1 u2 u3][j]? = some u → w.cell? ((⟨ad, 0, none⟩ : Addr).add j) = some u := by
  intro j u hj
  match j, hj with
  | 0, hj => simp at hj; subst hj; simpa [Addr.add] using hc
  | j + 1, hj => simp at hj
 by_cases hroom : vals.length + 1 ≤ cap
 ·have hr := run_append_room (P := Tryz.prog) w 94 ty 42 i ht hi g vals.length cap cur e ⟨ad, 0, none⟩ 1 c [.slice u1 u2 u3] (by simp [hz1]) hnews (by intro u hu; simp at hu; subst hu; rfl) hroom (by simp [hz1]; omega)
  rw [hz1, Nat.mul_one] at hr
  refine ⟨g, cap, _, hr, ⟨⟨_, setRow_heap w g cur _ 42 _ e, ?_, ?_, ?_⟩, by simp; omega⟩, ⟨rfl, rfl, rfl, by simp, fun k _ hk => setRow_other w g k _ (fun e => hk (by rw [e]))⟩, hcm, Or.inl rfl⟩
  ·simp only [List.size_toArray, List.length_append, List.length_take, List.length_drop, Array.length_toList, List.length_cons, List.length_nil]
   omega
  ·rw [h2]
   exact List.take_left
  ·intro u hu
   simp only [List.mem_append, List.mem_singleton] at hu
   rcases hu with (hu | rfl) | hu
   ·exact h3 u (List.mem_of_mem_take hu)
   ·exact ⟨_, _, _, rfl⟩
   ·exact h3 u (List.mem_of_mem_drop hu)
 ·have holds : ∀ (j : Nat) (u : Value), vals[j]? = some u → w.cell? ((⟨g, 0, none⟩ : Addr).add j) = some u := fun j u hj => by
   rw [Addr.add_lit, Nat.zero_add]
   exact R'.at hj
  have hr := run_append_grow (P := Tryz.prog) w 94 ty 42 i (.agg #[.slice none 0 0]) ht hi hz0 ⟨g, 0, none⟩ vals.length cap vals (by rw [hz1, Nat.mul_one]) holds ⟨ad, 0, none⟩ 1 c [.slice u1 u2 u3] (by simp [hz1]) hnews (by omega) (by omega) (by rw [hz2]; exact growslice_fits (by omega) (by omega))
  have gc := grownCap_ge w (vals.length + 1) cap 42
  have gm := grownCap_le_maxLen w (vals.length + 1) cap 42 (by unfold maxLen; omega)
  refine ⟨_, _, _, hr, ⟨⟨_, heap_alloc_new _ _, ?_, ?_, ?_⟩, by simp; exact gc⟩, ⟨rfl, rfl, rfl, by simp, fun k hk _ => heap_alloc_old w.drew _ hk⟩, gm, Or.inr (Nat.le_refl _)⟩
  ·simp only [Array.size_append, List.size_toArray, List.length_cons, List.length_nil, size_zeroCells, Value.cells]
   simp
   omega
  ·rw [Array.toList_append, Array.toList_append]
   exact List.take_left
  ·intro u hu
   simp only [Array.toList_append, List.mem_append, List.mem_singleton] at hu
   rcases hu with (hu | rfl) | hu
   ·exact h3 u (by rw [← h2] at hu; exact List.mem_of_mem_take hu)
   ·exact ⟨_, _, _, rfl⟩
   ·simp only [Builtin.zeroCells, Value.cells] at hu
    have : u = .slice none 0 0 := by
     simp at hu
     obtain ⟨j, _, rfl⟩ := hu
     simp [Nat.mod_one]
    exact ⟨_, _, _, this⟩
theorem wpList_rung {w : World} {ops : Array Oper} {rest : List Oper} {o : Oper} {a : Act} {Q : Exit → Act → World → Prop} (hgd : o.guard = none) (s x : Operand)
  (ho : o.op = .call { callee := .builtin .append, args := #[s, x], argTypes := #[94, 94] })
  (g cap n : Nat) (vals : List Value) (en : n = vals.length) (hs : a.eval s = .slice (some ⟨g, 0, none⟩) n cap) (R : Rg w g cap vals) (ad c : Nat) (u1 : Option Addr) (u2 u3 : Nat) (hx : a.eval x = .slice (some ⟨ad, 0, none⟩) 1 c) (hc : w.cell? ⟨ad, 0, none⟩ = some (.slice u1 u2 u3)) (hn : vals.length ≤ 1000) (hcm : cap ≤ maxLen)
  (h : ∀ g' cap' w', Rg w' g' cap' (vals ++ [.slice u1 u2 u3]) → w.grownBy w' (some g) → cap' ≤ maxLen → (g' = g ∨ w.heap.size ≤ g') → wpList Tryz.prog ops Q rest (a.put o.dst (.slice (some ⟨g', 0, none⟩) (n + 1) cap')) w') : wpList Tryz.prog ops Q (o :: rest) a w := by
 subst en
 obtain ⟨g', cap', w', hr, h1, h2, h3, h4⟩ := run_rung (w := w) o.type g cap vals R ad c u1 u2 u3 hc hn hcm
 refine wpList_plain hgd fun K hK => ?_
 unfold Oper.wp execOp
 simp only [ho, resolve, invoke, builtin, Sem.run_bind, Sem.run_pure, Result.andThen_ok, List.map_toArray, List.map_cons, List.map_nil, hs, hx, hr]
 exact hK _ _ (h g' cap' w' h1 h2 h3 h4)
end Go.Proofs.YtapdhadpdbmkcaaGreatDoor.Wt

namespace Go.Proofs.YtapdhadpdbmkcaaGreatDoor.Wt
open Go.RowKit Tn Mo

/-- The i-th rung. -/
def rung (i : Nat) : Nat := (10 ^ 19) ^ (2 ^ i)
theorem rung_pos (i : Nat) : 0 < rung i := Nat.pow_pos (Nat.pow_pos (by decide))
theorem rung_next (i : Nat) : rung (i + 1) = rung i * rung i := by
 unfold rung
 have e : 2 ^ (i + 1) = 2 ^ i + 2 ^ i := by rw [Nat.pow_succ]; omega
 rw [e, Nat.pow_add]
theorem rung_mono {i j : Nat} (h : i ≤ j) : rung i ≤ rung j := Nat.pow_le_pow_right (by decide) (Nat.pow_le_pow_right (by decide) h)
theorem rung_7 : 2 ^ 8078 ≤ rung 7 := by unfold rung; decide +kernel
theorem rung_6 : rung 6 < 2 ^ (64 * 64) := by unfold rung; decide +kernel
theorem rung_8 : rung 7 < 2 ^ (64 * 128) := by unfold rung; decide +kernel
theorem nb_spec (V : Nat) : V < 2 ^ nb V ∧ (nb V = 0 ∨ 2 ^ (nb V - 1) ≤ V) := by
 by_cases h : V = 0
 ·subst h
  have : nb 0 = 0 := by
   have := nb_le (V := 0) (k := 0) (by decide)
   omega
  rw [this]
  exact ⟨by decide, Or.inl rfl⟩
 ·obtain ⟨L, h1, h2⟩ : ∃ L, V < 2 ^ L ∧ 2 ^ (L - 1) ≤ V := by
   refine ⟨V.log2 + 1, Nat.lt_log2_self, ?_⟩
   rw [Nat.add_sub_cancel]
   exact Nat.log2_self_le h
  have e := nb_eq h1 (Or.inr h2)
  rw [← e]
  exact ⟨h1, Or.inr h2⟩
/-- If the square of the topmost rung is longer than A, A is below it. -/
theorem below_square {A k : Nat} (h : nb A < 2 * nb (rung k) - 1) : A < rung (k + 1) := by
 obtain ⟨h1, _⟩ := nb_spec A
 obtain ⟨_, h2⟩ := nb_spec (rung k)
 rcases h2 with h2 | h2
 ·rw [h2] at h; omega
 ·have e : nb A ≤ (nb (rung k) - 1) + (nb (rung k) - 1) := by omega
  have p : (2 : Nat) ^ nb A ≤ 2 ^ (nb (rung k) - 1) * 2 ^ (nb (rung k) - 1) := by rw [← Nat.pow_add]; exact Nat.pow_le_pow_right (by decide) e
  have q : 2 ^ (nb (rung k) - 1) * 2 ^ (nb (rung k) - 1) ≤ rung k * rung k := Nat.mul_le_mul h2 h2
  rw [rung_next]
  omega
/-- While it is not, few rungs stand. -/
theorem few_rungs {A k : Nat} (hA : nb A ≤ 16000) (h : ¬ nb A < 2 * nb (rung k) - 1) : k ≤ 6 := by
 by_cases c : k ≤ 6
 ·exact c
 ·exfalso
  have m := rung_mono (show 7 ≤ k by omega)
  have := rung_7
  obtain ⟨h1, _⟩ := nb_spec (rung k)
  have : (2 : Nat) ^ 8078 < 2 ^ nb (rung k) := by omega
  have := (Nat.pow_lt_pow_iff_right (show 1 < 2 by decide)).1 this
  omega
theorem nb_rung {k : Nat} (h : k ≤ 7) : nb (rung k) ≤ 8192 := by
 have := nb_le (k := 64 * 128) (Nat.lt_of_le_of_lt (rung_mono h) rung_8)
 omega
theorem pw_two (n : Nat) : pw n = (2 : Int) ^ (64 * n) := by
 induction n with
 | zero => rfl
 | succ n ih =>
  show 18446744073709551616 * pw n = _
  rw [ih, show 64 * (n + 1) = 64 * n + 64 by omega, Int.pow_add, Int.mul_comm]
  rfl
theorem lt_cast {a n : Nat} (h : a < 2 ^ n) : (a : Int) < (2 : Int) ^ n := by
 have := Int.ofNat_lt.2 h
 rw [Int.natCast_pow] at this
 exact this
theorem rung_pw {k : Nat} (h : k ≤ 7) : ((rung k : Nat) : Int) < pw 128 := by
 have := rung_mono h
 rw [pw_two]
 exact lt_cast (Nat.lt_of_le_of_lt this rung_8)
theorem rung_pw6 {k : Nat} (h : k ≤ 6) : ((rung k : Nat) : Int) < pw 64 := by
 have := rung_mono h
 rw [pw_two]
 exact lt_cast (Nat.lt_of_le_of_lt this rung_6)
/-- The rungs as they stand. -/
structure Lr (w wr : World) (g cap k : Nat) (vals : List Value) : Prop where
 R : Rg wr g cap vals
 cm : cap ≤ maxLen
 len : vals.length = k
 v : ∀ i, i < k → ∃ a l c, vals[i]? = some (.slice a l c) ∧ Nn wr a l c ((rung i : Nat) : Int)
 bel : Below w.heap.size w wr
 ge : w.heap.size < g
end Go.Proofs.YtapdhadpdbmkcaaGreatDoor.Wt
