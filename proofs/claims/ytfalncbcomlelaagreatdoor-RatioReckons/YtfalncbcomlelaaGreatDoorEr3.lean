import Derived.Test.YtfalncbcomlelaaGreatDoorEr2
import Derived.Test.YtfalncbcomlelaaGreatDoorSa1
namespace Go.Proofs.YtfalncbcomlelaaGreatDoor.Mo
open Go.RowKit Dc Tn

/-- A value that is a number of which P holds. -/
def Rn (x : World) (t : Value) (P : List Int → Prop) : Prop := ∃ a l c xs, t = .agg #[.slice a l c] ∧ Rd x (.slice a l c) xs ∧ Nm xs ∧ P xs
theorem Rn.grow {x x' : World} {t : Value} {P : List Int → Prop} (h : Rn x t P) (b : Below x.heap.size x x') : Rn x' t P := by
  obtain ⟨a, l, c, xs, e, r, n, p⟩ := h
  exact ⟨a, l, c, xs, e, r.grow b, n, p⟩
/-- What holds while the two numbers are read. -/
structure MR (W x : World) (V0 V2 V3 : Value) (P1 P4 : List Int → Prop) (y0 y1 y2 y3 y4 y5 y6 : Bool) (t50 t51 t52 t53 t54 t6 t7 : Value) : Prop where
  bel : Below W.heap.size W x
  o0 : y0 = true → t50 = V0
  o2 : y2 = true → t52 = V2
  o3 : y3 = true → t53 = V3
  o1 : y1 = true → Rn x t51 P1
  o4 : y4 = true → Rn x t54 P4
  o5 : y5 = true → ∃ X, t6 = .pointer (some ⟨X, 0, none⟩) ∧ W.heap.size ≤ X ∧ Bx x X (.slice none 0 0)
  o6 : y6 = true → ∃ X, t7 = .pointer (some ⟨X, 0, none⟩) ∧ W.heap.size ≤ X ∧ Bx x X (.slice none 0 0)
  ne : y5 = true → y6 = true → t6 ≠ t7
  d1_0 : y1 = true → y0 = true
  d3_2 : y3 = true → y2 = true
  d4_3 : y4 = true → y3 = true
  d4_1 : y4 = true → y1 = true
theorem MR.grow {W x x' : World} {V0 V2 V3 : Value} {P1 P4 : List Int → Prop} {y0 y1 y2 y3 y4 y5 y6 : Bool} {t50 t51 t52 t53 t54 t6 t7 : Value} (h : MR W x V0 V2 V3 P1 P4 y0 y1 y2 y3 y4 y5 y6 t50 t51 t52 t53 t54 t6 t7) (b : Below x.heap.size x x') : MR W x' V0 V2 V3 P1 P4 y0 y1 y2 y3 y4 y5 y6 t50 t51 t52 t53 t54 t6 t7 where
  bel := bel' h.bel b
  o0 := h.o0
  o2 := h.o2
  o3 := h.o3
  o1 := fun u => (h.o1 u).grow b
  o4 := fun u => (h.o4 u).grow b
  o5 := fun u => by obtain ⟨k, e, l, K⟩ := h.o5 u; exact ⟨k, e, l, K.below b⟩
  o6 := fun u => by obtain ⟨k, e, l, K⟩ := h.o6 u; exact ⟨k, e, l, K.below b⟩
  ne := h.ne
  d1_0 := h.d1_0
  d3_2 := h.d3_2
  d4_3 := h.d4_3
  d4_1 := h.d4_1
set_option maxHeartbeats 1600000 in
set_option maxRecDepth 100000 in
theorem Read_num (n d : ByteArray) (g : Bool) (z : ByteArray) (q2 q3 : Bool) (w : World) (hd : d.size ≤ 4096) (hz : z.size ≤ 4096)
    (dz : ∀ c ∈ z.data.toList, Dc.Dg c) (dd : ∀ c ∈ d.data.toList, Dc.Dg c)
    (W1 : ∀ W, Calls Tryz.prog 63 #[.string n] W fun e w' => e = .returned (.bool true) ∧ Below W.heap.size W w')
    (N1 : ∀ W, Calls Tryz.prog 64 #[.string d] W fun e w' => e = .returned (.bool true) ∧ w' = W)
    (C1 : ∀ W, Calls Tryz.prog 65 #[.string n] W fun e w' => e = .returned (.tuple #[.bool g, .string z]) ∧ Below W.heap.size W w')
    (h1 : (d.toList == [48]) = false) (h2 : (n.toList == [48]) = q2) (h3 : (d.toList == [49]) = q3) (hq : (q2 && !q3) = false) :
    Calls Tryz.prog 23 #[.agg #[.string n, .string d]] w fun e w' => (Int.gcd (Dc.num z.data.toList : Int) (Dc.num d.data.toList : Int) ≠ 1 ∧ e = .returned (noR 5) ∨ Int.gcd (Dc.num z.data.toList : Int) (Dc.num d.data.toList : Int) = 1 ∧ ∃ v1 v2 xs ys, e = .returned (.tuple #[.agg #[.bool g, v1, v2], .int .i64 0]) ∧ Rd w' v1 xs ∧ Nm xs ∧ val xs = (Dc.num z.data.toList : Int) ∧ xs.length ≤ 400 ∧ Rd w' v2 ys ∧ Nm ys ∧ val ys = (Dc.num d.data.toList : Int) ∧ ys.length ≤ 400) ∧ Below w.heap.size w w' := by
  have K0 : Blk _ _ _ _ := (Blk.new w #[.string n, .string d] 23).alloc (.cells #[.bool false, .slice none 0 0, .slice none 0 0] 58)
  have K1 := Rb.new (w.alloc (.cells #[.string n, .string d] 23)) (.bool false) (.slice none 0 0) (.slice none 0 0) 58
  have pr : Below w.heap.size w ((w.alloc (.cells #[.string n, .string d] 23)).alloc (.cells #[.bool false, .slice none 0 0, .slice none 0 0] 58)) := ((Below.refl _ _).alloc (Nat.le_refl _) _).alloc (by simp) _
  simp only [World.size_alloc] at K1
  have hzi : ¬ (4096 : Int) < (z.size : Int) := by omega
  have hdi : ¬ (4096 : Int) < (d.size : Int) := by omega
  have hh : q2 = false ∨ (q2 = true ∧ q3 = true) := by
    revert hq; cases q2 <;> cases q3 <;> simp
  clear hq
  go_enter Tryz.func23, Tryz.ntmps23
  go_upto_region 1 with fail
  go_cut [32] (fun c wc => c = .bool false ∧ Blk wc w.heap.size #[.string n, .string d] 23 ∧ Rb wc (w.heap.size + 1) (.bool false) (.slice none 0 0) (.slice none 0 0) ∧ Below w.heap.size w wc)
  case first =>
    rcases hh with rfl | ⟨rfl, rfl⟩
    all_goals
      go_wp2_with (first
        | (go_at_call 63; (refine (W1 _).mono ?_); rintro e w1 ⟨rfl, b1⟩; have k0 : w1.cell? ⟨w.heap.size, 0, none⟩ = some (.string n) := (K0.below b1 K0.lt).at 0; have k1 : w1.cell? ⟨w.heap.size, 1, none⟩ = some (.string d) := (K0.below b1 K0.lt).at 1; replace K0 := K0.below b1 K0.lt; have R := K1.grow b1; replace pr := bel' pr b1)
        | (go_at_call 64; (refine (N1 _).mono ?_); rintro e w2 ⟨rfl, rfl⟩))
      go_meet
      case rel => exact ⟨rfl, K0, R, pr⟩
  case rest =>
    clear K0 K1 pr W1 N1 hh
    obtain ⟨rfl, K0, R, pr⟩ := hcut
    have k0 : wc.cell? ⟨w.heap.size, 0, none⟩ = some (.string n) := K0.at 0
    have k1 : wc.cell? ⟨w.heap.size, 1, none⟩ = some (.string d) := K0.at 1
    go_upto_region 4 with (first
      | (go_at_call 65; (refine (C1 _).mono ?_); rintro e w3 ⟨rfl, b3⟩; replace K0 := K0.below b3 K0.lt; have k2 : w3.cell? ⟨w.heap.size, 1, none⟩ = some (.string d) := K0.at 1; replace R := R.grow b3; replace pr := bel' pr b3; clear b3 k0 k1))
    go_cut [48] (fun c wc => c = .bool false ∧ wc = w3)
    case first =>
      go_wp2_with fail
      go_meet
      case rel => exact ⟨by simp; omega, rfl⟩
    case rest =>
    clear k2 C1 h1 h2 h3
    obtain ⟨rfl, rfl⟩ := hcut
    go_upto_region 6 with fail
    clear hzi hdi
    go_cut [6, 7] (fun x y wc => ∃ X Y a1 l1 c1 a2 l2 c2 xs zs, x = .pointer (some ⟨X, 0, none⟩) ∧ y = .pointer (some ⟨Y, 0, none⟩) ∧ Bx wc X (.slice a1 l1 c1) ∧ Bx wc Y (.slice a2 l2 c2) ∧ Rd wc (.slice a1 l1 c1) xs ∧ Nm xs ∧ (val xs = (Dc.num z.data.toList : Int) ∧ xs.length ≤ 400) ∧ Rd wc (.slice a2 l2 c2) zs ∧ Nm zs ∧ (val zs = (Dc.num d.data.toList : Int) ∧ zs.length ≤ 400) ∧ Rb wc (w.heap.size + 1) (.bool false) (.slice none 0 0) (.slice none 0 0) ∧ Below w.heap.size w wc)
    case first =>
      rename_i hm hJ
      refine wp_region_held (S := fun _ => True) (by kernel_rfl) (any_inv (fun listed a x => ∃ (y0 y1 y2 y3 y4 y5 y6 : Bool) (t50 t51 t52 t53 t54 t6 t7 : Value), a = ⟨#[.agg #[.string n, .string d], .pointer (some ⟨w.heap.size, 0, none⟩), .pointer (some ⟨w.heap.size + 1, 0, none⟩), .int .i64 0, .bool g, .string z, t6, t7, u8, u9, u10, u11, u12, u13, u14, u15, u16, u17, u18, u19, u20, u21, u22, u23, u24, u25, u26, u27, u28, u29, u30, u31, u32, u33, u34, u35, u36, u37, u38, u39, u40, u41, u42, u43, u44, u45, u46, u47, .bool false, u49, t50, t51, t52, t53, t54, u55, u56, u57, u58, u59, u60, u61, u62, u63, u64], []⟩ ∧ ((listed = #[y0, y1, y2, y3, y4, y5, y6, false, false] ∧ MR wc x (.string z) (.pointer (some ⟨w.heap.size, 1, none⟩)) (.string d) (fun l => val l = (Dc.num z.data.toList : Int) ∧ l.length ≤ 400) (fun l => val l = (Dc.num d.data.toList : Int) ∧ l.length ≤ 400) y0 y1 y2 y3 y4 y5 y6 t50 t51 t52 t53 t54 t6 t7) ∨ (listed = #[true, true, true, true, true, true, true, true, false] ∧ (∃ X Y a1 l1 c1 a2 l2 c2 xs zs, t6 = .pointer (some ⟨X, 0, none⟩) ∧ t7 = .pointer (some ⟨Y, 0, none⟩) ∧ X ≠ Y ∧ wc.heap.size ≤ X ∧ wc.heap.size ≤ Y ∧ Below wc.heap.size wc x ∧ t51 = .agg #[.slice a1 l1 c1] ∧ t54 = .agg #[.slice a2 l2 c2] ∧ Rd x (.slice a1 l1 c1) xs ∧ Nm xs ∧ (fun l => val l = (Dc.num z.data.toList : Int) ∧ l.length ≤ 400) xs ∧ Rd x (.slice a2 l2 c2) zs ∧ Nm zs ∧ (fun l => val l = (Dc.num d.data.toList : Int) ∧ l.length ≤ 400) zs ∧ Bx x X (.slice a1 l1 c1) ∧ Bx x Y (.slice none 0 0))) ∨ (listed = #[true, true, true, true, true, true, true, true, true] ∧ (∃ X Y a1 l1 c1 a2 l2 c2 xs zs, t6 = .pointer (some ⟨X, 0, none⟩) ∧ t7 = .pointer (some ⟨Y, 0, none⟩) ∧ X ≠ Y ∧ wc.heap.size ≤ X ∧ wc.heap.size ≤ Y ∧ Below wc.heap.size wc x ∧ t51 = .agg #[.slice a1 l1 c1] ∧ t54 = .agg #[.slice a2 l2 c2] ∧ Rd x (.slice a1 l1 c1) xs ∧ Nm xs ∧ (fun l => val l = (Dc.num z.data.toList : Int) ∧ l.length ≤ 400) xs ∧ Rd x (.slice a2 l2 c2) zs ∧ Nm zs ∧ (fun l => val l = (Dc.num d.data.toList : Int) ∧ l.length ≤ 400) zs ∧ Bx x X (.slice a1 l1 c1) ∧ Bx x Y (.slice a2 l2 c2))))) ?_ ?_ _ _ _ _ (by decide) ?_)
      · rintro listed a x i ⟨y0, y1, y2, y3, y4, y5, y6, t50, t51, t52, t53, t54, t6, t7, rfl, h⟩ hi
        have hr : i < 9 := List.mem_range.1 (List.mem_filter.1 hi).1
        have hc := (List.mem_filter.1 hi).2
        rcases h with ⟨rfl, h⟩ | ⟨rfl, h⟩ | ⟨rfl, h⟩
        · rcases (show i = 0 ∨ i = 1 ∨ i = 2 ∨ i = 3 ∨ i = 4 ∨ i = 5 ∨ i = 6 ∨ i = 7 ∨ i = 8 by omega) with rfl | rfl | rfl | rfl | rfl | rfl | rfl | rfl | rfl
          · -- operation 0
            clear hc hi
            refine wpOp_step rfl (fun K hK0 => ?_)
            have hK : Hid _ := hK0
            clear hK0
            rw [if_pos (by rfl)]
            go_wp2_with fail
            exact hK.out _ _ ⟨true, y1, y2, y3, y4, y5, y6, .string z, t51, t52, t53, t54, t6, t7, rfl, Or.inl ⟨rfl, { h with o0 := fun _ => rfl, d1_0 := fun _ => rfl }⟩⟩
          · -- operation 1
            have e0 : y0 = true := by
              revert hc
              cases y0 <;> simp [Region.binds]
            have r0 := h.o0 e0
            subst r0
            clear hc hi
            refine wpOp_step rfl (fun K hK0 => ?_)
            have hK : Hid _ := hK0
            clear hK0
            rw [if_pos (by rfl)]
            go_wp2_with (first | (go_at_call 66; go_must (refine (Parse_any z x (by omega) dz).mono ?_; rintro e x2 ⟨r, zs, rfl, hr, hnm, hv, hl, bb⟩)) | fail)
            obtain ⟨a9, l9, c9, rfl⟩ := hr.shape
            exact hK.out _ _ ⟨y0, true, y2, y3, y4, y5, y6, _, _, t52, t53, t54, t6, t7, rfl, Or.inl ⟨rfl, { h.grow bb with o1 := fun _ => ⟨a9, l9, c9, zs, rfl, hr, hnm, ⟨hv, by omega⟩⟩, d1_0 := fun _ => e0, d4_1 := fun _ => rfl }⟩⟩
          · -- operation 2
            clear hc hi
            refine wpOp_step rfl (fun K hK0 => ?_)
            have hK : Hid _ := hK0
            clear hK0
            rw [if_pos (by rfl)]
            go_wp2_with fail
            exact hK.out _ _ ⟨y0, y1, true, y3, y4, y5, y6, t50, t51, .pointer (some ⟨w.heap.size, 1, none⟩), t53, t54, t6, t7, rfl, Or.inl ⟨rfl, { h with o2 := fun _ => rfl, d3_2 := fun _ => rfl }⟩⟩
          · -- operation 3
            have e2 : y2 = true := by
              revert hc
              cases y2 <;> simp [Region.binds]
            have r2 := h.o2 e2
            subst r2
            clear hc hi
            have kd : x.cell? ⟨w.heap.size, 1, none⟩ = some (.string d) := (K0.below h.bel K0.lt).at 1
            refine wpOp_step rfl (fun K hK0 => ?_)
            have hK : Hid _ := hK0
            clear hK0
            rw [if_pos (by rfl)]
            go_wp2_with fail
            exact hK.out _ _ ⟨y0, y1, y2, true, y4, y5, y6, t50, t51, _, .string d, t54, t6, t7, rfl, Or.inl ⟨rfl, { h with o3 := fun _ => rfl, d3_2 := fun _ => e2, d4_3 := fun _ => rfl }⟩⟩
          · -- operation 4
            have e3 : y3 = true := by
              revert hc
              cases y3 <;> simp [Region.binds]
            have e1 : y1 = true := by
              revert hc
              cases y1 <;> simp [Region.binds]
            have r3 := h.o3 e3
            subst r3
            obtain ⟨a1, l1, c1, xs1, rfl, R1, N1, V1⟩ := h.o1 e1
            clear hc hi
            refine wpOp_step rfl (fun K hK0 => ?_)
            have hK : Hid _ := hK0
            clear hK0
            rw [if_pos (by rfl)]
            go_wp2_with (first | (go_at_call 66; go_must (refine (Parse_any d x (by omega) dd).mono ?_; rintro e x2 ⟨r, zs, rfl, hr, hnm, hv, hl, bb⟩)) | fail)
            obtain ⟨a9, l9, c9, rfl⟩ := hr.shape
            exact hK.out _ _ ⟨y0, y1, y2, y3, true, y5, y6, t50, _, t52, _, _, t6, t7, rfl, Or.inl ⟨rfl, { h.grow bb with o4 := fun _ => ⟨a9, l9, c9, zs, rfl, hr, hnm, ⟨hv, by omega⟩⟩, d4_3 := fun _ => e3, d4_1 := fun _ => e1 }⟩⟩
          · -- operation 5
            clear hc hi
            refine wpOp_step rfl (fun K hK0 => ?_)
            have hK : Hid _ := hK0
            clear hK0
            rw [if_pos (by rfl)]
            go_wp2_with fail
            exact hK.out _ _ ⟨y0, y1, y2, y3, y4, true, y6, t50, t51, t52, t53, t54, _, t7, rfl, Or.inl ⟨rfl, { h.grow ((Below.refl _ _).alloc (Nat.le_refl _) _) with o5 := fun _ => ⟨_, rfl, h.bel.size, Bx.new _ _ _⟩, ne := fun _ q => by obtain ⟨Y, e, _, K⟩ := h.o6 q; rw [e]; intro c; cases c; exact absurd K.lt (Nat.lt_irrefl _) }⟩⟩
          · -- operation 6
            clear hc hi
            refine wpOp_step rfl (fun K hK0 => ?_)
            have hK : Hid _ := hK0
            clear hK0
            rw [if_pos (by rfl)]
            go_wp2_with fail
            exact hK.out _ _ ⟨y0, y1, y2, y3, y4, y5, true, t50, t51, t52, t53, t54, t6, _, rfl, Or.inl ⟨rfl, { h.grow ((Below.refl _ _).alloc (Nat.le_refl _) _) with o6 := fun _ => ⟨_, rfl, h.bel.size, Bx.new _ _ _⟩, ne := fun q _ => by obtain ⟨Y, e, _, K⟩ := h.o5 q; rw [e]; intro c; cases c; exact absurd K.lt (Nat.lt_irrefl _) }⟩⟩
          · -- operation 7
            have e0 : y0 = true := by
              revert hc
              cases y0 <;> simp [Region.binds]
            have e1 : y1 = true := by
              revert hc
              cases y1 <;> simp [Region.binds]
            have e4 : y4 = true := by
              revert hc
              cases y4 <;> simp [Region.binds]
            have e5 : y5 = true := by
              revert hc
              cases y5 <;> simp [Region.binds]
            have e6 : y6 = true := by
              revert hc
              cases y6 <;> simp [Region.binds]
            have e3 := h.d4_3 e4
            have e2 := h.d3_2 e3
            obtain ⟨a1, l1, c1, xs, rfl, R1, N1, Q1⟩ := h.o1 e1
            obtain ⟨a2, l2, c2, zs, rfl, R2, N2, Q2⟩ := h.o4 e4
            obtain ⟨X, rfl, lX, KX⟩ := h.o5 e5
            obtain ⟨Y, rfl, lY, KY⟩ := h.o6 e6
            have ne : X ≠ Y := fun c => h.ne e5 e6 (by rw [c])
            have bl := h.bel
            clear h hc hi
            subst e0 e1 e2 e3 e4 e5 e6
            have xx := KX.1
            have xf := KX.2
            refine wpOp_step rfl (fun K hK0 => ?_)
            have hK : Hid _ := hK0
            clear hK0
            rw [if_pos (by rfl)]
            go_wp2_with fail
            exact hK.out _ _ ⟨true, true, true, true, true, true, true, t50, _, t52, t53, _, _, _, rfl, Or.inr (Or.inl ⟨rfl, X, Y, a1, l1, c1, a2, l2, c2, xs, zs, rfl, rfl, ne, lX, lY, below_put bl lX _, rfl, rfl, R1.box KX, N1, Q1, R2.box KX, N2, Q2, KX.set _, KY.wr ((Wr.refl X 0 1 x).setCell 0 (by omega) _) ne.symm⟩)⟩
          · simp [Region.binds] at hc
        · rcases (show i = 0 ∨ i = 1 ∨ i = 2 ∨ i = 3 ∨ i = 4 ∨ i = 5 ∨ i = 6 ∨ i = 7 ∨ i = 8 by omega) with rfl | rfl | rfl | rfl | rfl | rfl | rfl | rfl | rfl
          · simp at hc
          · simp at hc
          · simp at hc
          · simp at hc
          · simp at hc
          · simp at hc
          · simp at hc
          · simp at hc
          · obtain ⟨X, Y, a1, l1, c1, a2, l2, c2, xs, zs, rfl, rfl, ne, lX, lY, bl, rfl, rfl, R1, N1, Q1, R2, N2, Q2, KX, KY⟩ := h
            clear hc hi
            have yy := KY.1
            have yf := KY.2
            refine wpOp_step rfl (fun K hK0 => ?_)
            have hK : Hid _ := hK0
            clear hK0
            rw [if_pos (by rfl)]
            go_wp2_with fail
            exact hK.out _ _ ⟨true, true, true, true, true, true, true, t50, _, t52, t53, _, _, _, rfl, Or.inr (Or.inr ⟨rfl, X, Y, a1, l1, c1, a2, l2, c2, xs, zs, rfl, rfl, ne, lX, lY, below_put bl lY _, rfl, rfl, R1.box KY, N1, Q1, R2.box KY, N2, Q2, KX.wr ((Wr.refl Y 0 1 x).setCell 0 (by omega) _) ne, KY.set _⟩)⟩
        · rcases (show i = 0 ∨ i = 1 ∨ i = 2 ∨ i = 3 ∨ i = 4 ∨ i = 5 ∨ i = 6 ∨ i = 7 ∨ i = 8 by omega) with rfl | rfl | rfl | rfl | rfl | rfl | rfl | rfl | rfl <;> simp at hc
      · rintro listed a x ⟨y0, y1, y2, y3, y4, y5, y6, t50, t51, t52, t53, t54, t6, t7, rfl, h⟩ hn
        have al := all_listed (by decide +kernel) hn
        rcases h with ⟨rfl, h⟩ | ⟨rfl, h⟩ | ⟨rfl, h⟩
        · have z := al 7 (by decide)
          simp at z
        · have z := al 8 (by decide)
          simp at z
        · obtain ⟨X, Y, a1, l1, c1, a2, l2, c2, xs, zs, rfl, rfl, ne, lX, lY, bl, rfl, rfl, R1, N1, Q1, R2, N2, Q2, KX, KY⟩ := h
          refine hJ _ _ ?_
          go_meet
          case rel => exact ⟨X, Y, a1, l1, c1, a2, l2, c2, xs, zs, rfl, rfl, KX, KY, R1, N1, Q1, R2, N2, Q2, R.grow bl, bel' pr bl⟩
      · exact ⟨false, false, false, false, false, false, false, u50, u51, u52, u53, u54, undef, undef, rfl, Or.inl ⟨rfl, { bel := (Below.refl _ _).drew, o0 := (by intro q; cases q), o1 := (by intro q; cases q), o2 := (by intro q; cases q), o3 := (by intro q; cases q), o4 := (by intro q; cases q), o5 := (by intro q; cases q), o6 := (by intro q; cases q), ne := (by intro q; cases q), d1_0 := (by intro q; cases q), d3_2 := (by intro q; cases q), d4_3 := (by intro q; cases q), d4_1 := (by intro q; cases q) }⟩⟩
    case rest =>
      clear K0 R pr
      obtain ⟨X, Y, a1, l1, c1, a2, l2, c2, xs, zs, rfl, rfl, KX, KY, R1, N1, Q1, R2, N2, Q2, R, pr⟩ := hcut
      have x0 := KX.1
      have y0 := KY.1
      have G : ∀ W, Below wc.heap.size wc W → Calls Tryz.prog 67 #[.agg #[.slice a1 l1 c1], .agg #[.slice a2 l2 c2]] W fun e w' => ∃ r ws, e = .returned (.agg #[r]) ∧ Rd w' r ws ∧ Nm ws ∧ val ws = Int.gcd (Dc.num z.data.toList : Int) (Dc.num d.data.toList : Int) ∧ Below W.heap.size W w' := fun W b => by
        have := GCD_any (.slice a1 l1 c1) (.slice a2 l2 c2) xs zs W (R1.grow b) (R2.grow b) N1 N2 (by omega) (by omega)
        rw [Q1.1, Q2.1] at this
        exact this
      have Q1' : Hid (val xs = (Dc.num z.data.toList : Int) ∧ xs.length ≤ 400) := Q1
      have Q2' : Hid (val zs = (Dc.num d.data.toList : Int) ∧ zs.length ≤ 400) := Q2
      clear Q1 Q2 dz dd
      generalize hg : Int.gcd (Dc.num z.data.toList : Int) (Dc.num d.data.toList : Int) = q at G
      have Hg : Hid (Int.gcd (Dc.num z.data.toList : Int) (Dc.num d.data.toList : Int) = q) := hg
      clear hg
      have pb := Below.refl wc.heap.size wc
      by_cases h : q = 1
      · have Hq : Hid (q = 1) := h
        have hqd : decide ((q : Int) = 1) = true := decide_eq_true (by omega)
        clear h
        go_wp2_with (first
          | (go_at_call 67; go_must (refine (G _ pb).mono ?_; rintro e w5 ⟨r, ws, rfl, hr, hnm, hv, b5⟩; obtain ⟨a9, l9, c9, rfl⟩ := hr.shape))
          | (go_at_call 68; go_must (refine (IsOne_any _ ws _ hr hnm).mono ?_; rw [hv, hqd]; rintro e w6 ⟨rfl, b6⟩; have bb := bel' b5 b6; have x0' := (KX.below bb).1; have y0' := (KY.below bb).1; replace R := R.grow bb; replace pr := bel' pr bb; have r0 := R.c0; have r1 := R.c1; have r2 := R.c2; have s0 := R.f0; have s1 := R.f1; have s2 := R.f2; clear b5 b6))
          | fail)
        obtain ⟨F0, F1, F2⟩ := R.put (.bool g) (.slice a1 l1 c1) (.slice a2 l2 c2)
        exact bodyPost_ret (v := .tuple #[.agg #[.bool g, .slice a1 l1 c1, .slice a2 l2 c2], .int .i64 0]) (by simp [results, Tryz.results23, go_sem, F0, F1, F2]) rfl ⟨Or.inr ⟨Hg.out.trans Hq.out, _, _, xs, zs, rfl, Rd.putF (R1.grow bb) R, N1, Q1'.out.1, Q1'.out.2, Rd.putF (R2.grow bb) R, N2, Q2'.out.1, Q2'.out.2⟩, bset3 pr (by omega)⟩
      · have Hq : Hid (q ≠ 1) := h
        have hqd : decide ((q : Int) = 1) = false := decide_eq_false (by omega)
        clear h
        go_wp2_with (first
          | (go_at_call 67; go_must (refine (G _ pb).mono ?_; rintro e w5 ⟨r, ws, rfl, hr, hnm, hv, b5⟩; obtain ⟨a9, l9, c9, rfl⟩ := hr.shape))
          | (go_at_call 68; go_must (refine (IsOne_any _ ws _ hr hnm).mono ?_; rw [hv, hqd]; rintro e w6 ⟨rfl, b6⟩; have bb := bel' b5 b6; replace R := R.grow bb; replace pr := bel' pr bb; have r0 := R.c0; have r1 := R.c1; have r2 := R.c2; have s0 := R.f0; have s1 := R.f1; have s2 := R.f2; clear b5 b6))
          | fail)
        obtain ⟨F0, F1, F2⟩ := R.put (.bool false) (.slice none 0 0) (.slice none 0 0)
        exact bodyPost_ret (v := noR 5) (by simp [results, Tryz.results23, go_sem, F0, F1, F2]) rfl ⟨Or.inl ⟨fun e => Hq.out (Hg.out.symm.trans e), rfl⟩, bset3 pr (by omega)⟩
end Go.Proofs.YtfalncbcomlelaaGreatDoor.Mo
