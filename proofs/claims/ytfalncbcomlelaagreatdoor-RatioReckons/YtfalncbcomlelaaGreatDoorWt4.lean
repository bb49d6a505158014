import Derived.Test.YtfalncbcomlelaaGreatDoorWt3
import Derived.Deep.RegionHeld3
namespace Go.Proofs.YtfalncbcomlelaaGreatDoor.Wt
open Go.RowKit Tn

/-- Behind k groups: what is left to be divided, and the text. -/
structure Gs (W wr : World) (gR gt cap : Nat) (Y : List Int) (N g l k : Nat) : Prop where
  X : ∃ X, X.length = l ∧ Wd X ∧ val X = ((N / (10 ^ 19) ^ k : Nat) : Int) ∧ Cells wr gR 0 X
  oR : OwnN wr gR l
  t : Tr wr gt cap (Y.length + 19 * g) (tf Y N g k)
  os : wr.os = W.os
  tape : wr.tape = W.tape
  output : wr.output = W.output
  size : W.heap.size ≤ wr.heap.size
  block : ∀ i, i < W.heap.size → i ≠ gR → i ≠ gt → wr.heap[i]? = W.heap[i]?
theorem Gs.next {W wr w1 w2 : World} {gR gt cap : Nat} {Y : List Int} {N g l k R : Nat} (h : Gs W wr gR gt cap Y N g l k) (hk : k < g) (ne : gR ≠ gt) (hR : N / (10 ^ 19) ^ k % 10 ^ 19 = R) {S' : List Int} (s1 : S'.length = l) (s2 : Wd S')
    (s3 : val S' = ((N / (10 ^ 19) ^ (k + 1) : Nat) : Int)) (s4 : Cells w1 gR 0 S') (k1 : Wr gR 0 l wr w1) (c : Cb w2 gt (Y.length + 19 * (g - 1 - k)) 19 (gd R)) (k2 : Wr gt (Y.length + 19 * (g - 1 - k)) 19 w1 w2) : Gs W w2 gR gt cap Y N g l (k + 1) := by
  have t1 : Tr w1 gt cap (Y.length + 19 * g) (tf Y N g k) := h.t.keep (k1.block gt h.t.lt (Ne.symm ne))
  refine ⟨⟨S', s1, s2, s3, s4.other k2 ne⟩, (h.oR.wr k1).wr k2, ?_, k2.os.trans (k1.os.trans h.os), k2.tape.trans (k1.tape.trans h.tape), k2.output.trans (k1.output.trans h.output), Nat.le_trans h.size (Nat.le_trans k1.size k2.size), fun i hi h1 h2 => ?_⟩
  · exact (t1.wr k2 c).cong fun j => tf_next Y N g k hk R hR j
  · have := h.size
    exact (k2.block i (by have := k1.size; omega) h2).trans ((k1.block i (by omega) h1).trans (h.block i hi h1 h2))
theorem field_words (a : Option Addr) (l c : Nat) (w : World) : (Instr.field 56 (.agg #[.slice a l c]) 0).run Tryz.prog w = .ok (.slice a l c) w := by
  simp [Instr.field, run_underlying Tryz.underlying56, asAgg, part, Tryz.sizeOf54, go_sem]
set_option maxRecDepth 100000 in
set_option maxHeartbeats 3200000 in
theorem appendGroups_any (p : Option Addr) (c : Nat) (xs : List Int) (N : Nat) (av : Option Addr) (n cv : Nat) (Y : List Int) (g base : Nat) (w : World) (hx : Rd w (.slice p xs.length c) xs) (hN : val xs = (N : Int)) (hl : xs.length ≤ 1000000) (g0 : 1 ≤ g) (g1 : g ≤ 1000000)
    (hY : n = Y.length) (hYb : Y.length ≤ 1000000000) (hown : w.ownsRow base 5 1 (.slice av n cv) n (Y.map (Value.int .u8))) (hbase : base ≤ w.heap.size) (hU : U8 w (.slice av n cv)) :
    Calls Tryz.prog 144 #[.agg #[.slice p xs.length c], .slice av n cv, .int .i64 g] w fun e w' => ∃ gt cap, e = .returned (.slice (some ⟨gt, 0, none⟩) (Y.length + 19 * g) cap) ∧ w'.ownsRow base 5 1 (.slice (some ⟨gt, 0, none⟩) (Y.length + 19 * g) cap) (Y.length + 19 * g) ((Y ++ pd N (19 * g)).map (Value.int .u8)) ∧
      w.grownBy w' (Value.slice av n cv).ownBlock ∧ (some gt = (Value.slice av n cv).ownBlock ∨ w.heap.size ≤ gt) ∧ U8 w' (.slice (some ⟨gt, 0, none⟩) (Y.length + 19 * g) cap) := by
  subst hY
  obtain ⟨hW, p', c', e', _, _, hc⟩ := hx
  obtain ⟨rfl, rfl⟩ : p = p' ∧ c = c' := by simpa using e'
  clear e'
  have G19 : IntKind.i64.wrap ((g : Int) * 19) = ((19 * g : Nat) : Int) := by rw [show (g : Int) * 19 = ((19 * g : Nat) : Int) by omega]; exact wrapI _ (by omega) (by omega)
  have o1 := hown.alloc (.cells #[.slice p xs.length c] 56)
  have hne : ∀ b o, 0 < xs.length → p = some ⟨b, o, none⟩ → Cells w b o xs → some b ≠ (Value.slice av Y.length cv).ownBlock := fun b o l _ q e => by
    obtain ⟨x, hx⟩ := hU b e.symm (o + 0) _ (q 0 l)
    cases hx
  have hU1 : U8 (w.alloc (.cells #[.slice p xs.length c] 56)) (.slice av Y.length cv) := fun k e j u hj => hU k e j u (((Below.refl w.heap.size w).alloc (Nat.le_refl _) _).cell (p := ⟨k, j, none⟩) (hown.lt k e).2 ▸ hj)
  have lo : ∀ k, (Value.slice av Y.length cv).ownBlock = some k → k < w.heap.size := fun k hk => (hown.lt k hk).2
  have B0 := Bx.new w (.slice p xs.length c) 56
  go_enter Tryz.func144, Tryz.ntmps144
  have fw := field_words
  have o2s : ∀ (v : Value) (W : World), W.ownsRow base 5 1 v (Y.length + 19 * g) (Y.map (Value.int .u8) ++ List.replicate (19 * g) (.int .u8 0)) → ∃ gt cap, v = .slice (some ⟨gt, 0, none⟩) (Y.length + 19 * g) cap := fun v W h => by
    obtain ⟨_, h⟩ := h
    rcases h with ⟨_, h⟩ | ⟨gt, cap, _, h, _⟩
    · omega
    · exact ⟨gt, cap, h⟩
  go_wp2_with (first
    | (at_builtin; go_must (refine wpList_zeros rfl _ _ rfl base (.slice av Y.length cv) Y.length (19 * g) _ rfl (congrArg (Value.int .i64) (show (19 : Int) * (g : Int) = ((19 * g : Nat) : Int) by omega)) o1 (by omega) (by omega) (by simp; omega) hU1 (by intro u hu; obtain ⟨x, _, rfl⟩ := List.mem_map.1 hu; exact ⟨x, rfl⟩) ?_; intro v1 w2 o2 gr2 nb2 uu2; obtain ⟨gt, cap, rfl⟩ := o2s _ _ o2; (have b2 : w2.cell? ⟨w.heap.size, 0, none⟩ = some (.slice p xs.length c) := gr2.cell B0.1 (fun e => Nat.lt_irrefl _ (lo _ e.symm))); (have hc2 : 0 < xs.length → ∃ b o, p = some ⟨b, o, none⟩ ∧ Cells w2 b o xs := fun l => by obtain ⟨b, o, e, q⟩ := hc l; exact ⟨b, o, e, fun i hi => gr2.cell ((q.grow ((Below.refl _ _).alloc (Nat.le_refl _) _)) i hi) (hne b o l e q)⟩)))
    | (go_at_call 97; go_must (refine (copied_all p c xs w2 (by omega) hc2).mono ?_; rintro e w3 ⟨gR, rfl, q1, q2, q3, q4, q5⟩))
    | fail)
  have ot : w2.ownsRow base 5 1 (.slice (some ⟨gt, 0, none⟩) (Y.length + 19 * g) cap) (Y.length + 19 * g) ((Y ++ List.replicate (19 * g) 0).map (Value.int .u8)) := by rw [List.map_append, List.map_replicate]; exact o2
  obtain ⟨T2, hgb, hcm⟩ := Tr.of ot uu2
  have T3 : Tr w3 gt cap (Y.length + 19 * g) (tf Y N g 0) := by
    have t := T2.keep (q5.block gt T2.lt)
    exact ⟨t.blk, t.le, fun j hj => by rw [← tf_zero Y N g j hj]; exact t.cel j hj, t.u8⟩
  have hgt := T2.lt
  have neR : gR ≠ gt := by omega
  have S0 : Gs w3 w3 gR gt cap Y N g xs.length 0 := ⟨⟨xs, rfl, hW, by rw [hN]; simp, q4⟩, q3, T3, rfl, rfl, rfl, Nat.le_refl _, fun _ _ _ _ => rfl⟩
  have F1 : ∀ w', w3.os = w'.os → w3.tape = w'.tape → w3.output = w'.output → w3.heap.size ≤ w'.heap.size → (∀ i, i < w3.heap.size → i ≠ gR → i ≠ gt → w'.heap[i]? = w3.heap[i]?) → w.grownBy w' (Value.slice av Y.length cv).ownBlock := fun w' e1 e2 e3 e4 e5 => by
    have g2 := gr2.size
    have g3 := q5.size
    simp at g2
    refine ⟨e1.symm.trans (q5.os.trans gr2.os), e2.symm.trans (q5.tape.trans gr2.tape), e3.symm.trans (q5.output.trans gr2.output), by omega, fun k hk hn => ?_⟩
    have ngt : k ≠ gt := by
      rintro rfl
      rcases nb2 with h | h
      · exact hn h
      · simp [Value.ownBlock] at h; omega
    rw [e5 k (by omega) (by omega) ngt, q5.block k (by omega), gr2.block k (by simp; omega) hn]
    exact heap_alloc_old w _ hk
  have nbk : some gt = (Value.slice av Y.length cv).ownBlock ∨ w.heap.size ≤ gt := by
    rcases nb2 with h | h
    · exact Or.inl h
    · right; simp [Value.ownBlock] at h; omega
  clear o2s o1 o2 ot b2 hc2 gr2 nb2 q1 q2 q3 q4 q5 T2 T3 hc hne lo B0 hown hU hU1 uu2
  generalize w3 = W3 at *
  go_wp2_with fail
  go_loopw [20] (fun i wr => ∃ k : Nat, k ≤ g ∧ i = .int .i64 k ∧ Gs W3 wr gR gt cap Y N g xs.length k) (fun i _ => g - (intOf i).toNat)
  case atStart => exact ⟨0, Nat.zero_le _, rfl, S0⟩
  case round =>
    clear S0
    obtain ⟨k, hk, rfl, S⟩ := hrel
    by_cases hlt : k < g
    · obtain ⟨X, x1, x2, x3, x4⟩ := S.X
      obtain ⟨Z, hZ⟩ : ∃ Z : Nat, Y.length + 19 * (g - 1 - k) = Z := ⟨_, rfl⟩
      have hZT : Z + 19 ≤ Y.length + 19 * g := by omega
      have Tle := S.t.le
      have hZc : Z < cap := by omega
      have DW := fun (W : World) (C : Cells W gR 0 X) (F : Free W gR 0 X.length) => divWord_any gR 0 xs.length xs.length X 10000000000000000000 W x1.symm x2 (by decide) (by decide) (by omega) C F
      have e1 : IntKind.i64.wrap ((g : Int) - 1) = (((g - 1 : Nat)) : Int) := by rw [show (g : Int) - 1 = ((g - 1 : Nat) : Int) by omega]; exact wrapI _ (by omega) (by omega)
      have e2 : IntKind.i64.wrap (((g - 1 : Nat) : Int) - (k : Int)) = ((g - 1 - k : Nat) : Int) := by rw [show ((g - 1 : Nat) : Int) - (k : Int) = ((g - 1 - k : Nat) : Int) by omega]; exact wrapI _ (by omega) (by omega)
      have e3 : IntKind.i64.wrap (((g - 1 - k : Nat) : Int) * 19) = ((19 * (g - 1 - k) : Nat) : Int) := by rw [show ((g - 1 - k : Nat) : Int) * 19 = ((19 * (g - 1 - k) : Nat) : Int) by omega]; exact wrapI _ (by omega) (by omega)
      have e4 : IntKind.i64.wrap ((Y.length : Int) + ((19 * (g - 1 - k) : Nat) : Int)) = (Z : Int) := by rw [show (Y.length : Int) + ((19 * (g - 1 - k) : Nat) : Int) = (Z : Int) by omega]; exact wrapI _ (by omega) (by omega)
      have sl := sliceb_l gt (Y.length + 19 * g) cap (Z : Int) Z rfl (by omega) hZc
      obtain ⟨A1, hA1⟩ : ∃ A1 : Int, ((g - 1 : Nat) : Int) = A1 := ⟨_, rfl⟩
      obtain ⟨A2, hA2⟩ : ∃ A2 : Int, ((g - 1 - k : Nat) : Int) = A2 := ⟨_, rfl⟩
      obtain ⟨A3, hA3⟩ : ∃ A3 : Int, ((19 * (g - 1 - k) : Nat) : Int) = A3 := ⟨_, rfl⟩
      rw [hA1] at e1 e2
      rw [hA2] at e2 e3
      rw [hA3] at e3 e4
      have HZ : Hid (Y.length + 19 * (g - 1 - k) = Z) := hZ
      clear hA1 hA2 hA3 hZ Tle
      have x4d : Cells wr.drew gR 0 X := x4
      have fd : Free wr.drew gR 0 X.length := S.oR.own.free 0 _
      have HS : Hid (Gs W3 wr gR gt cap Y N g xs.length k) := S
      have P4 : ∀ (w4 : World) (r : Nat), (r : Int) < 10000000000000000000 → Wr gR 0 X.length wr.drew w4 → Calls Tryz.prog 158 #[.slice (some ⟨gt, Z, none⟩) (Y.length + 19 * g - Z) (cap - Z), .int .u64 r] w4 fun e w' => e = .returned (.tuple #[]) ∧ Cb w' gt Z 19 (gd r) ∧ Wr gt Z 19 w4 w' := fun w4 r hr k4 => by
        have t4 := HS.out.t.keep (w' := w4) (k4.block gt HS.out.t.lt (Ne.symm neR))
        obtain ⟨cur, b1, b2⟩ := t4.blk
        exact putGroup_any gt Z _ _ r w4 (by omega) (by omega) (by omega) (fun i => tf Y N g k (Z + i)) (fun i hi => t4.cel (Z + i) (by omega)) ((show Own w4 gt from ⟨cur, _, b1⟩).free _ _)
      clear S x4
      go_wp2_with fail
      go_region_held3 (fun _ => True) (trivial) (first
        | (go_at_call 126; refine (DW _ x4d fd).mono ?_; rintro e w4 ⟨S', r, rfl, r0, r1, s1, s2, s3, s4, s5⟩; obtain ⟨R, rfl⟩ := Int.eq_ofNat_of_zero_le r0)
        | (go_at_call 158; refine (P4 w4 R r1 s5).mono ?_; rintro e w5 ⟨rfl, c5, k5⟩)
        | fail)
      all_goals
        have e10 : (10 : Nat) ^ 19 = 10000000000000000000 := by decide
        have hq : val S' * 10000000000000000000 + (R : Int) = ((N / (10 ^ 19) ^ k : Nat) : Int) := s3.trans x3
        have v0 := val_nonneg s2
        have key : ∀ M : Nat, val S' * 10000000000000000000 + (R : Int) = (M : Int) → M % 10000000000000000000 = R ∧ val S' = ((M / 10000000000000000000 : Nat) : Int) := fun M h => by omega
        have hR : N / (10 ^ 19) ^ k % 10 ^ 19 = R := by rw [e10] at hq ⊢; exact (key _ hq).1
        have hQ : val S' = ((N / (10 ^ 19) ^ (k + 1) : Nat) : Int) := by
          rw [Nat.pow_succ, ← Nat.div_div_eq_div_mul]
          rw [e10] at hq ⊢
          exact (key _ hq).2
        have s6 : Wr gR 0 X.length wr w4 := ⟨s5.os, s5.tape, s5.output, s5.size, s5.block, s5.cell, s5.froz, s5.own⟩
        have NX := HS.out.next (w1 := w4) (w2 := w5) hlt neR hR (s1.trans x1) s2 hQ s4 (by rw [← x1]; exact s6) (by rw [HZ.out]; exact c5) (by rw [HZ.out]; exact k5)
        clear e10 hq v0 key hR hQ s6 HS P4 DW c5 k5 s1 s2 s3 s4 s5 x4d fd
        go_wp2
        go_roundw
        case rel => exact ⟨k + 1, by omega, by go_num, NX⟩
        case measure => simp [intOf]; omega
    · obtain rfl : k = g := by omega
      have OW := S.t.own hgb hcm (Y ++ pd N (19 * k)) (by rw [List.length_append, pd_len]) (fun j hj => tf_all Y N k j hj)
      have GR := F1 wr S.os.symm S.tape.symm S.output.symm S.size S.block
      have UE : U8 wr (.slice (some ⟨gt, 0, none⟩) (Y.length + 19 * k) cap) := fun g' e j u hj => by
        simp [Value.ownBlock] at e
        subst e
        exact S.t.u8 j u hj
      clear S F1
      go_wp2
      go_ret
      exact ⟨gt, cap, rfl, OW, GR, nbk, UE⟩
end Go.Proofs.YtfalncbcomlelaaGreatDoor.Wt
