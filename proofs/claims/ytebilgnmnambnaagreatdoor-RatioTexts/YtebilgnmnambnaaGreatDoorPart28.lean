import Derived.Test.YtebilgnmnambnaaGreatDoorPart06
import Derived.Test.YtebilgnmnambnaaGreatDoorPart20
import Derived.Test.YtebilgnmnambnaaGreatDoorPart17
import Derived.Deep.RegionHeld3
import Derived.Test.YtebilgnmnambnaaGreatDoorPart27
import Derived.Deep.DeepCutAuto

namespace Go.Proofs.YtebilgnmnambnaaGreatDoor.Wt
open Go.RowKit Tn
def pd (N k : Nat) : List Int := (List.range k).map fun i => 48 + ((N / 10 ^ (k - 1 - i) % 10 : Nat) : Int)
theorem pd_len (N k : Nat) : (pd N k).length = k := by simp [pd]
theorem mod_dig (M e : Nat) (he : e ≤ 18) : M % 10 ^ 19 / 10 ^ e % 10 = M / 10 ^ e % 10 := by
  have s : (10 : Nat) ^ 19 = 10 ^ e * 10 ^ (19 - e) := by rw [← Nat.pow_add]; congr 1; omega
  rw [s, Nat.mod_mul_right_div_self]
  have d : (10 : Nat) ∣ 10 ^ (19 - e) := by
    rw [show 19 - e = (18 - e) + 1 by omega, Nat.pow_succ]
    exact Nat.dvd_mul_left _ _
  exact Nat.mod_mod_of_dvd _ d
def tf (Y : List Int) (N g k j : Nat) : Int :=
  if j < Y.length then Y.getD j 0 else if j < Y.length + 19 * (g - k) then 0 else 48 + ((N / 10 ^ (19 * g - 1 - (j - Y.length)) % 10 : Nat) : Int)
theorem tf_next (Y : List Int) (N g k : Nat) (hk : k < g) (R : Nat) (hR : N / (10 ^ 19) ^ k % 10 ^ 19 = R) (j : Nat) :
    tf Y N g (k + 1) j = if Y.length + 19 * (g - 1 - k) ≤ j ∧ j < Y.length + 19 * (g - 1 - k) + 19 then gd R (j - (Y.length + 19 * (g - 1 - k))) else tf Y N g k j := by
  unfold tf
  by_cases h1 : j < Y.length
  · rw [if_pos h1, if_pos h1, if_neg (by omega)]
  · rw [if_neg h1, if_neg h1]
    by_cases h2 : Y.length + 19 * (g - 1 - k) ≤ j ∧ j < Y.length + 19 * (g - 1 - k) + 19
    · rw [if_pos h2, if_neg (by omega)]
      unfold gd
      rw [← hR]
      obtain ⟨i, hi⟩ : ∃ i, j - (Y.length + 19 * (g - 1 - k)) = i := ⟨_, rfl⟩
      rw [hi, mod_dig _ _ (by omega), ← Nat.pow_mul, Nat.div_div_eq_div_mul, ← Nat.pow_add]
      rw [show 19 * g - 1 - (j - Y.length) = 19 * k + (18 - i) by omega]
    · rw [if_neg h2]
      by_cases h3 : j < Y.length + 19 * (g - 1 - k)
      · rw [if_pos (by omega), if_pos (by omega)]
      · rw [if_neg (by omega), if_neg (by omega)]
theorem tf_zero (Y : List Int) (N g j : Nat) (h : j < Y.length + 19 * g) : (Y ++ List.replicate (19 * g) 0).getD j 0 = tf Y N g 0 j := by
  unfold tf
  by_cases h1 : j < Y.length
  · rw [if_pos h1, List.getD_eq_getElem?_getD, List.getElem?_append_left h1, List.getD_eq_getElem?_getD]
  · rw [if_neg h1, if_pos (by omega), List.getD_eq_getElem?_getD, List.getElem?_append_right (by omega), List.getElem?_replicate]
    split <;> rfl
theorem tf_all (Y : List Int) (N g j : Nat) (h : j < Y.length + 19 * g) : tf Y N g g j = (Y ++ pd N (19 * g)).getD j 0 := by
  unfold tf
  by_cases h1 : j < Y.length
  · rw [if_pos h1, List.getD_eq_getElem?_getD, List.getD_eq_getElem?_getD, List.getElem?_append_left h1]
  · rw [if_neg h1, if_neg (by omega), List.getD_eq_getElem?_getD, List.getElem?_append_right (by omega)]
    unfold pd
    rw [List.getElem?_map, List.getElem?_range (by omega)]
    rfl
structure Tr (w : World) (b cap T : Nat) (f : Nat → Int) : Prop where
  blk : ∃ cur, w.heap[b]? = some (.cells cur 5 (0, 0)) ∧ cur.size = cap
  le : T ≤ cap
  cel : ∀ j, j < T → w.cell? ⟨b, j, none⟩ = some (.int .u8 (f j))
  u8 : ∀ j u, w.cell? ⟨b, j, none⟩ = some u → ∃ x, u = .int .u8 x
theorem Tr.lt {w : World} {b cap T : Nat} {f : Nat → Int} (h : Tr w b cap T f) : b < w.heap.size := by
  obtain ⟨cur, e, _⟩ := h.blk
  exact Own.lt ⟨cur, _, e⟩
theorem Tr.keep {w w' : World} {b cap T : Nat} {f : Nat → Int} (h : Tr w b cap T f) (e : w'.heap[b]? = w.heap[b]?) : Tr w' b cap T f := by
  obtain ⟨⟨cur, h1, h2⟩, h3, h4, h5⟩ := h
  exact ⟨⟨cur, e.trans h1, h2⟩, h3, fun j hj => (World.cell?_of_block (a := ⟨b, j, none⟩) e).trans (h4 j hj), fun j u hj => h5 j u ((World.cell?_of_block (a := ⟨b, j, none⟩) e).symm.trans hj)⟩
theorem Tr.own {w : World} {base b cap T : Nat} {f : Nat → Int} (h : Tr w b cap T f) (hb : base ≤ b) (hm : cap ≤ maxLen) (l : List Int) (hl : l.length = T) (e : ∀ j, j < T → f j = l.getD j 0) : w.ownsRow base 5 1 (.slice (some ⟨b, 0, none⟩) T cap) T (l.map (Value.int .u8)) := by
  obtain ⟨⟨cur, h1, h2⟩, h3, h4, _⟩ := h
  refine ⟨by simp [hl], Or.inr ⟨b, cap, cur, rfl, hb, h1, h3, hm, by omega, ?_⟩⟩
  rw [Nat.mul_one]
  apply List.ext_getElem?
  intro j
  by_cases hj : j < T
  · have c := h4 j hj
    simp only [World.cell?, h1, Option.isSome_none, Bool.false_eq_true, if_false] at c
    rw [List.getElem?_take, if_pos hj, Array.getElem?_toList, c, List.getElem?_map, List.getElem?_eq_getElem (by omega), e j hj]
    simp [List.getD_eq_getElem?_getD, List.getElem?_eq_getElem (show j < l.length by omega)]
  · rw [List.getElem?_eq_none (by rw [List.length_take]; omega), List.getElem?_eq_none (by simp; omega)]
theorem Tr.of {w : World} {base b cap T : Nat} {l : List Int} (h : w.ownsRow base 5 1 (.slice (some ⟨b, 0, none⟩) T cap) T (l.map (Value.int .u8))) (hU : U8 w (.slice (some ⟨b, 0, none⟩) T cap)) : Tr w b cap T (fun j => l.getD j 0) ∧ base ≤ b ∧ cap ≤ maxLen := by
  obtain ⟨h0, h1⟩ := h
  rcases h1 with ⟨e, _⟩ | ⟨g, cap', cur, e, h2, h3, h4, h5, h6, h7⟩
  · cases e
  · simp only [Value.slice.injEq, Option.some.injEq, Addr.mk.injEq] at e
    obtain ⟨⟨rfl, _⟩, _, rfl⟩ := e
    refine ⟨⟨⟨cur, h3, by omega⟩, h4, fun j hj => ?_, fun j u hj => hU _ rfl j u hj⟩, h2, h5⟩
    rw [Nat.mul_one] at h7
    have c := congrArg (fun l : List Value => l[j]?) h7
    simp only [List.getElem?_take, hj, if_true, List.getElem?_map, Array.getElem?_toList] at c
    simp only [World.cell?, h3, Option.isSome_none, Bool.false_eq_true, if_false]
    rw [c]
    have hl : j < l.length := by simp at h0; omega
    simp [List.getD_eq_getElem?_getD, List.getElem?_eq_getElem hl]
theorem Tr.wr {w w' : World} {b cap T o : Nat} {f f' : Nat → Int} (h : Tr w b cap T f) (k : Wr b o 19 w w') (c : Cb w' b o 19 f') : Tr w' b cap T (fun j => if o ≤ j ∧ j < o + 19 then f' (j - o) else f j) := by
  obtain ⟨⟨cur, h1, h2⟩, h3, h4, h5⟩ := h
  obtain ⟨c', e1, e2⟩ := k.own cur _ _ h1
  refine ⟨⟨c', e1, by omega⟩, h3, fun j hj => ?_, fun j u hj => ?_⟩
  rotate_left
  · by_cases hi : o ≤ j ∧ j < o + 19
    · have := c (j - o) (by omega)
      rw [show o + (j - o) = j by omega] at this
      rw [this] at hj
      exact ⟨_, (Option.some.inj hj).symm⟩
    · rw [k.cell j (by omega)] at hj
      exact h5 j u hj
  show _ = some (Value.int .u8 (if o ≤ j ∧ j < o + 19 then f' (j - o) else f j))
  by_cases hi : o ≤ j ∧ j < o + 19
  · rw [if_pos hi]
    have := c (j - o) (by omega)
    rw [show o + (j - o) = j by omega] at this
    exact this
  · rw [if_neg hi, k.cell j (by omega)]
    exact h4 j hj
theorem Tr.cong {w : World} {b cap T : Nat} {f f' : Nat → Int} (h : Tr w b cap T f) (e : ∀ j, f' j = f j) : Tr w b cap T f' := by
  obtain rfl : f' = f := funext e
  exact h
theorem elemB : Tryz.prog.elem 126 = 5 := by kernel_rfl
theorem sliceb_l (g len cap : Nat) (z : Int) (lo : Nat) (ez : z = lo) (h1 : lo ≤ len) (hne : lo < cap) (w : World) :
    (Instr.slice 126 (.slice (some ⟨g, 0, none⟩) len cap) (some (.int .i64 z)) none none).run Tryz.prog w = .ok (.slice (some ⟨g, lo, none⟩) (len - lo) (cap - lo)) w := by
  subst ez
  rw [run_slice_l w 126 _ len cap (by rw [elemB]; exact Tryz.underlying126) .i64 _ (by omega) (by omega), elemB]
  have e2 : ¬ cap = lo := by omega
  simp [Tryz.sizeOf5, Result.andThen, sliced, e2, Addr.add]
  omega
end Go.Proofs.YtebilgnmnambnaaGreatDoor.Wt

namespace Go.Proofs.YtebilgnmnambnaaGreatDoor.Wt
open Go.RowKit Tn
structure Gs (W wr : World) (gR gt cap : Nat) (Y : List Int) (N g l k : Nat) : Prop where
  X : ∃ X, X.length = l ∧ Wd X ∧ val X = ((N / (10 ^ 19) ^ k : Nat) : Int) ∧ Cells wr gR 0 X
  oR : OwnN wr gR l
  t : Tr wr gt cap (Y.length + 19 * g) (tf Y N g k)
  os : wr.os = W.os
  tape : wr.tape = W.tape
  output : wr.output = W.output
  size : W.heap.size ≤ wr.heap.size
  block : ∀ i, i < W.heap.size → i ≠ gR → i ≠ gt → wr.heap[i]? = W.heap[i]?
theorem Gs.next {W wr w1 w2 : World} {gR gt cap : Nat} {Y : List Int} {N g l k R : Nat} (h : Gs W wr gR gt cap Y N g l k) (hk : k < g) (ne : gR ≠ gt) (hR : N / (10 ^ 19) ^ k % 10 ^ 19 = R) {S' : List Int} (s1 : S'.length = l) (s2 : Wd S')
    (s3 : val S' = ((N / (10 ^ 19) ^ (k + 1) : Nat) : Int)) (s4 : Cells w1 gR 0 S') (k1 : Wr gR 0 l wr w1) (c : Cb w2 gt (Y.length + 19 * (g - 1 - k)) 19 (gd R)) (k2 : Wr gt (Y.length + 19 * (g - 1 - k)) 19 w1 w2) : Gs W w2 gR gt cap Y N g l (k + 1) := by
  have t1 : Tr w1 gt cap (Y.length + 19 * g) (tf Y N g k) := h.t.keep (k1.block gt h.t.lt (Ne.symm ne))
  refine ⟨⟨S', s1, s2, s3, s4.other k2 ne⟩, (h.oR.wr k1).wr k2, ?_, k2.os.trans (k1.os.trans h.os), k2.tape.trans (k1.tape.trans h.tape), k2.output.trans (k1.output.trans h.output), Nat.le_trans h.size (Nat.le_trans k1.size k2.size), fun i hi h1 h2 => ?_⟩
  · exact (t1.wr k2 c).cong fun j => tf_next Y N g k hk R hR j
  · have := h.size
    exact (k2.block i (by have := k1.size; omega) h2).trans ((k1.block i (by omega) h1).trans (h.block i hi h1 h2))
theorem field_words (a : Option Addr) (l c : Nat) (w : World) : (Instr.field 65 (.agg #[.slice a l c]) 0).run Tryz.prog w = .ok (.slice a l c) w := by
  simp [Instr.field, run_underlying Tryz.underlying65, asAgg, part, Tryz.sizeOf63, go_sem]
set_option maxRecDepth 100000 in
set_option maxHeartbeats 3200000 in
theorem appendGroups_any (p : Option Addr) (c : Nat) (xs : List Int) (N : Nat) (av : Option Addr) (n cv : Nat) (Y : List Int) (g base : Nat) (w : World) (hx : Rd w (.slice p xs.length c) xs) (hN : val xs = (N : Int)) (hl : xs.length ≤ 1000000) (g0 : 1 ≤ g) (g1 : g ≤ 1000000)
    (hY : n = Y.length) (hYb : Y.length ≤ 1000000000) (hown : w.ownsRow base 5 1 (.slice av n cv) n (Y.map (Value.int .u8))) (hbase : base ≤ w.heap.size) (hU : U8 w (.slice av n cv)) :
    Calls Tryz.prog 171 #[.agg #[.slice p xs.length c], .slice av n cv, .int .i64 g] w fun e w' => ∃ gt cap, e = .returned (.slice (some ⟨gt, 0, none⟩) (Y.length + 19 * g) cap) ∧ w'.ownsRow base 5 1 (.slice (some ⟨gt, 0, none⟩) (Y.length + 19 * g) cap) (Y.length + 19 * g) ((Y ++ pd N (19 * g)).map (Value.int .u8)) ∧
      w.grownBy w' (Value.slice av n cv).ownBlock ∧ (some gt = (Value.slice av n cv).ownBlock ∨ w.heap.size ≤ gt) ∧ U8 w' (.slice (some ⟨gt, 0, none⟩) (Y.length + 19 * g) cap) := by
  subst hY
  obtain ⟨hW, p', c', e', _, _, hc⟩ := hx
  obtain ⟨rfl, rfl⟩ : p = p' ∧ c = c' := by simpa using e'
  clear e'
  have G19 : IntKind.i64.wrap ((g : Int) * 19) = ((19 * g : Nat) : Int) := by rw [show (g : Int) * 19 = ((19 * g : Nat) : Int) by omega]; exact wrapI _ (by omega) (by omega)
  have o1 := hown.alloc (.cells #[.slice p xs.length c] 65)
  have hne : ∀ b o, 0 < xs.length → p = some ⟨b, o, none⟩ → Cells w b o xs → some b ≠ (Value.slice av Y.length cv).ownBlock := fun b o l _ q e => by
    obtain ⟨x, hx⟩ := hU b e.symm (o + 0) _ (q 0 l)
    cases hx
  have hU1 : U8 (w.alloc (.cells #[.slice p xs.length c] 65)) (.slice av Y.length cv) := fun k e j u hj => hU k e j u (((Below.refl w.heap.size w).alloc (Nat.le_refl _) _).cell (p := ⟨k, j, none⟩) (hown.lt k e).2 ▸ hj)
  have lo : ∀ k, (Value.slice av Y.length cv).ownBlock = some k → k < w.heap.size := fun k hk => (hown.lt k hk).2
  have B0 := Bx.new w (.slice p xs.length c) 65
  go_enter Tryz.func171, Tryz.ntmps171
  have fw := field_words
  have o2s : ∀ (v : Value) (W : World), W.ownsRow base 5 1 v (Y.length + 19 * g) (Y.map (Value.int .u8) ++ List.replicate (19 * g) (.int .u8 0)) → ∃ gt cap, v = .slice (some ⟨gt, 0, none⟩) (Y.length + 19 * g) cap := fun v W h => by
    obtain ⟨_, h⟩ := h
    rcases h with ⟨_, h⟩ | ⟨gt, cap, _, h, _⟩
    · omega
    · exact ⟨gt, cap, h⟩
  go_wp2_with (first
    | (at_builtin; go_must (refine wpList_zeros rfl _ _ rfl base (.slice av Y.length cv) Y.length (19 * g) _ rfl (congrArg (Value.int .i64) (show (19 : Int) * (g : Int) = ((19 * g : Nat) : Int) by omega)) o1 (by omega) (by omega) (by simp; omega) hU1 (by intro u hu; obtain ⟨x, _, rfl⟩ := List.mem_map.1 hu; exact ⟨x, rfl⟩) ?_; intro v1 w2 o2 gr2 nb2 uu2; obtain ⟨gt, cap, rfl⟩ := o2s _ _ o2; (have b2 : w2.cell? ⟨w.heap.size, 0, none⟩ = some (.slice p xs.length c) := gr2.cell B0.1 (fun e => Nat.lt_irrefl _ (lo _ e.symm))); (have hc2 : 0 < xs.length → ∃ b o, p = some ⟨b, o, none⟩ ∧ Cells w2 b o xs := fun l => by obtain ⟨b, o, e, q⟩ := hc l; exact ⟨b, o, e, fun i hi => gr2.cell ((q.grow ((Below.refl _ _).alloc (Nat.le_refl _) _)) i hi) (hne b o l e q)⟩)))
    | (go_at_call 154; go_must (refine (copied_all p c xs w2 (by omega) hc2).mono ?_; rintro e w3 ⟨gR, rfl, q1, q2, q3, q4, q5⟩))
    | fail)
  have ot : w2.ownsRow base 5 1 (.slice (some ⟨gt, 0, none⟩) (Y.length + 19 * g) cap) (Y.length + 19 * g) ((Y ++ List.replicate (19 * g) 0).map (Value.int .u8)) := by rw [List.map_append, List.map_replicate]; exact o2
  obtain ⟨T2, hgb, hcm⟩ := Tr.of ot uu2
  have T3 : Tr w3 gt cap (Y.length + 19 * g) (tf Y N g 0) := by
    have t := T2.keep (q5.block gt T2.lt)
    exact ⟨t.blk, t.le, fun j hj => by rw [← tf_zero Y N g j hj]; exact t.cel j hj, t.u8⟩
  have hgt := T2.lt
  have neR : gR ≠ gt := by omega
  have S0 : Gs w3 w3 gR gt cap Y N g xs.length 0 := ⟨⟨xs, rfl, hW, by rw [hN]; simp, q4⟩, q3, T3, rfl, rfl, rfl, Nat.le_refl _, fun _ _ _ _ => rfl⟩
  have F1 : ∀ w', w3.os = w'.os → w3.tape = w'.tape → w3.output = w'.output → w3.heap.size ≤ w'.heap.size → (∀ i, i < w3.heap.size → i ≠ gR → i ≠ gt → w'.heap[i]? = w3.heap[i]?) → w.grownBy w' (Value.slice av Y.length cv).ownBlock := fun w' e1 e2 e3 e4 e5 => by
    have g2 := gr2.size
    have g3 := q5.size
    simp at g2
    refine ⟨e1.symm.trans (q5.os.trans gr2.os), e2.symm.trans (q5.tape.trans gr2.tape), e3.symm.trans (q5.output.trans gr2.output), by omega, fun k hk hn => ?_⟩
    have ngt : k ≠ gt := by
      rintro rfl
      rcases nb2 with h | h
      · exact hn h
      · simp [Value.ownBlock] at h; omega
    rw [e5 k (by omega) (by omega) ngt, q5.block k (by omega), gr2.block k (by simp; omega) hn]
    exact heap_alloc_old w _ hk
  have nbk : some gt = (Value.slice av Y.length cv).ownBlock ∨ w.heap.size ≤ gt := by
    rcases nb2 with h | h
    · exact Or.inl h
    · right; simp [Value.ownBlock] at h; omega
  clear o2s o1 o2 ot b2 hc2 gr2 nb2 q1 q2 q3 q4 q5 T2 T3 hc hne lo B0 hown hU hU1 uu2
  generalize w3 = W3 at *
  go_wp2_with fail
  go_loopw [20] (fun i wr => ∃ k : Nat, k ≤ g ∧ i = .int .i64 k ∧ Gs W3 wr gR gt cap Y N g xs.length k) (fun i _ => g - (intOf i).toNat)
  case atStart => exact ⟨0, Nat.zero_le _, rfl, S0⟩
  case round =>
    clear S0
    obtain ⟨k, hk, rfl, S⟩ := hrel
    by_cases hlt : k < g
    · obtain ⟨X, x1, x2, x3, x4⟩ := S.X
      obtain ⟨Z, hZ⟩ : ∃ Z : Nat, Y.length + 19 * (g - 1 - k) = Z := ⟨_, rfl⟩
      have hZT : Z + 19 ≤ Y.length + 19 * g := by omega
      have Tle := S.t.le
      have hZc : Z < cap := by omega
      have DW := fun (W : World) (C : Cells W gR 0 X) (F : Free W gR 0 X.length) => divWord_any gR 0 xs.length xs.length X 10000000000000000000 W x1.symm x2 (by decide) (by decide) (by omega) C F
      have e1 : IntKind.i64.wrap ((g : Int) - 1) = (((g - 1 : Nat)) : Int) := by rw [show (g : Int) - 1 = ((g - 1 : Nat) : Int) by omega]; exact wrapI _ (by omega) (by omega)
      have e2 : IntKind.i64.wrap (((g - 1 : Nat) : Int) - (k : Int)) = ((g - 1 - k : Nat) : Int) := by rw [show ((g - 1 : Nat) : Int) - (k : Int) = ((g - 1 - k : Nat) : Int) by omega]; exact wrapI _ (by omega) (by omega)
      have e3 : IntKind.i64.wrap (((g - 1 - k : Nat) : Int) * 19) = ((19 * (g - 1 - k) : Nat) : Int) := by rw [show ((g - 1 - k : Nat) : Int) * 19 = ((19 * (g - 1 - k) : Nat) : Int) by omega]; exact wrapI _ (by omega) (by omega)
      have e4 : IntKind.i64.wrap ((Y.length : Int) + ((19 * (g - 1 - k) : Nat) : Int)) = (Z : Int) := by rw [show (Y.length : Int) + ((19 * (g - 1 - k) : Nat) : Int) = (Z : Int) by omega]; exact wrapI _ (by omega) (by omega)
      have sl := sliceb_l gt (Y.length + 19 * g) cap (Z : Int) Z rfl (by omega) hZc
      obtain ⟨A1, hA1⟩ : ∃ A1 : Int, ((g - 1 : Nat) : Int) = A1 := ⟨_, rfl⟩
      obtain ⟨A2, hA2⟩ : ∃ A2 : Int, ((g - 1 - k : Nat) : Int) = A2 := ⟨_, rfl⟩
      obtain ⟨A3, hA3⟩ : ∃ A3 : Int, ((19 * (g - 1 - k) : Nat) : Int) = A3 := ⟨_, rfl⟩
      rw [hA1] at e1 e2
      rw [hA2] at e2 e3
      rw [hA3] at e3 e4
      have HZ : Hid (Y.length + 19 * (g - 1 - k) = Z) := hZ
      clear hA1 hA2 hA3 hZ Tle
      have x4d : Cells wr.drew gR 0 X := x4
      have fd : Free wr.drew gR 0 X.length := S.oR.own.free 0 _
      have HS : Hid (Gs W3 wr gR gt cap Y N g xs.length k) := S
      have P4 : ∀ (w4 : World) (r : Nat), (r : Int) < 10000000000000000000 → Wr gR 0 X.length wr.drew w4 → Calls Tryz.prog 204 #[.slice (some ⟨gt, Z, none⟩) (Y.length + 19 * g - Z) (cap - Z), .int .u64 r] w4 fun e w' => e = .returned (.tuple #[]) ∧ Cb w' gt Z 19 (gd r) ∧ Wr gt Z 19 w4 w' := fun w4 r hr k4 => by
        have t4 := HS.out.t.keep (w' := w4) (k4.block gt HS.out.t.lt (Ne.symm neR))
        obtain ⟨cur, b1, b2⟩ := t4.blk
        exact putGroup_any gt Z _ _ r w4 (by omega) (by omega) (by omega) (fun i => tf Y N g k (Z + i)) (fun i hi => t4.cel (Z + i) (by omega)) ((show Own w4 gt from ⟨cur, _, b1⟩).free _ _)
      clear S x4
      go_wp2_with fail
      go_region_held3 (fun _ => True) (trivial) (first
        | (go_at_call 162; refine (DW _ x4d fd).mono ?_; rintro e w4 ⟨S', r, rfl, r0, r1, s1, s2, s3, s4, s5⟩; obtain ⟨R, rfl⟩ := Int.eq_ofNat_of_zero_le r0)
        | (go_at_call 204; refine (P4 w4 R r1 s5).mono ?_; rintro e w5 ⟨rfl, c5, k5⟩)
        | fail)
      all_goals
        have e10 : (10 : Nat) ^ 19 = 10000000000000000000 := by decide
        have hq : val S' * 10000000000000000000 + (R : Int) = ((N / (10 ^ 19) ^ k : Nat) : Int) := s3.trans x3
        have v0 := val_nonneg s2
        have key : ∀ M : Nat, val S' * 10000000000000000000 + (R : Int) = (M : Int) → M % 10000000000000000000 = R ∧ val S' = ((M / 10000000000000000000 : Nat) : Int) := fun M h => by omega
        have hR : N / (10 ^ 19) ^ k % 10 ^ 19 = R := by rw [e10] at hq ⊢; exact (key _ hq).1
        have hQ : val S' = ((N / (10 ^ 19) ^ (k + 1) : Nat) : Int) := by
          rw [Nat.pow_succ, ← Nat.div_div_eq_div_mul]
          rw [e10] at hq ⊢
          exact (key _ hq).2
        have s6 : Wr gR 0 X.length wr w4 := ⟨s5.os, s5.tape, s5.output, s5.size, s5.block, s5.cell, s5.froz, s5.own⟩
        have NX := HS.out.next (w1 := w4) (w2 := w5) hlt neR hR (s1.trans x1) s2 hQ s4 (by rw [← x1]; exact s6) (by rw [HZ.out]; exact c5) (by rw [HZ.out]; exact k5)
        clear e10 hq v0 key hR hQ s6 HS P4 DW c5 k5 s1 s2 s3 s4 s5 x4d fd
        go_wp2
        go_roundw
        case rel => exact ⟨k + 1, by omega, by go_num, NX⟩
        case measure => simp [intOf]; omega
    · obtain rfl : k = g := by omega
      have OW := S.t.own hgb hcm (Y ++ pd N (19 * k)) (by rw [List.length_append, pd_len]) (fun j hj => tf_all Y N k j hj)
      have GR := F1 wr S.os.symm S.tape.symm S.output.symm S.size S.block
      have UE : U8 wr (.slice (some ⟨gt, 0, none⟩) (Y.length + 19 * k) cap) := fun g' e j u hj => by
        simp [Value.ownBlock] at e
        subst e
        exact S.t.u8 j u hj
      clear S F1
      go_wp2
      go_ret
      exact ⟨gt, cap, rfl, OW, GR, nbk, UE⟩
end Go.Proofs.YtebilgnmnambnaaGreatDoor.Wt

namespace Go.Proofs.YtebilgnmnambnaaGreatDoor.Wt
open Go.RowKit Tn Mo
def ey0 : Value → Value | .tuple ⟨[x, _]⟩ => x | v => v
def ey1 : Value → Value | .tuple ⟨[_, x]⟩ => x | v => v
theorem ey0_t (a b : Value) : ey0 (.tuple #[a, b]) = a := rfl
theorem ey1_t (a b : Value) : ey1 (.tuple #[a, b]) = b := rfl
theorem bxof {x : World} {X : Nat} {v : Value} {t : TypeId} (h : Blk x X #[v] t) : Bx x X v := ⟨h.at 0, h.free 0, t, h⟩
def D2 (Hi Lo : Int) (_N : Int) (t : Value) (x : World) : Prop := ∃ (a : Option Addr × Option Addr) (l c : Nat × Nat), t = .tuple #[.agg #[.slice a.1 l.1 c.1], .agg #[.slice a.2 l.2 c.2]] ∧ (Nn x a.1 l.1 c.1 Hi ∧ Nn x a.2 l.2 c.2 Lo)
theorem D2.grow {Hi Lo N : Int} {t : Value} {x x' : World} (h : D2 Hi Lo N t x) (b : Below x.heap.size x x') : D2 Hi Lo N t x' := by
  obtain ⟨a, l, c, e, h1, h2⟩ := h
  exact ⟨a, l, c, e, h1.grow b, h2.grow b⟩
theorem DivMod_n {a1 a2 : Option Addr} {l1 c1 l2 c2 : Nat} {A B : Int} {x : World} (h1 : Nn x a1 l1 c1 A) (h2 : Nn x a2 l2 c2 B) {m : Nat} (hA : A < pw m) (hB : 0 < B) (hm : m ≤ 1000000) :
    Calls Tryz.prog 115 #[.agg #[.slice a1 l1 c1], .agg #[.slice a2 l2 c2]] x fun e w' => ∃ (a : Option Addr × Option Addr) (l c : Nat × Nat), e = .returned (.tuple #[.agg #[.slice a.1 l.1 c.1], .agg #[.slice a.2 l.2 c.2]]) ∧ (Nn w' a.1 l.1 c.1 (A / B) ∧ Nn w' a.2 l.2 c.2 (A % B)) ∧ Below x.heap.size x w' := by
  obtain ⟨xs, r1, n1, rfl⟩ := h1
  obtain ⟨ys, r2, n2, rfl⟩ := h2
  have := len_of r1.1 n1 hA
  refine (DivMod_any _ _ xs ys x r1 r2 n1 n2 hB (by omega)).mono ?_
  rintro e w' ⟨v1, v2, zs, rs, rfl, q1, m1, q2, m2, e1, e2, b⟩
  obtain ⟨a, l, c, rfl⟩ := q1.shape
  obtain ⟨a', l', c', rfl⟩ := q2.shape
  exact ⟨(a, a'), (l, l'), (c, c'), rfl, ⟨⟨zs, q1, m1, e1⟩, ⟨rs, q2, m2, e2⟩⟩, b⟩
theorem Nn.text {w w' : World} {a : Option Addr} {l c : Nat} {N : Int} {v : Value} (h : Nn w a l c N) (hU : U8 w v) (g : w.grownBy w' v.ownBlock) : Nn w' a l c N := by
  obtain ⟨xs, ⟨hW, a1, c1, e, h1, h2, h3⟩, n, rfl⟩ := h
  refine ⟨xs, ⟨hW, a1, c1, e, h1, h2, fun lt => ?_⟩, n, rfl⟩
  obtain ⟨b, o, e2, q⟩ := h3 lt
  refine ⟨b, o, e2, fun i hi => g.cell (q i hi) fun e => ?_⟩
  obtain ⟨x, hx⟩ := hU b e.symm (o + i) _ (q i hi)
  cases hx
theorem bxskip {w : World} {n m : Nat} {v : Value} (h : Bx w n v) (ne : n ≠ m) (u : Value) : Bx (w.setCell ⟨m, 0, none⟩ u) n v := h.blocks (Below.heap_setCell _ _ _ _ ne)
def Ru (w : World) (B b o m : Nat) : Prop := b < B ∧ ∀ i, i < m → ∃ a l c, w.cell? ⟨b, o + i, none⟩ = some (.slice a l c) ∧ Nn w a l c (((10 ^ 19) ^ (2 ^ i) : Nat) : Int) ∧ ∀ ad, a = some ad → ad.block < B
theorem Ru.keep {w w' : World} {B b o m : Nat} (h : Ru w B b o m) (k : ∀ j, j < B → j < w.heap.size → w'.heap[j]? = w.heap[j]?) : Ru w' B b o m := by
  obtain ⟨hb, h⟩ := h
  refine ⟨hb, fun i hi => ?_⟩
  obtain ⟨a, l, c, e1, ⟨xs, ⟨hW, a1, c1, e, h1, h2, h3⟩, n, hv⟩, e3⟩ := h i hi
  refine ⟨a, l, c, (World.cell?_of_block (a := ⟨b, o + i, none⟩) (k b hb (lt_of_cell e1))).trans e1, ⟨xs, ⟨hW, a1, c1, e, h1, h2, fun lt => ?_⟩, n, hv⟩, e3⟩
  obtain ⟨b', o', e2, q⟩ := h3 lt
  have ea : a = some ⟨b', o', none⟩ := by simp only [Value.slice.injEq] at e; rw [e.1, e2]
  have := e3 _ ea
  exact ⟨b', o', e2, fun j hj => (World.cell?_of_block (a := ⟨b', o' + j, none⟩) (k b' this (lt_of_cell (q j hj)))).trans (q j hj)⟩
theorem Ru.less {w : World} {B b o m k : Nat} (h : Ru w B b o m) (hk : k ≤ m) : Ru w B b o k := ⟨h.1, fun i hi => h.2 i (by omega)⟩
theorem pd_get (N k i : Nat) (h : i < k) : (pd N k)[i]? = some (48 + ((N / 10 ^ (k - 1 - i) % 10 : Nat) : Int)) := by
  unfold pd
  rw [List.getElem?_map, List.getElem?_range h]
  rfl
theorem pd_two (N k : Nat) : pd N (k + k) = pd (N / 10 ^ k) k ++ pd (N % 10 ^ k) k := by
  apply List.ext_getElem?
  intro i
  by_cases h1 : i < k + k
  · rw [pd_get _ _ _ h1]
    by_cases hi : i < k
    · rw [List.getElem?_append_left (by rw [pd_len]; exact hi), pd_get _ _ _ hi, Nat.div_div_eq_div_mul, ← Nat.pow_add, show k + k - 1 - i = k + (k - 1 - i) by omega]
    · rw [List.getElem?_append_right (by rw [pd_len]; omega), pd_len, pd_get _ _ _ (by omega)]
      have s : (10 : Nat) ^ k = 10 ^ (k - 1 - (i - k)) * 10 ^ (i - k + 1) := by rw [← Nat.pow_add]; congr 1; omega
      have d : (10 : Nat) ∣ 10 ^ (i - k + 1) := by rw [Nat.pow_succ]; exact Nat.dvd_mul_left _ _
      have e : N % 10 ^ k / 10 ^ (k - 1 - (i - k)) % 10 = N / 10 ^ (k - 1 - (i - k)) % 10 := by
        rw [s, Nat.mod_mul_right_div_self]
        exact Nat.mod_mod_of_dvd _ d
      rw [e, show k + k - 1 - i = k - 1 - (i - k) by omega]
  · rw [List.getElem?_eq_none (by rw [pd_len]; omega), List.getElem?_eq_none (by rw [List.length_append, pd_len, pd_len]; omega)]
structure AP4 (W x : World) (Hi : Int) (Lo : Int) (V0 : Value) (V1 : Value) (V2 : Value) (V3 : Value) (V4 : Value) (N5 : Int) (N6 : Int) (y0 y1 y2 y3 y4 y5 y6 y7 y8 y9 y10 : Bool) (t23 t24 t25 t26 t27 t28 t22 t29 t30 t8 t9 : Value) : Prop where
  bel : Below W.heap.size W x
  o0 : y0 = true → t23 = V0
  o1 : y1 = true → t24 = V1
  o2 : y2 = true → t25 = V2
  o3 : y3 = true → t26 = V3
  o4 : y4 = true → t27 = V4
  o5 : y5 = true → D2 Hi Lo N5 t28 x
  o6 : y6 = true → D2 Hi Lo N6 t22 x
  o9 : y9 = true → ∃ X, t8 = .pointer (some ⟨X, 0, none⟩) ∧ W.heap.size ≤ X ∧ Blk x X #[.slice none 0 0] 65
  o10 : y10 = true → ∃ X, t9 = .pointer (some ⟨X, 0, none⟩) ∧ W.heap.size ≤ X ∧ Blk x X #[.slice none 0 0] 65
  o7 : y7 = true → t29 = ey0 t22
  o8 : y8 = true → t30 = ey1 t22
  ne9_10 : y9 = true → y10 = true → t8 ≠ t9
  d7_6 : y7 = true → y6 = true
  d8_6 : y8 = true → y6 = true
theorem AP4.grow {W x x' : World} {Hi : Int} {Lo : Int} {V0 : Value} {V1 : Value} {V2 : Value} {V3 : Value} {V4 : Value} {N5 : Int} {N6 : Int} {y0 y1 y2 y3 y4 y5 y6 y7 y8 y9 y10 : Bool} {t23 t24 t25 t26 t27 t28 t22 t29 t30 t8 t9 : Value} (h : AP4 W x Hi Lo V0 V1 V2 V3 V4 N5 N6 y0 y1 y2 y3 y4 y5 y6 y7 y8 y9 y10 t23 t24 t25 t26 t27 t28 t22 t29 t30 t8 t9) (b : Below x.heap.size x x') : AP4 W x' Hi Lo V0 V1 V2 V3 V4 N5 N6 y0 y1 y2 y3 y4 y5 y6 y7 y8 y9 y10 t23 t24 t25 t26 t27 t28 t22 t29 t30 t8 t9 where
  bel := bel' h.bel b
  o0 := h.o0
  o1 := h.o1
  o2 := h.o2
  o3 := h.o3
  o4 := h.o4
  o7 := h.o7
  o8 := h.o8
  o5 := fun u => (h.o5 u).grow b
  o6 := fun u => (h.o6 u).grow b
  o9 := fun u => by obtain ⟨k, e, l, K⟩ := h.o9 u; exact ⟨k, e, l, K.below b K.lt⟩
  o10 := fun u => by obtain ⟨k, e, l, K⟩ := h.o10 u; exact ⟨k, e, l, K.below b K.lt⟩
  ne9_10 := h.ne9_10
  d7_6 := h.d7_6
  d8_6 := h.d8_6
end Go.Proofs.YtebilgnmnambnaaGreatDoor.Wt

namespace Go.Proofs.YtebilgnmnambnaaGreatDoor.Wt
open Go.RowKit Tn Mo
theorem elemR : Tryz.prog.elem 137 = 65 := by kernel_rfl
theorem slice_r (g o len cap : Nat) (z : Int) (h : Nat) (ez : z = h) (h2 : h ≤ cap) (w : World) :
    (Instr.slice 137 (.slice (some ⟨g, o, none⟩) len cap) none (some (.int .i64 z)) none).run Tryz.prog w = .ok (.slice (some ⟨g, o, none⟩) h cap) w := by
  subst ez
  rw [run_slice_h w 137 _ len cap (by rw [elemR]; exact Tryz.underlying137) .i64 _ (by omega) (by omega), elemR]
  simp [Tryz.sizeOf65, Result.andThen, sliced, Addr.add]
theorem U8.alloc {w : World} {v : Value} {base n : Nat} {xs : List Value} (h : U8 w v) (ho : w.ownsRow base 5 1 v n xs) {w' : World} (b : Below w.heap.size w w') : U8 w' v := fun k e j u hj => h k e j u ((b.cell (p := ⟨k, j, none⟩) (ho.lt k e).2) ▸ hj)
theorem own_grow {w w' : World} {base n : Nat} {e : TypeId} {v : Value} {xs : List Value} (h : w.ownsRow base e 1 v n xs) (b : Below w.heap.size w w') : w'.ownsRow base e 1 v n xs := by
  obtain ⟨h1, h2⟩ := h
  refine ⟨h1, ?_⟩
  rcases h2 with h2 | ⟨g, cap, cur, e1, e2, e3, r⟩
  · exact Or.inl h2
  · exact Or.inr ⟨g, cap, cur, e1, e2, (b.block g (Own.lt ⟨cur, _, e3⟩)).trans e3, r⟩
theorem grown2 {w w1 w2 w3 : World} {r r2 : Option Nat} (b : Below w.heap.size w w1) (g1 : w1.grownBy w2 r) (g2 : w2.grownBy w3 r2) (h : ∀ k, r2 = some k → r = some k ∨ w.heap.size ≤ k) : w.grownBy w3 r :=
  ⟨g2.os.trans (g1.os.trans b.os), g2.tape.trans (g1.tape.trans b.tape), g2.output.trans (g1.output.trans b.output), Nat.le_trans b.size (Nat.le_trans g1.size g2.size), fun k hk hn => by
    have s1 := b.size
    have s2 := g1.size
    refine (g2.block k (by omega) (fun e => ?_)).trans ((g1.block k (by omega) hn).trans (b.block k hk))
    rcases h k e.symm with q | q
    · exact hn q.symm
    · omega⟩
set_option maxRecDepth 100000 in
set_option maxHeartbeats 3200000 in
theorem digits_few (m : Nat) (h0 : 1 ≤ m) (h4 : m < 4) (p : Option Addr) (l c N : Nat) (av : Option Addr) (n cv : Nat) (Y : List Int) (base b o cR : Nat) (w : World) (hN : Nn w p l c (N : Int)) (hNb : (N : Int) < pw 1000000) (hY : n = Y.length) (hYb : Y.length + 19 * 2 ^ m ≤ 1000000000)
    (hown : w.ownsRow base 5 1 (.slice av n cv) n (Y.map (Value.int .u8))) (hbase : base ≤ w.heap.size) (hU : U8 w (.slice av n cv)) (hR : Ru w base b o m) (hcR : m ≤ cR) : Calls Tryz.prog 127 #[.agg #[.slice p l c], .slice av n cv, .slice (some ⟨b, o, none⟩) m cR] w fun e w' => ∃ gt cap, e = .returned (.slice (some ⟨gt, 0, none⟩) (Y.length + 19 * 2 ^ m) cap) ∧ w'.ownsRow base 5 1 (.slice (some ⟨gt, 0, none⟩) (Y.length + 19 * 2 ^ m) cap) (Y.length + 19 * 2 ^ m) ((Y ++ pd N (19 * 2 ^ m)).map (Value.int .u8)) ∧
      w.grownBy w' (Value.slice av n cv).ownBlock ∧ (some gt = (Value.slice av n cv).ownBlock ∨ w.heap.size ≤ gt) ∧ U8 w' (.slice (some ⟨gt, 0, none⟩) (Y.length + 19 * 2 ^ m) cap) := by
  subst hY
  obtain ⟨xs, hx, hm, hv⟩ := hN
  obtain rfl : l = xs.length := by obtain ⟨_, a', c', e, _⟩ := hx; simp only [Value.slice.injEq] at e; exact e.2.1
  have hl := len_of hx.1 hm (by rw [hv]; exact hNb)
  have B0 := Bx.new w (.slice p xs.length c) 65
  have al := (Below.refl w.heap.size w).alloc (Nat.le_refl _) (.cells #[.slice p xs.length c] 65)
  obtain ⟨G, hG, g2, g8⟩ : ∃ G : Nat, 2 ^ m = G ∧ 1 ≤ G ∧ G ≤ 8 := ⟨_, rfl, Nat.one_le_two_pow, by
    have : m = 1 ∨ m = 2 ∨ m = 3 := by omega
    rcases this with rfl | rfl | rfl <;> decide⟩
  have x1 : IntKind.i64.wrap ((2 : Int) ^ m) = (G : Int) := by
    rw [show (2 : Int) ^ m = (G : Int) by rw [← hG]; simp]
    exact wrapI _ (by omega) (by omega)
  rw [hG] at hYb ⊢
  have AG := fun W x1 x2 x3 x4 => appendGroups_any p c xs N av Y.length cv Y G base W x1 hv hl g2 (by omega) rfl (by omega) x2 x3 x4
  have q0 := B0.1
  have h4' : (m : Int) < 4 := by omega
  have y0 : (0 : Int) ≤ (m : Int) := by omega
  have y1 : ((m : Int)).toNat = m := by omega
  have oA := own_grow hown al
  have uA := U8.alloc hU hown al
  have rA := hx.grow al
  have sA : base ≤ (w.alloc (.cells #[.slice p xs.length c] 65)).heap.size := by simp; omega
  go_enter Tryz.func127, Tryz.ntmps127
  go_wp2_with fail
  generalize w.alloc (.cells #[.slice p xs.length c] 65) = W at *
  have AGD := AG W.drew (Rd.drew rA) oA sA uA
  have nb : some w.heap.size ≠ (Value.slice av Y.length cv).ownBlock := fun e => by
    obtain ⟨x, hx⟩ := uA w.heap.size e.symm 0 _ q0
    cases hx
  have q0d : W.drew.cell? ⟨w.heap.size, 0, none⟩ = some (.slice p xs.length c) := q0
  clear AG oA uA rA sA hown hU hR hx
  go_region_held3 (fun x => x.cell? ⟨w.heap.size, 0, none⟩ = some (.slice p xs.length c)) (go_keep) (first
    | (go_at_call 171; with_reducible refine AGD.mono ?_; rintro e w2 ⟨gt, cap, rfl, o2, gr2, nb2, u2⟩; have q2 := gr2.cell q0d nb)
    | fail)
  all_goals
    go_wp2
    go_ret
    exact ⟨gt, cap, rfl, o2, ⟨gr2.os.trans al.os, gr2.tape.trans al.tape, gr2.output.trans al.output, Nat.le_trans al.size gr2.size, fun k hk hn => (gr2.block k (Nat.lt_of_lt_of_le hk al.size) hn).trans (al.block k hk)⟩, (by rcases nb2 with h | h; exact Or.inl h; exact Or.inr (Nat.le_trans al.size h)), u2⟩
end Go.Proofs.YtebilgnmnambnaaGreatDoor.Wt
