import Derived.Test.YtejfnplhimfchaaGreatDoorProg
import Derived.Test.YtejfnplhimfchaaGreatDoorPart02
import Derived.Laws.CopyOwn
import Derived.Laws.AppendOwn

namespace Go.Proofs.YtejfnplhimfchaaGreatDoor.L
open Go.RowKit Tl

theorem take_less (xs : List Int) (k : Nat) (h0 : 0 < k) (hk : k ≤ xs.length) (h : nth xs (k - 1) = 0) : val (xs.take k) = val (xs.take (k - 1)) := by
  have := val_take_succ xs (k - 1) (by omega)
  rw [Nat.sub_add_cancel h0] at this
  unfold nth at h
  rw [this, h]; simp
theorem nm_take (xs : List Int) (k : Nat) (h0 : 0 < k) (hk : k ≤ xs.length) (h : ¬ nth xs (k - 1) = 0) : Nm (xs.take k) := by
  refine Or.inr ?_
  rw [List.length_take, Nat.min_eq_left hk]
  have := nth_take xs k (k - 1) (by omega)
  unfold nth at h this
  rw [this]; exact h

set_option maxHeartbeats 400000 in
/-- tontinebase.norm: without the noughts at the high end. -/
theorem norm_any (a : Option Addr) (xs : List Int) (cap : Nat) (w : World) (hl : xs.length ≤ cap) (hcap : cap ≤ 9223372036854775807) (ha : 0 < xs.length → ∃ b o, a = some ⟨b, o, none⟩ ∧ Cells w b o xs) :
    Calls Tryz.prog 81 #[.slice a xs.length cap] w fun e w' => ∃ n, n ≤ xs.length ∧ e = .returned (.slice a n cap) ∧ Nm (xs.take n) ∧ val (xs.take n) = val xs ∧ w' = w := by
  go_enter Tryz.func81, Tryz.ntmps81
  go_wp2
  go_loop [3] (fun t => ∃ k : Nat, k ≤ xs.length ∧ t = .int .i64 k ∧ val (xs.take k) = val xs) (fun t => (intOf t).toNat)
  case atStart => exact ⟨xs.length, Nat.le_refl _, rfl, by rw [List.take_length]⟩
  case round =>
    obtain ⟨k, hk, rfl, hv⟩ := hrel
    have HV : Hid (val (xs.take k) = val xs) := hv
    clear hv
    by_cases h0 : k = 0
    · subst h0
      go_wp2
      go_ret
      exact ⟨0, by omega, rfl, by simp [Nm], HV.out, rfl⟩
    · obtain ⟨b, o, rfl, hc⟩ := ha (by omega)
      have hb := hc.lt (by omega)
      have hc1 := hc.at (i := k - 1) (by omega)
      by_cases hz : nth xs (k - 1) = 0
      · rw [hz] at hc1
        have HZ : Hid (nth xs (k - 1) = 0) := hz
        clear hz
        go_wp2
        go_round
        case rel => exact ⟨k - 1, by omega, by go_num, by rw [← HV.out]; exact (take_less xs k (by omega) (by omega) HZ.out).symm⟩
        case measure => simp [intOf]; omega
      · go_wp2
        go_ret
        exact ⟨k, by omega, rfl, nm_take xs k (by omega) (by omega) hz, HV.out, rfl⟩
/-- The same, told as what it is for: a row of limbs becomes a number's. -/
theorem norm_rd (a : Option Addr) (m cap : Nat) (xs : List Int) (w : World) (em : m = xs.length) (hw : Wd xs) (hl : xs.length ≤ cap) (hcap : cap ≤ 9223372036854775807) (ha : 0 < xs.length → ∃ b o, a = some ⟨b, o, none⟩ ∧ Cells w b o xs) :
    Calls Tryz.prog 81 #[.slice a m cap] w fun e w' => ∃ n zs, e = .returned (.slice a n cap) ∧ Rd w (.slice a n cap) zs ∧ Nm zs ∧ val zs = val xs ∧ w' = w := by
  subst em
  refine (norm_any a xs cap w hl hcap ha).mono ?_
  rintro e w' ⟨n, hn, rfl, hnm, hv, hb⟩
  refine ⟨n, xs.take n, rfl, ⟨hw.take n, a, cap, ?_, ?_, hcap, ?_⟩, hnm, hv, hb⟩
  · rw [List.length_take, Nat.min_eq_left hn]
  · rw [List.length_take]; omega
  · intro l
    rw [List.length_take] at l
    obtain ⟨b, o, e, c⟩ := ha (by omega)
    exact ⟨b, o, e, c.take n⟩
end Go.Proofs.YtejfnplhimfchaaGreatDoor.L

namespace Go.Proofs.YtejfnplhimfchaaGreatDoor.L
open Go.RowKit Tl
theorem Tryz.infoU : (Tryz.prog.info? 3).map (fun i => (i.zero, i.size, i.bytes)) = some (some (.int .i64 0), 1, 8) := by kernel_rfl
theorem Tryz.sizeU : (Tryz.prog.info? 3).map (·.size) = some 1 := by kernel_rfl

theorem nth_replicate (n i : Nat) : nth (List.replicate n 0) i = 0 := by
  unfold nth
  by_cases h : i < n
  · simp [List.getD_eq_getElem?_getD, h]
  · simp [List.getD_eq_getElem?_getD, Nat.le_of_not_lt h]

/-- make([]int, n). -/
theorem wpList_make_words {w : World} {ops : Array Oper} {rest : List Oper} {o : Oper} {a : Act} {Q : Exit → Act → World → Prop}
    (hg : o.guard = none) (l c : Operand) (hop : o.op = Op.makeSlice 40 l c) (n : Nat) (L C : Int) (hl : a.eval l = .int .i64 L) (hc : a.eval c = .int .i64 C) (hL : L = (n : Int)) (hC : C = (n : Int)) (hn : n ≤ 35184372088832)
    (hK : ∀ w', Cells w' w.heap.size 0 (List.replicate n 0) → Own w' w.heap.size → Below w.heap.size w w' → w.heap.size < w'.heap.size → wpList Tryz.prog ops Q rest (a.put o.dst (.slice (some ⟨w.heap.size, 0, none⟩) n n)) w') :
    wpList Tryz.prog ops Q (o :: rest) a w := by
  obtain ⟨i, hi, hz0, hz1, hz2⟩ := info_parts Tryz.infoU
  refine wpList_make_full w hg l c 40 hop w.heap.size 3 i (.int .i64 0) 1 Tryz.underlying40 hi hz0 hz1 .i64 .i64 L C n hl hc hL hC (by rw [hz2]; omega) (by unfold maxLen; omega) (Nat.le_refl _) ?_
  intro w' ho hgr
  obtain ⟨_, h2⟩ := ho
  rcases h2 with ⟨e, _⟩ | ⟨g, cap, cur, e, hb, hh, h3, h4, h5, h6⟩
  · simp at e
  · simp only [Value.slice.injEq, Option.some.injEq, Addr.mk.injEq] at e
    obtain ⟨⟨e1, _, _⟩, _, e2⟩ := e
    subst e1
    have hbl : Below w.heap.size w w' := ⟨hgr.os, hgr.tape, hgr.output, hgr.size, fun k hk => hgr.block k hk (by simp)⟩
    refine hK w' ?_ ⟨cur, _, hh⟩ hbl (Own.lt ⟨cur, _, hh⟩)
    intro j hj
    rw [List.length_replicate] at hj
    simp only [Nat.mul_one] at h6 h5
    have hc6 : (Value.int .i64 0).cells = #[Value.int .i64 0] := rfl
    rw [hc6, toList_madeCells_one] at h6
    have h7 : cur.toList[j]? = some (.int .i64 0) := by
      have := congrArg (fun l : List Value => l[j]?) h6
      simp only [List.getElem?_take, hj, if_true, List.getElem?_replicate] at this
      exact this
    rw [nth_replicate]
    simp only [World.cell?, hh, Nat.zero_add]
    simpa using h7

theorem Tryz.elemU : Tryz.prog.elem 40 = 3 := by kernel_rfl
/-- s[lo:lo+n], lo below the capacity. -/
theorem slice_lh (g o len cap : Nat) (l h : Int) (lo n : Nat) (el : l = lo) (eh : h = (lo : Int) + n) (h2 : lo + n ≤ cap) (hne : lo < cap) (w : World) :
    (Instr.slice 40 (.slice (some ⟨g, o, none⟩) len cap) (some (.int .i64 l)) (some (.int .i64 h)) none).run Tryz.prog w = .ok (.slice (some ⟨g, o + lo, none⟩) n (cap - lo)) w := by
  subst el eh
  rw [run_slice_lh w 40 _ len cap (by rw [Tryz.elemU]; exact Tryz.underlying40) .i64 .i64 _ _ (by omega) (by omega) (by omega), Tryz.elemU]
  have e1 : ((lo : Int) + n).toNat = lo + n := by omega
  have e2 : ¬ cap = lo := by omega
  simp [Tryz.sizeOf3, Result.andThen, sliced, e1, e2, Addr.add]

theorem cell_setRow (w : World) (g : Nat) (c cs : Array Value) (t : TypeId) (f : Nat × Nat) (h : w.heap[g]? = some (.cells c t f)) (i : Nat) : (w.setRow g cs).cell? ⟨g, i, none⟩ = cs[i]? := by
  simp [World.cell?, World.setRow, Array.getElem?_modify, h]
theorem setRow_at (w : World) (g : Nat) (c cs : Array Value) (t : TypeId) (f : Nat × Nat) (h : w.heap[g]? = some (.cells c t f)) : (w.setRow g cs).heap[g]? = some (.cells cs t f) := by
  simp [World.setRow, Array.getElem?_modify, h]

/-- A guard: the operation that stands next is a copy. -/
theorem at_copy {P : Program} {w : World} {ops : Array Oper} {rest : List Oper} {a : Act} {Q : Exit → Act → World → Prop} {ds : Option Tmp} {ar : Array Operand} {ts : Array TypeId} {ty : TypeId} {p : String} {af : Array Edge} {g : Option (Nat × Bool)}
    (h : wpList P ops Q (⟨ds, .call { callee := .builtin .copy, args := ar, argTypes := ts }, ty, p, af, g⟩ :: rest) a w) : wpList P ops Q (⟨ds, .call { callee := .builtin .copy, args := ar, argTypes := ts }, ty, p, af, g⟩ :: rest) a w := h

/-- copy of words. -/
theorem wpList_copy_words {w : World} {ops : Array Oper} {rest : List Oper} {o : Oper} {a : Act} {Q : Exit → Act → World → Prop}
    (hgd : o.guard = none) (d s : Operand) (ho : o.op = .call { callee := .builtin .copy, args := #[d, s], argTypes := #[40, 40] })
    (X Y : List Int) (g off dCap : Nat) (sp : Option Addr) (sLen sCap dLen : Nat) (hd : a.eval d = .slice (some ⟨g, off, none⟩) dLen dCap) (hs : a.eval s = .slice sp sLen sCap) (eX : dLen = X.length) (eY : sLen = Y.length)
    (hle : Y.length ≤ X.length) (hX : Cells w g off X) (hO : Own w g) (hY : 0 < Y.length → ∃ b o, sp = some ⟨b, o, none⟩ ∧ Cells w b o Y)
    (hK : ∀ w', Cells w' g off (Y ++ X.drop Y.length) → Wr g off X.length w w' → wpList Tryz.prog ops Q rest (a.put o.dst (goInt Y.length)) w') :
    wpList Tryz.prog ops Q (o :: rest) a w := by
  subst eX eY
  by_cases h0 : Y.length = 0
  · obtain rfl : Y = [] := List.eq_nil_of_length_eq_zero h0
    refine wpList_copy_nothing hgd d s _ _ ho 3 Tryz.underlying40 Tryz.sizeU _ _ _ _ _ _ hd hs (by simp) ?_
    exact hK w (by simpa using hX) (Wr.refl _ _ _ _)
  · obtain ⟨b2, o2, rfl, hcY⟩ := hY (by omega)
    obtain ⟨cur, t, hh⟩ := hO
    have hsz : off + X.length ≤ cur.size := by
      have h1 := hX (X.length - 1) (by omega)
      simp only [World.cell?, hh, Option.isSome_none, Bool.false_eq_true, if_false] at h1
      have := (Array.getElem?_eq_some_iff.1 h1).1
      omega
    refine wpList_copy_own hgd d s _ _ ho 3 Tryz.underlying40 Tryz.sizeU g off X.length dCap ⟨b2, o2, none⟩ Y.length sCap hd hs cur t hh (Y.map (Value.int .i64)) (by rw [List.length_map]; exact (Nat.min_eq_left hle).symm) ?_ (by rw [List.length_map]; omega) (by intro v hv; obtain ⟨x, _, rfl⟩ := List.mem_map.1 hv; rfl) ?_
    · intro j v hj
      rw [List.getElem?_map] at hj
      by_cases hlt : j < Y.length
      · rw [List.getElem?_eq_getElem hlt] at hj
        have := hcY j hlt
        simp only [nth, List.getD_eq_getElem?_getD, List.getElem?_eq_getElem hlt, Option.getD_some] at this
        simp only [Option.map_some, Option.some.injEq] at hj
        subst hj
        rw [show (⟨b2, o2, none⟩ : Addr).add j = ⟨b2, o2 + j, none⟩ from by simp [Addr.add]]
        exact this
      · rw [List.getElem?_eq_none (Nat.le_of_not_lt hlt)] at hj; simp at hj
    · have hY' : (Y.map (Value.int .i64)).length = Y.length := List.length_map ..
      rw [hY']
      refine hK _ ?_ ?_
      · intro i hi
        rw [List.length_append, List.length_drop] at hi
        rw [cell_setRow w g cur _ t _ hh]
        have hoff : (cur.toList.take off).length = off := by rw [List.length_take]; simp; omega
        rw [List.getElem?_toArray, List.getElem?_append_right (by omega), hoff, Nat.add_sub_cancel_left]
        by_cases hlt : i < Y.length
        · rw [List.getElem?_append_left (by rw [hY']; exact hlt), List.getElem?_map, List.getElem?_eq_getElem hlt]
          simp [nth, List.getD_eq_getElem?_getD, List.getElem?_append_left hlt, List.getElem?_eq_getElem hlt]
        · rw [List.getElem?_append_right (by omega), hY', List.getElem?_drop]
          have h1 := hX i (by omega)
          simp only [World.cell?, hh, Option.isSome_none, Bool.false_eq_true, if_false] at h1
          have e : off + Y.length + (i - Y.length) = off + i := by omega
          rw [e, Array.getElem?_toList, h1]
          have e2 : nth (Y ++ X.drop Y.length) i = nth X i := by
            unfold nth
            rw [List.getD_eq_getElem?_getD, List.getElem?_append_right (by omega), List.getElem?_drop, List.getD_eq_getElem?_getD]
            congr 2; omega
          rw [e2]
      · refine ⟨rfl, rfl, rfl, by simp [World.setRow], fun k _ hk => setRow_other w g k _ hk, ?_, ?_, ?_⟩
        · intro i hi
          rw [cell_setRow w g cur _ t _ hh]
          have hoff : (cur.toList.take off).length = off := by rw [List.length_take]; simp; omega
          simp only [World.cell?, hh, Option.isSome_none, Bool.false_eq_true, if_false]
          rw [List.getElem?_toArray]
          rcases hi with hi | hi
          · rw [List.getElem?_append_left (by omega), List.getElem?_take_of_lt (by omega), Array.getElem?_toList]
          · rw [List.getElem?_append_right (by omega), hoff, List.getElem?_append_right (by omega), hY', List.getElem?_drop, Array.getElem?_toList]
            congr 1; omega
        · intro i
          simp [World.frozen?, setRow_at w g cur _ t _ hh, hh]
        · intro c t' f e
          rw [hh] at e
          simp only [Option.some.injEq, Obj.cells.injEq] at e
          obtain ⟨rfl, rfl, rfl⟩ := e
          refine ⟨_, setRow_at w g cur _ t _ hh, ?_⟩
          simp; omega
end Go.Proofs.YtejfnplhimfchaaGreatDoor.L

namespace Go.Proofs.YtejfnplhimfchaaGreatDoor.L
open Go.RowKit Tl

theorem wrap_self (x : Int) (h0 : -9223372036854775808 ≤ x) (h1 : x < 9223372036854775808) : IntKind.i64.wrap x = x := by
  simp [IntKind.wrap, IntKind.bits, IntKind.signed]; omega
theorem wd_zero (n : Nat) : Wd (List.replicate n 0) := by
  intro x hx
  rw [List.eq_of_mem_replicate hx]; omega
theorem rd_nil (w : World) : Rd w (.slice none 0 0) [] := ⟨Wd.nil, none, 0, rfl, by simp, by simp, fun h => by simp at h⟩
theorem val_top {xs : List Int} (ne : 0 < xs.length) : val xs = val (xs.take (xs.length - 1)) + pw (xs.length - 1) * nth xs (xs.length - 1) := by
  have e := val_at xs (xs.length - 1) (by omega)
  rw [Nat.sub_add_cancel ne, List.take_length] at e; exact e
theorem nm_top {xs : List Int} (h : Wd xs) (n : Nm xs) (ne : 0 < xs.length) : 0 < nth xs (xs.length - 1) := by
  rcases n with rfl | n
  · simp at ne
  · have := (nth_bd h (xs.length - 1)).1; unfold nth at *; omega
theorem val_more (xs : List Int) (k : Nat) : val (xs.take (k + 1)) = val (xs.take k) + pw k * nth xs k := by
  by_cases h : k < xs.length
  · exact val_at xs k h
  · have e : nth xs k = 0 := by unfold nth; rw [List.getD_eq_getElem?_getD, List.getElem?_eq_none (Nat.le_of_not_lt h)]; rfl
    rw [List.take_of_length_le (by omega), List.take_of_length_le (by omega), e]; simp
theorem nth_out (xs : List Int) (k : Nat) (h : ¬ k < xs.length) : nth xs k = 0 := by
  unfold nth; rw [List.getD_eq_getElem?_getD, List.getElem?_eq_none (Nat.le_of_not_lt h)]; rfl
end Go.Proofs.YtejfnplhimfchaaGreatDoor.L

namespace Go.Proofs.YtejfnplhimfchaaGreatDoor.L
open Go.RowKit Tl

/-- One limb of a division by one. -/
theorem quo_step {X xs : List Int} {j : Nat} {r d s : Int} (hX : Wd X) (hj : j < X.length) (hx : j < xs.length) (d1 : 0 < d) (r0 : 0 ≤ r) (r1 : r < d) (b0 : 0 ≤ nth xs j) (b1 : nth xs j < 1073741824) (hs : s = r * 1073741824 + nth xs j)
    (hv : val (X.drop (j + 1)) * d + r = val (xs.drop (j + 1))) :
    Wd (X.set j (s / d)) ∧ val ((X.set j (s / d)).drop j) * d + s % d = val (xs.drop j) ∧ 0 ≤ s % d ∧ s % d < d := by
  have s0 : 0 ≤ s := by omega
  have e := Int.mul_ediv_add_emod s d
  have m0 := Int.emod_nonneg s (show d ≠ 0 by omega)
  have m1 := Int.emod_lt_of_pos s d1
  have q0 : 0 ≤ s / d := Int.ediv_nonneg s0 (by omega)
  have q1 : s / d < 1073741824 := by
    apply Int.ediv_lt_of_lt_mul d1
    have := Int.mul_le_mul_of_nonneg_right (show r + 1 ≤ d by omega) (show (0 : Int) ≤ 1073741824 by decide)
    rw [Int.mul_comm 1073741824 d]; omega
  refine ⟨hX.set j q0 q1, ?_, m0, m1⟩
  have eX : (X.set j (s / d)).drop j = s / d :: X.drop (j + 1) := by
    rw [drop_getD _ j (by simpa using hj), List.drop_set_of_lt (by omega)]
    congr 1
    exact nth_set_same X j _ hj
  rw [eX, drop_getD xs j hx]
  simp only [val]
  have hb : nth xs j = xs.getD j 0 := rfl
  rw [← hb]
  generalize s / d = a at *
  generalize s % d = b at *
  generalize val (X.drop (j + 1)) = u at *
  generalize val (xs.drop (j + 1)) = z at *
  grind
set_option maxHeartbeats 1600000 in
set_option maxRecDepth 100000 in
/-- (Nat).small of the reference: by one limb; the answer lies in a row of its own. -/
theorem small_new (v1 : Value) (xs : List Int) (d : Int) (w : World) (h1 : Rd w v1 xs) (l1 : xs.length ≤ 549755813888) (d1 : 0 < d) (d2 : d < 1073741824) :
    Calls Tryz.prog 82 #[v1, .int .i64 d] w fun e w' => ∃ n zs m, e = .returned (.tuple #[.slice (some ⟨w.heap.size, 0, none⟩) n xs.length, .int .i64 m]) ∧ Rd w' (.slice (some ⟨w.heap.size, 0, none⟩) n xs.length) zs ∧ Nm zs ∧ val zs * d + m = val xs ∧ 0 ≤ m ∧ m < d ∧ Below w.heap.size w w' := by
  obtain ⟨hx, a1, c1, rfl, _, _, g1⟩ := h1
  have hs : Hid (∀ w', Below w.heap.size w w' → 0 < xs.length → ∃ b o, a1 = some ⟨b, o, none⟩ ∧ Cells w' b o xs) := fun w' h l => by obtain ⟨b, o, e, c⟩ := g1 l; exact ⟨b, o, e, c.grow h⟩
  clear g1
  go_enter Tryz.func82, Tryz.ntmps82
  go_wp2_with (first
    | (at_make; refine wpList_make_words rfl _ _ rfl xs.length _ _ rfl rfl rfl rfl (by omega) ?_; intro w1 k1 k2 k3 k4)
    | fail)
  go_loopw [7, 8] (fun c i wr => ∃ (j : Nat) (r : Int) (X : List Int), j ≤ xs.length ∧ c = .int .i64 r ∧ i = .int .i64 ((j : Int) - 1) ∧ 0 ≤ r ∧ r < d ∧ X.length = xs.length ∧ Wd X ∧ val (X.drop j) * d + r = val (xs.drop j) ∧ Cells wr w.heap.size 0 X ∧ Wr w.heap.size 0 xs.length w1 wr) (fun _ i _ => (intOf i + 1).toNat)
  case atStart => exact ⟨xs.length, 0, List.replicate xs.length 0, Nat.le_refl _, rfl, by go_num, by omega, d1, by simp, wd_zero _, by simp [val], k1, Wr.refl _ _ _ _⟩
  case round =>
    obtain ⟨j, r, X, hj, rfl, rfl, r0, r1, hl, hX, hv, hc, hwr⟩ := hrel
    have HV : Hid (val (X.drop j) * d + r = val (xs.drop j)) := hv
    clear hv
    have hb := k3.trans (hwr.below (B := w.heap.size) (Nat.le_refl _) (by omega))
    by_cases hlt : 0 < j
    · obtain ⟨i, rfl⟩ : ∃ i, j = i + 1 := ⟨j - 1, by omega⟩
      have kx := hc.at (i := i) (by omega)
      have kf := ((k2.wr hwr).free 0 xs.length) i (by omega)
      rw [Nat.zero_add] at kx kf
      have bx := nth_bd hx i
      obtain ⟨b1, o1, rfl, q1⟩ := hs.out _ hb (by omega)
      have e1 := q1.at (i := i) (by omega)
      obtain ⟨S, hS⟩ : ∃ S, r * 1073741824 + nth xs i = S := ⟨_, rfl⟩
      have R : Hid _ := quo_step hX (by omega) (by omega) d1 r0 r1 bx.1 bx.2 hS.symm HV.out
      have p1 : IntKind.i64.wrap (r * 1073741824) = r * 1073741824 := wrap_self _ (by omega) (by omega)
      have p2 : IntKind.i64.wrap (r * 1073741824 + nth xs i) = S := by rw [hS]; exact wrap_self _ (by omega) (by omega)
      have s0 : 0 ≤ S := by omega
      have s1 : S ≤ 1152921504606846976 := by omega
      have t1 : ((i : Int) + 1 - 1) = i := by omega
      have u1 : S.tdiv d = S / d := Int.tdiv_eq_ediv_of_nonneg s0
      have u2 : S.tmod d = S % d := Int.tmod_eq_emod_of_nonneg s0
      have u3 : IntKind.i64.wrap (S / d) = S / d := wrap_self _ (by have := Int.ediv_nonneg s0 (Int.le_of_lt d1); omega) (by have := Int.ediv_le_self d s0; omega)
      have nz : (d == 0) = false := by rw [beq_eq_false_iff_ne]; omega
      have nz2 : ¬ d = 0 := by omega
      clear hS
      go_wp2
      go_roundw
      case rel => exact ⟨i, _, _, by omega, rfl, by go_num, R.out.2.2.1, R.out.2.2.2, by simp [hl], R.out.1, R.out.2.1, by simpa using hc.set i (by omega) _, by simpa using hwr.setCell i (by omega) _⟩
      case measure => simp [intOf]
    · have ek : j = 0 := by omega
      subst ek
      have Rv : Hid (val X * d + r = val xs) := by have := HV.out; rw [List.drop_zero, List.drop_zero] at this; exact this
      clear HV
      go_wp2_with fail
      refine (norm_rd _ _ _ X wr hl.symm hX (by omega) (by omega) (fun _ => ⟨_, _, rfl, hc⟩)).mono ?_
      rintro e w' ⟨n, zs, rfl, hrd, hnm, hvz, rfl⟩
      have hvz' : Hid (val zs * d + r = val xs) := by have := Rv.out; rw [← hvz] at this; exact this
      clear hvz
      go_wp2
      exact bodyPost_ret (v := .tuple #[.slice (some ⟨w.heap.size, 0, none⟩) n xs.length, .int .i64 r]) (by simp [results, Tryz.results82, go_sem]) rfl ⟨_, zs, r, rfl, hrd, hnm, hvz'.out, r0, r1, hb⟩
theorem small_any (v1 : Value) (xs : List Int) (d : Int) (w : World) (h1 : Rd w v1 xs) (l1 : xs.length ≤ 549755813888) (d1 : 0 < d) (d2 : d < 1073741824) :
    Calls Tryz.prog 82 #[v1, .int .i64 d] w fun e w' => ∃ r zs m, e = .returned (.tuple #[r, .int .i64 m]) ∧ Rd w' r zs ∧ Nm zs ∧ val zs * d + m = val xs ∧ 0 ≤ m ∧ m < d ∧ Below w.heap.size w w' := by
  refine (small_new v1 xs d w h1 l1 d1 d2).mono ?_
  rintro e w' ⟨n, zs, m, he, hr⟩
  exact ⟨_, zs, m, he, hr⟩
end Go.Proofs.YtejfnplhimfchaaGreatDoor.L

namespace Go.Proofs.YtejfnplhimfchaaGreatDoor.L
open Go.RowKit Tl

/-- append(l, y), l nil or a row of the call's own. -/
theorem wpList_push {w : World} {ops : Array Oper} {rest : List Oper} {o : Oper} {a : Act} {Q : Exit → Act → World → Prop} (hgd : o.guard = none) (s x : Operand)
    (ho : o.op = .call { callee := .builtin .append, args := #[s, x], argTypes := #[40, 40] })
    (v : Value) (Y : List Int) (hs : a.eval s = v) (base : Nat) (hown : w.ownsRow base 3 1 v Y.length (Y.map (Value.int .i64))) (hL : Y.length ≤ 1099511627776)
    (ad c : Nat) (y : Int) (hx : a.eval x = .slice (some ⟨ad, 0, none⟩) 1 c) (hn : w.cell? ⟨ad, 0, none⟩ = some (.int .i64 y)) (hbase : base ≤ w.heap.size)
    (h : ∀ v' w', w'.ownsRow base 3 1 v' (Y ++ [y]).length ((Y ++ [y]).map (Value.int .i64)) → Below base w w' → wpList Tryz.prog ops Q rest (a.put o.dst v') w') : wpList Tryz.prog ops Q (o :: rest) a w := by
  obtain ⟨i, hi, hz0, hz1, hz2⟩ := info_parts Tryz.infoU
  refine wpList_append_own w hgd s x 40 ho base 3 i (.int .i64 0) 1 8 Tryz.underlying40 hi hz0 hz1 hz2 rfl (by decide) v Y.length _ hs hown ⟨ad, 0, none⟩ 1 c [.int .i64 y] hx rfl ?_ (by intro u hu; simp at hu; subst hu; rfl) (by unfold maxLen; omega) (by omega) hbase ?_
  · intro j u hj
    match j, hj with
    | 0, hj => simp at hj; subst hj; simpa [Addr.add] using hn
  · intro v' w' hown' hgr _
    refine h v' w' (by simpa using hown') ⟨hgr.os, hgr.tape, hgr.output, hgr.size, fun k hk => hgr.block k (by omega) ?_⟩
    obtain ⟨_, hr⟩ := hown
    rcases hr with ⟨rfl, _⟩ | ⟨g, cap, cur, rfl, hb, _⟩
    · simp [Value.ownBlock]
    · simp [Value.ownBlock]; omega
end Go.Proofs.YtejfnplhimfchaaGreatDoor.L

namespace Go.Proofs.YtejfnplhimfchaaGreatDoor.L
open Go.RowKit Tl

theorem own_grow {w w' : World} {base n : Nat} {e : TypeId} {v : Value} {xs : List Value} (h : w.ownsRow base e 1 v n xs) (k : Below w.heap.size w w') : w'.ownsRow base e 1 v n xs := by
  obtain ⟨h1, h2⟩ := h
  refine ⟨h1, ?_⟩
  rcases h2 with h2 | ⟨g, cap, cur, e1, e2, e3, e4⟩
  · exact Or.inl h2
  · exact Or.inr ⟨g, cap, cur, e1, e2, (k.block g (Own.lt ⟨cur, _, e3⟩)).trans e3, e4⟩
theorem own_rd {w : World} {base : Nat} {e : TypeId} {v : Value} {Y : List Int} (hY : Wd Y) (h : w.ownsRow base e 1 v Y.length (Y.map (Value.int .i64))) : Rd w v Y := by
  obtain ⟨_, h2⟩ := h
  rcases h2 with ⟨rfl, h2⟩ | ⟨g, cap, cur, rfl, _, e3, e4, e5, e6, e7⟩
  · have : Y = [] := List.eq_nil_of_length_eq_zero h2
    subst this
    exact rd_nil w
  · refine ⟨hY, _, _, rfl, e4, e5, fun _ => ⟨g, 0, rfl, ?_⟩⟩
    intro i hi
    rw [Nat.mul_one] at e7
    have h7 := congrArg (fun l : List Value => l[i]?) e7
    simp only [List.getElem?_take, hi, if_true, List.getElem?_map] at h7
    simp only [World.cell?, e3, Nat.zero_add, Option.isSome_none, Bool.false_eq_true, if_false]
    rw [Array.getElem?_toList] at h7
    rw [h7]
    simp [nth, List.getD_eq_getElem?_getD, List.getElem?_eq_getElem hi]
theorem of_step {Y : List Int} {m N : Int} (hY : Wd Y) (m0 : 0 < m) (hv : val Y + pw Y.length * m = N) :
    Wd (Y ++ [m % 1073741824]) ∧ val (Y ++ [m % 1073741824]) + pw (Y ++ [m % 1073741824]).length * (m / 1073741824) = N ∧ (m / 1073741824 ≠ 0 ∨ Nm (Y ++ [m % 1073741824])) := by
  refine ⟨hY.append (Wd.cons (by omega) (by omega) Wd.nil), ?_, ?_⟩
  · rw [val_append, List.length_append]
    simp only [List.length_singleton, pw, val]
    have e : m = m % 1073741824 + 1073741824 * (m / 1073741824) := by omega
    generalize m % 1073741824 = a at *
    generalize m / 1073741824 = b at *
    grind
  · by_cases h : m / 1073741824 = 0
    · right
      refine Or.inr ?_
      simp
      omega
    · exact Or.inl h
theorem of_len {Y : List Int} {m N : Int} (hY : Wd Y) (m0 : 0 < m) (hN : N < 18446744073709551616) (hv : val Y + pw Y.length * m = N) : Y.length ≤ 2 := by
  have v0 := val_nonneg hY
  by_cases h : Y.length ≤ 2
  · exact h
  · have p := pw_mono (show 3 ≤ Y.length by omega)
    have e : pw 3 = 1237940039285380274899124224 := by decide
    have q := Int.mul_le_mul_of_nonneg_left (show 1 ≤ m by omega) (Int.le_of_lt (pw_pos Y.length))
    omega
set_option maxHeartbeats 1600000 in
set_option maxRecDepth 100000 in
/-- NatOf of the reference. -/
theorem NatOf_any (N : Int) (w : World) (n0 : 0 ≤ N) (n1 : N < 9223372036854775808) :
    Calls Tryz.prog 58 #[.int .i64 N] w fun e w' => ∃ r zs, e = .returned r ∧ Rd w' r zs ∧ Nm zs ∧ val zs = N ∧ Below w.heap.size w w' := by
  go_enter Tryz.func58, Tryz.ntmps58
  go_wp2_with fail
  go_loopw [0, 3] (fun n l wr => ∃ (m : Int) (Y : List Int), n = .int .i64 m ∧ 0 ≤ m ∧ m ≤ N ∧ wr.ownsRow w.heap.size 3 1 l Y.length (Y.map (Value.int .i64)) ∧ Wd Y ∧ val Y + pw Y.length * m = N ∧ (m ≠ 0 ∨ Nm Y) ∧ Below w.heap.size w wr) (fun n _ _ => (intOf n).toNat)
  case atStart => exact ⟨N, [], rfl, n0, Int.le_refl _, ⟨by simp, Or.inl ⟨rfl, rfl⟩⟩, Wd.nil, by simp [val, pw], Or.inr (Or.inl rfl), Below.refl _ _⟩
  case round =>
    obtain ⟨m, Y, rfl, m0, m1, hown, hY, hv, hn, hb⟩ := hrel
    have HV : Hid (val Y + pw Y.length * m = N) := hv
    have HN : Hid (m ≠ 0 ∨ Nm Y) := hn
    clear hv hn
    by_cases hm : 0 < m
    · have R : Hid _ := of_step hY hm HV.out
      have L := of_len hY hm (by omega) HV.out
      have hsz := hb.size
      have u1 : m.tmod 1073741824 = m % 1073741824 := Int.tmod_eq_emod_of_nonneg m0
      have u2 : m.tdiv 1073741824 = m / 1073741824 := Int.tdiv_eq_ediv_of_nonneg m0
      go_wp2_with (first
        | (at_builtin; (refine wpList_push rfl _ _ rfl _ Y rfl w.heap.size (own_grow hown ((Below.refl _ _).alloc (Nat.le_refl _) _)) (by omega) _ _ (m % 1073741824) rfl (by simp) (by simp; omega) ?_; intro l' w2 hown2 hb2; have hb3 := (hb.alloc (Nat.le_trans (Nat.le_refl _) hsz) _).trans hb2))
        | fail)
      go_roundw
      case rel => exact ⟨m / 1073741824, _, rfl, by omega, by omega, hown2, R.out.1, R.out.2.1, R.out.2.2, hb3⟩
      case measure => simp [intOf]; omega
    · have e0 : m = 0 := by omega
      have Rv : Hid (val Y = N ∧ Nm Y) := by
        have h1 := HV.out
        rw [e0, Int.mul_zero, Int.add_zero] at h1
        exact ⟨h1, HN.out.resolve_left (by omega)⟩
      have hrd : Hid (Rd wr u3 Y) := own_rd hY hown
      clear e0 HV HN
      go_wp2
      go_ret
      exact ⟨_, rfl, Y, hrd.out, Rv.out.2, Rv.out.1, hb⟩
set_option maxHeartbeats 1600000 in
set_option maxRecDepth 100000 in
/-- NatOf64 of the reference. -/
theorem NatOf64_any (N : Int) (w : World) (n0 : 0 ≤ N) (n1 : N < 18446744073709551616) :
    Calls Tryz.prog 57 #[.int .u64 N] w fun e w' => ∃ r zs, e = .returned r ∧ Rd w' r zs ∧ Nm zs ∧ val zs = N ∧ Below w.heap.size w w' := by
  go_enter Tryz.func57, Tryz.ntmps57
  go_wp2_with fail
  go_loopw [0, 3] (fun n l wr => ∃ (m : Int) (Y : List Int), n = .int .u64 m ∧ 0 ≤ m ∧ m ≤ N ∧ wr.ownsRow w.heap.size 3 1 l Y.length (Y.map (Value.int .i64)) ∧ Wd Y ∧ val Y + pw Y.length * m = N ∧ (m ≠ 0 ∨ Nm Y) ∧ Below w.heap.size w wr) (fun n _ _ => (intOf n).toNat)
  case atStart => exact ⟨N, [], rfl, n0, Int.le_refl _, ⟨by simp, Or.inl ⟨rfl, rfl⟩⟩, Wd.nil, by simp [val, pw], Or.inr (Or.inl rfl), Below.refl _ _⟩
  case round =>
    obtain ⟨m, Y, rfl, m0, m1, hown, hY, hv, hn, hb⟩ := hrel
    have HV : Hid (val Y + pw Y.length * m = N) := hv
    have HN : Hid (m ≠ 0 ∨ Nm Y) := hn
    clear hv hn
    by_cases hm : 0 < m
    · have R : Hid _ := of_step hY hm HV.out
      have L := of_len hY hm (by omega) HV.out
      have hsz := hb.size
      have u1 : m.tmod 1073741824 = m % 1073741824 := Int.tmod_eq_emod_of_nonneg m0
      have u2 : m.tdiv 1073741824 = m / 1073741824 := Int.tdiv_eq_ediv_of_nonneg m0
      have u3 : IntKind.i64.wrap (m % 1073741824) = m % 1073741824 := wrap_self _ (by omega) (by omega)
      go_wp2_with (first
        | (at_builtin; (refine wpList_push rfl _ _ rfl _ Y rfl w.heap.size (own_grow hown ((Below.refl _ _).alloc (Nat.le_refl _) _)) (by omega) _ _ (m % 1073741824) rfl (by simp) (by simp; omega) ?_; intro l' w2 hown2 hb2; have hb3 := (hb.alloc (Nat.le_trans (Nat.le_refl _) hsz) _).trans hb2))
        | fail)
      go_roundw
      case rel => exact ⟨m / 1073741824, _, rfl, by omega, by omega, hown2, R.out.1, R.out.2.1, R.out.2.2, hb3⟩
      case measure => simp [intOf]; omega
    · have e0 : m = 0 := by omega
      have Rv : Hid (val Y = N ∧ Nm Y) := by
        have h1 := HV.out
        rw [e0, Int.mul_zero, Int.add_zero] at h1
        exact ⟨h1, HN.out.resolve_left (by omega)⟩
      have hrd : Hid (Rd wr u3 Y) := own_rd hY hown
      clear e0 HV HN
      go_wp2
      go_ret
      exact ⟨_, rfl, Y, hrd.out, Rv.out.2, Rv.out.1, hb⟩
end Go.Proofs.YtejfnplhimfchaaGreatDoor.L
