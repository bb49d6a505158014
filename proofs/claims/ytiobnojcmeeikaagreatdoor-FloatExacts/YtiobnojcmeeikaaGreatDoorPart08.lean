import Derived.Test.YtiobnojcmeeikaaGreatDoorProg
import Derived.Test.YtiobnojcmeeikaaGreatDoorPart01
import Derived.Laws.CopyOwn
import Derived.Laws.AppendOwn

namespace Go.Proofs.YtiobnojcmeeikaaGreatDoor.L
open Go.RowKit Tl

theorem take_less (xs : List Int) (k : Nat) (h0 : 0 < k) (hk : k ≤ xs.length) (h : nth xs (k - 1) = 0) : val (xs.take k) = val (xs.take (k - 1)) := by
  have := val_take_succ xs (k - 1) (by omega)
  rw [Nat.sub_add_cancel h0] at this
  unfold nth at h
  rw [this, h]; simp
theorem nm_take (xs : List Int) (k : Nat) (h0 : 0 < k) (hk : k ≤ xs.length) (h : ¬ nth xs (k - 1) = 0) : Nm (xs.take k) := by
  refine Or.inr ?_
  rw [List.length_take, Nat.min_eq_left hk]
  have := nth_take xs k (k - 1) (by omega)
  unfold nth at h this
  rw [this]; exact h

set_option maxHeartbeats 400000 in
/-- tontinebase.norm: without the noughts at the high end. -/
theorem norm_any (a : Option Addr) (xs : List Int) (cap : Nat) (w : World) (hl : xs.length ≤ cap) (hcap : cap ≤ 9223372036854775807) (ha : 0 < xs.length → ∃ b o, a = some ⟨b, o, none⟩ ∧ Cells w b o xs) :
    Calls Tryz.prog 45 #[.slice a xs.length cap] w fun e w' => ∃ n, n ≤ xs.length ∧ e = .returned (.slice a n cap) ∧ Nm (xs.take n) ∧ val (xs.take n) = val xs ∧ w' = w := by
  go_enter Tryz.func45, Tryz.ntmps45
  go_wp2
  go_loop [3] (fun t => ∃ k : Nat, k ≤ xs.length ∧ t = .int .i64 k ∧ val (xs.take k) = val xs) (fun t => (intOf t).toNat)
  case atStart => exact ⟨xs.length, Nat.le_refl _, rfl, by rw [List.take_length]⟩
  case round =>
    obtain ⟨k, hk, rfl, hv⟩ := hrel
    have HV : Hid (val (xs.take k) = val xs) := hv
    clear hv
    by_cases h0 : k = 0
    · subst h0
      go_wp2
      go_ret
      exact ⟨0, by omega, rfl, by simp [Nm], HV.out, rfl⟩
    · obtain ⟨b, o, rfl, hc⟩ := ha (by omega)
      have hb := hc.lt (by omega)
      have hc1 := hc.at (i := k - 1) (by omega)
      by_cases hz : nth xs (k - 1) = 0
      · rw [hz] at hc1
        have HZ : Hid (nth xs (k - 1) = 0) := hz
        clear hz
        go_wp2
        go_round
        case rel => exact ⟨k - 1, by omega, by go_num, by rw [← HV.out]; exact (take_less xs k (by omega) (by omega) HZ.out).symm⟩
        case measure => simp [intOf]; omega
      · go_wp2
        go_ret
        exact ⟨k, by omega, rfl, nm_take xs k (by omega) (by omega) hz, HV.out, rfl⟩
/-- The same, told as what it is for: a row of limbs becomes a number's. -/
theorem norm_rd (a : Option Addr) (m cap : Nat) (xs : List Int) (w : World) (em : m = xs.length) (hw : Wd xs) (hl : xs.length ≤ cap) (hcap : cap ≤ 9223372036854775807) (ha : 0 < xs.length → ∃ b o, a = some ⟨b, o, none⟩ ∧ Cells w b o xs) :
    Calls Tryz.prog 45 #[.slice a m cap] w fun e w' => ∃ n zs, e = .returned (.slice a n cap) ∧ Rd w (.slice a n cap) zs ∧ Nm zs ∧ val zs = val xs ∧ w' = w := by
  subst em
  refine (norm_any a xs cap w hl hcap ha).mono ?_
  rintro e w' ⟨n, hn, rfl, hnm, hv, hb⟩
  refine ⟨n, xs.take n, rfl, ⟨hw.take n, a, cap, ?_, ?_, hcap, ?_⟩, hnm, hv, hb⟩
  · rw [List.length_take, Nat.min_eq_left hn]
  · rw [List.length_take]; omega
  · intro l
    rw [List.length_take] at l
    obtain ⟨b, o, e, c⟩ := ha (by omega)
    exact ⟨b, o, e, c.take n⟩
end Go.Proofs.YtiobnojcmeeikaaGreatDoor.L

namespace Go.Proofs.YtiobnojcmeeikaaGreatDoor.L
open Go.RowKit Tl
theorem Tryz.infoU : (Tryz.prog.info? 3).map (fun i => (i.zero, i.size, i.bytes)) = some (some (.int .i64 0), 1, 8) := by kernel_rfl
theorem Tryz.sizeU : (Tryz.prog.info? 3).map (·.size) = some 1 := by kernel_rfl

theorem nth_replicate (n i : Nat) : nth (List.replicate n 0) i = 0 := by
  unfold nth
  by_cases h : i < n
  · simp [List.getD_eq_getElem?_getD, h]
  · simp [List.getD_eq_getElem?_getD, Nat.le_of_not_lt h]

/-- make([]int, n). -/
theorem wpList_make_words {w : World} {ops : Array Oper} {rest : List Oper} {o : Oper} {a : Act} {Q : Exit → Act → World → Prop}
    (hg : o.guard = none) (l c : Operand) (hop : o.op = Op.makeSlice 46 l c) (n : Nat) (L C : Int) (hl : a.eval l = .int .i64 L) (hc : a.eval c = .int .i64 C) (hL : L = (n : Int)) (hC : C = (n : Int)) (hn : n ≤ 35184372088832)
    (hK : ∀ w', Cells w' w.heap.size 0 (List.replicate n 0) → Own w' w.heap.size → Below w.heap.size w w' → w.heap.size < w'.heap.size → wpList Tryz.prog ops Q rest (a.put o.dst (.slice (some ⟨w.heap.size, 0, none⟩) n n)) w') :
    wpList Tryz.prog ops Q (o :: rest) a w := by
  obtain ⟨i, hi, hz0, hz1, hz2⟩ := info_parts Tryz.infoU
  refine wpList_make_full w hg l c 46 hop w.heap.size 3 i (.int .i64 0) 1 Tryz.underlying46 hi hz0 hz1 .i64 .i64 L C n hl hc hL hC (by rw [hz2]; omega) (by unfold maxLen; omega) (Nat.le_refl _) ?_
  intro w' ho hgr
  obtain ⟨_, h2⟩ := ho
  rcases h2 with ⟨e, _⟩ | ⟨g, cap, cur, e, hb, hh, h3, h4, h5, h6⟩
  · simp at e
  · simp only [Value.slice.injEq, Option.some.injEq, Addr.mk.injEq] at e
    obtain ⟨⟨e1, _, _⟩, _, e2⟩ := e
    subst e1
    have hbl : Below w.heap.size w w' := ⟨hgr.os, hgr.tape, hgr.output, hgr.size, fun k hk => hgr.block k hk (by simp)⟩
    refine hK w' ?_ ⟨cur, _, hh⟩ hbl (Own.lt ⟨cur, _, hh⟩)
    intro j hj
    rw [List.length_replicate] at hj
    simp only [Nat.mul_one] at h6 h5
    have hc6 : (Value.int .i64 0).cells = #[Value.int .i64 0] := rfl
    rw [hc6, toList_madeCells_one] at h6
    have h7 : cur.toList[j]? = some (.int .i64 0) := by
      have := congrArg (fun l : List Value => l[j]?) h6
      simp only [List.getElem?_take, hj, if_true, List.getElem?_replicate] at this
      exact this
    rw [nth_replicate]
    simp only [World.cell?, hh, Nat.zero_add]
    simpa using h7

theorem Tryz.elemU : Tryz.prog.elem 46 = 3 := by kernel_rfl
/-- s[lo:lo+n], lo below the capacity. -/
theorem slice_lh (g o len cap : Nat) (l h : Int) (lo n : Nat) (el : l = lo) (eh : h = (lo : Int) + n) (h2 : lo + n ≤ cap) (hne : lo < cap) (w : World) :
    (Instr.slice 46 (.slice (some ⟨g, o, none⟩) len cap) (some (.int .i64 l)) (some (.int .i64 h)) none).run Tryz.prog w = .ok (.slice (some ⟨g, o + lo, none⟩) n (cap - lo)) w := by
  subst el eh
  rw [run_slice_lh w 46 _ len cap (by rw [Tryz.elemU]; exact Tryz.underlying46) .i64 .i64 _ _ (by omega) (by omega) (by omega), Tryz.elemU]
  have e1 : ((lo : Int) + n).toNat = lo + n := by omega
  have e2 : ¬ cap = lo := by omega
  simp [Tryz.sizeOf3, Result.andThen, sliced, e1, e2, Addr.add]

theorem cell_setRow (w : World) (g : Nat) (c cs : Array Value) (t : TypeId) (f : Nat × Nat) (h : w.heap[g]? = some (.cells c t f)) (i : Nat) : (w.setRow g cs).cell? ⟨g, i, none⟩ = cs[i]? := by
  simp [World.cell?, World.setRow, Array.getElem?_modify, h]
theorem setRow_at (w : World) (g : Nat) (c cs : Array Value) (t : TypeId) (f : Nat × Nat) (h : w.heap[g]? = some (.cells c t f)) : (w.setRow g cs).heap[g]? = some (.cells cs t f) := by
  simp [World.setRow, Array.getElem?_modify, h]

/-- A guard: the operation that stands next is a copy. -/
theorem at_copy {P : Program} {w : World} {ops : Array Oper} {rest : List Oper} {a : Act} {Q : Exit → Act → World → Prop} {ds : Option Tmp} {ar : Array Operand} {ts : Array TypeId} {ty : TypeId} {p : String} {af : Array Edge} {g : Option (Nat × Bool)}
    (h : wpList P ops Q (⟨ds, .call { callee := .builtin .copy, args := ar, argTypes := ts }, ty, p, af, g⟩ :: rest) a w) : wpList P ops Q (⟨ds, .call { callee := .builtin .copy, args := ar, argTypes := ts }, ty, p, af, g⟩ :: rest) a w := h

/-- copy of words. -/
theorem wpList_copy_words {w : World} {ops : Array Oper} {rest : List Oper} {o : Oper} {a : Act} {Q : Exit → Act → World → Prop}
    (hgd : o.guard = none) (d s : Operand) (ho : o.op = .call { callee := .builtin .copy, args := #[d, s], argTypes := #[46, 46] })
    (X Y : List Int) (g off dCap : Nat) (sp : Option Addr) (sLen sCap dLen : Nat) (hd : a.eval d = .slice (some ⟨g, off, none⟩) dLen dCap) (hs : a.eval s = .slice sp sLen sCap) (eX : dLen = X.length) (eY : sLen = Y.length)
    (hle : Y.length ≤ X.length) (hX : Cells w g off X) (hO : Own w g) (hY : 0 < Y.length → ∃ b o, sp = some ⟨b, o, none⟩ ∧ Cells w b o Y)
    (hK : ∀ w', Cells w' g off (Y ++ X.drop Y.length) → Wr g off X.length w w' → wpList Tryz.prog ops Q rest (a.put o.dst (goInt Y.length)) w') :
    wpList Tryz.prog ops Q (o :: rest) a w := by
  subst eX eY
  by_cases h0 : Y.length = 0
  · obtain rfl : Y = [] := List.eq_nil_of_length_eq_zero h0
    refine wpList_copy_nothing hgd d s _ _ ho 3 Tryz.underlying46 Tryz.sizeU _ _ _ _ _ _ hd hs (by simp) ?_
    exact hK w (by simpa using hX) (Wr.refl _ _ _ _)
  · obtain ⟨b2, o2, rfl, hcY⟩ := hY (by omega)
    obtain ⟨cur, t, hh⟩ := hO
    have hsz : off + X.length ≤ cur.size := by
      have h1 := hX (X.length - 1) (by omega)
      simp only [World.cell?, hh, Option.isSome_none, Bool.false_eq_true, if_false] at h1
      have := (Array.getElem?_eq_some_iff.1 h1).1
      omega
    refine wpList_copy_own hgd d s _ _ ho 3 Tryz.underlying46 Tryz.sizeU g off X.length dCap ⟨b2, o2, none⟩ Y.length sCap hd hs cur t hh (Y.map (Value.int .i64)) (by rw [List.length_map]; exact (Nat.min_eq_left hle).symm) ?_ (by rw [List.length_map]; omega) (by intro v hv; obtain ⟨x, _, rfl⟩ := List.mem_map.1 hv; rfl) ?_
    · intro j v hj
      rw [List.getElem?_map] at hj
      by_cases hlt : j < Y.length
      · rw [List.getElem?_eq_getElem hlt] at hj
        have := hcY j hlt
        simp only [nth, List.getD_eq_getElem?_getD, List.getElem?_eq_getElem hlt, Option.getD_some] at this
        simp only [Option.map_some, Option.some.injEq] at hj
        subst hj
        rw [show (⟨b2, o2, none⟩ : Addr).add j = ⟨b2, o2 + j, none⟩ from by simp [Addr.add]]
        exact this
      · rw [List.getElem?_eq_none (Nat.le_of_not_lt hlt)] at hj; simp at hj
    · have hY' : (Y.map (Value.int .i64)).length = Y.length := List.length_map ..
      rw [hY']
      refine hK _ ?_ ?_
      · intro i hi
        rw [List.length_append, List.length_drop] at hi
        rw [cell_setRow w g cur _ t _ hh]
        have hoff : (cur.toList.take off).length = off := by rw [List.length_take]; simp; omega
        rw [List.getElem?_toArray, List.getElem?_append_right (by omega), hoff, Nat.add_sub_cancel_left]
        by_cases hlt : i < Y.length
        · rw [List.getElem?_append_left (by rw [hY']; exact hlt), List.getElem?_map, List.getElem?_eq_getElem hlt]
          simp [nth, List.getD_eq_getElem?_getD, List.getElem?_append_left hlt, List.getElem?_eq_getElem hlt]
        · rw [List.getElem?_append_right (by omega), hY', List.getElem?_drop]
          have h1 := hX i (by omega)
          simp only [World.cell?, hh, Option.isSome_none, Bool.false_eq_true, if_false] at h1
          have e : off + Y.length + (i - Y.length) = off + i := by omega
          rw [e, Array.getElem?_toList, h1]
          have e2 : nth (Y ++ X.drop Y.length) i = nth X i := by
            unfold nth
            rw [List.getD_eq_getElem?_getD, List.getElem?_append_right (by omega), List.getElem?_drop, List.getD_eq_getElem?_getD]
            congr 2; omega
          rw [e2]
      · refine ⟨rfl, rfl, rfl, by simp [World.setRow], fun k _ hk => setRow_other w g k _ hk, ?_, ?_, ?_⟩
        · intro i hi
          rw [cell_setRow w g cur _ t _ hh]
          have hoff : (cur.toList.take off).length = off := by rw [List.length_take]; simp; omega
          simp only [World.cell?, hh, Option.isSome_none, Bool.false_eq_true, if_false]
          rw [List.getElem?_toArray]
          rcases hi with hi | hi
          · rw [List.getElem?_append_left (by omega), List.getElem?_take_of_lt (by omega), Array.getElem?_toList]
          · rw [List.getElem?_append_right (by omega), hoff, List.getElem?_append_right (by omega), hY', List.getElem?_drop, Array.getElem?_toList]
            congr 1; omega
        · intro i
          simp [World.frozen?, setRow_at w g cur _ t _ hh, hh]
        · intro c t' f e
          rw [hh] at e
          simp only [Option.some.injEq, Obj.cells.injEq] at e
          obtain ⟨rfl, rfl, rfl⟩ := e
          refine ⟨_, setRow_at w g cur _ t _ hh, ?_⟩
          simp; omega
end Go.Proofs.YtiobnojcmeeikaaGreatDoor.L

namespace Go.Proofs.YtiobnojcmeeikaaGreatDoor.L
open Go.RowKit Tl

theorem wrap_self (x : Int) (h0 : -9223372036854775808 ≤ x) (h1 : x < 9223372036854775808) : IntKind.i64.wrap x = x := by
  simp [IntKind.wrap, IntKind.bits, IntKind.signed]; omega
theorem wd_zero (n : Nat) : Wd (List.replicate n 0) := by
  intro x hx
  rw [List.eq_of_mem_replicate hx]; omega
theorem rd_nil (w : World) : Rd w (.slice none 0 0) [] := ⟨Wd.nil, none, 0, rfl, by simp, by simp, fun h => by simp at h⟩
theorem val_top {xs : List Int} (ne : 0 < xs.length) : val xs = val (xs.take (xs.length - 1)) + pw (xs.length - 1) * nth xs (xs.length - 1) := by
  have e := val_at xs (xs.length - 1) (by omega)
  rw [Nat.sub_add_cancel ne, List.take_length] at e; exact e
theorem nm_top {xs : List Int} (h : Wd xs) (n : Nm xs) (ne : 0 < xs.length) : 0 < nth xs (xs.length - 1) := by
  rcases n with rfl | n
  · simp at ne
  · have := (nth_bd h (xs.length - 1)).1; unfold nth at *; omega
theorem val_more (xs : List Int) (k : Nat) : val (xs.take (k + 1)) = val (xs.take k) + pw k * nth xs k := by
  by_cases h : k < xs.length
  · exact val_at xs k h
  · have e : nth xs k = 0 := by unfold nth; rw [List.getD_eq_getElem?_getD, List.getElem?_eq_none (Nat.le_of_not_lt h)]; rfl
    rw [List.take_of_length_le (by omega), List.take_of_length_le (by omega), e]; simp
end Go.Proofs.YtiobnojcmeeikaaGreatDoor.L

namespace Go.Proofs.YtiobnojcmeeikaaGreatDoor.L
open Go.RowKit Tl

/-- -1, 0, 1. -/
def cmp3 (x y : Int) : Int := if x < y then -1 else if y < x then 1 else 0
theorem cmp3_lt {x y : Int} (h : x < y) : cmp3 x y = -1 := by simp [cmp3, h]
theorem cmp3_gt {x y : Int} (h : y < x) : cmp3 x y = 1 := by unfold cmp3; rw [if_neg (by omega), if_pos h]
theorem cmp3_eq {x y : Int} (h : x = y) : cmp3 x y = 0 := by unfold cmp3; rw [if_neg (by omega), if_neg (by omega)]
theorem top_lt {xs ys : List Int} (hx : Wd xs) (hy : Wd ys) (hl : xs.length = ys.length) (j : Nat) (hj : j < xs.length) (hd : xs.drop (j + 1) = ys.drop (j + 1)) (h : nth xs j < nth ys j) : val xs < val ys := by
  have e1 := val_split xs j (by omega)
  have e2 := val_split ys j (by omega)
  rw [drop_getD xs j hj] at e1
  rw [drop_getD ys j (by omega), ← hd] at e2
  simp only [val] at e1 e2
  have b1 := val_lt (hx.take j)
  have b2 := val_nonneg (hy.take j)
  rw [List.length_take, Nat.min_eq_left (by omega)] at b1
  have h' : xs.getD j 0 + 1 ≤ ys.getD j 0 := h
  have b3 := Int.mul_le_mul_of_nonneg_left h' (Int.le_of_lt (pw_pos j))
  grind

theorem drop_more {xs ys : List Int} {k : Nat} (hk : k < xs.length) (hl : xs.length = ys.length) (hd : xs.drop (xs.length - k) = ys.drop (xs.length - k)) (he : nth xs (xs.length - 1 - k) = nth ys (xs.length - 1 - k)) : xs.drop (xs.length - (k + 1)) = ys.drop (xs.length - (k + 1)) := by
  have e : xs.length - (k + 1) = xs.length - 1 - k := by omega
  rw [e, drop_getD xs _ (by omega), drop_getD ys _ (by omega), show xs.length - 1 - k + 1 = xs.length - k from by omega, hd]
  exact congrArg (· :: _) he

set_option maxHeartbeats 1600000 in
set_option maxRecDepth 100000 in
theorem cmp_long (a1 a2 : Option Addr) (c1 c2 : Nat) (xs ys : List Int) (w : World) (hx : Wd xs) (hy : Wd ys) (hle : xs.length = ys.length) (hL : xs.length ≤ 1099511627776) (h1 : 0 < xs.length → ∃ b o, a1 = some ⟨b, o, none⟩ ∧ Cells w b o xs) (h2 : 0 < ys.length → ∃ b o, a2 = some ⟨b, o, none⟩ ∧ Cells w b o ys) :
    Calls Tryz.prog 43 #[.slice a1 xs.length c1, .slice a2 xs.length c2] w fun e w' => e = .returned (.int .i64 (cmp3 (val xs) (val ys))) ∧ Below w.heap.size w w' := by
  have HL : Hid (xs.length = ys.length) := hle
  clear hle
  go_enter Tryz.func43, Tryz.ntmps43
  go_wp2_with fail
  go_loopw [5] (fun i wr => ∃ (k : Nat), k ≤ xs.length ∧ i = .int .i64 ((xs.length : Int) - 1 - k) ∧ xs.drop (xs.length - k) = ys.drop (xs.length - k) ∧ ∃ m, wr = w.drewN m) (fun i _ => (intOf i + 1).toNat)
  case atStart => exact ⟨0, Nat.zero_le _, by go_num, by rw [Nat.sub_zero, List.drop_length, HL.out, List.drop_length], 0, rfl⟩
  case round =>
    obtain ⟨k, hk, rfl, hd, m, rfl⟩ := hrel
    have HD : Hid (xs.drop (xs.length - k) = ys.drop (xs.length - k)) := hd
    clear hd
    by_cases hlt : k < xs.length
    · obtain ⟨b1, o1, rfl, q1⟩ := h1 (by omega)
      obtain ⟨b2, o2, rfl, q2⟩ := h2 (by rw [← HL.out]; omega)
      have l1 := q1.lt (by omega)
      have l2 := q2.lt (by rw [← HL.out]; omega)
      have d1 := q1.at (i := xs.length - 1 - k) (by omega)
      have d2 := q2.at (i := xs.length - 1 - k) (by rw [← HL.out]; omega)
      have x0 : (0 : Int) ≤ (xs.length : Int) - 1 - k := by omega
      have x1 : ((xs.length : Int) - 1 - k).toNat = xs.length - 1 - k := by omega
      by_cases he : nth xs (xs.length - 1 - k) = nth ys (xs.length - 1 - k)
      · have HE : Hid (nth xs (xs.length - 1 - k) = nth ys (xs.length - 1 - k)) := he
        rw [← he] at d2
        clear he
        go_wp2_with fail
        go_quiet (fail)
        go_wp2_with fail
        go_quiet (fail)
        go_wp2
        go_roundw
        case rel => exact ⟨k + 1, by omega, by congr 1; omega, drop_more hlt HL.out HD.out HE.out, _, rfl⟩
        case measure => simp [intOf]; omega
      · rcases Int.lt_or_gt_of_ne he with hl | hl
        · have R : Hid (cmp3 (val xs) (val ys) = -1) := cmp3_lt (top_lt hx hy HL.out (xs.length - 1 - k) (by omega) (by have := HD.out; rwa [show xs.length - k = xs.length - 1 - k + 1 from by omega] at this) hl)
          go_wp2_with fail
          go_quiet (fail)
          go_wp2
          go_ret
          exact ⟨by rw [R.out]; simp, (by repeat (first | exact Below.refl _ _ | refine below_drewN ?_ _))⟩
        · have R : Hid (cmp3 (val xs) (val ys) = 1) := cmp3_gt (top_lt hy hx HL.out.symm (xs.length - 1 - k) (by rw [← HL.out]; omega) (by have := HD.out; rw [show xs.length - k = xs.length - 1 - k + 1 from by omega] at this; exact this.symm) hl)
          have hl2 : ¬ nth xs (xs.length - 1 - k) < nth ys (xs.length - 1 - k) := by omega
          go_wp2_with fail
          go_quiet (fail)
          go_wp2_with fail
          go_quiet (fail)
          go_wp2
          go_ret
          exact ⟨by rw [R.out]; simp, (by repeat (first | exact Below.refl _ _ | refine below_drewN ?_ _))⟩
    · have R : Hid (cmp3 (val xs) (val ys) = 0) := by
        have ek : k = xs.length := by omega
        have := HD.out
        rw [ek, Nat.sub_self, List.drop_zero, List.drop_zero] at this
        exact cmp3_eq (by rw [this])
      go_wp2
      go_ret
      exact ⟨by rw [R.out]; rfl, (by repeat (first | exact Below.refl _ _ | refine below_drewN ?_ _))⟩
set_option maxRecDepth 100000 in
theorem cmp_lens (a1 a2 : Option Addr) (c1 c2 n m : Nat) (w : World) (hne : n ≠ m) :
    Calls Tryz.prog 43 #[.slice a1 n c1, .slice a2 m c2] w fun e w' => e = .returned (.int .i64 (if n < m then -1 else 1)) ∧ Below w.heap.size w w' := by
  have h1 : ((n : Int) != (m : Int)) = true := by rw [bne_iff_ne]; omega
  by_cases h : n < m
  · go_enter Tryz.func43, Tryz.ntmps43
    go_wp2
    go_ret
    exact ⟨by simp, Below.refl _ _⟩
  · go_enter Tryz.func43, Tryz.ntmps43
    go_wp2
    go_ret
    exact ⟨by simp, Below.refl _ _⟩
/-- (Nat).Cmp of the reference, of two numbers. -/
theorem Cmp_any (v1 v2 : Value) (xs ys : List Int) (w : World) (h1 : Rd w v1 xs) (h2 : Rd w v2 ys) (n1 : Nm xs) (n2 : Nm ys) (l1 : xs.length ≤ 1099511627776) :
    Calls Tryz.prog 43 #[v1, v2] w fun e w' => e = .returned (.int .i64 (cmp3 (val xs) (val ys))) ∧ Below w.heap.size w w' := by
  obtain ⟨w1, a1, c1, rfl, _, _, g1⟩ := h1
  obtain ⟨w2, a2, c2, rfl, _, _, g2⟩ := h2
  by_cases h : xs.length = ys.length
  · rw [← h]; exact cmp_long a1 a2 c1 c2 xs ys w w1 w2 h l1 g1 g2
  · refine (cmp_lens a1 a2 c1 c2 xs.length ys.length w h).mono ?_
    rintro e w' ⟨rfl, hb⟩
    refine ⟨?_, hb⟩
    by_cases h' : xs.length < ys.length
    · rw [if_pos h', cmp3_lt (val_lt_of_length w1 w2 n2 h')]
    · rw [if_neg h', cmp3_gt (val_lt_of_length w2 w1 n1 (by omega))]
end Go.Proofs.YtiobnojcmeeikaaGreatDoor.L

namespace Go.Proofs.YtiobnojcmeeikaaGreatDoor.L
open Go.RowKit Tl

theorem pw_two (n : Nat) : pw n = 2 ^ (30 * n) := by
  induction n with
  | zero => rfl
  | succ n ih => rw [show 30 * (n + 1) = 30 * n + 30 from by omega, Int.pow_add, ← ih]; simp only [pw]; rw [Int.mul_comm]; rfl
/-- How the halves of the highest limb stand. -/
def Hv (t : Int) (j : Nat) (v : Int) : Prop := v = t / 2 ^ j ∧ (j = 0 ∨ 0 < t / 2 ^ (j - 1)) ∧ j ≤ 30
theorem Hv.next {t : Int} {j : Nat} {v : Int} (h : Hv t j v) (hv : 0 < v) (ht : t < 1073741824) : Hv t (j + 1) (v / 2) := by
  obtain ⟨rfl, _, c⟩ := h
  refine ⟨?_, Or.inr (by simpa using hv), ?_⟩
  · rw [Int.pow_succ, ← Int.ediv_ediv_of_nonneg (Int.le_of_lt (Int.pow_pos (by decide)))]
  · by_cases hj : j = 30
    · subst hj
      rw [show (2 : Int) ^ 30 = 1073741824 from by decide] at hv
      omega
    · omega
theorem Hv.done {xs : List Int} {j : Nat} {v : Int} (hx : Wd xs) (n : Nm xs) (ne : 0 < xs.length) (h : Hv (nth xs (xs.length - 1)) j v) (hv : ¬ 0 < v) :
    val xs < 2 ^ (30 * (xs.length - 1) + j) ∧ 1 ≤ 30 * (xs.length - 1) + j ∧ (2 : Int) ^ (30 * (xs.length - 1) + j - 1) ≤ val xs := by
  have ht := nm_top hx n ne
  have e := val_top ne
  have v0 := val_nonneg (hx.take (xs.length - 1))
  have v1 := val_lt (hx.take (xs.length - 1))
  rw [List.length_take, Nat.min_eq_left (by omega)] at v1
  have p := pw_pos (xs.length - 1)
  obtain ⟨rfl, b, _⟩ := h
  generalize nth xs (xs.length - 1) = t at *
  have pj : (0 : Int) < 2 ^ j := Int.pow_pos (by decide)
  have t1 : t < 2 ^ j := by
    have h0 : t / 2 ^ j = 0 := by have := Int.ediv_nonneg (Int.le_of_lt ht) (Int.le_of_lt pj); omega
    have := Int.lt_ediv_add_one_mul_self t pj
    rw [h0] at this; omega
  have j1 : j ≠ 0 := by rintro rfl; simp at t1; omega
  have t2 : (2 : Int) ^ (j - 1) ≤ t := by
    rcases b with b | b
    · exact absurd b j1
    · have := Int.ediv_mul_le t (show (2 : Int) ^ (j - 1) ≠ 0 from by have : (0 : Int) < 2 ^ (j - 1) := Int.pow_pos (by decide); omega)
      have q : (0 : Int) < 2 ^ (j - 1) := Int.pow_pos (by decide)
      have := Int.mul_le_mul_of_nonneg_right (show 1 ≤ t / 2 ^ (j - 1) by omega) (Int.le_of_lt q)
      omega
  refine ⟨?_, by omega, ?_⟩
  · rw [Int.pow_add, ← pw_two]
    have := Int.mul_le_mul_of_nonneg_left (show t + 1 ≤ 2 ^ j by omega) (Int.le_of_lt p)
    grind
  · rw [show 30 * (xs.length - 1) + j - 1 = 30 * (xs.length - 1) + (j - 1) from by omega, Int.pow_add, ← pw_two]
    have := Int.mul_le_mul_of_nonneg_left t2 (Int.le_of_lt p)
    omega
end Go.Proofs.YtiobnojcmeeikaaGreatDoor.L

namespace Go.Proofs.YtiobnojcmeeikaaGreatDoor.L
open Go.RowKit Tl

end Go.Proofs.YtiobnojcmeeikaaGreatDoor.L

namespace Go.Proofs.YtiobnojcmeeikaaGreatDoor.L
open Go.RowKit Tl

theorem take_zero (n k : Nat) : val ((List.replicate n (0 : Int)).take k) = 0 := by
  rw [List.take_replicate]
  generalize min k n = m
  induction m with
  | zero => rfl
  | succ m ih => rw [List.replicate_succ]; simp [val, ih]
theorem shl_step {X xs : List Int} {q k r : Nat} {cy P S : Int} (hX : Wd X) (hk : k + q < X.length) (hP : P = nth xs k * 2 ^ r) (hS : S = cy + P) (b0 : 0 ≤ nth xs k) (b1 : nth xs k < 1073741824) (c0 : 0 ≤ cy) (c1 : cy < 2 ^ r) (hp0 : (0 : Int) < 2 ^ r)
    (hv : val (X.take (q + k)) + pw (q + k) * cy = pw q * 2 ^ r * val (xs.take k)) :
    Wd (X.set (k + q) (S % 1073741824)) ∧ val ((X.set (k + q) (S % 1073741824)).take (q + (k + 1))) + pw (q + (k + 1)) * (S / 1073741824) = pw q * 2 ^ r * val (xs.take (k + 1)) ∧ 0 ≤ S / 1073741824 ∧ S / 1073741824 < 2 ^ r := by
  have P0 : 0 ≤ P := by rw [hP]; exact Int.mul_nonneg b0 (Int.le_of_lt hp0)
  have P1 : P ≤ 1073741823 * 2 ^ r := by rw [hP]; exact Int.mul_le_mul_of_nonneg_right (by omega) (Int.le_of_lt hp0)
  refine ⟨hX.set _ (by omega) (by omega), ?_, by omega, by omega⟩
  rw [show q + (k + 1) = k + q + 1 from by omega, (Part.refl hX (k + q)).val hk, val_more xs k]
  have e : S = S % 1073741824 + 1073741824 * (S / 1073741824) := by omega
  rw [show q + k = k + q from by omega] at hv
  have e2 : pw (k + q) = pw q * pw k := by rw [Nat.add_comm, pw_add]
  simp only [pw]
  generalize S % 1073741824 = a at *
  generalize S / 1073741824 = b at *
  generalize (2 : Int) ^ r = t at *
  rw [e2] at hv ⊢
  grind
theorem shl_end {X xs : List Int} {n q r : Nat} {cy : Int} (hX : Wd X) (hl : X.length = xs.length + q + 1) (c0 : 0 ≤ cy) (c1 : cy < 2 ^ r) (hp : (2 : Int) ^ r ≤ 536870912) (hq : (n : Int) / 30 = q) (hr : (n : Int) % 30 = r)
    (hv : val (X.take (q + xs.length)) + pw (q + xs.length) * cy = pw q * 2 ^ r * val (xs.take xs.length)) :
    Wd (X.set (xs.length + q) cy) ∧ val (X.set (xs.length + q) cy) = val xs * 2 ^ n := by
  refine ⟨hX.set _ c0 (by omega), ?_⟩
  have e := (Part.refl hX (xs.length + q)).val (by omega) cy
  rw [List.take_of_length_le (by simp; omega)] at e
  rw [e, show xs.length + q = q + xs.length from by omega, hv, List.take_length, pw_two, show n = 30 * q + r from by omega, Int.pow_add]
  grind
set_option maxHeartbeats 1600000 in
set_option maxRecDepth 100000 in
/-- (Nat).Shl of the reference. -/
theorem shl_some (a1 : Option Addr) (c1 : Nat) (xs : List Int) (n q r : Nat) (w : World) (hx : Wd xs) (h1 : 0 < xs.length → ∃ b o, a1 = some ⟨b, o, none⟩ ∧ Cells w b o xs) (l1 : xs.length ≤ 549755813888) (ne : 0 < xs.length) (hn : n ≤ 1099511627776) (hq : (n : Int) / 30 = q) (hr : (n : Int) % 30 = r) :
    Calls Tryz.prog 29 #[.slice a1 xs.length c1, .int .i64 n] w fun e w' => ∃ v zs, e = .returned v ∧ Rd w' v zs ∧ Nm zs ∧ val zs = val xs * 2 ^ n ∧ Below w.heap.size w w' := by
  have hs : Hid (∀ w', Below w.heap.size w w' → ∃ b o, a1 = some ⟨b, o, none⟩ ∧ Cells w' b o xs) := fun w' h => by obtain ⟨b, o, e, c⟩ := h1 ne; exact ⟨b, o, e, c.grow h⟩
  clear h1
  have q1 : q ≤ 36650387593 := by omega
  have r1 : r < 30 := by omega
  have hz : ((xs.length : Int) == 0) = false := by rw [beq_eq_false_iff_ne]; omega
  have hp : ((2 : Int) ^ r) ≤ 536870912 := by
    have h : 2 ^ r ≤ 2 ^ 29 := Nat.pow_le_pow_right (by decide) (by omega)
    have e : ((2 ^ r : Nat) : Int) = (2 : Int) ^ r := by simp
    rw [← e]; omega
  have hp0 : (0 : Int) < 2 ^ r := Int.pow_pos (by decide)
  obtain ⟨N, hN⟩ : ∃ N, N = xs.length + q + 1 := ⟨_, rfl⟩
  have HN : Hid (N = xs.length + q + 1) := hN
  have nb : N ≤ 600000000000 := by omega
  clear hN
  go_enter Tryz.func29, Tryz.ntmps29
  go_wp2_with (first
    | (at_make; refine wpList_make_words rfl _ _ rfl N _ _ rfl rfl (by have := HN.out; omega) (by have := HN.out; omega) (by omega) ?_; intro w1 k1 k2 k3 k4)
    | fail)
  go_loopw [6, 7] (fun c i wr => ∃ (k : Nat) (cy : Int) (X : List Int), k ≤ xs.length ∧ c = .int .i64 cy ∧ i = .int .i64 k ∧ 0 ≤ cy ∧ cy < 2 ^ r ∧ X.length = N ∧ Wd X ∧ val (X.take (q + k)) + pw (q + k) * cy = pw q * 2 ^ r * val (xs.take k) ∧ Cells wr w.heap.size 0 X ∧ Wr w.heap.size 0 N w1 wr) (fun _ i _ => xs.length - (intOf i).toNat)
  case atStart => exact ⟨0, 0, List.replicate N 0, Nat.zero_le _, rfl, rfl, by omega, hp0, by simp, wd_zero N, by rw [take_zero]; simp [val], k1, Wr.refl _ _ _ _⟩
  case round =>
    obtain ⟨k, cy, X, hk, rfl, rfl, c0, c1', hl, hX, hv, hc, hwr⟩ := hrel
    have HV : Hid (val (X.take (q + k)) + pw (q + k) * cy = pw q * 2 ^ r * val (xs.take k)) := hv
    clear hv
    have hb := k3.trans (hwr.below (B := w.heap.size) (Nat.le_refl _) (by omega))
    have hN2 : xs.length + q < N := by have := HN.out; omega
    by_cases hlt : k < xs.length
    · have kx := hc.at (i := k + q) (by omega)
      have kf := ((k2.wr hwr).free 0 N) (k + q) (by omega)
      rw [Nat.zero_add] at kx kf
      have bx := nth_bd hx k
      obtain ⟨b1, o1, rfl, q1⟩ := hs.out _ hb
      have d1 := q1.at (i := k) hlt
      obtain ⟨P, hP⟩ : ∃ P, nth xs k * 2 ^ r = P := ⟨_, rfl⟩
      obtain ⟨S, hS⟩ : ∃ S, cy + P = S := ⟨_, rfl⟩
      have pb : 0 ≤ P ∧ P ≤ 576460751766552576 := by
        rw [← hP]
        refine ⟨Int.mul_nonneg bx.1 (Int.le_of_lt hp0), ?_⟩
        have a := Int.mul_le_mul_of_nonneg_left hp bx.1
        omega
      have R : Hid _ := shl_step hX (by omega) hP.symm hS.symm bx.1 bx.2 c0 c1' hp0 HV.out
      have w1' : IntKind.i64.wrap (nth xs k * 2 ^ r) = P := by rw [hP]; exact wrap_self _ (by omega) (by omega)
      have w2' : IntKind.i64.wrap (cy + P) = S := by rw [hS]; exact wrap_self _ (by omega) (by omega)
      have s0 : 0 ≤ S := by omega
      have s1 : S ≤ 576460752303423488 := by omega
      clear hP hS
      go_wp2
      go_roundw
      case rel => exact ⟨k + 1, _, _, by omega, rfl, by go_num, R.out.2.2.1, R.out.2.2.2, by simp [hl], R.out.1, R.out.2.1, by simpa using hc.set (k + q) (by omega) _, by simpa using hwr.setCell (k + q) (by omega) _⟩
      case measure => simp [intOf]; omega
    · have ek : k = xs.length := by omega
      subst ek
      have kx := hc.at (i := xs.length + q) (by omega)
      have kf := ((k2.wr hwr).free 0 N) (xs.length + q) (by omega)
      rw [Nat.zero_add] at kx kf
      have R : Hid _ := shl_end hX (by rw [hl]; exact HN.out) c0 c1' hp hq hr HV.out
      have c2' : cy < 1073741824 := by omega
      clear HV
      go_wp2_with (first
        | (go_at_call 45; refine (norm_rd _ _ _ (X.set (xs.length + q) cy) _ (by simp [hl]) R.out.1 (by simp [hl]) (by omega) (fun _ => ⟨_, _, rfl, by simpa using hc.set (xs.length + q) (by omega) cy⟩)).mono ?_; rintro e w' ⟨n, zs, rfl, hrd, hnm, hvz, rfl⟩; have hvz' : Hid _ := hvz.trans R.out.2; clear hvz)
        | fail)
      go_ret
      exact ⟨_, zs, rfl, hrd, hnm, hvz'.out, k3.trans ((hwr.setCell (xs.length + q) (by omega) _).below (B := w.heap.size) (Nat.le_refl _) (by omega))⟩
set_option maxRecDepth 100000 in
theorem shl_none (a1 : Option Addr) (c1 : Nat) (n : Int) (w : World) :
    Calls Tryz.prog 29 #[.slice a1 0 c1, .int .i64 n] w fun e w' => e = .returned (.slice none 0 0) ∧ w' = w := by
  go_enter Tryz.func29, Tryz.ntmps29
  go_wp2
  go_ret
  exact ⟨rfl, rfl⟩
/-- Nought. -/
theorem Shl_any (v : Value) (xs : List Int) (n : Nat) (w : World) (h : Rd w v xs) (l1 : xs.length ≤ 549755813888) (hn : n ≤ 1099511627776) :
    Calls Tryz.prog 29 #[v, .int .i64 n] w fun e w' => ∃ r zs, e = .returned r ∧ Rd w' r zs ∧ Nm zs ∧ val zs = val xs * 2 ^ n ∧ Below w.heap.size w w' := by
  obtain ⟨hx, a1, c1, rfl, _, _, g1⟩ := h
  by_cases ne : 0 < xs.length
  · exact shl_some a1 c1 xs n (n / 30) (n % 30) w hx g1 l1 ne hn (by simp) (by simp)
  · have e0 : xs = [] := List.eq_nil_of_length_eq_zero (by omega)
    subst e0
    refine (shl_none a1 c1 n w).mono ?_
    rintro e w' ⟨rfl, rfl⟩
    exact ⟨_, [], rfl, rd_nil _, Or.inl rfl, by simp [val], Below.refl _ _⟩
end Go.Proofs.YtiobnojcmeeikaaGreatDoor.L

namespace Go.Proofs.YtiobnojcmeeikaaGreatDoor.L
open Go.RowKit Tl

end Go.Proofs.YtiobnojcmeeikaaGreatDoor.L

namespace Go.Proofs.YtiobnojcmeeikaaGreatDoor.L
open Go.RowKit Tl

/-- One limb of a division by one. -/
theorem quo_step {X xs : List Int} {j : Nat} {r d s : Int} (hX : Wd X) (hj : j < X.length) (hx : j < xs.length) (d1 : 0 < d) (r0 : 0 ≤ r) (r1 : r < d) (b0 : 0 ≤ nth xs j) (b1 : nth xs j < 1073741824) (hs : s = r * 1073741824 + nth xs j)
    (hv : val (X.drop (j + 1)) * d + r = val (xs.drop (j + 1))) :
    Wd (X.set j (s / d)) ∧ val ((X.set j (s / d)).drop j) * d + s % d = val (xs.drop j) ∧ 0 ≤ s % d ∧ s % d < d := by
  have s0 : 0 ≤ s := by omega
  have e := Int.mul_ediv_add_emod s d
  have m0 := Int.emod_nonneg s (show d ≠ 0 by omega)
  have m1 := Int.emod_lt_of_pos s d1
  have q0 : 0 ≤ s / d := Int.ediv_nonneg s0 (by omega)
  have q1 : s / d < 1073741824 := by
    apply Int.ediv_lt_of_lt_mul d1
    have := Int.mul_le_mul_of_nonneg_right (show r + 1 ≤ d by omega) (show (0 : Int) ≤ 1073741824 by decide)
    rw [Int.mul_comm 1073741824 d]; omega
  refine ⟨hX.set j q0 q1, ?_, m0, m1⟩
  have eX : (X.set j (s / d)).drop j = s / d :: X.drop (j + 1) := by
    rw [drop_getD _ j (by simpa using hj), List.drop_set_of_lt (by omega)]
    congr 1
    exact nth_set_same X j _ hj
  rw [eX, drop_getD xs j hx]
  simp only [val]
  have hb : nth xs j = xs.getD j 0 := rfl
  rw [← hb]
  generalize s / d = a at *
  generalize s % d = b at *
  generalize val (X.drop (j + 1)) = u at *
  generalize val (xs.drop (j + 1)) = z at *
  grind
set_option maxHeartbeats 1600000 in
set_option maxRecDepth 100000 in
/-- (Nat).small of the reference: by one limb; the answer lies in a row of its own. -/
theorem small_new (v1 : Value) (xs : List Int) (d : Int) (w : World) (h1 : Rd w v1 xs) (l1 : xs.length ≤ 549755813888) (d1 : 0 < d) (d2 : d < 1073741824) :
    Calls Tryz.prog 46 #[v1, .int .i64 d] w fun e w' => ∃ n zs m, e = .returned (.tuple #[.slice (some ⟨w.heap.size, 0, none⟩) n xs.length, .int .i64 m]) ∧ Rd w' (.slice (some ⟨w.heap.size, 0, none⟩) n xs.length) zs ∧ Nm zs ∧ val zs * d + m = val xs ∧ 0 ≤ m ∧ m < d ∧ Below w.heap.size w w' := by
  obtain ⟨hx, a1, c1, rfl, _, _, g1⟩ := h1
  have hs : Hid (∀ w', Below w.heap.size w w' → 0 < xs.length → ∃ b o, a1 = some ⟨b, o, none⟩ ∧ Cells w' b o xs) := fun w' h l => by obtain ⟨b, o, e, c⟩ := g1 l; exact ⟨b, o, e, c.grow h⟩
  clear g1
  go_enter Tryz.func46, Tryz.ntmps46
  go_wp2_with (first
    | (at_make; refine wpList_make_words rfl _ _ rfl xs.length _ _ rfl rfl rfl rfl (by omega) ?_; intro w1 k1 k2 k3 k4)
    | fail)
  go_loopw [7, 8] (fun c i wr => ∃ (j : Nat) (r : Int) (X : List Int), j ≤ xs.length ∧ c = .int .i64 r ∧ i = .int .i64 ((j : Int) - 1) ∧ 0 ≤ r ∧ r < d ∧ X.length = xs.length ∧ Wd X ∧ val (X.drop j) * d + r = val (xs.drop j) ∧ Cells wr w.heap.size 0 X ∧ Wr w.heap.size 0 xs.length w1 wr) (fun _ i _ => (intOf i + 1).toNat)
  case atStart => exact ⟨xs.length, 0, List.replicate xs.length 0, Nat.le_refl _, rfl, by go_num, by omega, d1, by simp, wd_zero _, by simp [val], k1, Wr.refl _ _ _ _⟩
  case round =>
    obtain ⟨j, r, X, hj, rfl, rfl, r0, r1, hl, hX, hv, hc, hwr⟩ := hrel
    have HV : Hid (val (X.drop j) * d + r = val (xs.drop j)) := hv
    clear hv
    have hb := k3.trans (hwr.below (B := w.heap.size) (Nat.le_refl _) (by omega))
    by_cases hlt : 0 < j
    · obtain ⟨i, rfl⟩ : ∃ i, j = i + 1 := ⟨j - 1, by omega⟩
      have kx := hc.at (i := i) (by omega)
      have kf := ((k2.wr hwr).free 0 xs.length) i (by omega)
      rw [Nat.zero_add] at kx kf
      have bx := nth_bd hx i
      obtain ⟨b1, o1, rfl, q1⟩ := hs.out _ hb (by omega)
      have e1 := q1.at (i := i) (by omega)
      obtain ⟨S, hS⟩ : ∃ S, r * 1073741824 + nth xs i = S := ⟨_, rfl⟩
      have R : Hid _ := quo_step hX (by omega) (by omega) d1 r0 r1 bx.1 bx.2 hS.symm HV.out
      have p1 : IntKind.i64.wrap (r * 1073741824) = r * 1073741824 := wrap_self _ (by omega) (by omega)
      have p2 : IntKind.i64.wrap (r * 1073741824 + nth xs i) = S := by rw [hS]; exact wrap_self _ (by omega) (by omega)
      have s0 : 0 ≤ S := by omega
      have s1 : S ≤ 1152921504606846976 := by omega
      have t1 : ((i : Int) + 1 - 1) = i := by omega
      have u1 : S.tdiv d = S / d := Int.tdiv_eq_ediv_of_nonneg s0
      have u2 : S.tmod d = S % d := Int.tmod_eq_emod_of_nonneg s0
      have u3 : IntKind.i64.wrap (S / d) = S / d := wrap_self _ (by have := Int.ediv_nonneg s0 (Int.le_of_lt d1); omega) (by have := Int.ediv_le_self d s0; omega)
      have nz : (d == 0) = false := by rw [beq_eq_false_iff_ne]; omega
      have nz2 : ¬ d = 0 := by omega
      clear hS
      go_wp2
      go_roundw
      case rel => exact ⟨i, _, _, by omega, rfl, by go_num, R.out.2.2.1, R.out.2.2.2, by simp [hl], R.out.1, R.out.2.1, by simpa using hc.set i (by omega) _, by simpa using hwr.setCell i (by omega) _⟩
      case measure => simp [intOf]
    · have ek : j = 0 := by omega
      subst ek
      have Rv : Hid (val X * d + r = val xs) := by have := HV.out; rw [List.drop_zero, List.drop_zero] at this; exact this
      clear HV
      go_wp2_with fail
      refine (norm_rd _ _ _ X wr hl.symm hX (by omega) (by omega) (fun _ => ⟨_, _, rfl, hc⟩)).mono ?_
      rintro e w' ⟨n, zs, rfl, hrd, hnm, hvz, rfl⟩
      have hvz' : Hid (val zs * d + r = val xs) := by have := Rv.out; rw [← hvz] at this; exact this
      clear hvz
      go_wp2
      exact bodyPost_ret (v := .tuple #[.slice (some ⟨w.heap.size, 0, none⟩) n xs.length, .int .i64 r]) (by simp [results, Tryz.results46, go_sem]) rfl ⟨_, zs, r, rfl, hrd, hnm, hvz'.out, r0, r1, hb⟩
theorem small_any (v1 : Value) (xs : List Int) (d : Int) (w : World) (h1 : Rd w v1 xs) (l1 : xs.length ≤ 549755813888) (d1 : 0 < d) (d2 : d < 1073741824) :
    Calls Tryz.prog 46 #[v1, .int .i64 d] w fun e w' => ∃ r zs m, e = .returned (.tuple #[r, .int .i64 m]) ∧ Rd w' r zs ∧ Nm zs ∧ val zs * d + m = val xs ∧ 0 ≤ m ∧ m < d ∧ Below w.heap.size w w' := by
  refine (small_new v1 xs d w h1 l1 d1 d2).mono ?_
  rintro e w' ⟨n, zs, m, he, hr⟩
  exact ⟨_, zs, m, he, hr⟩
end Go.Proofs.YtiobnojcmeeikaaGreatDoor.L

namespace Go.Proofs.YtiobnojcmeeikaaGreatDoor.L
open Go.RowKit Tl

end Go.Proofs.YtiobnojcmeeikaaGreatDoor.L

namespace Go.Proofs.YtiobnojcmeeikaaGreatDoor.L
open Go.RowKit Tl

/-- append(l, y), l nil or a row of the call's own. -/
theorem wpList_push {w : World} {ops : Array Oper} {rest : List Oper} {o : Oper} {a : Act} {Q : Exit → Act → World → Prop} (hgd : o.guard = none) (s x : Operand)
    (ho : o.op = .call { callee := .builtin .append, args := #[s, x], argTypes := #[46, 46] })
    (v : Value) (Y : List Int) (hs : a.eval s = v) (base : Nat) (hown : w.ownsRow base 3 1 v Y.length (Y.map (Value.int .i64))) (hL : Y.length ≤ 1099511627776)
    (ad c : Nat) (y : Int) (hx : a.eval x = .slice (some ⟨ad, 0, none⟩) 1 c) (hn : w.cell? ⟨ad, 0, none⟩ = some (.int .i64 y)) (hbase : base ≤ w.heap.size)
    (h : ∀ v' w', w'.ownsRow base 3 1 v' (Y ++ [y]).length ((Y ++ [y]).map (Value.int .i64)) → Below base w w' → wpList Tryz.prog ops Q rest (a.put o.dst v') w') : wpList Tryz.prog ops Q (o :: rest) a w := by
  obtain ⟨i, hi, hz0, hz1, hz2⟩ := info_parts Tryz.infoU
  refine wpList_append_own w hgd s x 46 ho base 3 i (.int .i64 0) 1 8 Tryz.underlying46 hi hz0 hz1 hz2 rfl (by decide) v Y.length _ hs hown ⟨ad, 0, none⟩ 1 c [.int .i64 y] hx rfl ?_ (by intro u hu; simp at hu; subst hu; rfl) (by unfold maxLen; omega) (by omega) hbase ?_
  · intro j u hj
    match j, hj with
    | 0, hj => simp at hj; subst hj; simpa [Addr.add] using hn
  · intro v' w' hown' hgr _
    refine h v' w' (by simpa using hown') ⟨hgr.os, hgr.tape, hgr.output, hgr.size, fun k hk => hgr.block k (by omega) ?_⟩
    obtain ⟨_, hr⟩ := hown
    rcases hr with ⟨rfl, _⟩ | ⟨g, cap, cur, rfl, hb, _⟩
    · simp [Value.ownBlock]
    · simp [Value.ownBlock]; omega
end Go.Proofs.YtiobnojcmeeikaaGreatDoor.L
