import Derived.Test.YtebilgnmnambnaaGreatDoorProg
import Derived.Test.YtebilgnmnambnaaGreatDoorPart02
import Derived.Laws.CopyOwn
import Derived.Laws.AppendOwn
import Derived.Test.YtebilgnmnambnaaGreatDoorPart03

namespace Go.Proofs.YtebilgnmnambnaaGreatDoor.L
open Go.RowKit Tl
theorem take_less (xs : List Int) (k : Nat) (h0 : 0 < k) (hk : k ≤ xs.length) (h : nth xs (k - 1) = 0) : val (xs.take k) = val (xs.take (k - 1)) := by
  have := val_take_succ xs (k - 1) (by omega)
  rw [Nat.sub_add_cancel h0] at this
  unfold nth at h
  rw [this, h]; simp
theorem nm_take (xs : List Int) (k : Nat) (h0 : 0 < k) (hk : k ≤ xs.length) (h : ¬ nth xs (k - 1) = 0) : Nm (xs.take k) := by
  refine Or.inr ?_
  rw [List.length_take, Nat.min_eq_left hk]
  have := nth_take xs k (k - 1) (by omega)
  unfold nth at h this
  rw [this]; exact h
set_option maxHeartbeats 400000 in
theorem norm_any (a : Option Addr) (xs : List Int) (cap : Nat) (w : World) (hl : xs.length ≤ cap) (hcap : cap ≤ 9223372036854775807) (ha : 0 < xs.length → ∃ b o, a = some ⟨b, o, none⟩ ∧ Cells w b o xs) :
    Calls Tryz.prog 141 #[.slice a xs.length cap] w fun e w' => ∃ n, n ≤ xs.length ∧ e = .returned (.slice a n cap) ∧ Nm (xs.take n) ∧ val (xs.take n) = val xs ∧ w' = w := by
  go_enter Tryz.func141, Tryz.ntmps141
  go_wp2
  go_loop [3] (fun t => ∃ k : Nat, k ≤ xs.length ∧ t = .int .i64 k ∧ val (xs.take k) = val xs) (fun t => (intOf t).toNat)
  case atStart => exact ⟨xs.length, Nat.le_refl _, rfl, by rw [List.take_length]⟩
  case round =>
    obtain ⟨k, hk, rfl, hv⟩ := hrel
    have HV : Hid (val (xs.take k) = val xs) := hv
    clear hv
    by_cases h0 : k = 0
    · subst h0
      go_wp2
      go_ret
      exact ⟨0, by omega, rfl, by simp [Nm], HV.out, rfl⟩
    · obtain ⟨b, o, rfl, hc⟩ := ha (by omega)
      have hb := hc.lt (by omega)
      have hc1 := hc.at (i := k - 1) (by omega)
      by_cases hz : nth xs (k - 1) = 0
      · rw [hz] at hc1
        have HZ : Hid (nth xs (k - 1) = 0) := hz
        clear hz
        go_wp2
        go_round
        case rel => exact ⟨k - 1, by omega, by go_num, by rw [← HV.out]; exact (take_less xs k (by omega) (by omega) HZ.out).symm⟩
        case measure => simp [intOf]; omega
      · go_wp2
        go_ret
        exact ⟨k, by omega, rfl, nm_take xs k (by omega) (by omega) hz, HV.out, rfl⟩
theorem norm_rd (a : Option Addr) (m cap : Nat) (xs : List Int) (w : World) (em : m = xs.length) (hw : Wd xs) (hl : xs.length ≤ cap) (hcap : cap ≤ 9223372036854775807) (ha : 0 < xs.length → ∃ b o, a = some ⟨b, o, none⟩ ∧ Cells w b o xs) :
    Calls Tryz.prog 141 #[.slice a m cap] w fun e w' => ∃ n zs, e = .returned (.slice a n cap) ∧ Rd w (.slice a n cap) zs ∧ Nm zs ∧ val zs = val xs ∧ w' = w := by
  subst em
  refine (norm_any a xs cap w hl hcap ha).mono ?_
  rintro e w' ⟨n, hn, rfl, hnm, hv, hb⟩
  refine ⟨n, xs.take n, rfl, ⟨hw.take n, a, cap, ?_, ?_, hcap, ?_⟩, hnm, hv, hb⟩
  · rw [List.length_take, Nat.min_eq_left hn]
  · rw [List.length_take]; omega
  · intro l
    rw [List.length_take] at l
    obtain ⟨b, o, e, c⟩ := ha (by omega)
    exact ⟨b, o, e, c.take n⟩
end Go.Proofs.YtebilgnmnambnaaGreatDoor.L

namespace Go.Proofs.YtebilgnmnambnaaGreatDoor.L
open Go.RowKit Tl
theorem Tryz.infoU : (Tryz.prog.info? 3).map (fun i => (i.zero, i.size, i.bytes)) = some (some (.int .i64 0), 1, 8) := by kernel_rfl
theorem nth_replicate (n i : Nat) : nth (List.replicate n 0) i = 0 := by
  unfold nth
  by_cases h : i < n
  · simp [List.getD_eq_getElem?_getD, h]
  · simp [List.getD_eq_getElem?_getD, Nat.le_of_not_lt h]
theorem wpList_make_words {w : World} {ops : Array Oper} {rest : List Oper} {o : Oper} {a : Act} {Q : Exit → Act → World → Prop}
    (hg : o.guard = none) (l c : Operand) (hop : o.op = Op.makeSlice 53 l c) (n : Nat) (L C : Int) (hl : a.eval l = .int .i64 L) (hc : a.eval c = .int .i64 C) (hL : L = (n : Int)) (hC : C = (n : Int)) (hn : n ≤ 35184372088832)
    (hK : ∀ w', Cells w' w.heap.size 0 (List.replicate n 0) → Own w' w.heap.size → Below w.heap.size w w' → w.heap.size < w'.heap.size → wpList Tryz.prog ops Q rest (a.put o.dst (.slice (some ⟨w.heap.size, 0, none⟩) n n)) w') :
    wpList Tryz.prog ops Q (o :: rest) a w := by
  obtain ⟨i, hi, hz0, hz1, hz2⟩ := info_parts Tryz.infoU
  refine wpList_make_full w hg l c 53 hop w.heap.size 3 i (.int .i64 0) 1 Tryz.underlying53 hi hz0 hz1 .i64 .i64 L C n hl hc hL hC (by rw [hz2]; omega) (by unfold maxLen; omega) (Nat.le_refl _) ?_
  intro w' ho hgr
  obtain ⟨_, h2⟩ := ho
  rcases h2 with ⟨e, _⟩ | ⟨g, cap, cur, e, hb, hh, h3, h4, h5, h6⟩
  · simp at e
  · simp only [Value.slice.injEq, Option.some.injEq, Addr.mk.injEq] at e
    obtain ⟨⟨e1, _, _⟩, _, e2⟩ := e
    subst e1
    have hbl : Below w.heap.size w w' := ⟨hgr.os, hgr.tape, hgr.output, hgr.size, fun k hk => hgr.block k hk (by simp)⟩
    refine hK w' ?_ ⟨cur, _, hh⟩ hbl (Own.lt ⟨cur, _, hh⟩)
    intro j hj
    rw [List.length_replicate] at hj
    simp only [Nat.mul_one] at h6 h5
    have hc6 : (Value.int .i64 0).cells = #[Value.int .i64 0] := rfl
    rw [hc6, toList_madeCells_one] at h6
    have h7 : cur.toList[j]? = some (.int .i64 0) := by
      have := congrArg (fun l : List Value => l[j]?) h6
      simp only [List.getElem?_take, hj, if_true, List.getElem?_replicate] at this
      exact this
    rw [nth_replicate]
    simp only [World.cell?, hh, Nat.zero_add]
    simpa using h7
end Go.Proofs.YtebilgnmnambnaaGreatDoor.L

namespace Go.Proofs.YtebilgnmnambnaaGreatDoor.L
open Go.RowKit Tl
theorem wrap_self (x : Int) (h0 : -9223372036854775808 ≤ x) (h1 : x < 9223372036854775808) : IntKind.i64.wrap x = x := by
  simp [IntKind.wrap, IntKind.bits, IntKind.signed]; omega
theorem wd_zero (n : Nat) : Wd (List.replicate n 0) := by
  intro x hx
  rw [List.eq_of_mem_replicate hx]; omega
theorem rd_nil (w : World) : Rd w (.slice none 0 0) [] := ⟨Wd.nil, none, 0, rfl, by simp, by simp, fun h => by simp at h⟩
theorem val_top {xs : List Int} (ne : 0 < xs.length) : val xs = val (xs.take (xs.length - 1)) + pw (xs.length - 1) * nth xs (xs.length - 1) := by
  have e := val_at xs (xs.length - 1) (by omega)
  rw [Nat.sub_add_cancel ne, List.take_length] at e; exact e
theorem nm_top {xs : List Int} (h : Wd xs) (n : Nm xs) (ne : 0 < xs.length) : 0 < nth xs (xs.length - 1) := by
  rcases n with rfl | n
  · simp at ne
  · have := (nth_bd h (xs.length - 1)).1; unfold nth at *; omega
theorem val_more (xs : List Int) (k : Nat) : val (xs.take (k + 1)) = val (xs.take k) + pw k * nth xs k := by
  by_cases h : k < xs.length
  · exact val_at xs k h
  · have e : nth xs k = 0 := by unfold nth; rw [List.getD_eq_getElem?_getD, List.getElem?_eq_none (Nat.le_of_not_lt h)]; rfl
    rw [List.take_of_length_le (by omega), List.take_of_length_le (by omega), e]; simp
theorem nth_out (xs : List Int) (k : Nat) (h : ¬ k < xs.length) : nth xs k = 0 := by
  unfold nth; rw [List.getD_eq_getElem?_getD, List.getElem?_eq_none (Nat.le_of_not_lt h)]; rfl
end Go.Proofs.YtebilgnmnambnaaGreatDoor.L

namespace Go.Proofs.YtebilgnmnambnaaGreatDoor.L
open Go.RowKit Tl
def cmp3 (x y : Int) : Int := if x < y then -1 else if y < x then 1 else 0
theorem cmp3_lt {x y : Int} (h : x < y) : cmp3 x y = -1 := by simp [cmp3, h]
theorem cmp3_gt {x y : Int} (h : y < x) : cmp3 x y = 1 := by unfold cmp3; rw [if_neg (by omega), if_pos h]
theorem cmp3_eq {x y : Int} (h : x = y) : cmp3 x y = 0 := by unfold cmp3; rw [if_neg (by omega), if_neg (by omega)]
theorem top_lt {xs ys : List Int} (hx : Wd xs) (hy : Wd ys) (hl : xs.length = ys.length) (j : Nat) (hj : j < xs.length) (hd : xs.drop (j + 1) = ys.drop (j + 1)) (h : nth xs j < nth ys j) : val xs < val ys := by
  have e1 := val_split xs j (by omega)
  have e2 := val_split ys j (by omega)
  rw [drop_getD xs j hj] at e1
  rw [drop_getD ys j (by omega), ← hd] at e2
  simp only [val] at e1 e2
  have b1 := val_lt (hx.take j)
  have b2 := val_nonneg (hy.take j)
  rw [List.length_take, Nat.min_eq_left (by omega)] at b1
  have h' : xs.getD j 0 + 1 ≤ ys.getD j 0 := h
  have b3 := Int.mul_le_mul_of_nonneg_left h' (Int.le_of_lt (pw_pos j))
  grind
theorem drop_more {xs ys : List Int} {k : Nat} (hk : k < xs.length) (hl : xs.length = ys.length) (hd : xs.drop (xs.length - k) = ys.drop (xs.length - k)) (he : nth xs (xs.length - 1 - k) = nth ys (xs.length - 1 - k)) : xs.drop (xs.length - (k + 1)) = ys.drop (xs.length - (k + 1)) := by
  have e : xs.length - (k + 1) = xs.length - 1 - k := by omega
  rw [e, drop_getD xs _ (by omega), drop_getD ys _ (by omega), show xs.length - 1 - k + 1 = xs.length - k from by omega, hd]
  exact congrArg (· :: _) he
set_option maxHeartbeats 1600000 in
set_option maxRecDepth 100000 in
theorem cmp_long (a1 a2 : Option Addr) (c1 c2 : Nat) (xs ys : List Int) (w : World) (hx : Wd xs) (hy : Wd ys) (hle : xs.length = ys.length) (hL : xs.length ≤ 1099511627776) (h1 : 0 < xs.length → ∃ b o, a1 = some ⟨b, o, none⟩ ∧ Cells w b o xs) (h2 : 0 < ys.length → ∃ b o, a2 = some ⟨b, o, none⟩ ∧ Cells w b o ys) :
    Calls Tryz.prog 98 #[.slice a1 xs.length c1, .slice a2 xs.length c2] w fun e w' => e = .returned (.int .i64 (cmp3 (val xs) (val ys))) ∧ Below w.heap.size w w' := by
  have HL : Hid (xs.length = ys.length) := hle
  clear hle
  go_enter Tryz.func98, Tryz.ntmps98
  go_wp2_with fail
  go_loopw [5] (fun i wr => ∃ (k : Nat), k ≤ xs.length ∧ i = .int .i64 ((xs.length : Int) - 1 - k) ∧ xs.drop (xs.length - k) = ys.drop (xs.length - k) ∧ ∃ m, wr = w.drewN m) (fun i _ => (intOf i + 1).toNat)
  case atStart => exact ⟨0, Nat.zero_le _, by go_num, by rw [Nat.sub_zero, List.drop_length, HL.out, List.drop_length], 0, rfl⟩
  case round =>
    obtain ⟨k, hk, rfl, hd, m, rfl⟩ := hrel
    have HD : Hid (xs.drop (xs.length - k) = ys.drop (xs.length - k)) := hd
    clear hd
    by_cases hlt : k < xs.length
    · obtain ⟨b1, o1, rfl, q1⟩ := h1 (by omega)
      obtain ⟨b2, o2, rfl, q2⟩ := h2 (by rw [← HL.out]; omega)
      have l1 := q1.lt (by omega)
      have l2 := q2.lt (by rw [← HL.out]; omega)
      have d1 := q1.at (i := xs.length - 1 - k) (by omega)
      have d2 := q2.at (i := xs.length - 1 - k) (by rw [← HL.out]; omega)
      have x0 : (0 : Int) ≤ (xs.length : Int) - 1 - k := by omega
      have x1 : ((xs.length : Int) - 1 - k).toNat = xs.length - 1 - k := by omega
      by_cases he : nth xs (xs.length - 1 - k) = nth ys (xs.length - 1 - k)
      · have HE : Hid (nth xs (xs.length - 1 - k) = nth ys (xs.length - 1 - k)) := he
        rw [← he] at d2
        clear he
        go_wp2_with fail
        go_quiet (fail)
        go_wp2_with fail
        go_quiet (fail)
        go_wp2
        go_roundw
        case rel => exact ⟨k + 1, by omega, by congr 1; omega, drop_more hlt HL.out HD.out HE.out, _, rfl⟩
        case measure => simp [intOf]; omega
      · rcases Int.lt_or_gt_of_ne he with hl | hl
        · have R : Hid (cmp3 (val xs) (val ys) = -1) := cmp3_lt (top_lt hx hy HL.out (xs.length - 1 - k) (by omega) (by have := HD.out; rwa [show xs.length - k = xs.length - 1 - k + 1 from by omega] at this) hl)
          go_wp2_with fail
          go_quiet (fail)
          go_wp2
          go_ret
          exact ⟨by rw [R.out]; simp, (by repeat (first | exact Below.refl _ _ | refine below_drewN ?_ _))⟩
        · have R : Hid (cmp3 (val xs) (val ys) = 1) := cmp3_gt (top_lt hy hx HL.out.symm (xs.length - 1 - k) (by rw [← HL.out]; omega) (by have := HD.out; rw [show xs.length - k = xs.length - 1 - k + 1 from by omega] at this; exact this.symm) hl)
          have hl2 : ¬ nth xs (xs.length - 1 - k) < nth ys (xs.length - 1 - k) := by omega
          go_wp2_with fail
          go_quiet (fail)
          go_wp2_with fail
          go_quiet (fail)
          go_wp2
          go_ret
          exact ⟨by rw [R.out]; simp, (by repeat (first | exact Below.refl _ _ | refine below_drewN ?_ _))⟩
    · have R : Hid (cmp3 (val xs) (val ys) = 0) := by
        have ek : k = xs.length := by omega
        have := HD.out
        rw [ek, Nat.sub_self, List.drop_zero, List.drop_zero] at this
        exact cmp3_eq (by rw [this])
      go_wp2
      go_ret
      exact ⟨by rw [R.out]; rfl, (by repeat (first | exact Below.refl _ _ | refine below_drewN ?_ _))⟩
set_option maxRecDepth 100000 in
theorem cmp_lens (a1 a2 : Option Addr) (c1 c2 n m : Nat) (w : World) (hne : n ≠ m) :
    Calls Tryz.prog 98 #[.slice a1 n c1, .slice a2 m c2] w fun e w' => e = .returned (.int .i64 (if n < m then -1 else 1)) ∧ Below w.heap.size w w' := by
  have h1 : ((n : Int) != (m : Int)) = true := by rw [bne_iff_ne]; omega
  by_cases h : n < m
  · go_enter Tryz.func98, Tryz.ntmps98
    go_wp2
    go_ret
    exact ⟨by simp, Below.refl _ _⟩
  · go_enter Tryz.func98, Tryz.ntmps98
    go_wp2
    go_ret
    exact ⟨by simp, Below.refl _ _⟩
theorem Cmp_any (v1 v2 : Value) (xs ys : List Int) (w : World) (h1 : Rd w v1 xs) (h2 : Rd w v2 ys) (n1 : Nm xs) (n2 : Nm ys) (l1 : xs.length ≤ 1099511627776) :
    Calls Tryz.prog 98 #[v1, v2] w fun e w' => e = .returned (.int .i64 (cmp3 (val xs) (val ys))) ∧ Below w.heap.size w w' := by
  obtain ⟨w1, a1, c1, rfl, _, _, g1⟩ := h1
  obtain ⟨w2, a2, c2, rfl, _, _, g2⟩ := h2
  by_cases h : xs.length = ys.length
  · rw [← h]; exact cmp_long a1 a2 c1 c2 xs ys w w1 w2 h l1 g1 g2
  · refine (cmp_lens a1 a2 c1 c2 xs.length ys.length w h).mono ?_
    rintro e w' ⟨rfl, hb⟩
    refine ⟨?_, hb⟩
    by_cases h' : xs.length < ys.length
    · rw [if_pos h', cmp3_lt (val_lt_of_length w1 w2 n2 h')]
    · rw [if_neg h', cmp3_gt (val_lt_of_length w2 w1 n1 (by omega))]
end Go.Proofs.YtebilgnmnambnaaGreatDoor.L

namespace Go.Proofs.YtebilgnmnambnaaGreatDoor.L
open Go.RowKit Tl
theorem pw_two (n : Nat) : pw n = 2 ^ (30 * n) := by
  induction n with
  | zero => rfl
  | succ n ih => rw [show 30 * (n + 1) = 30 * n + 30 from by omega, Int.pow_add, ← ih]; simp only [pw]; rw [Int.mul_comm]; rfl
end Go.Proofs.YtebilgnmnambnaaGreatDoor.L

namespace Go.Proofs.YtebilgnmnambnaaGreatDoor.L
open Go.RowKit Tl
theorem sum_step {X xs ys : List Int} {k : Nat} {c s : Int} (hX : Wd X) (hk : k < X.length) (hs : s = c + nth xs k + nth ys k)
    (hv : val (X.take k) + pw k * c = val (xs.take k) + val (ys.take k)) :
    Wd (X.set k (s % 1073741824)) ∧ val ((X.set k (s % 1073741824)).take (k + 1)) + pw (k + 1) * (s / 1073741824) = val (xs.take (k + 1)) + val (ys.take (k + 1)) := by
  refine ⟨hX.set k (by omega) (by omega), ?_⟩
  rw [(Part.refl hX k).val hk, val_more xs k, val_more ys k]
  simp only [pw]
  have e : s = s % 1073741824 + 1073741824 * (s / 1073741824) := by omega
  generalize s % 1073741824 = r at *
  generalize s / 1073741824 = q at *
  grind
theorem sum_end {X xs ys : List Int} {N : Nat} {c : Int} (hX : Wd X) (hx : Wd xs) (hy : Wd ys) (hl : X.length = N) (n1 : xs.length < N) (n2 : ys.length < N) (c0 : 0 ≤ c)
    (e : val (X.take N) + pw N * c = val (xs.take N) + val (ys.take N)) : val X = val xs + val ys := by
  rw [List.take_of_length_le (by omega), List.take_of_length_le (by omega), List.take_of_length_le (by omega)] at e
  have b1 := val_lt hx
  have b2 := val_lt hy
  have p1 := pw_mono (show xs.length ≤ N - 1 by omega)
  have p2 := pw_mono (show ys.length ≤ N - 1 by omega)
  have b4 := val_nonneg hX
  have pn : pw N = 1073741824 * pw (N - 1) := by
    obtain ⟨m, rfl⟩ : ∃ m, N = m + 1 := ⟨N - 1, by omega⟩
    rfl
  have b5 := pw_pos (N - 1)
  have hc : c = 0 := by
    by_cases h : c = 0
    · exact h
    · have := Int.mul_le_mul_of_nonneg_left (show 1 ≤ c by omega) (Int.le_of_lt (pw_pos N))
      omega
  rw [hc] at e; omega
set_option maxHeartbeats 1600000 in
set_option maxRecDepth 100000 in
theorem Add_any (v1 v2 : Value) (xs ys : List Int) (w : World) (h1 : Rd w v1 xs) (h2 : Rd w v2 ys) (l1 : xs.length ≤ 549755813888) (l2 : ys.length ≤ 549755813888) :
    Calls Tryz.prog 79 #[v1, v2] w fun e w' => ∃ r zs, e = .returned r ∧ Rd w' r zs ∧ Nm zs ∧ val zs = val xs + val ys ∧ Below w.heap.size w w' := by
  obtain ⟨hx, a1, c1, rfl, _, _, g1⟩ := h1
  obtain ⟨hy, a2, c2, rfl, _, _, g2⟩ := h2
  have hs : Hid (∀ w', Below w.heap.size w w' → 0 < xs.length → ∃ b o, a1 = some ⟨b, o, none⟩ ∧ Cells w' b o xs) := fun w' h l => by obtain ⟨b, o, e, c⟩ := g1 l; exact ⟨b, o, e, c.grow h⟩
  have hs2 : Hid (∀ w', Below w.heap.size w w' → 0 < ys.length → ∃ b o, a2 = some ⟨b, o, none⟩ ∧ Cells w' b o ys) := fun w' h l => by obtain ⟨b, o, e, c⟩ := g2 l; exact ⟨b, o, e, c.grow h⟩
  clear g1 g2
  have two : (xs.length < ys.length ∧ ∃ N, N = ys.length + 1) ∨ (¬ xs.length < ys.length ∧ ∃ N, N = xs.length + 1) := by
    by_cases h : xs.length < ys.length
    · exact Or.inl ⟨h, _, rfl⟩
    · exact Or.inr ⟨h, _, rfl⟩
  rcases two with ⟨hlt, N, hN⟩ | ⟨hlt, N, hN⟩
  all_goals
    have n1 : xs.length < N := by omega
    have n2 : ys.length < N := by omega
    have n3 : N ≤ 549755813889 := by omega
    have HN : Hid _ := hN
    clear hN
    go_enter Tryz.func79, Tryz.ntmps79
    go_wp2_with (first
      | (at_make; refine wpList_make_words rfl _ _ rfl N _ _ rfl rfl (by have := HN.out; omega) (by have := HN.out; omega) (by omega) ?_; intro w1 k1 k2 k3 k4)
      | fail)
    clear HN hlt
    go_loopw [6, 7] (fun c i wr => ∃ (k : Nat) (cy : Int) (X : List Int), k ≤ N ∧ c = .int .i64 cy ∧ i = .int .i64 k ∧ 0 ≤ cy ∧ cy ≤ 1 ∧ X.length = N ∧ Wd X ∧ val (X.take k) + pw k * cy = val (xs.take k) + val (ys.take k) ∧ Cells wr w.heap.size 0 X ∧ Wr w.heap.size 0 N w1 wr) (fun _ i _ => N - (intOf i).toNat)
    case atStart => exact ⟨0, 0, List.replicate N 0, Nat.zero_le _, rfl, rfl, by omega, by omega, by simp, wd_zero N, by simp [val, pw], k1, Wr.refl _ _ _ _⟩
    case round =>
      obtain ⟨k, cy, X, hk, rfl, rfl, c0, c1', hl, hX, hv, hc, hwr⟩ := hrel
      have HV : Hid (val (X.take k) + pw k * cy = val (xs.take k) + val (ys.take k)) := hv
      clear hv
      have hb := k3.trans (hwr.below (B := w.heap.size) (Nat.le_refl _) (by omega))
      by_cases hlt : k < N
      · have kx := hc.at (i := k) (by omega)
        have kf := ((k2.wr hwr).free 0 N) k hlt
        rw [Nat.zero_add] at kx kf
        have bx := nth_bd hx k
        have byy := nth_bd hy k
        by_cases e1 : k < xs.length
        · by_cases e2 : k < ys.length
          · skip
            obtain ⟨b1, o1, rfl, q1⟩ := hs.out _ hb (by omega)
            have d1 := q1.at (i := k) e1
            obtain ⟨b2, o2, rfl, q2⟩ := hs2.out _ hb (by omega)
            have d2 := q2.at (i := k) e2
            have R : Hid _ := sum_step (s := cy + nth xs k + nth ys k) hX (by omega) (rfl) HV.out
            go_wp2
            go_roundw
            case rel => exact ⟨k + 1, _, _, by omega, rfl, by go_num, by omega, by omega, by simp [hl], R.out.1, R.out.2, by simpa using hc.set k (by omega) _, by simpa using hwr.setCell k (by omega) _⟩
            case measure => simp [intOf]; omega
          · skip
            obtain ⟨b1, o1, rfl, q1⟩ := hs.out _ hb (by omega)
            have d1 := q1.at (i := k) e1
            have z2 : nth ys k = 0 := nth_out ys k e2
            have R : Hid _ := sum_step (s := cy + nth xs k) hX (by omega) (by omega) HV.out
            clear z2
            go_wp2
            go_roundw
            case rel => exact ⟨k + 1, _, _, by omega, rfl, by go_num, by omega, by omega, by simp [hl], R.out.1, R.out.2, by simpa using hc.set k (by omega) _, by simpa using hwr.setCell k (by omega) _⟩
            case measure => simp [intOf]; omega
        · by_cases e2 : k < ys.length
          · skip
            have z1 : nth xs k = 0 := nth_out xs k e1
            obtain ⟨b2, o2, rfl, q2⟩ := hs2.out _ hb (by omega)
            have d2 := q2.at (i := k) e2
            have R : Hid _ := sum_step (s := cy + nth ys k) hX (by omega) (by omega) HV.out
            clear z1
            go_wp2
            go_roundw
            case rel => exact ⟨k + 1, _, _, by omega, rfl, by go_num, by omega, by omega, by simp [hl], R.out.1, R.out.2, by simpa using hc.set k (by omega) _, by simpa using hwr.setCell k (by omega) _⟩
            case measure => simp [intOf]; omega
          · skip
            have z1 : nth xs k = 0 := nth_out xs k e1
            have z2 : nth ys k = 0 := nth_out ys k e2
            have R : Hid _ := sum_step (s := cy) hX (by omega) (by omega) HV.out
            clear z1
            clear z2
            go_wp2
            go_roundw
            case rel => exact ⟨k + 1, _, _, by omega, rfl, by go_num, by omega, by omega, by simp [hl], R.out.1, R.out.2, by simpa using hc.set k (by omega) _, by simpa using hwr.setCell k (by omega) _⟩
            case measure => simp [intOf]; omega
      · have ek : k = N := by omega
        subst ek
        have Rv : Hid (val X = val xs + val ys) := sum_end hX hx hy hl n1 n2 c0 HV.out
        clear HV
        go_wp2_with fail
        refine (norm_rd _ _ _ X wr hl.symm hX (by omega) (by omega) (fun _ => ⟨_, _, rfl, hc⟩)).mono ?_
        rintro e w' ⟨n, zs, rfl, hrd, hnm, hvz, rfl⟩
        have hvz' : Hid (val zs = val xs + val ys) := hvz.trans Rv.out
        clear hvz
        go_wp2
        go_ret
        exact ⟨_, zs, rfl, hrd, hnm, hvz'.out, hb⟩
end Go.Proofs.YtebilgnmnambnaaGreatDoor.L

namespace Go.Proofs.YtebilgnmnambnaaGreatDoor.L
open Go.RowKit Tl
theorem take_zero (n k : Nat) : val ((List.replicate n (0 : Int)).take k) = 0 := by
  rw [List.take_replicate]
  generalize min k n = m
  induction m with
  | zero => rfl
  | succ m ih => rw [List.replicate_succ]; simp [val, ih]
theorem shl_step {X xs : List Int} {q k r : Nat} {cy P S : Int} (hX : Wd X) (hk : k + q < X.length) (hP : P = nth xs k * 2 ^ r) (hS : S = cy + P) (b0 : 0 ≤ nth xs k) (b1 : nth xs k < 1073741824) (c0 : 0 ≤ cy) (c1 : cy < 2 ^ r) (hp0 : (0 : Int) < 2 ^ r)
    (hv : val (X.take (q + k)) + pw (q + k) * cy = pw q * 2 ^ r * val (xs.take k)) :
    Wd (X.set (k + q) (S % 1073741824)) ∧ val ((X.set (k + q) (S % 1073741824)).take (q + (k + 1))) + pw (q + (k + 1)) * (S / 1073741824) = pw q * 2 ^ r * val (xs.take (k + 1)) ∧ 0 ≤ S / 1073741824 ∧ S / 1073741824 < 2 ^ r := by
  have P0 : 0 ≤ P := by rw [hP]; exact Int.mul_nonneg b0 (Int.le_of_lt hp0)
  have P1 : P ≤ 1073741823 * 2 ^ r := by rw [hP]; exact Int.mul_le_mul_of_nonneg_right (by omega) (Int.le_of_lt hp0)
  refine ⟨hX.set _ (by omega) (by omega), ?_, by omega, by omega⟩
  rw [show q + (k + 1) = k + q + 1 from by omega, (Part.refl hX (k + q)).val hk, val_more xs k]
  have e : S = S % 1073741824 + 1073741824 * (S / 1073741824) := by omega
  rw [show q + k = k + q from by omega] at hv
  have e2 : pw (k + q) = pw q * pw k := by rw [Nat.add_comm, pw_add]
  simp only [pw]
  generalize S % 1073741824 = a at *
  generalize S / 1073741824 = b at *
  generalize (2 : Int) ^ r = t at *
  rw [e2] at hv ⊢
  grind
theorem shl_end {X xs : List Int} {n q r : Nat} {cy : Int} (hX : Wd X) (hl : X.length = xs.length + q + 1) (c0 : 0 ≤ cy) (c1 : cy < 2 ^ r) (hp : (2 : Int) ^ r ≤ 536870912) (hq : (n : Int) / 30 = q) (hr : (n : Int) % 30 = r)
    (hv : val (X.take (q + xs.length)) + pw (q + xs.length) * cy = pw q * 2 ^ r * val (xs.take xs.length)) :
    Wd (X.set (xs.length + q) cy) ∧ val (X.set (xs.length + q) cy) = val xs * 2 ^ n := by
  refine ⟨hX.set _ c0 (by omega), ?_⟩
  have e := (Part.refl hX (xs.length + q)).val (by omega) cy
  rw [List.take_of_length_le (by simp; omega)] at e
  rw [e, show xs.length + q = q + xs.length from by omega, hv, List.take_length, pw_two, show n = 30 * q + r from by omega, Int.pow_add]
  grind
set_option maxHeartbeats 1600000 in
set_option maxRecDepth 100000 in
theorem shl_some (a1 : Option Addr) (c1 : Nat) (xs : List Int) (n q r : Nat) (w : World) (hx : Wd xs) (h1 : 0 < xs.length → ∃ b o, a1 = some ⟨b, o, none⟩ ∧ Cells w b o xs) (l1 : xs.length ≤ 549755813888) (ne : 0 < xs.length) (hn : n ≤ 1099511627776) (hq : (n : Int) / 30 = q) (hr : (n : Int) % 30 = r) :
    Calls Tryz.prog 184 #[.slice a1 xs.length c1, .int .i64 n] w fun e w' => ∃ v zs, e = .returned v ∧ Rd w' v zs ∧ Nm zs ∧ val zs = val xs * 2 ^ n ∧ Below w.heap.size w w' := by
  have hs : Hid (∀ w', Below w.heap.size w w' → ∃ b o, a1 = some ⟨b, o, none⟩ ∧ Cells w' b o xs) := fun w' h => by obtain ⟨b, o, e, c⟩ := h1 ne; exact ⟨b, o, e, c.grow h⟩
  clear h1
  have q1 : q ≤ 36650387593 := by omega
  have r1 : r < 30 := by omega
  have hz : ((xs.length : Int) == 0) = false := by rw [beq_eq_false_iff_ne]; omega
  have hp : ((2 : Int) ^ r) ≤ 536870912 := by
    have h : 2 ^ r ≤ 2 ^ 29 := Nat.pow_le_pow_right (by decide) (by omega)
    have e : ((2 ^ r : Nat) : Int) = (2 : Int) ^ r := by simp
    rw [← e]; omega
  have hp0 : (0 : Int) < 2 ^ r := Int.pow_pos (by decide)
  obtain ⟨N, hN⟩ : ∃ N, N = xs.length + q + 1 := ⟨_, rfl⟩
  have HN : Hid (N = xs.length + q + 1) := hN
  have nb : N ≤ 600000000000 := by omega
  clear hN
  go_enter Tryz.func184, Tryz.ntmps184
  go_wp2_with (first
    | (at_make; refine wpList_make_words rfl _ _ rfl N _ _ rfl rfl (by have := HN.out; omega) (by have := HN.out; omega) (by omega) ?_; intro w1 k1 k2 k3 k4)
    | fail)
  go_loopw [6, 7] (fun c i wr => ∃ (k : Nat) (cy : Int) (X : List Int), k ≤ xs.length ∧ c = .int .i64 cy ∧ i = .int .i64 k ∧ 0 ≤ cy ∧ cy < 2 ^ r ∧ X.length = N ∧ Wd X ∧ val (X.take (q + k)) + pw (q + k) * cy = pw q * 2 ^ r * val (xs.take k) ∧ Cells wr w.heap.size 0 X ∧ Wr w.heap.size 0 N w1 wr) (fun _ i _ => xs.length - (intOf i).toNat)
  case atStart => exact ⟨0, 0, List.replicate N 0, Nat.zero_le _, rfl, rfl, by omega, hp0, by simp, wd_zero N, by rw [take_zero]; simp [val], k1, Wr.refl _ _ _ _⟩
  case round =>
    obtain ⟨k, cy, X, hk, rfl, rfl, c0, c1', hl, hX, hv, hc, hwr⟩ := hrel
    have HV : Hid (val (X.take (q + k)) + pw (q + k) * cy = pw q * 2 ^ r * val (xs.take k)) := hv
    clear hv
    have hb := k3.trans (hwr.below (B := w.heap.size) (Nat.le_refl _) (by omega))
    have hN2 : xs.length + q < N := by have := HN.out; omega
    by_cases hlt : k < xs.length
    · have kx := hc.at (i := k + q) (by omega)
      have kf := ((k2.wr hwr).free 0 N) (k + q) (by omega)
      rw [Nat.zero_add] at kx kf
      have bx := nth_bd hx k
      obtain ⟨b1, o1, rfl, q1⟩ := hs.out _ hb
      have d1 := q1.at (i := k) hlt
      obtain ⟨P, hP⟩ : ∃ P, nth xs k * 2 ^ r = P := ⟨_, rfl⟩
      obtain ⟨S, hS⟩ : ∃ S, cy + P = S := ⟨_, rfl⟩
      have pb : 0 ≤ P ∧ P ≤ 576460751766552576 := by
        rw [← hP]
        refine ⟨Int.mul_nonneg bx.1 (Int.le_of_lt hp0), ?_⟩
        have a := Int.mul_le_mul_of_nonneg_left hp bx.1
        omega
      have R : Hid _ := shl_step hX (by omega) hP.symm hS.symm bx.1 bx.2 c0 c1' hp0 HV.out
      have w1' : IntKind.i64.wrap (nth xs k * 2 ^ r) = P := by rw [hP]; exact wrap_self _ (by omega) (by omega)
      have w2' : IntKind.i64.wrap (cy + P) = S := by rw [hS]; exact wrap_self _ (by omega) (by omega)
      have s0 : 0 ≤ S := by omega
      have s1 : S ≤ 576460752303423488 := by omega
      clear hP hS
      go_wp2
      go_roundw
      case rel => exact ⟨k + 1, _, _, by omega, rfl, by go_num, R.out.2.2.1, R.out.2.2.2, by simp [hl], R.out.1, R.out.2.1, by simpa using hc.set (k + q) (by omega) _, by simpa using hwr.setCell (k + q) (by omega) _⟩
      case measure => simp [intOf]; omega
    · have ek : k = xs.length := by omega
      subst ek
      have kx := hc.at (i := xs.length + q) (by omega)
      have kf := ((k2.wr hwr).free 0 N) (xs.length + q) (by omega)
      rw [Nat.zero_add] at kx kf
      have R : Hid _ := shl_end hX (by rw [hl]; exact HN.out) c0 c1' hp hq hr HV.out
      have c2' : cy < 1073741824 := by omega
      clear HV
      go_wp2_with (first
        | (go_at_call 141; refine (norm_rd _ _ _ (X.set (xs.length + q) cy) _ (by simp [hl]) R.out.1 (by simp [hl]) (by omega) (fun _ => ⟨_, _, rfl, by simpa using hc.set (xs.length + q) (by omega) cy⟩)).mono ?_; rintro e w' ⟨n, zs, rfl, hrd, hnm, hvz, rfl⟩; have hvz' : Hid _ := hvz.trans R.out.2; clear hvz)
        | fail)
      go_ret
      exact ⟨_, zs, rfl, hrd, hnm, hvz'.out, k3.trans ((hwr.setCell (xs.length + q) (by omega) _).below (B := w.heap.size) (Nat.le_refl _) (by omega))⟩
set_option maxRecDepth 100000 in
theorem shl_none (a1 : Option Addr) (c1 : Nat) (n : Int) (w : World) :
    Calls Tryz.prog 184 #[.slice a1 0 c1, .int .i64 n] w fun e w' => e = .returned (.slice none 0 0) ∧ w' = w := by
  go_enter Tryz.func184, Tryz.ntmps184
  go_wp2
  go_ret
  exact ⟨rfl, rfl⟩
theorem Shl_any (v : Value) (xs : List Int) (n : Nat) (w : World) (h : Rd w v xs) (l1 : xs.length ≤ 549755813888) (hn : n ≤ 1099511627776) :
    Calls Tryz.prog 184 #[v, .int .i64 n] w fun e w' => ∃ r zs, e = .returned r ∧ Rd w' r zs ∧ Nm zs ∧ val zs = val xs * 2 ^ n ∧ Below w.heap.size w w' := by
  obtain ⟨hx, a1, c1, rfl, _, _, g1⟩ := h
  by_cases ne : 0 < xs.length
  · exact shl_some a1 c1 xs n (n / 30) (n % 30) w hx g1 l1 ne hn (by simp) (by simp)
  · have e0 : xs = [] := List.eq_nil_of_length_eq_zero (by omega)
    subst e0
    refine (shl_none a1 c1 n w).mono ?_
    rintro e w' ⟨rfl, rfl⟩
    exact ⟨_, [], rfl, rd_nil _, Or.inl rfl, by simp [val], Below.refl _ _⟩
end Go.Proofs.YtebilgnmnambnaaGreatDoor.L

namespace Go.Proofs.YtebilgnmnambnaaGreatDoor.L
open Go.RowKit Tl
theorem quo_step {X xs : List Int} {j : Nat} {r d s : Int} (hX : Wd X) (hj : j < X.length) (hx : j < xs.length) (d1 : 0 < d) (r0 : 0 ≤ r) (r1 : r < d) (b0 : 0 ≤ nth xs j) (b1 : nth xs j < 1073741824) (hs : s = r * 1073741824 + nth xs j)
    (hv : val (X.drop (j + 1)) * d + r = val (xs.drop (j + 1))) :
    Wd (X.set j (s / d)) ∧ val ((X.set j (s / d)).drop j) * d + s % d = val (xs.drop j) ∧ 0 ≤ s % d ∧ s % d < d := by
  have s0 : 0 ≤ s := by omega
  have e := Int.mul_ediv_add_emod s d
  have m0 := Int.emod_nonneg s (show d ≠ 0 by omega)
  have m1 := Int.emod_lt_of_pos s d1
  have q0 : 0 ≤ s / d := Int.ediv_nonneg s0 (by omega)
  have q1 : s / d < 1073741824 := by
    apply Int.ediv_lt_of_lt_mul d1
    have := Int.mul_le_mul_of_nonneg_right (show r + 1 ≤ d by omega) (show (0 : Int) ≤ 1073741824 by decide)
    rw [Int.mul_comm 1073741824 d]; omega
  refine ⟨hX.set j q0 q1, ?_, m0, m1⟩
  have eX : (X.set j (s / d)).drop j = s / d :: X.drop (j + 1) := by
    rw [drop_getD _ j (by simpa using hj), List.drop_set_of_lt (by omega)]
    congr 1
    exact nth_set_same X j _ hj
  rw [eX, drop_getD xs j hx]
  simp only [val]
  have hb : nth xs j = xs.getD j 0 := rfl
  rw [← hb]
  generalize s / d = a at *
  generalize s % d = b at *
  generalize val (X.drop (j + 1)) = u at *
  generalize val (xs.drop (j + 1)) = z at *
  grind
set_option maxHeartbeats 1600000 in
set_option maxRecDepth 100000 in
theorem small_new (v1 : Value) (xs : List Int) (d : Int) (w : World) (h1 : Rd w v1 xs) (l1 : xs.length ≤ 549755813888) (d1 : 0 < d) (d2 : d < 1073741824) :
    Calls Tryz.prog 113 #[v1, .int .i64 d] w fun e w' => ∃ n zs m, e = .returned (.tuple #[.slice (some ⟨w.heap.size, 0, none⟩) n xs.length, .int .i64 m]) ∧ Rd w' (.slice (some ⟨w.heap.size, 0, none⟩) n xs.length) zs ∧ Nm zs ∧ val zs * d + m = val xs ∧ 0 ≤ m ∧ m < d ∧ Below w.heap.size w w' := by
  obtain ⟨hx, a1, c1, rfl, _, _, g1⟩ := h1
  have hs : Hid (∀ w', Below w.heap.size w w' → 0 < xs.length → ∃ b o, a1 = some ⟨b, o, none⟩ ∧ Cells w' b o xs) := fun w' h l => by obtain ⟨b, o, e, c⟩ := g1 l; exact ⟨b, o, e, c.grow h⟩
  clear g1
  go_enter Tryz.func113, Tryz.ntmps113
  go_wp2_with (first
    | (at_make; refine wpList_make_words rfl _ _ rfl xs.length _ _ rfl rfl rfl rfl (by omega) ?_; intro w1 k1 k2 k3 k4)
    | fail)
  go_loopw [7, 8] (fun c i wr => ∃ (j : Nat) (r : Int) (X : List Int), j ≤ xs.length ∧ c = .int .i64 r ∧ i = .int .i64 ((j : Int) - 1) ∧ 0 ≤ r ∧ r < d ∧ X.length = xs.length ∧ Wd X ∧ val (X.drop j) * d + r = val (xs.drop j) ∧ Cells wr w.heap.size 0 X ∧ Wr w.heap.size 0 xs.length w1 wr) (fun _ i _ => (intOf i + 1).toNat)
  case atStart => exact ⟨xs.length, 0, List.replicate xs.length 0, Nat.le_refl _, rfl, by go_num, by omega, d1, by simp, wd_zero _, by simp [val], k1, Wr.refl _ _ _ _⟩
  case round =>
    obtain ⟨j, r, X, hj, rfl, rfl, r0, r1, hl, hX, hv, hc, hwr⟩ := hrel
    have HV : Hid (val (X.drop j) * d + r = val (xs.drop j)) := hv
    clear hv
    have hb := k3.trans (hwr.below (B := w.heap.size) (Nat.le_refl _) (by omega))
    by_cases hlt : 0 < j
    · obtain ⟨i, rfl⟩ : ∃ i, j = i + 1 := ⟨j - 1, by omega⟩
      have kx := hc.at (i := i) (by omega)
      have kf := ((k2.wr hwr).free 0 xs.length) i (by omega)
      rw [Nat.zero_add] at kx kf
      have bx := nth_bd hx i
      obtain ⟨b1, o1, rfl, q1⟩ := hs.out _ hb (by omega)
      have e1 := q1.at (i := i) (by omega)
      obtain ⟨S, hS⟩ : ∃ S, r * 1073741824 + nth xs i = S := ⟨_, rfl⟩
      have R : Hid _ := quo_step hX (by omega) (by omega) d1 r0 r1 bx.1 bx.2 hS.symm HV.out
      have p1 : IntKind.i64.wrap (r * 1073741824) = r * 1073741824 := wrap_self _ (by omega) (by omega)
      have p2 : IntKind.i64.wrap (r * 1073741824 + nth xs i) = S := by rw [hS]; exact wrap_self _ (by omega) (by omega)
      have s0 : 0 ≤ S := by omega
      have s1 : S ≤ 1152921504606846976 := by omega
      have t1 : ((i : Int) + 1 - 1) = i := by omega
      have u1 : S.tdiv d = S / d := Int.tdiv_eq_ediv_of_nonneg s0
      have u2 : S.tmod d = S % d := Int.tmod_eq_emod_of_nonneg s0
      have u3 : IntKind.i64.wrap (S / d) = S / d := wrap_self _ (by have := Int.ediv_nonneg s0 (Int.le_of_lt d1); omega) (by have := Int.ediv_le_self d s0; omega)
      have nz : (d == 0) = false := by rw [beq_eq_false_iff_ne]; omega
      have nz2 : ¬ d = 0 := by omega
      clear hS
      go_wp2
      go_roundw
      case rel => exact ⟨i, _, _, by omega, rfl, by go_num, R.out.2.2.1, R.out.2.2.2, by simp [hl], R.out.1, R.out.2.1, by simpa using hc.set i (by omega) _, by simpa using hwr.setCell i (by omega) _⟩
      case measure => simp [intOf]
    · have ek : j = 0 := by omega
      subst ek
      have Rv : Hid (val X * d + r = val xs) := by have := HV.out; rw [List.drop_zero, List.drop_zero] at this; exact this
      clear HV
      go_wp2_with fail
      refine (norm_rd _ _ _ X wr hl.symm hX (by omega) (by omega) (fun _ => ⟨_, _, rfl, hc⟩)).mono ?_
      rintro e w' ⟨n, zs, rfl, hrd, hnm, hvz, rfl⟩
      have hvz' : Hid (val zs * d + r = val xs) := by have := Rv.out; rw [← hvz] at this; exact this
      clear hvz
      go_wp2
      exact bodyPost_ret (v := .tuple #[.slice (some ⟨w.heap.size, 0, none⟩) n xs.length, .int .i64 r]) (by simp [results, Tryz.results113, go_sem]) rfl ⟨_, zs, r, rfl, hrd, hnm, hvz'.out, r0, r1, hb⟩
theorem small_any (v1 : Value) (xs : List Int) (d : Int) (w : World) (h1 : Rd w v1 xs) (l1 : xs.length ≤ 549755813888) (d1 : 0 < d) (d2 : d < 1073741824) :
    Calls Tryz.prog 113 #[v1, .int .i64 d] w fun e w' => ∃ r zs m, e = .returned (.tuple #[r, .int .i64 m]) ∧ Rd w' r zs ∧ Nm zs ∧ val zs * d + m = val xs ∧ 0 ≤ m ∧ m < d ∧ Below w.heap.size w w' := by
  refine (small_new v1 xs d w h1 l1 d1 d2).mono ?_
  rintro e w' ⟨n, zs, m, he, hr⟩
  exact ⟨_, zs, m, he, hr⟩
end Go.Proofs.YtebilgnmnambnaaGreatDoor.L

namespace Go.Proofs.YtebilgnmnambnaaGreatDoor.L
open Go.RowKit Tl
theorem wpList_push {w : World} {ops : Array Oper} {rest : List Oper} {o : Oper} {a : Act} {Q : Exit → Act → World → Prop} (hgd : o.guard = none) (s x : Operand)
    (ho : o.op = .call { callee := .builtin .append, args := #[s, x], argTypes := #[53, 53] })
    (v : Value) (Y : List Int) (hs : a.eval s = v) (base : Nat) (hown : w.ownsRow base 3 1 v Y.length (Y.map (Value.int .i64))) (hL : Y.length ≤ 1099511627776)
    (ad c : Nat) (y : Int) (hx : a.eval x = .slice (some ⟨ad, 0, none⟩) 1 c) (hn : w.cell? ⟨ad, 0, none⟩ = some (.int .i64 y)) (hbase : base ≤ w.heap.size)
    (h : ∀ v' w', w'.ownsRow base 3 1 v' (Y ++ [y]).length ((Y ++ [y]).map (Value.int .i64)) → Below base w w' → wpList Tryz.prog ops Q rest (a.put o.dst v') w') : wpList Tryz.prog ops Q (o :: rest) a w := by
  obtain ⟨i, hi, hz0, hz1, hz2⟩ := info_parts Tryz.infoU
  refine wpList_append_own w hgd s x 53 ho base 3 i (.int .i64 0) 1 8 Tryz.underlying53 hi hz0 hz1 hz2 rfl (by decide) v Y.length _ hs hown ⟨ad, 0, none⟩ 1 c [.int .i64 y] hx rfl ?_ (by intro u hu; simp at hu; subst hu; rfl) (by unfold maxLen; omega) (by omega) hbase ?_
  · intro j u hj
    match j, hj with
    | 0, hj => simp at hj; subst hj; simpa [Addr.add] using hn
  · intro v' w' hown' hgr _
    refine h v' w' (by simpa using hown') ⟨hgr.os, hgr.tape, hgr.output, hgr.size, fun k hk => hgr.block k (by omega) ?_⟩
    obtain ⟨_, hr⟩ := hown
    rcases hr with ⟨rfl, _⟩ | ⟨g, cap, cur, rfl, hb, _⟩
    · simp [Value.ownBlock]
    · simp [Value.ownBlock]; omega
end Go.Proofs.YtebilgnmnambnaaGreatDoor.L

namespace Go.Proofs.YtebilgnmnambnaaGreatDoor.L
open Go.RowKit Tl
theorem own_grow {w w' : World} {base n : Nat} {e : TypeId} {v : Value} {xs : List Value} (h : w.ownsRow base e 1 v n xs) (k : Below w.heap.size w w') : w'.ownsRow base e 1 v n xs := by
  obtain ⟨h1, h2⟩ := h
  refine ⟨h1, ?_⟩
  rcases h2 with h2 | ⟨g, cap, cur, e1, e2, e3, e4⟩
  · exact Or.inl h2
  · exact Or.inr ⟨g, cap, cur, e1, e2, (k.block g (Own.lt ⟨cur, _, e3⟩)).trans e3, e4⟩
theorem own_rd {w : World} {base : Nat} {e : TypeId} {v : Value} {Y : List Int} (hY : Wd Y) (h : w.ownsRow base e 1 v Y.length (Y.map (Value.int .i64))) : Rd w v Y := by
  obtain ⟨_, h2⟩ := h
  rcases h2 with ⟨rfl, h2⟩ | ⟨g, cap, cur, rfl, _, e3, e4, e5, e6, e7⟩
  · have : Y = [] := List.eq_nil_of_length_eq_zero h2
    subst this
    exact rd_nil w
  · refine ⟨hY, _, _, rfl, e4, e5, fun _ => ⟨g, 0, rfl, ?_⟩⟩
    intro i hi
    rw [Nat.mul_one] at e7
    have h7 := congrArg (fun l : List Value => l[i]?) e7
    simp only [List.getElem?_take, hi, if_true, List.getElem?_map] at h7
    simp only [World.cell?, e3, Nat.zero_add, Option.isSome_none, Bool.false_eq_true, if_false]
    rw [Array.getElem?_toList] at h7
    rw [h7]
    simp [nth, List.getD_eq_getElem?_getD, List.getElem?_eq_getElem hi]
theorem of_step {Y : List Int} {m N : Int} (hY : Wd Y) (m0 : 0 < m) (hv : val Y + pw Y.length * m = N) :
    Wd (Y ++ [m % 1073741824]) ∧ val (Y ++ [m % 1073741824]) + pw (Y ++ [m % 1073741824]).length * (m / 1073741824) = N ∧ (m / 1073741824 ≠ 0 ∨ Nm (Y ++ [m % 1073741824])) := by
  refine ⟨hY.append (Wd.cons (by omega) (by omega) Wd.nil), ?_, ?_⟩
  · rw [val_append, List.length_append]
    simp only [List.length_singleton, pw, val]
    have e : m = m % 1073741824 + 1073741824 * (m / 1073741824) := by omega
    generalize m % 1073741824 = a at *
    generalize m / 1073741824 = b at *
    grind
  · by_cases h : m / 1073741824 = 0
    · right
      refine Or.inr ?_
      simp
      omega
    · exact Or.inl h
theorem of_len {Y : List Int} {m N : Int} (hY : Wd Y) (m0 : 0 < m) (hN : N < 18446744073709551616) (hv : val Y + pw Y.length * m = N) : Y.length ≤ 2 := by
  have v0 := val_nonneg hY
  by_cases h : Y.length ≤ 2
  · exact h
  · have p := pw_mono (show 3 ≤ Y.length by omega)
    have e : pw 3 = 1237940039285380274899124224 := by decide
    have q := Int.mul_le_mul_of_nonneg_left (show 1 ≤ m by omega) (Int.le_of_lt (pw_pos Y.length))
    omega
set_option maxHeartbeats 1600000 in
set_option maxRecDepth 100000 in
theorem NatOf_any (N : Int) (w : World) (n0 : 0 ≤ N) (n1 : N < 9223372036854775808) :
    Calls Tryz.prog 100 #[.int .i64 N] w fun e w' => ∃ r zs, e = .returned r ∧ Rd w' r zs ∧ Nm zs ∧ val zs = N ∧ Below w.heap.size w w' := by
  go_enter Tryz.func100, Tryz.ntmps100
  go_wp2_with fail
  go_loopw [0, 3] (fun n l wr => ∃ (m : Int) (Y : List Int), n = .int .i64 m ∧ 0 ≤ m ∧ m ≤ N ∧ wr.ownsRow w.heap.size 3 1 l Y.length (Y.map (Value.int .i64)) ∧ Wd Y ∧ val Y + pw Y.length * m = N ∧ (m ≠ 0 ∨ Nm Y) ∧ Below w.heap.size w wr) (fun n _ _ => (intOf n).toNat)
  case atStart => exact ⟨N, [], rfl, n0, Int.le_refl _, ⟨by simp, Or.inl ⟨rfl, rfl⟩⟩, Wd.nil, by simp [val, pw], Or.inr (Or.inl rfl), Below.refl _ _⟩
  case round =>
    obtain ⟨m, Y, rfl, m0, m1, hown, hY, hv, hn, hb⟩ := hrel
    have HV : Hid (val Y + pw Y.length * m = N) := hv
    have HN : Hid (m ≠ 0 ∨ Nm Y) := hn
    clear hv hn
    by_cases hm : 0 < m
    · have R : Hid _ := of_step hY hm HV.out
      have L := of_len hY hm (by omega) HV.out
      have hsz := hb.size
      have u1 : m.tmod 1073741824 = m % 1073741824 := Int.tmod_eq_emod_of_nonneg m0
      have u2 : m.tdiv 1073741824 = m / 1073741824 := Int.tdiv_eq_ediv_of_nonneg m0
      go_wp2_with (first
        | (at_builtin; (refine wpList_push rfl _ _ rfl _ Y rfl w.heap.size (own_grow hown ((Below.refl _ _).alloc (Nat.le_refl _) _)) (by omega) _ _ (m % 1073741824) rfl (by simp) (by simp; omega) ?_; intro l' w2 hown2 hb2; have hb3 := (hb.alloc (Nat.le_trans (Nat.le_refl _) hsz) _).trans hb2))
        | fail)
      go_roundw
      case rel => exact ⟨m / 1073741824, _, rfl, by omega, by omega, hown2, R.out.1, R.out.2.1, R.out.2.2, hb3⟩
      case measure => simp [intOf]; omega
    · have e0 : m = 0 := by omega
      have Rv : Hid (val Y = N ∧ Nm Y) := by
        have h1 := HV.out
        rw [e0, Int.mul_zero, Int.add_zero] at h1
        exact ⟨h1, HN.out.resolve_left (by omega)⟩
      have hrd : Hid (Rd wr u3 Y) := own_rd hY hown
      clear e0 HV HN
      go_wp2
      go_ret
      exact ⟨_, rfl, Y, hrd.out, Rv.out.2, Rv.out.1, hb⟩
end Go.Proofs.YtebilgnmnambnaaGreatDoor.L

namespace Go.Proofs.YtebilgnmnambnaaGreatDoor.L
open Go.RowKit Tl
/- Long division, limb by limb: the plain part. -/
theorem val_set : ∀ {X : List Int} {k : Nat} (_ : k < X.length) (v : Int), val (X.set k v) = val X + pw k * (v - nth X k)
  | [], k, h, _ => by simp at h
  | x :: xs, 0, _, v => by simp [val, pw, nth]; omega
  | x :: xs, k + 1, h, v => by
    have ih := val_set (X := xs) (k := k) (by simpa using h) v
    simp only [List.set_cons_succ, val, pw, ih]
    have e : nth (x :: xs) (k + 1) = nth xs k := by simp [nth]
    rw [e]; grind
theorem wd_of_set {X : List Int} {k : Nat} (h : Wd (X.set k 0)) (h0 : 0 ≤ nth X k) (h1 : nth X k < 1073741824) : Wd X := by
  have := h.set k h0 h1
  rw [List.set_set] at this
  by_cases c : k < X.length
  · have e : X.set k (nth X k) = X := by simp [nth, List.getD_eq_getElem?_getD, List.getElem?_eq_getElem c]
    rwa [e] at this
  · rw [List.set_eq_of_length_le (by omega)] at this; exact this
theorem bd_of_set {X : List Int} {k : Nat} (h : Wd (X.set k 0)) {i : Nat} (hi : k ≠ i) : 0 ≤ nth X i ∧ nth X i < 1073741824 := by
  have := nth_bd h i
  rwa [nth_set_other _ _ _ _ hi] at this
theorem set_comm0 {X : List Int} {k i : Nat} (h : Wd (X.set k 0)) (hi : k ≠ i) {v : Int} (v0 : 0 ≤ v) (v1 : v < 1073741824) : Wd ((X.set i v).set k 0) := by
  rw [List.set_comm _ _ (Ne.symm hi)]; exact h.set i v0 v1
theorem val_parts {X : List Int} {m : Nat} (hm : m < X.length) (hz : val (X.drop (m + 1)) = 0) : val X = val (X.take m) + pw m * nth X m := by
  have e1 := val_split X (m + 1) (by omega)
  rw [hz, val_at X m hm] at e1; omega
theorem take_set_same (X : List Int) (m : Nat) (v : Int) : (X.set m v).take m = X.take m := by
  rw [List.take_set]; exact List.set_eq_of_length_le (by simp; omega)
structure Mid (U V : List Int) (k : Nat) (g : Int) (X : List Int) : Prop where
  len : X.length = U.length
  wd : Wd (X.set (k + V.length) 0)
  up : X.drop (k + V.length + 1) = U.drop (k + V.length + 1)
  eq : val X = val U - g * (pw k * val V)
theorem up_zero {U V : List Int} {k : Nat} (hU : Wd U) (hV : Wd V) (hl : k + V.length < U.length) (hlt : val U < pw (k + 1) * val V) : val (U.drop (k + V.length + 1)) = 0 := by
  have e := val_split U (k + V.length + 1) (by omega)
  have p := pw_pos (k + V.length + 1)
  have t0 := val_nonneg (hU.take (k + V.length + 1))
  have d0 := val_nonneg (hU.drop (k + V.length + 1))
  have v1 := val_lt hV
  have e2 : pw (k + V.length + 1) = pw (k + 1) * pw V.length := by rw [← pw_add]; congr 1; omega
  have p2 := pw_pos (k + 1)
  have h3 : pw (k + 1) * val V ≤ pw (k + V.length + 1) := by rw [e2]; exact Int.mul_le_mul_of_nonneg_left (Int.le_of_lt v1) (Int.le_of_lt p2)
  by_cases c : val (U.drop (k + V.length + 1)) = 0
  · exact c
  · have := Int.mul_le_mul_of_nonneg_left (show 1 ≤ val (U.drop (k + V.length + 1)) by omega) (Int.le_of_lt p)
    omega
def dig (U V : List Int) (k : Nat) : Int := val U / (pw k * val V)
theorem dig_bd {U V : List Int} {k : Nat} (hU : Wd U) (v0 : 0 < val V) (hlt : val U < pw (k + 1) * val V) : 0 ≤ dig U V k ∧ dig U V k < 1073741824 ∧ dig U V k * (pw k * val V) ≤ val U ∧ val U < (dig U V k + 1) * (pw k * val V) := by
  have p : 0 < pw k * val V := Int.mul_pos (pw_pos k) v0
  have u0 := val_nonneg hU
  refine ⟨Int.ediv_nonneg u0 (Int.le_of_lt p), ?_, Tn.quo_le p, ?_⟩
  · refine Int.ediv_lt_of_lt_mul p ?_
    have : pw (k + 1) * val V = 1073741824 * (pw k * val V) := by simp only [pw]; grind
    omega
  · have := Int.lt_ediv_add_one_mul_self (val U) p
    exact this
theorem dig_fits {U V : List Int} {k n : Nat} (hU : Wd U) (hV : Wd V) (hn : V.length = n + 2) (hl : k + (n + 2) < U.length) (v0 : 0 < val V) (hlt : val U < pw (k + 1) * val V) :
    dig U V k * (nth V (n + 1) * 1073741824 + nth V n) ≤ (nth U (k + (n + 2)) * 1073741824 + nth U (k + (n + 1))) * 1073741824 + nth U (k + n) := by
  obtain ⟨q0, _, hq, _⟩ := dig_bd hU v0 hlt
  have hz := up_zero hU hV (by omega) hlt
  rw [hn] at hz
  have eU := val_parts (X := U) (m := k + (n + 2)) (by omega) hz
  have eU1 := val_at U (k + (n + 1)) (by omega)
  have eU2 := val_at U (k + n) (by omega)
  rw [show k + (n + 1) + 1 = k + (n + 2) from by omega] at eU1
  rw [show k + n + 1 = k + (n + 1) from by omega] at eU2
  have eV1 := val_at V (n + 1) (by omega)
  have eV2 := val_at V n (by omega)
  rw [show n + 1 + 1 = V.length from by omega, List.take_length] at eV1
  have t0 := val_nonneg (hV.take n)
  have t1 := val_lt (hU.take (k + n))
  rw [List.length_take, Nat.min_eq_left (by omega)] at t1
  have a1 : pw (k + (n + 1)) = 1073741824 * pw (k + n) := rfl
  have a2 : pw (k + (n + 2)) = 1073741824 * (1073741824 * pw (k + n)) := rfl
  have a3 : pw (n + 1) = 1073741824 * pw n := rfl
  have a4 : pw (k + n) = pw k * pw n := pw_add k n
  have pk := pw_pos k
  have pn := pw_pos n
  have pkn := pw_pos (k + n)
  generalize dig U V k = q at *
  generalize nth V (n + 1) = x1 at *
  generalize nth V n = x0 at *
  generalize nth U (k + (n + 2)) = y2 at *
  generalize nth U (k + (n + 1)) = y1 at *
  generalize nth U (k + n) = y0 at *
  have f1 : val V = val (V.take n) + (x1 * 1073741824 + x0) * pw n := by rw [eV1, eV2, a3]; grind
  have f2 : val U = val (U.take (k + n)) + ((y2 * 1073741824 + y1) * 1073741824 + y0) * pw (k + n) := by rw [eU, eU1, eU2, a1, a2]; grind
  have f3 : pw k * val V = pw k * val (V.take n) + (x1 * 1073741824 + x0) * pw (k + n) := by rw [f1, a4]; grind
  have g1 : 0 ≤ q * (pw k * val (V.take n)) := Int.mul_nonneg q0 (Int.mul_nonneg (Int.le_of_lt pk) t0)
  have g2 : q * (x1 * 1073741824 + x0) * pw (k + n) < (((y2 * 1073741824 + y1) * 1073741824 + y0) + 1) * pw (k + n) := by
    have h1 : q * (pw k * val V) = q * (pw k * val (V.take n)) + q * (x1 * 1073741824 + x0) * pw (k + n) := by rw [f3]; grind
    have h2 : (((y2 * 1073741824 + y1) * 1073741824 + y0) + 1) * pw (k + n) = ((y2 * 1073741824 + y1) * 1073741824 + y0) * pw (k + n) + pw (k + n) := by grind
    omega
  have := Int.lt_of_mul_lt_mul_right g2 (Int.le_of_lt pkn)
  omega
theorem dig_start {U V : List Int} {k n : Nat} {T : Int} (hU : Wd U) (hV : Wd V) (hn : V.length = n + 2) (hl : k + (n + 2) < U.length) (v1 : 0 < nth V (n + 1)) (v0 : 0 < val V) (hlt : val U < pw (k + 1) * val V) (hT : nth U (k + (n + 2)) * 1073741824 + nth U (k + (n + 1)) = T) : dig U V k ≤ T / nth V (n + 1) := by
  have h := dig_fits hU hV hn hl v0 hlt
  rw [hT] at h
  exact Tn.est_start (b := 1073741824) (by decide) v1 (nth_bd hV n).1 (nth_bd hU (k + n)).2 (dig_bd hU v0 hlt).1 h
theorem dig_down {U V : List Int} {k n : Nat} {T g : Int} (hU : Wd U) (hV : Wd V) (hn : V.length = n + 2) (hl : k + (n + 2) < U.length) (v1 : 0 < nth V (n + 1)) (v0 : 0 < val V) (hlt : val U < pw (k + 1) * val V) (hT : nth U (k + (n + 2)) * 1073741824 + nth U (k + (n + 1)) = T)
    (hc : (T - g * nth V (n + 1)) * 1073741824 + nth U (k + n) < g * nth V n) : dig U V k ≤ g - 1 := by
  have h := dig_fits hU hV hn hl v0 hlt
  rw [hT] at h
  have b0 := (nth_bd hV n).1
  exact Tn.est_down (b := 1073741824) (r := T - g * nth V (n + 1)) (by omega) (by omega) h (by omega)
structure Sb (U V : List Int) (k : Nat) (g : Int) (i : Nat) (c : Int) (X : List Int) : Prop where
  len : X.length = U.length
  wd : Wd X
  up : X.drop (k + V.length) = U.drop (k + V.length)
  c0 : 0 ≤ c
  c1 : c ≤ 1073741824
  eq : val X - pw (k + i) * c = val U - g * (pw k * val (V.take i))
theorem Sb.start {U V : List Int} {k : Nat} {g : Int} (hU : Wd U) : Sb U V k g 0 0 U := ⟨rfl, hU, rfl, by omega, by omega, by simp [val]⟩
theorem Sb.next {U V : List Int} {k : Nat} {g : Int} {i : Nat} {c x' c' : Int} {X : List Int} (h : Sb U V k g i c X) (hl : k + V.length < U.length) (hi : i < V.length) (x0 : 0 ≤ x') (x1 : x' < 1073741824) (c0 : 0 ≤ c') (c1 : c' ≤ 1073741824)
    (hx : x' = nth X (k + i) - c - g * nth V i + c' * 1073741824) : Sb U V k g (i + 1) c' (X.set (k + i) x') := by
  have hlen := h.len
  refine ⟨by simp [hlen], h.wd.set _ x0 x1, ?_, c0, c1, ?_⟩
  · rw [List.drop_set_of_lt (by omega)]; exact h.up
  · have e := h.eq
    rw [val_set (by omega), hx, val_at V i hi, show k + (i + 1) = k + i + 1 from rfl]
    have a4 : pw (k + i) = pw k * pw i := pw_add k i
    simp only [pw]
    rw [a4] at e ⊢
    grind
theorem Sb.mid {U V : List Int} {k : Nat} {g : Int} {c : Int} {X : List Int} (h : Sb U V k g V.length c X) (hl : k + V.length < U.length) : Mid U V k g (X.set (k + V.length) (nth X (k + V.length) - c)) ∧ -1073741824 ≤ nth X (k + V.length) - c ∧ nth X (k + V.length) - c < 1073741824 := by
  have hlen := h.len
  have b := nth_bd h.wd (k + V.length)
  refine ⟨⟨by simp [hlen], ?_, ?_, ?_⟩, by have := h.c1; omega, by have := h.c0; omega⟩
  · rw [List.set_set]; exact h.wd.set _ (by omega) (by omega)
  · rw [drop_set_succ]
    have := congrArg (List.drop 1) h.up
    simpa [List.drop_drop, Nat.add_comm] using this
  · have e := h.eq
    rw [List.take_length] at e
    rw [val_set (by omega)]
    generalize nth X (k + V.length) = y at *
    generalize pw (k + V.length) = p at *
    have : p * (y - c - y) = - (p * c) := by grind
    omega
structure Ad (Y V : List Int) (k : Nat) (i : Nat) (c : Int) (X : List Int) : Prop where
  len : X.length = Y.length
  wd : Wd (X.set (k + V.length) 0)
  up : X.drop (k + V.length) = Y.drop (k + V.length)
  c0 : 0 ≤ c
  c1 : c ≤ 1
  eq : val X + pw (k + i) * c = val Y + pw k * val (V.take i)
theorem Ad.start {Y V : List Int} {k : Nat} (hY : Wd (Y.set (k + V.length) 0)) : Ad Y V k 0 0 Y := ⟨rfl, hY, rfl, by omega, by omega, by simp [val]⟩
theorem Ad.next {Y V : List Int} {k : Nat} {i : Nat} {c S : Int} {X : List Int} (h : Ad Y V k i c X) (hV : Wd V) (hl : k + V.length < Y.length) (hi : i < V.length) (hS : S = c + (nth X (k + i) + nth V i)) : Ad Y V k (i + 1) (S / 1073741824) (X.set (k + i) (S % 1073741824)) := by
  have hlen := h.len
  have b := bd_of_set h.wd (i := k + i) (by omega)
  have b2 := nth_bd hV i
  have c0 := h.c0
  have c1 := h.c1
  refine ⟨by simp [hlen], set_comm0 h.wd (by omega) (by omega) (by omega), ?_, by omega, by omega, ?_⟩
  · rw [List.drop_set_of_lt (by omega)]; exact h.up
  · have e := h.eq
    have es : S = S % 1073741824 + 1073741824 * (S / 1073741824) := by omega
    rw [val_set (by omega), val_at V i hi, show k + (i + 1) = k + i + 1 from rfl]
    have a4 : pw (k + i) = pw k * pw i := pw_add k i
    generalize S % 1073741824 = p at *
    generalize S / 1073741824 = q at *
    simp only [pw]
    rw [a4] at e ⊢
    grind
theorem Ad.mid {U V : List Int} {k : Nat} {g c : Int} {Y X : List Int} (hM : Mid U V k g Y) (h : Ad Y V k V.length c X) (hl : k + V.length < U.length) : Mid U V k (g - 1) (X.set (k + V.length) (nth X (k + V.length) + c)) ∧ nth X (k + V.length) = nth Y (k + V.length) := by
  have hlen := h.len
  have hlen2 := hM.len
  refine ⟨⟨by simp [hlen, hlen2], ?_, ?_, ?_⟩, ?_⟩
  · rw [List.set_set]; exact h.wd
  · rw [drop_set_succ, ← hM.up]
    have := congrArg (List.drop 1) h.up
    simpa [List.drop_drop, Nat.add_comm] using this
  · have e := h.eq
    have e2 := hM.eq
    rw [List.take_length] at e
    rw [val_set (by omega)]
    generalize nth X (k + V.length) = y at *
    generalize pw (k + V.length) = p at *
    have a : p * (y + c - y) = p * c := by grind
    have b : (g - 1) * (pw k * val V) = g * (pw k * val V) - pw k * val V := by grind
    omega
  · have := congrArg (fun l => nth l 0) h.up
    simpa [nth_drop] using this
theorem Mid.neg {U V X : List Int} {k : Nat} {g : Int} (h : Mid U V k g X) (hU : Wd U) (hV : Wd V) (hl : k + V.length < U.length) (v0 : 0 < val V) (hlt : val U < pw (k + 1) * val V) (ht : nth X (k + V.length) < 0) : dig U V k ≤ g - 1 := by
  obtain ⟨q0, _, hq, _⟩ := dig_bd hU v0 hlt
  have hz := up_zero hU hV hl hlt
  rw [← h.up] at hz
  have hlen := h.len
  have e := val_parts (X := X) (m := k + V.length) (by omega) hz
  have w : Wd (X.take (k + V.length)) := by have := h.wd.take (k + V.length); rwa [take_set_same] at this
  have t1 := val_lt w
  rw [List.length_take, Nat.min_eq_left (by omega)] at t1
  have p := pw_pos (k + V.length)
  have := Int.mul_le_mul_of_nonneg_left (show nth X (k + V.length) ≤ -1 by omega) (Int.le_of_lt p)
  have hx : val X < 0 := by omega
  have h2 : dig U V k * (pw k * val V) < g * (pw k * val V) := by have := h.eq; omega
  have := Int.lt_of_mul_lt_mul_right h2 (Int.le_of_lt (Int.mul_pos (pw_pos k) v0))
  omega
theorem Mid.done {U V X : List Int} {k : Nat} {g : Int} (h : Mid U V k g X) (hU : Wd U) (hV : Wd V) (hl : k + V.length < U.length) (v0 : 0 < val V) (hlt : val U < pw (k + 1) * val V) (hg : dig U V k ≤ g) (ht : ¬ nth X (k + V.length) < 0) : g = dig U V k ∧ Wd X ∧ val X < pw k * val V := by
  obtain ⟨q0, _, hq, hq2⟩ := dig_bd hU v0 hlt
  have hz := up_zero hU hV hl hlt
  rw [← h.up] at hz
  have hlen := h.len
  have e := val_parts (X := X) (m := k + V.length) (by omega) hz
  have w : Wd (X.take (k + V.length)) := by have := h.wd.take (k + V.length); rwa [take_set_same] at this
  have t0 := val_nonneg w
  have p := pw_pos (k + V.length)
  have pk := pw_pos k
  have pp : 0 < pw k * val V := Int.mul_pos pk v0
  have hx : 0 ≤ val X := by have := Int.mul_nonneg (Int.le_of_lt p) (show 0 ≤ nth X (k + V.length) by omega); omega
  have h2 : g * (pw k * val V) < (dig U V k + 1) * (pw k * val V) := by have := h.eq; omega
  have h3 := Int.lt_of_mul_lt_mul_right h2 (Int.le_of_lt pp)
  have eg : g = dig U V k := by omega
  have h4 : val X < pw k * val V := by
    have := h.eq
    rw [eg] at this
    have : (dig U V k + 1) * (pw k * val V) = dig U V k * (pw k * val V) + pw k * val V := by grind
    omega
  have h5 : pw k * val V ≤ pw (k + V.length) := by rw [pw_add]; exact Int.mul_le_mul_of_nonneg_left (Int.le_of_lt (val_lt hV)) (Int.le_of_lt pk)
  have tz : nth X (k + V.length) = 0 := by
    by_cases c : nth X (k + V.length) = 0
    · exact c
    · have := Int.mul_le_mul_of_nonneg_left (show 1 ≤ nth X (k + V.length) by omega) (Int.le_of_lt p)
      omega
  exact ⟨eg, wd_of_set h.wd (by omega) (by omega), h4⟩
theorem quo_set {Q X U V : List Int} {k : Nat} {g A : Int} (hk : k < Q.length) (hz : nth Q k = 0) (hA : val Q * val V + val U = A) (hX : val X = val U - g * (pw k * val V)) : val (Q.set k g) * val V + val X = A := by
  rw [val_set hk, hz, hX, ← hA]; grind
end Go.Proofs.YtebilgnmnambnaaGreatDoor.L

namespace Go.Proofs.YtebilgnmnambnaaGreatDoor.L
open Go.RowKit Tl
theorem run_append_types {P : Program} (w : World) (t t' ty e e' : TypeId) (i : TypeInfo) (hi : P.info? e = some i) (u a : Option Addr) (n d m c : Nat) (ht : P.underlying t = some (.slice e)) (ht' : P.underlying t' = some (.slice e')) :
    (Builtin.append_ #[t, t'] ty #[.slice u n d, .slice a m c]).run P w = (Builtin.append_ #[t, t] ty #[.slice u n d, .slice a m c]).run P w := by
  simp [Builtin.append_, run_underlying ht, run_underlying ht', sizeOf, typeInfo, hi]
theorem Tryz.underNat : Tryz.prog.underlying 54 = some (.slice 3) := by kernel_rfl
theorem wpList_append_nat {w : World} {ops : Array Oper} {rest : List Oper} {o : Oper} {a : Act} {Q : Exit → Act → World → Prop} (hgd : o.guard = none) (s x : Operand)
    (ho : o.op = .call { callee := .builtin .append, args := #[s, x], argTypes := #[53, 54] })
    (g0 base : Nat) (cur : Array Value) (hs : a.eval s = .slice (some ⟨g0, 0, none⟩) 0 0) (hg : w.heap[g0]? = some (.cells cur 3 (0, 0))) (hcur : cur.size = 0) (hbg : base ≤ g0)
    (b o' m c : Nat) (xs : List Int) (hx : a.eval x = .slice (some ⟨b, o', none⟩) m c) (em : m = xs.length) (hc : Cells w b o' xs) (hL : xs.length ≤ 1099511627776) (hbase : base ≤ w.heap.size)
    (h : ∀ g cap w', w'.ownsRow base 3 1 (.slice (some ⟨g, 0, none⟩) xs.length cap) xs.length (xs.map (Value.int .i64)) → base ≤ g → Own w' g → cap ≤ 9223372036854775807 → xs.length ≤ cap → Cells w' g 0 xs → Below base w w' → wpList Tryz.prog ops Q rest (a.put o.dst (.slice (some ⟨g, 0, none⟩) xs.length cap)) w') : wpList Tryz.prog ops Q (o :: rest) a w := by
  subst em
  obtain ⟨i, hi, hz0, hz1, hz2⟩ := info_parts Tryz.infoU
  have hown : w.ownsRow base 3 1 (.slice (some ⟨g0, 0, none⟩) 0 0) 0 [] := ⟨rfl, Or.inr ⟨g0, 0, cur, rfl, hbg, hg, Nat.le_refl _, by decide, by simp [hcur], by simp⟩⟩
  have hnews : ∀ (j : Nat) (u : Value), (xs.map (Value.int .i64))[j]? = some u → w.cell? ((⟨b, o', none⟩ : Addr).add j) = some u := by
    intro j u hj
    rw [List.getElem?_map] at hj
    obtain ⟨y, hy, rfl⟩ := Option.map_eq_some_iff.1 hj
    have hjl : j < xs.length := by
      by_cases c : j < xs.length
      · exact c
      · rw [List.getElem?_eq_none (by omega)] at hy; cases hy
    have := hc.at hjl
    rw [Addr.add_lit, this]
    simp [nth, List.getD_eq_getElem?_getD, hy]
  refine wpList_plain hgd fun K hK => ?_
  obtain ⟨v', w', hr, h2, h3, h4⟩ := run_append_own (P := Tryz.prog) w base 53 o.type 3 i (.int .i64 0) 1 8 Tryz.underlying53 hi hz0 hz1 hz2 rfl (by decide) _ 0 [] hown ⟨b, o', none⟩ xs.length c (xs.map (Value.int .i64)) (by simp) hnews (by intro u hu; simp at hu; obtain ⟨y, _, rfl⟩ := hu; rfl) (by unfold maxLen; omega) (by omega) hbase
  · unfold Oper.wp execOp
    simp only [ho, resolve, invoke, builtin, Sem.run_bind, Sem.run_pure, Result.andThen_ok, List.map_toArray, List.map_cons, List.map_nil, hs, hx, run_append_types w _ _ _ _ _ _ hi _ _ _ _ _ _ Tryz.underlying53 Tryz.underNat, hr]
    have hbl : Below base w w' := by
      refine ⟨h3.os, h3.tape, h3.output, h3.size, fun k hk => h3.block k (by omega) ?_⟩
      simp [Value.ownBlock]; omega
    rw [Nat.zero_add, List.nil_append] at h2
    have h2' := h2
    obtain ⟨_, h5⟩ := h2
    rcases h5 with ⟨rfl, h5⟩ | ⟨g, cap, cur', rfl, e2, e3, e4, e5, e6, e7⟩
    · simp at h4
    · refine hK _ _ (h g cap w' h2' e2 ⟨cur', _, e3⟩ e5 e4 ?_ hbl)
      intro i hi
      rw [Nat.mul_one] at e7
      have h7 := congrArg (fun l : List Value => l[i]?) e7
      simp only [List.getElem?_take, hi, if_true, List.getElem?_map] at h7
      simp only [World.cell?, e3, Nat.zero_add, Option.isSome_none, Bool.false_eq_true, if_false]
      rw [Array.getElem?_toList] at h7
      rw [h7]
      simp [nth, List.getD_eq_getElem?_getD, List.getElem?_eq_getElem hi]
end Go.Proofs.YtebilgnmnambnaaGreatDoor.L
