import Derived.Test.YtgfjjlopfoenkaaGreatDoorPart02
import Derived.Laws.AppendOwn
import Derived.Test.YtgfjjlopfoenkaaGreatDoorPart01

namespace Go.Proofs.YtgfjjlopfoenkaaGreatDoor.L
open Go.RowKit Tl

/-- One limb of a difference. -/
theorem dif_step {X xs ys : List Int} {k : Nat} {c s v c' : Int} (hX : Wd X) (hk : k < X.length) (hs : s = nth xs k - c - nth ys k) (hv' : v = s + 1073741824 * c') (v0 : 0 ≤ v) (v1 : v < 1073741824)
    (hv : val (X.take k) - pw k * c = val (xs.take k) - val (ys.take k)) :
    Wd (X.set k v) ∧ val ((X.set k v).take (k + 1)) - pw (k + 1) * c' = val (xs.take (k + 1)) - val (ys.take (k + 1)) := by
  refine ⟨hX.set k v0 v1, ?_⟩
  rw [(Part.refl hX k).val hk, val_more xs k, val_more ys k]
  simp only [pw]
  grind
theorem dif_end {X xs ys : List Int} {c : Int} (hX : Wd X) (hl : X.length = xs.length) (n2 : ys.length ≤ xs.length) (le : val ys ≤ val xs) (c0 : 0 ≤ c)
    (e : val (X.take xs.length) - pw xs.length * c = val (xs.take xs.length) - val (ys.take xs.length)) : val X = val xs - val ys := by
  rw [List.take_of_length_le (by omega), List.take_of_length_le (by omega), List.take_of_length_le (by omega)] at e
  have b1 := val_lt hX
  rw [hl] at b1
  have hc : c = 0 := by
    by_cases h : c = 0
    · exact h
    · have := Int.mul_le_mul_of_nonneg_left (show 1 ≤ c by omega) (Int.le_of_lt (pw_pos xs.length))
      omega
  rw [hc] at e; omega
set_option maxHeartbeats 1600000 in
set_option maxRecDepth 100000 in
/-- (Nat).Sub of the reference, of what is not above. -/
theorem Sub_any (v1 v2 : Value) (xs ys : List Int) (w : World) (h1 : Rd w v1 xs) (h2 : Rd w v2 ys) (l1 : xs.length ≤ 549755813888) (n2 : ys.length ≤ xs.length) (le : val ys ≤ val xs) :
    Calls Tryz.prog 145 #[v1, v2] w fun e w' => ∃ r zs, e = .returned r ∧ Rd w' r zs ∧ Nm zs ∧ val zs = val xs - val ys ∧ Below w.heap.size w w' := by
  obtain ⟨hx, a1, c1, rfl, _, _, g1⟩ := h1
  obtain ⟨hy, a2, c2, rfl, _, _, g2⟩ := h2
  have hs : Hid (∀ w', Below w.heap.size w w' → 0 < xs.length → ∃ b o, a1 = some ⟨b, o, none⟩ ∧ Cells w' b o xs) := fun w' h l => by obtain ⟨b, o, e, c⟩ := g1 l; exact ⟨b, o, e, c.grow h⟩
  have hs2 : Hid (∀ w', Below w.heap.size w w' → 0 < ys.length → ∃ b o, a2 = some ⟨b, o, none⟩ ∧ Cells w' b o ys) := fun w' h l => by obtain ⟨b, o, e, c⟩ := g2 l; exact ⟨b, o, e, c.grow h⟩
  have LE : Hid (val ys ≤ val xs) := le
  clear g1 g2 le
  go_enter Tryz.func145, Tryz.ntmps145
  go_wp2_with (first
    | (at_make; refine wpList_make_words rfl _ _ rfl xs.length _ _ rfl rfl rfl rfl (by omega) ?_; intro w1 k1 k2 k3 k4)
    | fail)
  go_loopw [6, 7] (fun c i wr => ∃ (k : Nat) (cy : Int) (X : List Int), k ≤ xs.length ∧ c = .int .i64 cy ∧ i = .int .i64 k ∧ 0 ≤ cy ∧ cy ≤ 1 ∧ X.length = xs.length ∧ Wd X ∧ val (X.take k) - pw k * cy = val (xs.take k) - val (ys.take k) ∧ Cells wr w.heap.size 0 X ∧ Wr w.heap.size 0 xs.length w1 wr) (fun _ i _ => xs.length - (intOf i).toNat)
  case atStart => exact ⟨0, 0, List.replicate xs.length 0, Nat.zero_le _, rfl, rfl, by omega, by omega, by simp, wd_zero _, by simp [val, pw], k1, Wr.refl _ _ _ _⟩
  case round =>
    obtain ⟨k, cy, X, hk, rfl, rfl, c0, c1', hl, hX, hv, hc, hwr⟩ := hrel
    have HV : Hid (val (X.take k) - pw k * cy = val (xs.take k) - val (ys.take k)) := hv
    clear hv
    have hb := k3.trans (hwr.below (B := w.heap.size) (Nat.le_refl _) (by omega))
    by_cases hlt : k < xs.length
    · have kx := hc.at (i := k) (by omega)
      have kf := ((k2.wr hwr).free 0 xs.length) k hlt
      rw [Nat.zero_add] at kx kf
      have bx := nth_bd hx k
      have byy := nth_bd hy k
      obtain ⟨b1, o1, rfl, q1⟩ := hs.out _ hb (by omega)
      have d1 := q1.at (i := k) hlt
      by_cases e2 : k < ys.length
      · by_cases ng : nth xs k - cy - nth ys k < 0
        · skip
          obtain ⟨b2, o2, rfl, q2⟩ := hs2.out _ hb (by omega)
          have d2 := q2.at (i := k) e2
          have R : Hid _ := dif_step (s := nth xs k - cy - nth ys k) (v := nth xs k - cy - nth ys k + 1073741824) (c' := 1) hX (by omega) (by omega) (by omega) (by omega) (by omega) HV.out
          go_wp2
          go_roundw
          case rel => exact ⟨k + 1, 1, _, by omega, rfl, by go_num, by omega, by omega, by simp [hl], R.out.1, R.out.2, by simpa using hc.set k (by omega) _, by simpa using hwr.setCell k (by omega) _⟩
          case measure => simp [intOf]; omega
        · skip
          obtain ⟨b2, o2, rfl, q2⟩ := hs2.out _ hb (by omega)
          have d2 := q2.at (i := k) e2
          have R : Hid _ := dif_step (s := nth xs k - cy - nth ys k) (v := nth xs k - cy - nth ys k) (c' := 0) hX (by omega) (by omega) (by omega) (by omega) (by omega) HV.out
          go_wp2
          go_roundw
          case rel => exact ⟨k + 1, 0, _, by omega, rfl, by go_num, by omega, by omega, by simp [hl], R.out.1, R.out.2, by simpa using hc.set k (by omega) _, by simpa using hwr.setCell k (by omega) _⟩
          case measure => simp [intOf]; omega
      · by_cases ng : nth xs k - cy < 0
        · skip
          have z2 : nth ys k = 0 := nth_out ys k e2
          have R : Hid _ := dif_step (s := nth xs k - cy) (v := nth xs k - cy + 1073741824) (c' := 1) hX (by omega) (by omega) (by omega) (by omega) (by omega) HV.out
          clear z2
          go_wp2
          go_roundw
          case rel => exact ⟨k + 1, 1, _, by omega, rfl, by go_num, by omega, by omega, by simp [hl], R.out.1, R.out.2, by simpa using hc.set k (by omega) _, by simpa using hwr.setCell k (by omega) _⟩
          case measure => simp [intOf]; omega
        · skip
          have z2 : nth ys k = 0 := nth_out ys k e2
          have R : Hid _ := dif_step (s := nth xs k - cy) (v := nth xs k - cy) (c' := 0) hX (by omega) (by omega) (by omega) (by omega) (by omega) HV.out
          clear z2
          go_wp2
          go_roundw
          case rel => exact ⟨k + 1, 0, _, by omega, rfl, by go_num, by omega, by omega, by simp [hl], R.out.1, R.out.2, by simpa using hc.set k (by omega) _, by simpa using hwr.setCell k (by omega) _⟩
          case measure => simp [intOf]; omega
    · have ek : k = xs.length := by omega
      subst ek
      have Rv : Hid (val X = val xs - val ys) := dif_end hX hl n2 LE.out c0 HV.out
      clear HV
      go_wp2_with fail
      refine (norm_rd _ _ _ X wr hl.symm hX (by omega) (by omega) (fun _ => ⟨_, _, rfl, hc⟩)).mono ?_
      rintro e w' ⟨n, zs, rfl, hrd, hnm, hvz, rfl⟩
      have hvz' : Hid (val zs = val xs - val ys) := hvz.trans Rv.out
      clear hvz
      go_wp2
      go_ret
      exact ⟨_, zs, rfl, hrd, hnm, hvz'.out, hb⟩
end Go.Proofs.YtgfjjlopfoenkaaGreatDoor.L

namespace Go.Proofs.YtgfjjlopfoenkaaGreatDoor.L
open Go.RowKit Tl

/-- One limb of a division by one. -/
theorem quo_step {X xs : List Int} {j : Nat} {r d s : Int} (hX : Wd X) (hj : j < X.length) (hx : j < xs.length) (d1 : 0 < d) (r0 : 0 ≤ r) (r1 : r < d) (b0 : 0 ≤ nth xs j) (b1 : nth xs j < 1073741824) (hs : s = r * 1073741824 + nth xs j)
    (hv : val (X.drop (j + 1)) * d + r = val (xs.drop (j + 1))) :
    Wd (X.set j (s / d)) ∧ val ((X.set j (s / d)).drop j) * d + s % d = val (xs.drop j) ∧ 0 ≤ s % d ∧ s % d < d := by
  have s0 : 0 ≤ s := by omega
  have e := Int.mul_ediv_add_emod s d
  have m0 := Int.emod_nonneg s (show d ≠ 0 by omega)
  have m1 := Int.emod_lt_of_pos s d1
  have q0 : 0 ≤ s / d := Int.ediv_nonneg s0 (by omega)
  have q1 : s / d < 1073741824 := by
    apply Int.ediv_lt_of_lt_mul d1
    have := Int.mul_le_mul_of_nonneg_right (show r + 1 ≤ d by omega) (show (0 : Int) ≤ 1073741824 by decide)
    rw [Int.mul_comm 1073741824 d]; omega
  refine ⟨hX.set j q0 q1, ?_, m0, m1⟩
  have eX : (X.set j (s / d)).drop j = s / d :: X.drop (j + 1) := by
    rw [drop_getD _ j (by simpa using hj), List.drop_set_of_lt (by omega)]
    congr 1
    exact nth_set_same X j _ hj
  rw [eX, drop_getD xs j hx]
  simp only [val]
  have hb : nth xs j = xs.getD j 0 := rfl
  rw [← hb]
  generalize s / d = a at *
  generalize s % d = b at *
  generalize val (X.drop (j + 1)) = u at *
  generalize val (xs.drop (j + 1)) = z at *
  grind
set_option maxHeartbeats 1600000 in
set_option maxRecDepth 100000 in
/-- (Nat).small of the reference: by one limb; the answer lies in a row of its own. -/
theorem small_new (v1 : Value) (xs : List Int) (d : Int) (w : World) (h1 : Rd w v1 xs) (l1 : xs.length ≤ 549755813888) (d1 : 0 < d) (d2 : d < 1073741824) :
    Calls Tryz.prog 140 #[v1, .int .i64 d] w fun e w' => ∃ n zs m, e = .returned (.tuple #[.slice (some ⟨w.heap.size, 0, none⟩) n xs.length, .int .i64 m]) ∧ Rd w' (.slice (some ⟨w.heap.size, 0, none⟩) n xs.length) zs ∧ Nm zs ∧ val zs * d + m = val xs ∧ 0 ≤ m ∧ m < d ∧ Below w.heap.size w w' := by
  obtain ⟨hx, a1, c1, rfl, _, _, g1⟩ := h1
  have hs : Hid (∀ w', Below w.heap.size w w' → 0 < xs.length → ∃ b o, a1 = some ⟨b, o, none⟩ ∧ Cells w' b o xs) := fun w' h l => by obtain ⟨b, o, e, c⟩ := g1 l; exact ⟨b, o, e, c.grow h⟩
  clear g1
  go_enter Tryz.func140, Tryz.ntmps140
  go_wp2_with (first
    | (at_make; refine wpList_make_words rfl _ _ rfl xs.length _ _ rfl rfl rfl rfl (by omega) ?_; intro w1 k1 k2 k3 k4)
    | fail)
  go_loopw [7, 8] (fun c i wr => ∃ (j : Nat) (r : Int) (X : List Int), j ≤ xs.length ∧ c = .int .i64 r ∧ i = .int .i64 ((j : Int) - 1) ∧ 0 ≤ r ∧ r < d ∧ X.length = xs.length ∧ Wd X ∧ val (X.drop j) * d + r = val (xs.drop j) ∧ Cells wr w.heap.size 0 X ∧ Wr w.heap.size 0 xs.length w1 wr) (fun _ i _ => (intOf i + 1).toNat)
  case atStart => exact ⟨xs.length, 0, List.replicate xs.length 0, Nat.le_refl _, rfl, by go_num, by omega, d1, by simp, wd_zero _, by simp [val], k1, Wr.refl _ _ _ _⟩
  case round =>
    obtain ⟨j, r, X, hj, rfl, rfl, r0, r1, hl, hX, hv, hc, hwr⟩ := hrel
    have HV : Hid (val (X.drop j) * d + r = val (xs.drop j)) := hv
    clear hv
    have hb := k3.trans (hwr.below (B := w.heap.size) (Nat.le_refl _) (by omega))
    by_cases hlt : 0 < j
    · obtain ⟨i, rfl⟩ : ∃ i, j = i + 1 := ⟨j - 1, by omega⟩
      have kx := hc.at (i := i) (by omega)
      have kf := ((k2.wr hwr).free 0 xs.length) i (by omega)
      rw [Nat.zero_add] at kx kf
      have bx := nth_bd hx i
      obtain ⟨b1, o1, rfl, q1⟩ := hs.out _ hb (by omega)
      have e1 := q1.at (i := i) (by omega)
      obtain ⟨S, hS⟩ : ∃ S, r * 1073741824 + nth xs i = S := ⟨_, rfl⟩
      have R : Hid _ := quo_step hX (by omega) (by omega) d1 r0 r1 bx.1 bx.2 hS.symm HV.out
      have p1 : IntKind.i64.wrap (r * 1073741824) = r * 1073741824 := wrap_self _ (by omega) (by omega)
      have p2 : IntKind.i64.wrap (r * 1073741824 + nth xs i) = S := by rw [hS]; exact wrap_self _ (by omega) (by omega)
      have s0 : 0 ≤ S := by omega
      have s1 : S ≤ 1152921504606846976 := by omega
      have t1 : ((i : Int) + 1 - 1) = i := by omega
      have u1 : S.tdiv d = S / d := Int.tdiv_eq_ediv_of_nonneg s0
      have u2 : S.tmod d = S % d := Int.tmod_eq_emod_of_nonneg s0
      have u3 : IntKind.i64.wrap (S / d) = S / d := wrap_self _ (by have := Int.ediv_nonneg s0 (Int.le_of_lt d1); omega) (by have := Int.ediv_le_self d s0; omega)
      have nz : (d == 0) = false := by rw [beq_eq_false_iff_ne]; omega
      have nz2 : ¬ d = 0 := by omega
      clear hS
      go_wp2
      go_roundw
      case rel => exact ⟨i, _, _, by omega, rfl, by go_num, R.out.2.2.1, R.out.2.2.2, by simp [hl], R.out.1, R.out.2.1, by simpa using hc.set i (by omega) _, by simpa using hwr.setCell i (by omega) _⟩
      case measure => simp [intOf]
    · have ek : j = 0 := by omega
      subst ek
      have Rv : Hid (val X * d + r = val xs) := by have := HV.out; rw [List.drop_zero, List.drop_zero] at this; exact this
      clear HV
      go_wp2_with fail
      refine (norm_rd _ _ _ X wr hl.symm hX (by omega) (by omega) (fun _ => ⟨_, _, rfl, hc⟩)).mono ?_
      rintro e w' ⟨n, zs, rfl, hrd, hnm, hvz, rfl⟩
      have hvz' : Hid (val zs * d + r = val xs) := by have := Rv.out; rw [← hvz] at this; exact this
      clear hvz
      go_wp2
      exact bodyPost_ret (v := .tuple #[.slice (some ⟨w.heap.size, 0, none⟩) n xs.length, .int .i64 r]) (by simp [results, Tryz.results140, go_sem]) rfl ⟨_, zs, r, rfl, hrd, hnm, hvz'.out, r0, r1, hb⟩
theorem small_any (v1 : Value) (xs : List Int) (d : Int) (w : World) (h1 : Rd w v1 xs) (l1 : xs.length ≤ 549755813888) (d1 : 0 < d) (d2 : d < 1073741824) :
    Calls Tryz.prog 140 #[v1, .int .i64 d] w fun e w' => ∃ r zs m, e = .returned (.tuple #[r, .int .i64 m]) ∧ Rd w' r zs ∧ Nm zs ∧ val zs * d + m = val xs ∧ 0 ≤ m ∧ m < d ∧ Below w.heap.size w w' := by
  refine (small_new v1 xs d w h1 l1 d1 d2).mono ?_
  rintro e w' ⟨n, zs, m, he, hr⟩
  exact ⟨_, zs, m, he, hr⟩
end Go.Proofs.YtgfjjlopfoenkaaGreatDoor.L

namespace Go.Proofs.YtgfjjlopfoenkaaGreatDoor.L
open Go.RowKit Tl

theorem val_mod2 (xs : List Int) : val xs % 2 = nth xs 0 % 2 := by
  cases xs with
  | nil => rfl
  | cons x xs =>
    show (x + 1073741824 * val xs) % 2 = x % 2
    omega
set_option maxRecDepth 100000 in
/-- (Nat).Even of the reference. -/
theorem Even_any (v : Value) (xs : List Int) (w : World) (h : Rd w v xs) :
    Calls Tryz.prog 94 #[v] w fun e w' => e = .returned (.bool (decide (val xs % 2 = 0))) ∧ w' = w := by
  obtain ⟨hx, a, c, rfl, _, _, g⟩ := h
  have m := val_mod2 xs
  by_cases h0 : xs.length = 0
  · have hz : ((xs.length : Int) == 0) = true := by rw [beq_iff_eq]; omega
    have r : nth xs 0 = 0 := nth_out xs 0 (by omega)
    have R : Hid (decide (val xs % 2 = 0) = true) := by show _ = _; rw [decide_eq_true_eq, m, r]; rfl
    clear g m
    go_enter Tryz.func94, Tryz.ntmps94
    go_wp2
    go_ret
    exact ⟨by rw [R.out]; rfl, rfl⟩
  · have hz : ((xs.length : Int) == 0) = false := by rw [beq_eq_false_iff_ne]; omega
    obtain ⟨b, o, rfl, q⟩ := g (by omega)
    have d1 := q.at (i := 0) (by omega)
    have bx := nth_bd hx 0
    rw [Nat.add_zero] at d1
    have t1 : (nth xs 0).tmod 2 = nth xs 0 % 2 := Int.tmod_eq_emod_of_nonneg bx.1
    have R : Hid (decide (val xs % 2 = 0) = (nth xs 0 % 2 == 0)) := by show _ = _; rw [m, Bool.eq_iff_iff, decide_eq_true_iff, beq_iff_eq]
    have l1 : 0 < xs.length := by omega
    clear g m
    go_enter Tryz.func94, Tryz.ntmps94
    go_wp2
    go_ret
    exact ⟨by rw [R.out]; rfl, rfl⟩
end Go.Proofs.YtgfjjlopfoenkaaGreatDoor.L

namespace Go.Proofs.YtgfjjlopfoenkaaGreatDoor.L
open Go.RowKit Tl

/-- append(l, y), l nil or a row of the call's own. -/
theorem wpList_push {w : World} {ops : Array Oper} {rest : List Oper} {o : Oper} {a : Act} {Q : Exit → Act → World → Prop} (hgd : o.guard = none) (s x : Operand)
    (ho : o.op = .call { callee := .builtin .append, args := #[s, x], argTypes := #[46, 46] })
    (v : Value) (Y : List Int) (hs : a.eval s = v) (base : Nat) (hown : w.ownsRow base 3 1 v Y.length (Y.map (Value.int .i64))) (hL : Y.length ≤ 1099511627776)
    (ad c : Nat) (y : Int) (hx : a.eval x = .slice (some ⟨ad, 0, none⟩) 1 c) (hn : w.cell? ⟨ad, 0, none⟩ = some (.int .i64 y)) (hbase : base ≤ w.heap.size)
    (h : ∀ v' w', w'.ownsRow base 3 1 v' (Y ++ [y]).length ((Y ++ [y]).map (Value.int .i64)) → Below base w w' → wpList Tryz.prog ops Q rest (a.put o.dst v') w') : wpList Tryz.prog ops Q (o :: rest) a w := by
  obtain ⟨i, hi, hz0, hz1, hz2⟩ := info_parts Tryz.infoU
  refine wpList_append_own w hgd s x 46 ho base 3 i (.int .i64 0) 1 8 Tryz.underlying46 hi hz0 hz1 hz2 rfl (by decide) v Y.length _ hs hown ⟨ad, 0, none⟩ 1 c [.int .i64 y] hx rfl ?_ (by intro u hu; simp at hu; subst hu; rfl) (by unfold maxLen; omega) (by omega) hbase ?_
  · intro j u hj
    match j, hj with
    | 0, hj => simp at hj; subst hj; simpa [Addr.add] using hn
  · intro v' w' hown' hgr _
    refine h v' w' (by simpa using hown') ⟨hgr.os, hgr.tape, hgr.output, hgr.size, fun k hk => hgr.block k (by omega) ?_⟩
    obtain ⟨_, hr⟩ := hown
    rcases hr with ⟨rfl, _⟩ | ⟨g, cap, cur, rfl, hb, _⟩
    · simp [Value.ownBlock]
    · simp [Value.ownBlock]; omega
end Go.Proofs.YtgfjjlopfoenkaaGreatDoor.L

namespace Go.Proofs.YtgfjjlopfoenkaaGreatDoor.L
open Go.RowKit Tl

theorem own_grow {w w' : World} {base n : Nat} {e : TypeId} {v : Value} {xs : List Value} (h : w.ownsRow base e 1 v n xs) (k : Below w.heap.size w w') : w'.ownsRow base e 1 v n xs := by
  obtain ⟨h1, h2⟩ := h
  refine ⟨h1, ?_⟩
  rcases h2 with h2 | ⟨g, cap, cur, e1, e2, e3, e4⟩
  · exact Or.inl h2
  · exact Or.inr ⟨g, cap, cur, e1, e2, (k.block g (Own.lt ⟨cur, _, e3⟩)).trans e3, e4⟩
theorem own_rd {w : World} {base : Nat} {e : TypeId} {v : Value} {Y : List Int} (hY : Wd Y) (h : w.ownsRow base e 1 v Y.length (Y.map (Value.int .i64))) : Rd w v Y := by
  obtain ⟨_, h2⟩ := h
  rcases h2 with ⟨rfl, h2⟩ | ⟨g, cap, cur, rfl, _, e3, e4, e5, e6, e7⟩
  · have : Y = [] := List.eq_nil_of_length_eq_zero h2
    subst this
    exact rd_nil w
  · refine ⟨hY, _, _, rfl, e4, e5, fun _ => ⟨g, 0, rfl, ?_⟩⟩
    intro i hi
    rw [Nat.mul_one] at e7
    have h7 := congrArg (fun l : List Value => l[i]?) e7
    simp only [List.getElem?_take, hi, if_true, List.getElem?_map] at h7
    simp only [World.cell?, e3, Nat.zero_add, Option.isSome_none, Bool.false_eq_true, if_false]
    rw [Array.getElem?_toList] at h7
    rw [h7]
    simp [nth, List.getD_eq_getElem?_getD, List.getElem?_eq_getElem hi]
theorem of_step {Y : List Int} {m N : Int} (hY : Wd Y) (m0 : 0 < m) (hv : val Y + pw Y.length * m = N) :
    Wd (Y ++ [m % 1073741824]) ∧ val (Y ++ [m % 1073741824]) + pw (Y ++ [m % 1073741824]).length * (m / 1073741824) = N ∧ (m / 1073741824 ≠ 0 ∨ Nm (Y ++ [m % 1073741824])) := by
  refine ⟨hY.append (Wd.cons (by omega) (by omega) Wd.nil), ?_, ?_⟩
  · rw [val_append, List.length_append]
    simp only [List.length_singleton, pw, val]
    have e : m = m % 1073741824 + 1073741824 * (m / 1073741824) := by omega
    generalize m % 1073741824 = a at *
    generalize m / 1073741824 = b at *
    grind
  · by_cases h : m / 1073741824 = 0
    · right
      refine Or.inr ?_
      simp
      omega
    · exact Or.inl h
theorem of_len {Y : List Int} {m N : Int} (hY : Wd Y) (m0 : 0 < m) (hN : N < 18446744073709551616) (hv : val Y + pw Y.length * m = N) : Y.length ≤ 2 := by
  have v0 := val_nonneg hY
  by_cases h : Y.length ≤ 2
  · exact h
  · have p := pw_mono (show 3 ≤ Y.length by omega)
    have e : pw 3 = 1237940039285380274899124224 := by decide
    have q := Int.mul_le_mul_of_nonneg_left (show 1 ≤ m by omega) (Int.le_of_lt (pw_pos Y.length))
    omega
set_option maxHeartbeats 1600000 in
set_option maxRecDepth 100000 in
/-- NatOf of the reference. -/
theorem NatOf_any (N : Int) (w : World) (n0 : 0 ≤ N) (n1 : N < 9223372036854775808) :
    Calls Tryz.prog 84 #[.int .i64 N] w fun e w' => ∃ r zs, e = .returned r ∧ Rd w' r zs ∧ Nm zs ∧ val zs = N ∧ Below w.heap.size w w' := by
  go_enter Tryz.func84, Tryz.ntmps84
  go_wp2_with fail
  go_loopw [0, 3] (fun n l wr => ∃ (m : Int) (Y : List Int), n = .int .i64 m ∧ 0 ≤ m ∧ m ≤ N ∧ wr.ownsRow w.heap.size 3 1 l Y.length (Y.map (Value.int .i64)) ∧ Wd Y ∧ val Y + pw Y.length * m = N ∧ (m ≠ 0 ∨ Nm Y) ∧ Below w.heap.size w wr) (fun n _ _ => (intOf n).toNat)
  case atStart => exact ⟨N, [], rfl, n0, Int.le_refl _, ⟨by simp, Or.inl ⟨rfl, rfl⟩⟩, Wd.nil, by simp [val, pw], Or.inr (Or.inl rfl), Below.refl _ _⟩
  case round =>
    obtain ⟨m, Y, rfl, m0, m1, hown, hY, hv, hn, hb⟩ := hrel
    have HV : Hid (val Y + pw Y.length * m = N) := hv
    have HN : Hid (m ≠ 0 ∨ Nm Y) := hn
    clear hv hn
    by_cases hm : 0 < m
    · have R : Hid _ := of_step hY hm HV.out
      have L := of_len hY hm (by omega) HV.out
      have hsz := hb.size
      have u1 : m.tmod 1073741824 = m % 1073741824 := Int.tmod_eq_emod_of_nonneg m0
      have u2 : m.tdiv 1073741824 = m / 1073741824 := Int.tdiv_eq_ediv_of_nonneg m0
      go_wp2_with (first
        | (at_builtin; (refine wpList_push rfl _ _ rfl _ Y rfl w.heap.size (own_grow hown ((Below.refl _ _).alloc (Nat.le_refl _) _)) (by omega) _ _ (m % 1073741824) rfl (by simp) (by simp; omega) ?_; intro l' w2 hown2 hb2; have hb3 := (hb.alloc (Nat.le_trans (Nat.le_refl _) hsz) _).trans hb2))
        | fail)
      go_roundw
      case rel => exact ⟨m / 1073741824, _, rfl, by omega, by omega, hown2, R.out.1, R.out.2.1, R.out.2.2, hb3⟩
      case measure => simp [intOf]; omega
    · have e0 : m = 0 := by omega
      have Rv : Hid (val Y = N ∧ Nm Y) := by
        have h1 := HV.out
        rw [e0, Int.mul_zero, Int.add_zero] at h1
        exact ⟨h1, HN.out.resolve_left (by omega)⟩
      have hrd : Hid (Rd wr u3 Y) := own_rd hY hown
      clear e0 HV HN
      go_wp2
      go_ret
      exact ⟨_, rfl, Y, hrd.out, Rv.out.2, Rv.out.1, hb⟩
set_option maxHeartbeats 1600000 in
set_option maxRecDepth 100000 in
/-- NatOf64 of the reference. -/
theorem NatOf64_any (N : Int) (w : World) (n0 : 0 ≤ N) (n1 : N < 18446744073709551616) :
    Calls Tryz.prog 82 #[.int .u64 N] w fun e w' => ∃ r zs, e = .returned r ∧ Rd w' r zs ∧ Nm zs ∧ val zs = N ∧ Below w.heap.size w w' := by
  go_enter Tryz.func82, Tryz.ntmps82
  go_wp2_with fail
  go_loopw [0, 3] (fun n l wr => ∃ (m : Int) (Y : List Int), n = .int .u64 m ∧ 0 ≤ m ∧ m ≤ N ∧ wr.ownsRow w.heap.size 3 1 l Y.length (Y.map (Value.int .i64)) ∧ Wd Y ∧ val Y + pw Y.length * m = N ∧ (m ≠ 0 ∨ Nm Y) ∧ Below w.heap.size w wr) (fun n _ _ => (intOf n).toNat)
  case atStart => exact ⟨N, [], rfl, n0, Int.le_refl _, ⟨by simp, Or.inl ⟨rfl, rfl⟩⟩, Wd.nil, by simp [val, pw], Or.inr (Or.inl rfl), Below.refl _ _⟩
  case round =>
    obtain ⟨m, Y, rfl, m0, m1, hown, hY, hv, hn, hb⟩ := hrel
    have HV : Hid (val Y + pw Y.length * m = N) := hv
    have HN : Hid (m ≠ 0 ∨ Nm Y) := hn
    clear hv hn
    by_cases hm : 0 < m
    · have R : Hid _ := of_step hY hm HV.out
      have L := of_len hY hm (by omega) HV.out
      have hsz := hb.size
      have u1 : m.tmod 1073741824 = m % 1073741824 := Int.tmod_eq_emod_of_nonneg m0
      have u2 : m.tdiv 1073741824 = m / 1073741824 := Int.tdiv_eq_ediv_of_nonneg m0
      have u3 : IntKind.i64.wrap (m % 1073741824) = m % 1073741824 := wrap_self _ (by omega) (by omega)
      go_wp2_with (first
        | (at_builtin; (refine wpList_push rfl _ _ rfl _ Y rfl w.heap.size (own_grow hown ((Below.refl _ _).alloc (Nat.le_refl _) _)) (by omega) _ _ (m % 1073741824) rfl (by simp) (by simp; omega) ?_; intro l' w2 hown2 hb2; have hb3 := (hb.alloc (Nat.le_trans (Nat.le_refl _) hsz) _).trans hb2))
        | fail)
      go_roundw
      case rel => exact ⟨m / 1073741824, _, rfl, by omega, by omega, hown2, R.out.1, R.out.2.1, R.out.2.2, hb3⟩
      case measure => simp [intOf]; omega
    · have e0 : m = 0 := by omega
      have Rv : Hid (val Y = N ∧ Nm Y) := by
        have h1 := HV.out
        rw [e0, Int.mul_zero, Int.add_zero] at h1
        exact ⟨h1, HN.out.resolve_left (by omega)⟩
      have hrd : Hid (Rd wr u3 Y) := own_rd hY hown
      clear e0 HV HN
      go_wp2
      go_ret
      exact ⟨_, rfl, Y, hrd.out, Rv.out.2, Rv.out.1, hb⟩
end Go.Proofs.YtgfjjlopfoenkaaGreatDoor.L

namespace Go.Proofs.YtgfjjlopfoenkaaGreatDoor.L
open Go.RowKit Tl

theorem infoB : ∃ i, Tryz.prog.info? 5 = some i ∧ i.zero = some (.int .u8 0) ∧ i.size = 1 ∧ i.bytes = 1 := by
  have h : ((Tryz.prog.info? 5).map fun i => (i.zero, i.size, i.bytes)) = some (some (.int .u8 0), 1, 1) := by kernel_rfl
  obtain ⟨i, h1, h2⟩ := Option.map_eq_some_iff.1 h
  simp only [Prod.mk.injEq] at h2
  exact ⟨i, h1, h2.1, h2.2.1, h2.2.2⟩
/-- append(l, y) of bytes, l nil or a row of the call's own. -/
theorem wpList_pushb {w : World} {ops : Array Oper} {rest : List Oper} {o : Oper} {a : Act} {Q : Exit → Act → World → Prop} (hgd : o.guard = none) (s x : Operand)
    (ho : o.op = .call { callee := .builtin .append, args := #[s, x], argTypes := #[142, 142] })
    (v : Value) (Y : List Int) (hs : a.eval s = v) (base : Nat) (hown : w.ownsRow base 5 1 v Y.length (Y.map (Value.int .u8))) (hL : Y.length ≤ 70368744177664)
    (ad c : Nat) (y : Int) (hx : a.eval x = .slice (some ⟨ad, 0, none⟩) 1 c) (hn : w.cell? ⟨ad, 0, none⟩ = some (.int .u8 y)) (hbase : base ≤ w.heap.size)
    (h : ∀ v' w', w'.ownsRow base 5 1 v' (Y ++ [y]).length ((Y ++ [y]).map (Value.int .u8)) → Below base w w' → wpList Tryz.prog ops Q rest (a.put o.dst v') w') : wpList Tryz.prog ops Q (o :: rest) a w := by
  obtain ⟨i, hi, hz0, hz1, hz2⟩ := infoB
  refine wpList_append_own w hgd s x 142 ho base 5 i (.int .u8 0) 1 1 Tryz.underlying142 hi hz0 hz1 hz2 rfl (by decide) v Y.length _ hs hown ⟨ad, 0, none⟩ 1 c [.int .u8 y] hx rfl ?_ (by intro u hu; simp at hu; subst hu; rfl) (by unfold maxLen; omega) (by omega) hbase ?_
  · intro j u hj
    match j, hj with
    | 0, hj => simp at hj; subst hj; simpa [Addr.add] using hn
  · intro v' w' hown' hgr _
    refine h v' w' (by simpa using hown') ⟨hgr.os, hgr.tape, hgr.output, hgr.size, fun k hk => hgr.block k (by omega) ?_⟩
    obtain ⟨_, hr⟩ := hown
    rcases hr with ⟨rfl, _⟩ | ⟨g, cap, cur, rfl, hb, _⟩
    · simp [Value.ownBlock]
    · simp [Value.ownBlock]; omega
/-- append(l, y), l nil or a row of the call's own: what lies in other rows stays. -/
theorem wpList_pushk {w : World} {ops : Array Oper} {rest : List Oper} {o : Oper} {a : Act} {Q : Exit → Act → World → Prop} (hgd : o.guard = none) (s x : Operand)
    (ho : o.op = .call { callee := .builtin .append, args := #[s, x], argTypes := #[46, 46] })
    (v : Value) (Y : List Int) (hs : a.eval s = v) (base L : Nat) (hown : w.ownsRow base 3 1 v Y.length (Y.map (Value.int .i64))) (hlow : ∀ g, v.ownBlock = some g → g < L) (hL : Y.length ≤ 1099511627776)
    (ad c : Nat) (y : Int) (hx : a.eval x = .slice (some ⟨ad, 0, none⟩) 1 c) (hn : w.cell? ⟨ad, 0, none⟩ = some (.int .i64 y)) (hbase : base ≤ w.heap.size)
    (h : ∀ v' w', w'.ownsRow base 3 1 v' (Y ++ [y]).length ((Y ++ [y]).map (Value.int .i64)) → Below base w w' → (∀ k, L ≤ k → k < w.heap.size → w'.heap[k]? = w.heap[k]?) → wpList Tryz.prog ops Q rest (a.put o.dst v') w') : wpList Tryz.prog ops Q (o :: rest) a w := by
  obtain ⟨i, hi, hz0, hz1, hz2⟩ := info_parts Tryz.infoU
  refine wpList_append_own w hgd s x 46 ho base 3 i (.int .i64 0) 1 8 Tryz.underlying46 hi hz0 hz1 hz2 rfl (by decide) v Y.length _ hs hown ⟨ad, 0, none⟩ 1 c [.int .i64 y] hx rfl ?_ (by intro u hu; simp at hu; subst hu; rfl) (by unfold maxLen; omega) (by omega) hbase ?_
  · intro j u hj
    match j, hj with
    | 0, hj => simp at hj; subst hj; simpa [Addr.add] using hn
  · intro v' w' hown' hgr _
    refine h v' w' (by simpa using hown') ⟨hgr.os, hgr.tape, hgr.output, hgr.size, fun k hk => hgr.block k (by omega) ?_⟩ fun k hk hk' => hgr.block k hk' ?_
    · obtain ⟨_, hr⟩ := hown
      rcases hr with ⟨rfl, _⟩ | ⟨g, cap, cur, rfl, hb, _⟩
      · simp [Value.ownBlock]
      · simp [Value.ownBlock]; omega
    · intro e
      have := hlow k e.symm
      omega
def slen : Value → Nat | .slice _ n _ => n | _ => 0
theorem own_slen {w : World} {base n : Nat} {e : TypeId} {v : Value} {xs : List Value} (h : w.ownsRow base e 1 v n xs) : slen v = n := by
  obtain ⟨_, hr⟩ := h
  rcases hr with ⟨rfl, h0⟩ | ⟨g', cap, cur, rfl, _⟩
  · rw [h0]; rfl
  · rfl
theorem own_low {w : World} {base n : Nat} {e : TypeId} {v : Value} {xs : List Value} (h : w.ownsRow base e 1 v n xs) (g : Nat) (hg : v.ownBlock = some g) : g < w.heap.size := by
  obtain ⟨_, hr⟩ := h
  rcases hr with ⟨rfl, _⟩ | ⟨g', cap, cur, rfl, hb, e3, _⟩
  · simp [Value.ownBlock] at hg
  · simp [Value.ownBlock] at hg
    subst hg
    exact Own.lt ⟨cur, _, e3⟩
/-- What a row of bytes of the call's own holds. -/
theorem own_bytes {w : World} {base : Nat} {e : TypeId} {v : Value} {Y : List Int} (h : w.ownsRow base e 1 v Y.length (Y.map (Value.int .u8))) (ne : 0 < Y.length) :
    ∃ g cap, v = .slice (some ⟨g, 0, none⟩) Y.length cap ∧ base ≤ g ∧ g < w.heap.size ∧ Y.length ≤ cap ∧ cap ≤ 9223372036854775807 ∧ ∀ i, i < Y.length → w.cell? ⟨g, i, none⟩ = some (.int .u8 (nth Y i)) := by
  obtain ⟨_, h2⟩ := h
  rcases h2 with ⟨rfl, h2⟩ | ⟨g, cap, cur, rfl, hb, e3, e4, e5, e6, e7⟩
  · omega
  · refine ⟨g, cap, rfl, hb, Own.lt ⟨cur, _, e3⟩, e4, by unfold maxLen at e5; omega, fun i hi => ?_⟩
    rw [Nat.mul_one] at e7
    have h7 := congrArg (fun l : List Value => l[i]?) e7
    simp only [List.getElem?_take, hi, if_true, List.getElem?_map] at h7
    simp only [World.cell?, e3, Option.isSome_none, Bool.false_eq_true, if_false]
    rw [Array.getElem?_toList] at h7
    rw [h7]
    simp [nth, List.getD_eq_getElem?_getD, List.getElem?_eq_getElem hi]
/-- And one of ints. -/
theorem own_ints {w : World} {base : Nat} {e : TypeId} {v : Value} {Y : List Int} (h : w.ownsRow base e 1 v Y.length (Y.map (Value.int .i64))) (ne : 0 < Y.length) :
    ∃ g cap, v = .slice (some ⟨g, 0, none⟩) Y.length cap ∧ base ≤ g ∧ g < w.heap.size ∧ Y.length ≤ cap ∧ cap ≤ 9223372036854775807 ∧ ∀ i, i < Y.length → w.cell? ⟨g, i, none⟩ = some (.int .i64 (nth Y i)) := by
  obtain ⟨_, h2⟩ := h
  rcases h2 with ⟨rfl, h2⟩ | ⟨g, cap, cur, rfl, hb, e3, e4, e5, e6, e7⟩
  · omega
  · refine ⟨g, cap, rfl, hb, Own.lt ⟨cur, _, e3⟩, e4, by unfold maxLen at e5; omega, fun i hi => ?_⟩
    rw [Nat.mul_one] at e7
    have h7 := congrArg (fun l : List Value => l[i]?) e7
    simp only [List.getElem?_take, hi, if_true, List.getElem?_map] at h7
    simp only [World.cell?, e3, Option.isSome_none, Bool.false_eq_true, if_false]
    rw [Array.getElem?_toList] at h7
    rw [h7]
    simp [nth, List.getD_eq_getElem?_getD, List.getElem?_eq_getElem hi]

/-- The parts of nine digits of V, k of them, and what is left. -/
def Prt (V : Nat) (ps xs : List Int) : Prop := (∀ i, i < ps.length → nth ps i = ((V / 10 ^ (9 * i) % 1000000000 : Nat) : Int)) ∧ val xs = ((V / 10 ^ (9 * ps.length) : Nat) : Int)
theorem Prt.next {V : Nat} {ps xs zs : List Int} {r : Int} (h : Prt V ps xs) (hv : val zs * 1000000000 + r = val xs) (r0 : 0 ≤ r) (r1 : r < 1000000000) : Prt V (ps ++ [r]) zs := by
  obtain ⟨h1, h2⟩ := h
  have e : (V / 10 ^ (9 * (ps ++ [r]).length) : Nat) = V / 10 ^ (9 * ps.length) / 1000000000 := by
    rw [List.length_append, List.length_singleton, Nat.mul_add, Nat.pow_add, ← Nat.div_div_eq_div_mul]
  generalize hA : V / 10 ^ (9 * ps.length) = A at *
  refine ⟨fun i hi => ?_, ?_⟩
  · rw [List.length_append, List.length_singleton] at hi
    by_cases c : i < ps.length
    · have : nth (ps ++ [r]) i = nth ps i := by simp [nth, List.getD_eq_getElem?_getD, List.getElem?_append_left c]
      rw [this]; exact h1 i c
    · obtain rfl : i = ps.length := by omega
      have : nth (ps ++ [r]) ps.length = r := by simp [nth, List.getD_eq_getElem?_getD]
      rw [this, hA]
      omega
  · rw [e]
    omega
theorem Prt.done {V : Nat} {ps : List Int} (h : Prt V ps []) : V < 10 ^ (9 * ps.length) := by
  have h2 := h.2
  have p : 0 < 10 ^ (9 * ps.length) := Nat.pow_pos (by decide)
  generalize 10 ^ (9 * ps.length) = t at *
  have h3 : V / t = 0 := by simp [val] at h2; omega
  rcases Nat.div_eq_zero_iff.1 h3 with h3 | h3 <;> omega
theorem val_nil0 {xs : List Int} (h : ¬ 0 < xs.length) : xs = [] := List.eq_nil_of_length_eq_zero (by omega)
end Go.Proofs.YtgfjjlopfoenkaaGreatDoor.L
