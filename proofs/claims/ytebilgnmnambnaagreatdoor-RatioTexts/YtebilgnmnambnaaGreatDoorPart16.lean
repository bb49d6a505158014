import Derived.Test.YtebilgnmnambnaaGreatDoorPart15
import Derived.Test.YtebilgnmnambnaaGreatDoorPart02
import Derived.Lib.ItoaNum
import Derived.Deep.RegionWith
import Derived.Deep.RegionHeld3
import Derived.BigRegion

namespace Go.Proofs.YtebilgnmnambnaaGreatDoor
open Go.RowKit Tn
theorem drop_rep (n : Nat) : List.drop n (List.replicate (n + 1) (0 : Int)) = [0] := by simp
theorem add_sum {xs ys S' : List Int} {c : Int} (hx : Wd xs) (hy : Wd ys) (hle : ys.length ≤ xs.length) (h0 : 0 ≤ c) (hS : Wd S') (e : val S' + pw (xs ++ [0]).length * c = val (xs ++ [0]) + val ys) : val S' = val xs + val ys := by
  have e1 : val (xs ++ [0]) = val xs := by rw [val_append]; simp [val]
  have e2 : (xs ++ [0]).length = xs.length + 1 := by simp
  rw [e1, e2] at e
  have b1 := val_lt hx; have b2 := val_lt hy; have b3 := pw_mono hle; have b4 := val_nonneg hS; have b5 := pw_pos xs.length
  have hc : c = 0 := by
    by_cases h : c = 0
    · exact h
    · have := Int.mul_le_mul_of_nonneg_left (show 1 ≤ c by omega) (Int.le_of_lt (pw_pos (xs.length + 1)))
      simp only [pw] at this e; omega
  rw [hc] at e; omega
set_option maxHeartbeats 800000 in
set_option maxRecDepth 100000 in
theorem add_long (a1 a2 : Option Addr) (c1 c2 : Nat) (xs ys : List Int) (w : World) (hx : Wd xs) (hy : Wd ys) (hle : ys.length ≤ xs.length) (hL : xs.length ≤ 549755813888) (h1 : 0 < xs.length → ∃ b o, a1 = some ⟨b, o, none⟩ ∧ Cells w b o xs) (h2 : 0 < ys.length → ∃ b o, a2 = some ⟨b, o, none⟩ ∧ Cells w b o ys) :
    Calls Tryz.prog 119 #[.agg #[.slice a1 xs.length c1], .agg #[.slice a2 ys.length c2]] w fun e w' => ∃ r zs, e = .returned (.agg #[r]) ∧ Rd w' r zs ∧ Nm zs ∧ val zs = val xs + val ys ∧ Below w.heap.size w w' := by
  have hs : Hid (∀ w', Below w.heap.size w w' → 0 < xs.length → ∃ b o, a1 = some ⟨b, o, none⟩ ∧ Cells w' b o xs) := fun w' h l => by obtain ⟨b, o, e, c⟩ := h1 l; exact ⟨b, o, e, c.grow h⟩
  have hs2 : Hid (∀ w', Below w.heap.size w w' → 0 < ys.length → ∃ b o, a2 = some ⟨b, o, none⟩ ∧ b ≠ w.heap.size + 1 + 1 + 1 ∧ Cells w' b o ys) := fun w' h l => by obtain ⟨b, o, e, c⟩ := h2 l; exact ⟨b, o, e, by have := c.lt l; omega, c.grow h⟩
  clear h1 h2
  go_enter Tryz.func119, Tryz.ntmps119
  go_wp2_with (first
    | (at_make; refine wpList_make_words rfl _ _ rfl (xs.length + 1) _ _ rfl rfl (by simp) (by simp) (by omega) ?_; intro w1 k1 k2 k3 k4; have X0 := (((Bx.new w _ _).alloc _).alloc _).below k3; have X1 := ((Bx.new _ _ _).alloc _).below k3; have X2 := (Bx.new _ _ _).below k3; simp only [World.size_alloc] at X1 X2 k1 k2 k3 k4; have q0 := below_alloc3 k3; clear k3; have x0 := X0.1)
    | ((with_reducible refine at_copy ?_); go_must (refine wpList_copy_words rfl _ _ rfl (List.replicate (xs.length + 1) 0) xs _ 0 _ a1 _ _ _ rfl rfl (by simp) rfl (by simp) k1 k2 (fun l => hs.out w1 q0 l) ?_; intro w2 k5 k6; rw [drop_rep] at k5; have Y1 := X1.wr k6 (by omega); have Y2 := X2.wr k6 (by omega); have p0 := q0.trans (k6.below (B := w.heap.size) (by omega) (by omega)); have y1 := Y1.1))
    | fail)
  refine (addInto_at _ 0 _ _ (xs ++ [0]) a2 _ _ ys w2 (by simp) rfl (hx.append (Wd.cons (by omega) (by omega) Wd.nil)) hy (by simp; omega) (by simp; omega) k5 ((k2.wr k6).free _ _) (hs2.out w2 p0)).mono ?_
  rintro e w3 ⟨S', c, rfl, c0, c1, hl, hw, hv, hc, hwr⟩
  have hsum : Hid (val S' = val xs + val ys) := add_sum hx hy hle c0 hw hv
  have hl' : Hid (S'.length = xs.length + 1) := hl.trans (by simp)
  have Z2 := Y2.wr hwr (by omega)
  have p1 := p0.trans (hwr.below (B := w.heap.size) (by omega) (by have := p0.size; omega))
  clear hv hl y1 x0
  go_wp2_with fail
  refine (trim_rd _ _ _ S' w3 hl'.out.symm hw (by rw [hl'.out]; omega) (by omega) (fun _ => ⟨_, _, rfl, hc⟩)).mono ?_
  rintro e w4 ⟨n, zs, rfl, -, hrd, hnm, hvz, hbl⟩
  have V2 := Z2.below hbl
  have v1 := V2.1
  have v2 := V2.2
  have hvz' : Hid (val zs = val xs + val ys) := hvz.trans hsum.out
  clear hvz
  go_wp2
  refine bodyPost_ret (v := .agg #[.slice (some ⟨w.heap.size + 1 + 1 + 1, 0, none⟩) n (xs.length + 1)]) (by simp [results, Tryz.results119, go_sem, v1]) rfl ⟨_, zs, rfl, hrd.put (by intro b o l c e; simp at e; omega), hnm, hvz'.out, below_put (p1.trans (hbl.mono p1.size)) (by omega) _⟩
set_option maxHeartbeats 800000 in
set_option maxRecDepth 100000 in
theorem add_short (a1 a2 : Option Addr) (c1 c2 : Nat) (xs ys : List Int) (w : World) (hx : Wd xs) (hy : Wd ys) (hle : xs.length < ys.length) (hL : ys.length ≤ 549755813888) (h1 : 0 < xs.length → ∃ b o, a1 = some ⟨b, o, none⟩ ∧ Cells w b o xs) (h2 : 0 < ys.length → ∃ b o, a2 = some ⟨b, o, none⟩ ∧ Cells w b o ys) :
    Calls Tryz.prog 119 #[.agg #[.slice a1 xs.length c1], .agg #[.slice a2 ys.length c2]] w fun e w' => ∃ r zs, e = .returned (.agg #[r]) ∧ Rd w' r zs ∧ Nm zs ∧ val zs = val xs + val ys ∧ Below w.heap.size w w' := by
  have hs : Hid (∀ w', Below w.heap.size w w' → 0 < ys.length → ∃ b o, a2 = some ⟨b, o, none⟩ ∧ Cells w' b o ys) := fun w' h l => by obtain ⟨b, o, e, c⟩ := h2 l; exact ⟨b, o, e, c.grow h⟩
  have hs2 : Hid (∀ w', Below w.heap.size w w' → 0 < xs.length → ∃ b o, a1 = some ⟨b, o, none⟩ ∧ b ≠ w.heap.size + 1 + 1 + 1 ∧ Cells w' b o xs) := fun w' h l => by obtain ⟨b, o, e, c⟩ := h1 l; exact ⟨b, o, e, by have := c.lt l; omega, c.grow h⟩
  clear h1 h2
  go_enter Tryz.func119, Tryz.ntmps119
  go_wp2_with (first
    | (at_make; refine wpList_make_words rfl _ _ rfl (ys.length + 1) _ _ rfl rfl (by simp) (by simp) (by omega) ?_; intro w1 k1 k2 k3 k4; have X0 := (((Bx.new w _ _).alloc _).alloc _).below k3; have X1 := ((Bx.new _ _ _).alloc _).below k3; have X2 := (Bx.new _ _ _).below k3; simp only [World.size_alloc] at X1 X2 k1 k2 k3 k4; have q0 := below_alloc3 k3; clear k3; have x0 := X0.1)
    | ((with_reducible refine at_copy ?_); refine wpList_copy_words rfl _ _ rfl (List.replicate (ys.length + 1) 0) ys _ 0 _ a2 _ _ _ rfl rfl (by simp) rfl (by simp) k1 k2 (fun l => hs.out w1 q0 l) ?_; intro w2 k5 k6; rw [drop_rep] at k5; have Y1 := X1.wr k6 (by omega); have Y2 := X2.wr k6 (by omega); have p0 := q0.trans (k6.below (B := w.heap.size) (by omega) (by omega)); have y1 := Y1.1)
    | fail)
  refine (addInto_at _ 0 _ _ (ys ++ [0]) a1 _ _ xs w2 (by simp) rfl (hy.append (Wd.cons (by omega) (by omega) Wd.nil)) hx (by simp; omega) (by simp; omega) k5 ((k2.wr k6).free _ _) (hs2.out w2 p0)).mono ?_
  rintro e w3 ⟨S', c, rfl, c0, c1, hl, hw, hv, hc, hwr⟩
  have hsum : Hid (val S' = val xs + val ys) := (add_sum hy hx (Nat.le_of_lt hle) c0 hw hv).trans (Int.add_comm _ _)
  have hl' : Hid (S'.length = ys.length + 1) := hl.trans (by simp)
  have Z2 := Y2.wr hwr (by omega)
  have p1 := p0.trans (hwr.below (B := w.heap.size) (by omega) (by have := p0.size; omega))
  clear hv hl y1 x0
  go_wp2_with fail
  refine (trim_rd _ _ _ S' w3 hl'.out.symm hw (by rw [hl'.out]; omega) (by omega) (fun _ => ⟨_, _, rfl, hc⟩)).mono ?_
  rintro e w4 ⟨n, zs, rfl, -, hrd, hnm, hvz, hbl⟩
  have V2 := Z2.below hbl
  have v1 := V2.1
  have v2 := V2.2
  have hvz' : Hid (val zs = val xs + val ys) := hvz.trans hsum.out
  clear hvz
  go_wp2
  refine bodyPost_ret (v := .agg #[.slice (some ⟨w.heap.size + 1 + 1 + 1, 0, none⟩) n (ys.length + 1)]) (by simp [results, Tryz.results119, go_sem, v1]) rfl ⟨_, zs, rfl, hrd.put (by intro b o l c e; simp at e; omega), hnm, hvz'.out, below_put (p1.trans (hbl.mono p1.size)) (by omega) _⟩
theorem Add_any (v1 v2 : Value) (xs ys : List Int) (w : World) (h1 : Rd w v1 xs) (h2 : Rd w v2 ys) (l1 : xs.length ≤ 549755813888) (l2 : ys.length ≤ 549755813888) :
    Calls Tryz.prog 119 #[.agg #[v1], .agg #[v2]] w fun e w' => ∃ r zs, e = .returned (.agg #[r]) ∧ Rd w' r zs ∧ Nm zs ∧ val zs = val xs + val ys ∧ Below w.heap.size w w' := by
  obtain ⟨w1, a1, c1, rfl, _, _, g1⟩ := h1
  obtain ⟨w2, a2, c2, rfl, _, _, g2⟩ := h2
  by_cases h : ys.length ≤ xs.length
  · exact add_long a1 a2 c1 c2 xs ys w w1 w2 h l1 g1 g2
  · exact add_short a1 a2 c1 c2 xs ys w w1 w2 (by omega) l2 g1 g2
end Go.Proofs.YtebilgnmnambnaaGreatDoor

namespace Go.Proofs.YtebilgnmnambnaaGreatDoor
open Go.RowKit Tn
theorem bor_word {x y b : Int} (hx : 0 ≤ x ∧ x < 18446744073709551616) (hy : 0 ≤ y ∧ y < 18446744073709551616) (hb : 0 ≤ b ∧ b ≤ 1) : 0 ≤ x - y - b + 18446744073709551616 * bor x (y + b) ∧ x - y - b + 18446744073709551616 * bor x (y + b) < 18446744073709551616 := by
  unfold bor; split <;> omega
theorem sub_step {X S W : List Int} {k : Nat} {c : Int} (h : Part X S k) (hW : Wd W) (hk : k < W.length) (hk' : k < S.length) (h0 : 0 ≤ c) (h1 : c ≤ 1) (hv : val (X.take k) = val (S.take k) - val (W.take k) + pw k * c) :
    Part (X.set k (nth X k - nth W k - c + 18446744073709551616 * bor (nth X k) (nth W k + c))) S (k + 1) ∧ 0 ≤ bor (nth X k) (nth W k + c) ∧ bor (nth X k) (nth W k + c) ≤ 1 ∧
    val ((X.set k (nth X k - nth W k - c + 18446744073709551616 * bor (nth X k) (nth W k + c))).take (k + 1)) = val (S.take (k + 1)) - val (W.take (k + 1)) + pw (k + 1) * bor (nth X k) (nth W k + c) := by
  have b1 := nth_bd hW k
  have b2 := nth_bd h.wd k
  have b3 := bor_word b2 b1 ⟨h0, h1⟩
  refine ⟨h.step b3.1 b3.2, (bor_bd _ _).1, (bor_bd _ _).2, ?_⟩
  rw [h.val hk', val_at S k hk', val_at W k hk, h.nth]
  simp only [pw]
  grind
theorem borrow_step {X S : List Int} {k : Nat} {c N : Int} (h : Part X S k) (hk' : k < S.length) (h0 : 0 ≤ c) (h1 : c ≤ 1) (hv : val (X.take k) = val (S.take k) - N + pw k * c) :
    Part (X.set k (nth X k - c + 18446744073709551616 * bor (nth X k) c)) S (k + 1) ∧ 0 ≤ bor (nth X k) c ∧ bor (nth X k) c ≤ 1 ∧
    val ((X.set k (nth X k - c + 18446744073709551616 * bor (nth X k) c)).take (k + 1)) = val (S.take (k + 1)) - N + pw (k + 1) * bor (nth X k) c := by
  have b2 := nth_bd h.wd k
  have b3 := bor_word (x := nth X k) (y := 0) (b := c) b2 ⟨by omega, by omega⟩ ⟨h0, h1⟩
  simp only [Int.sub_zero, Int.zero_add] at b3
  refine ⟨h.step b3.1 b3.2, (bor_bd _ _).1, (bor_bd _ _).2, ?_⟩
  rw [h.val hk', val_at S k hk', h.nth]
  simp only [pw]
  grind
theorem sub_end {X S : List Int} {k : Nat} {c N : Int} (h : Part X S k) (hk : k ≤ S.length) (hc : c = 0 ∨ k = S.length) (h0 : 0 ≤ c) (hN : N ≤ val S) (hv : val (X.take k) = val (S.take k) - N + pw k * c) : val X = val S - N := by
  have e := h.whole hk
  rcases hc with rfl | rfl
  · simp only [Int.mul_zero] at hv; omega
  · rw [← h.len, List.take_length] at hv
    rw [h.len, List.take_length] at hv
    have b1 := val_lt h.wd
    rw [h.len] at b1
    have : c = 0 := by
      by_cases hc : c = 0
      · exact hc
      · have := Int.mul_le_mul_of_nonneg_left (show 1 ≤ c by omega) (Int.le_of_lt (pw_pos S.length)); omega
    rw [this] at hv; omega
set_option maxHeartbeats 1600000 in
set_option maxRecDepth 100000 in
theorem sub_all (a1 a2 : Option Addr) (c1 c2 : Nat) (xs ys : List Int) (w : World) (hx : Wd xs) (hy : Wd ys) (hle : ys.length ≤ xs.length) (hN : val ys ≤ val xs) (hL : xs.length ≤ 549755813888) (h1 : 0 < xs.length → ∃ b o, a1 = some ⟨b, o, none⟩ ∧ Cells w b o xs) (h2 : 0 < ys.length → ∃ b o, a2 = some ⟨b, o, none⟩ ∧ Cells w b o ys) :
    Calls Tryz.prog 145 #[.agg #[.slice a1 xs.length c1], .agg #[.slice a2 ys.length c2]] w fun e w' => ∃ r zs, e = .returned (.agg #[r]) ∧ Rd w' r zs ∧ Nm zs ∧ val zs = val xs - val ys ∧ Below w.heap.size w w' := by
  have hs : Hid (∀ w', Below w.heap.size w w' → 0 < xs.length → ∃ b o, a1 = some ⟨b, o, none⟩ ∧ Cells w' b o xs) := fun w' h l => by obtain ⟨b, o, e, c⟩ := h1 l; exact ⟨b, o, e, c.grow h⟩
  have hs2 : Hid (∀ w', Below w.heap.size w w' → 0 < ys.length → ∃ b o, a2 = some ⟨b, o, none⟩ ∧ b ≠ w.heap.size + 1 + 1 + 1 ∧ Cells w' b o ys) := fun w' h l => by obtain ⟨b, o, e, c⟩ := h2 l; exact ⟨b, o, e, by have := c.lt l; omega, c.grow h⟩
  clear h1 h2
  go_enter Tryz.func145, Tryz.ntmps145
  go_wp2_with (first
    | (at_make; refine wpList_make_words rfl _ _ rfl xs.length _ _ rfl rfl rfl rfl (by omega) ?_; intro w1 k1 k2 k3 k4; have X0 := (((Bx.new w _ _).alloc _).alloc _).below k3; have X1 := ((Bx.new _ _ _).alloc _).below k3; have X2 := (Bx.new _ _ _).below k3; simp only [World.size_alloc] at X1 X2 k1 k2 k3 k4; have q0 := below_alloc3 k3; clear k3; have x0 := X0.1)
    | ((with_reducible refine at_copy ?_); refine wpList_copy_words rfl _ _ rfl (List.replicate xs.length 0) xs _ 0 _ a1 _ _ _ rfl rfl (by simp) rfl (by simp) k1 k2 (fun l => hs.out w1 q0 l) ?_; intro w2 k5 k6; rw [List.drop_of_length_le (by simp), List.append_nil] at k5; have Y1 := X1.wr k6 (by omega); have Y2 := X2.wr k6 (by omega); have p0 := q0.trans (k6.below (B := w.heap.size) (by omega) (by omega)); have y1 := Y1.1)
    | fail)
  have k7 : w.heap.size + 1 + 1 + 1 < w2.heap.size := by have := k6.size; omega
  have O2 := k2.wr k6
  clear x0 k1 k2 k4 k6 X0 X1 X2 q0
  go_loopw [6, 21] (fun t i wr => ∃ (k : Nat) (c : Int) (X : List Int), k ≤ ys.length ∧ i = .int .i64 k ∧ t = .int .u64 c ∧ 0 ≤ c ∧ c ≤ 1 ∧ Part X xs k ∧ val (X.take k) = val (xs.take k) - val (ys.take k) + pw k * c ∧ Cells wr (w.heap.size + 1 + 1 + 1) 0 X ∧ Wr (w.heap.size + 1 + 1 + 1) 0 xs.length w2 wr) (fun _ i _ => ys.length - (intOf i).toNat)
  case atStart => exact ⟨0, 0, xs, Nat.zero_le _, rfl, rfl, by omega, by omega, Part.refl hx 0, by simp [val], k5, Wr.refl _ _ _ _⟩
  case round =>
    obtain ⟨k, c, X, hk, rfl, rfl, h0, h1, hP, hv, hcX, hwr⟩ := hrel
    have HV : Hid (val (X.take k) = val (xs.take k) - val (ys.take k) + pw k * c) := hv
    clear hv
    have pr := p0.trans (hwr.below (B := w.heap.size) (by omega) (by have := p0.size; omega))
    by_cases hlt : k < ys.length
    · obtain ⟨b2, o2, rfl, hne, hcW⟩ := hs2.out wr pr (by omega)
      have k1 := hcW.at (i := k) hlt
      have k2 := hcX.at (i := k) (by rw [hP.len]; omega)
      rw [Nat.zero_add] at k2
      have k3 := (O2.wr hwr).free 0 xs.length k (by omega)
      rw [Nat.zero_add] at k3
      have b1 := nth_bd hy k
      have b2 := nth_bd hP.wd k
      have R : Hid _ := sub_step hP hy hlt (by omega) h0 h1 HV.out
      go_wp2_with (first | simp only [sub64 _ _ _ b2.1 b2.2 b1.1 b1.2 h0 h1] | fail)
      go_roundw
      case rel => exact ⟨k + 1, _, _, by omega, by go_num, rfl, R.out.2.1, R.out.2.2.1, R.out.1, R.out.2.2.2, by have := hcX.set k (by rw [hP.len]; omega) (nth X k - nth ys k - c + 18446744073709551616 * bor (nth X k) (nth ys k + c)); rwa [Nat.zero_add] at this, hwr.setCell _ (by omega) _⟩
      case measure => simp [intOf]; omega
    · have ek : k = ys.length := by omega
      subst ek
      rw [List.take_length] at HV
      have Z1 := (Y1.wr hwr (by omega)).1
      go_wp2_with fail
      clear Z1 y1
      go_loopw [6, 9] (fun t i wr => ∃ (k : Nat) (c : Int) (X : List Int), k ≤ xs.length ∧ i = .int .i64 k ∧ t = .int .u64 c ∧ 0 ≤ c ∧ c ≤ 1 ∧ Part X xs k ∧ val (X.take k) = val (xs.take k) - val ys + pw k * c ∧ Cells wr (w.heap.size + 1 + 1 + 1) 0 X ∧ Wr (w.heap.size + 1 + 1 + 1) 0 xs.length w2 wr) (fun _ i _ => xs.length - (intOf i).toNat)
      case atStart => exact ⟨_, _, _, hle, rfl, rfl, h0, h1, hP, HV.out, hcX, hwr⟩
      case round =>
        clear HV hP hcX hwr h0 h1 pr
        obtain ⟨k, c, X, hk, rfl, rfl, h0, h1, hP, hv, hcX, hwr⟩ := hrel
        have HV : Hid (val (X.take k) = val (xs.take k) - val ys + pw k * c) := hv
        clear hv
        have pr := p0.trans (hwr.below (B := w.heap.size) (by omega) (by have := p0.size; omega))
        have Z2 := Y2.wr hwr (by omega)
        by_cases hlt : k < xs.length
        · by_cases hc : 0 < c
          · have k2 := hcX.at (i := k) (by rw [hP.len]; omega)
            rw [Nat.zero_add] at k2
            have k3 := (O2.wr hwr).free 0 xs.length k (by omega)
            rw [Nat.zero_add] at k3
            have b2 := nth_bd hP.wd k
            have R : Hid _ := borrow_step hP hlt h0 h1 HV.out
            go_wp2_with (first | simp only [sub64_z _ _ b2.1 b2.2 h0 h1] | fail)
            go_roundw
            case rel => exact ⟨k + 1, _, _, by omega, by go_num, rfl, R.out.2.1, R.out.2.2.1, R.out.1, R.out.2.2.2, by have := hcX.set k (by rw [hP.len]; omega) (nth X k - c + 18446744073709551616 * bor (nth X k) c); rwa [Nat.zero_add] at this, hwr.setCell _ (by omega) _⟩
            case measure => simp [intOf]; omega
          · have hsum : Hid (val X = val xs - val ys) := sub_end hP hk (Or.inl (by omega)) h0 hN HV.out
            have hl' : Hid (X.length = xs.length) := hP.len
            have hw := hP.wd
            clear HV hP
            go_wp2_with fail
            refine (trim_rd _ _ _ X wr hl'.out.symm hw (by rw [hl'.out]; omega) (by omega) (fun _ => ⟨_, _, rfl, hcX⟩)).mono ?_
            rintro e w4 ⟨n, zs, rfl, -, hrd, hnm, hvz, hbl⟩
            have V2 := Z2.below hbl
            have v1 := V2.1
            have v2 := V2.2
            have hvz' : Hid (val zs = val xs - val ys) := hvz.trans hsum.out
            clear hvz
            go_wp2
            refine bodyPost_ret (v := .agg #[.slice (some ⟨w.heap.size + 1 + 1 + 1, 0, none⟩) n xs.length]) (by simp [results, Tryz.results145, go_sem, v1]) rfl ⟨_, zs, rfl, hrd.put (by intro b o l c e; simp at e; omega), hnm, hvz'.out, below_put (pr.trans (hbl.mono pr.size)) (by omega) _⟩
        · have hsum : Hid (val X = val xs - val ys) := sub_end hP hk (Or.inr (by omega)) h0 hN HV.out
          have hl' : Hid (X.length = xs.length) := hP.len
          have hw := hP.wd
          clear HV hP
          go_wp2_with fail
          refine (trim_rd _ _ _ X wr hl'.out.symm hw (by rw [hl'.out]; omega) (by omega) (fun _ => ⟨_, _, rfl, hcX⟩)).mono ?_
          rintro e w4 ⟨n, zs, rfl, -, hrd, hnm, hvz, hbl⟩
          have V2 := Z2.below hbl
          have v1 := V2.1
          have v2 := V2.2
          have hvz' : Hid (val zs = val xs - val ys) := hvz.trans hsum.out
          clear hvz
          go_wp2
          refine bodyPost_ret (v := .agg #[.slice (some ⟨w.heap.size + 1 + 1 + 1, 0, none⟩) n xs.length]) (by simp [results, Tryz.results145, go_sem, v1]) rfl ⟨_, zs, rfl, hrd.put (by intro b o l c e; simp at e; omega), hnm, hvz'.out, below_put (pr.trans (hbl.mono pr.size)) (by omega) _⟩
theorem Sub_any (v1 v2 : Value) (xs ys : List Int) (w : World) (h1 : Rd w v1 xs) (h2 : Rd w v2 ys) (n2 : Nm ys) (hN : val ys ≤ val xs) (l1 : xs.length ≤ 549755813888) :
    Calls Tryz.prog 145 #[.agg #[v1], .agg #[v2]] w fun e w' => ∃ r zs, e = .returned (.agg #[r]) ∧ Rd w' r zs ∧ Nm zs ∧ val zs = val xs - val ys ∧ Below w.heap.size w w' := by
  obtain ⟨w1, a1, c1, rfl, _, _, g1⟩ := h1
  obtain ⟨w2, a2, c2, rfl, _, _, g2⟩ := h2
  have hle : ys.length ≤ xs.length := by
    by_cases h : ys.length ≤ xs.length
    · exact h
    · have := val_lt_of_length w1 w2 n2 (by omega); omega
  exact sub_all a1 a2 c1 c2 xs ys w w1 w2 hle hN l1 g1 g2
end Go.Proofs.YtebilgnmnambnaaGreatDoor

namespace Go.Proofs.YtebilgnmnambnaaGreatDoor
open Go.RowKit Tn
def cmp3 (x y : Int) : Int := if x < y then -1 else if y < x then 1 else 0
theorem cmp3_lt {x y : Int} (h : x < y) : cmp3 x y = -1 := by simp [cmp3, h]
theorem cmp3_gt {x y : Int} (h : y < x) : cmp3 x y = 1 := by unfold cmp3; rw [if_neg (by omega), if_pos h]
theorem cmp3_eq {x y : Int} (h : x = y) : cmp3 x y = 0 := by unfold cmp3; rw [if_neg (by omega), if_neg (by omega)]
theorem top_lt {xs ys : List Int} (hx : Wd xs) (hy : Wd ys) (hl : xs.length = ys.length) (j : Nat) (hj : j < xs.length) (hd : xs.drop (j + 1) = ys.drop (j + 1)) (h : nth xs j < nth ys j) : val xs < val ys := by
  have e1 := val_split xs j (by omega)
  have e2 := val_split ys j (by omega)
  rw [drop_getD xs j hj] at e1
  rw [drop_getD ys j (by omega), ← hd] at e2
  simp only [val] at e1 e2
  have b1 := val_lt (hx.take j)
  have b2 := val_nonneg (hy.take j)
  rw [List.length_take, Nat.min_eq_left (by omega)] at b1
  have h' : xs.getD j 0 + 1 ≤ ys.getD j 0 := h
  have b3 := Int.mul_le_mul_of_nonneg_left h' (Int.le_of_lt (pw_pos j))
  grind
theorem drop_more {xs ys : List Int} {k : Nat} (hk : k < xs.length) (hl : xs.length = ys.length) (hd : xs.drop (xs.length - k) = ys.drop (xs.length - k)) (he : nth xs (xs.length - 1 - k) = nth ys (xs.length - 1 - k)) : xs.drop (xs.length - (k + 1)) = ys.drop (xs.length - (k + 1)) := by
  have e : xs.length - (k + 1) = xs.length - 1 - k := by omega
  rw [e, drop_getD xs _ (by omega), drop_getD ys _ (by omega), show xs.length - 1 - k + 1 = xs.length - k from by omega, hd]
  exact congrArg (· :: _) he
set_option maxHeartbeats 1600000 in
set_option maxRecDepth 100000 in
theorem cmp_long (a1 a2 : Option Addr) (c1 c2 : Nat) (xs ys : List Int) (w : World) (hx : Wd xs) (hy : Wd ys) (hle : xs.length = ys.length) (hL : xs.length ≤ 1099511627776) (h1 : 0 < xs.length → ∃ b o, a1 = some ⟨b, o, none⟩ ∧ Cells w b o xs) (h2 : 0 < ys.length → ∃ b o, a2 = some ⟨b, o, none⟩ ∧ Cells w b o ys) :
    Calls Tryz.prog 86 #[.agg #[.slice a1 xs.length c1], .agg #[.slice a2 xs.length c2]] w fun e w' => e = .returned (.int .i64 (cmp3 (val xs) (val ys))) ∧ Below w.heap.size w w' := by
  have HL : Hid (xs.length = ys.length) := hle
  clear hle
  go_enter Tryz.func86, Tryz.ntmps86
  go_wp2_with fail
  go_loopw [24] (fun i wr => ∃ (k : Nat), k ≤ xs.length ∧ i = .int .i64 k ∧ xs.drop (xs.length - k) = ys.drop (xs.length - k) ∧ ∃ m, wr = ((w.alloc (.cells #[.slice a1 xs.length c1] 65)).alloc (.cells #[.slice a2 xs.length c2] 65)).drewN m) (fun i _ => xs.length - (intOf i).toNat)
  case atStart => exact ⟨0, Nat.zero_le _, rfl, by rw [Nat.sub_zero, List.drop_length, HL.out, List.drop_length], 0, rfl⟩
  case round =>
    obtain ⟨k, hk, rfl, hd, m, rfl⟩ := hrel
    have HD : Hid (xs.drop (xs.length - k) = ys.drop (xs.length - k)) := hd
    clear hd
    by_cases hlt : k < xs.length
    · obtain ⟨b1, o1, rfl, q1⟩ := h1 (by omega)
      obtain ⟨b2, o2, rfl, q2⟩ := h2 (by rw [← HL.out]; omega)
      have l1 := q1.lt (by omega)
      have l2 := q2.lt (by rw [← HL.out]; omega)
      have d1 := q1.at (i := xs.length - 1 - k) (by omega)
      have d2 := q2.at (i := xs.length - 1 - k) (by rw [← HL.out]; omega)
      by_cases he : nth xs (xs.length - 1 - k) = nth ys (xs.length - 1 - k)
      · have HE : Hid (nth xs (xs.length - 1 - k) = nth ys (xs.length - 1 - k)) := he
        rw [← he] at d2
        clear he
        go_wp2_with fail
        go_quiet (fail)
        go_wp2
        go_roundw
        case rel => exact ⟨k + 1, by omega, by go_num, drop_more hlt HL.out HD.out HE.out, m + nq, rfl⟩
        case measure => simp [intOf]; omega
      · rcases Int.lt_or_gt_of_ne he with hl | hl
        · have R : Hid (cmp3 (val xs) (val ys) = -1) := cmp3_lt (top_lt hx hy HL.out (xs.length - 1 - k) (by omega) (by have := HD.out; rwa [show xs.length - k = xs.length - 1 - k + 1 from by omega] at this) hl)
          go_wp2_with fail
          go_quiet (fail)
          go_wp2_with (go_at_call 146; refine (order_any _ _).mono ?_; rintro e w' ⟨rfl, rfl⟩)
          go_ret
          exact ⟨by rw [R.out]; simp, below_drewN (((Below.refl _ _).alloc (Nat.le_refl _) _).alloc (by simp) _) _⟩
        · have R : Hid (cmp3 (val xs) (val ys) = 1) := cmp3_gt (top_lt hy hx HL.out.symm (xs.length - 1 - k) (by rw [← HL.out]; omega) (by have := HD.out; rw [show xs.length - k = xs.length - 1 - k + 1 from by omega] at this; exact this.symm) hl)
          have hl2 : ¬ nth xs (xs.length - 1 - k) < nth ys (xs.length - 1 - k) := by omega
          go_wp2_with fail
          go_quiet (fail)
          go_wp2_with (go_at_call 146; refine (order_any _ _).mono ?_; rintro e w' ⟨rfl, rfl⟩)
          go_ret
          exact ⟨by rw [R.out]; simp, below_drewN (((Below.refl _ _).alloc (Nat.le_refl _) _).alloc (by simp) _) _⟩
    · have R : Hid (cmp3 (val xs) (val ys) = 0) := by
        have ek : k = xs.length := by omega
        have := HD.out
        rw [ek, Nat.sub_self, List.drop_zero, List.drop_zero] at this
        exact cmp3_eq (by rw [this])
      go_wp2
      go_ret
      exact ⟨by rw [R.out]; rfl, below_drewN (((Below.refl _ _).alloc (Nat.le_refl _) _).alloc (by simp) _) _⟩
set_option maxRecDepth 100000 in
theorem cmp_lens (a1 a2 : Option Addr) (c1 c2 n m : Nat) (w : World) (hne : n ≠ m) :
    Calls Tryz.prog 86 #[.agg #[.slice a1 n c1], .agg #[.slice a2 m c2]] w fun e w' => e = .returned (.int .i64 (if n < m then -1 else 1)) ∧ Below w.heap.size w w' := by
  have h1 : ((n : Int) != (m : Int)) = true := by rw [bne_iff_ne]; omega
  by_cases h : n < m
  · go_enter Tryz.func86, Tryz.ntmps86
    go_wp2_with (go_at_call 146; refine (order_any _ _).mono ?_; rintro e w' ⟨rfl, rfl⟩)
    go_ret
    exact ⟨by simp, ((Below.refl _ _).alloc (Nat.le_refl _) _).alloc (by simp) _⟩
  · go_enter Tryz.func86, Tryz.ntmps86
    go_wp2_with (go_at_call 146; refine (order_any _ _).mono ?_; rintro e w' ⟨rfl, rfl⟩)
    go_ret
    exact ⟨by simp, ((Below.refl _ _).alloc (Nat.le_refl _) _).alloc (by simp) _⟩
theorem Cmp_any (v1 v2 : Value) (xs ys : List Int) (w : World) (h1 : Rd w v1 xs) (h2 : Rd w v2 ys) (n1 : Nm xs) (n2 : Nm ys) (l1 : xs.length ≤ 1099511627776) :
    Calls Tryz.prog 86 #[.agg #[v1], .agg #[v2]] w fun e w' => e = .returned (.int .i64 (cmp3 (val xs) (val ys))) ∧ Below w.heap.size w w' := by
  obtain ⟨w1, a1, c1, rfl, _, _, g1⟩ := h1
  obtain ⟨w2, a2, c2, rfl, _, _, g2⟩ := h2
  by_cases h : xs.length = ys.length
  · rw [← h]; exact cmp_long a1 a2 c1 c2 xs ys w w1 w2 h l1 g1 g2
  · refine (cmp_lens a1 a2 c1 c2 xs.length ys.length w h).mono ?_
    rintro e w' ⟨rfl, hb⟩
    refine ⟨?_, hb⟩
    by_cases h' : xs.length < ys.length
    · rw [if_pos h', cmp3_lt (val_lt_of_length w1 w2 n2 h')]
    · rw [if_neg h', cmp3_gt (val_lt_of_length w2 w1 n1 (by omega))]
set_option maxRecDepth 100000 in
theorem iszero_len (a : Option Addr) (n c : Nat) (w : World) : Calls Tryz.prog 48 #[.agg #[.slice a n c]] w fun e w' => e = .returned (.bool (n == 0)) ∧ Below w.heap.size w w' := by
  go_enter Tryz.func48, Tryz.ntmps48
  go_wp2
  go_ret
  exact ⟨by simp; rw [Bool.eq_iff_iff]; simp, (Below.refl _ _).alloc (Nat.le_refl _) _⟩
theorem IsZero_any (v : Value) (xs : List Int) (w : World) (h : Rd w v xs) (n : Nm xs) :
    Calls Tryz.prog 48 #[.agg #[v]] w fun e w' => e = .returned (.bool (decide (val xs = 0))) ∧ Below w.heap.size w w' := by
  obtain ⟨w1, a, c, rfl, _, _, g⟩ := h
  refine (iszero_len a xs.length c w).mono ?_
  rintro e w' ⟨rfl, hb⟩
  refine ⟨?_, hb⟩
  congr 2
  rw [Bool.eq_iff_iff]; simp [val_eq_zero w1 n, List.length_eq_zero_iff]
set_option maxRecDepth 100000 in
theorem isone_none (a : Option Addr) (n c : Nat) (w : World) (hn : n ≠ 1) : Calls Tryz.prog 110 #[.agg #[.slice a n c]] w fun e w' => e = .returned (.bool false) ∧ Below w.heap.size w w' := by
  have h1 : ((n : Int) == 1) = false := by rw [beq_eq_false_iff_ne]; omega
  go_enter Tryz.func110, Tryz.ntmps110
  go_wp2
  go_ret
  exact ⟨rfl, (Below.refl _ _).alloc (Nat.le_refl _) _⟩
set_option maxRecDepth 100000 in
theorem isone_one (b o c : Nat) (x : Int) (w : World) (h : w.cell? ⟨b, o, none⟩ = some (.int .u64 x)) (hb : b < w.heap.size) : Calls Tryz.prog 110 #[.agg #[.slice (some ⟨b, o, none⟩) 1 c]] w fun e w' => e = .returned (.bool (x == 1)) ∧ Below w.heap.size w w' := by
  go_enter Tryz.func110, Tryz.ntmps110
  go_wp2
  all_goals (go_ret; exact ⟨by simp_all, (Below.refl _ _).alloc (Nat.le_refl _) _⟩)
theorem IsOne_any (v : Value) (xs : List Int) (w : World) (h : Rd w v xs) (n : Nm xs) :
    Calls Tryz.prog 110 #[.agg #[v]] w fun e w' => e = .returned (.bool (decide (val xs = 1))) ∧ Below w.heap.size w w' := by
  obtain ⟨w1, a, c, rfl, _, _, g⟩ := h
  by_cases hl : xs.length = 1
  · obtain ⟨b, o, rfl, hc⟩ := g (by omega)
    obtain ⟨x, rfl⟩ : ∃ x, xs = [x] := List.length_eq_one_iff.1 hl
    have := hc 0 (by simp)
    refine (isone_one b o c x w (by simpa [nth] using this) (hc.lt (by simp))).mono ?_
    rintro e w' ⟨rfl, hb⟩
    refine ⟨?_, hb⟩
    congr 2
    rw [Bool.eq_iff_iff]; simp [val]
  · refine (isone_none a xs.length c w hl).mono ?_
    rintro e w' ⟨rfl, hb⟩
    refine ⟨?_, hb⟩
    congr 2
    symm
    rw [decide_eq_false_iff_not]
    intro e
    by_cases h0 : xs = []
    · subst h0; simp [val] at e
    · have := val_low w1 n h0
      have h2 : 1 ≤ xs.length - 1 := by have := List.length_pos_iff.2 h0; omega
      have h3 := pw_mono h2
      have : pw 1 = 18446744073709551616 := rfl
      omega
end Go.Proofs.YtebilgnmnambnaaGreatDoor

namespace Go.Proofs.YtebilgnmnambnaaGreatDoor
open Go.RowKit Tn
theorem pw_two (n : Nat) : pw n = 2 ^ (64 * n) := by
  induction n with
  | zero => rfl
  | succ n ih => rw [show 64 * (n + 1) = 64 * n + 64 from by omega, Int.pow_add, ← ih]; simp only [pw]; rw [Int.mul_comm]; rfl
theorem bitLen_bd (x : Int) (h0 : 0 < x) (h1 : x < 18446744073709551616) : 1 ≤ Lib.bitLen x.toNat ∧ Lib.bitLen x.toNat ≤ 64 ∧ (2 : Int) ^ (Lib.bitLen x.toNat - 1) ≤ x ∧ x < 2 ^ Lib.bitLen x.toNat := by
  obtain ⟨n, rfl⟩ := Int.eq_ofNat_of_zero_le (Int.le_of_lt h0)
  rw [Int.toNat_natCast]
  have hb := Lib.bitLenAux_bounds 64 n (by omega) (by omega)
  have hc := Lib.bitLen_le n 64 (by omega) (by omega)
  refine ⟨hb.1, hc, ?_, ?_⟩
  · have := Int.ofNat_le.2 hb.2.1; rw [Int.natCast_pow] at this; exact this
  · have := Int.ofNat_lt.2 hb.2.2; rw [Int.natCast_pow] at this; exact this
theorem val_top {xs : List Int} (ne : 0 < xs.length) : val xs = val (xs.take (xs.length - 1)) + pw (xs.length - 1) * nth xs (xs.length - 1) := by
  have e := val_at xs (xs.length - 1) (by omega)
  rw [Nat.sub_add_cancel ne, List.take_length] at e; exact e
theorem nm_top {xs : List Int} (h : Wd xs) (n : Nm xs) (ne : 0 < xs.length) : 0 < nth xs (xs.length - 1) := by
  rcases n with rfl | n
  · simp at ne
  · have := (nth_bd h (xs.length - 1)).1; unfold nth at *; omega
theorem bitLen_val {xs : List Int} (h : Wd xs) (n : Nm xs) (ne : 0 < xs.length) : ∃ L : Nat, (xs.length : Int) * 64 - (64 - (Lib.bitLen (nth xs (xs.length - 1)).toNat : Int)) = (L : Int) ∧ val xs < 2 ^ L ∧ 1 ≤ L ∧ (2 : Int) ^ (L - 1) ≤ val xs := by
  have ht := nm_top h n ne
  have hb := bitLen_bd (nth xs (xs.length - 1)) ht (nth_bd h _).2
  have e := val_top ne
  have v0 := val_nonneg (h.take (xs.length - 1))
  have v1 := val_lt (h.take (xs.length - 1))
  rw [List.length_take, Nat.min_eq_left (by omega)] at v1
  have p := pw_pos (xs.length - 1)
  refine ⟨64 * (xs.length - 1) + Lib.bitLen (nth xs (xs.length - 1)).toNat, by omega, ?_, by omega, ?_⟩
  · rw [Int.pow_add, ← pw_two]
    have := Int.mul_le_mul_of_nonneg_left (show nth xs (xs.length - 1) + 1 ≤ 2 ^ Lib.bitLen (nth xs (xs.length - 1)).toNat by omega) (Int.le_of_lt p)
    grind
  · rw [show 64 * (xs.length - 1) + Lib.bitLen (nth xs (xs.length - 1)).toNat - 1 = 64 * (xs.length - 1) + (Lib.bitLen (nth xs (xs.length - 1)).toNat - 1) from by omega, Int.pow_add, ← pw_two]
    have := Int.mul_le_mul_of_nonneg_left hb.2.2.1 (Int.le_of_lt p)
    omega
set_option maxRecDepth 100000 in
set_option maxHeartbeats 400000 in
theorem BitLen_any (v : Value) (xs : List Int) (w : World) (h : Rd w v xs) (n : Nm xs) (hL : xs.length ≤ 1099511627776) :
    Calls Tryz.prog 111 #[.agg #[v]] w fun e w' => ∃ L : Nat, e = .returned (.int .i64 L) ∧ val xs < 2 ^ L ∧ (L = 0 ∨ (2 : Int) ^ (L - 1) ≤ val xs) ∧ (L : Int) ≤ 64 * xs.length ∧ Below w.heap.size w w' := by
  obtain ⟨w1, a, c, rfl, _, _, g⟩ := h
  by_cases h0 : xs.length = 0
  · have e0 : xs = [] := List.eq_nil_of_length_eq_zero h0
    have ht : ((xs.length : Int) == 0) = true := by rw [h0]; rfl
    have R : Hid (val xs = 0) := by rw [e0]; rfl
    clear g e0
    go_enter Tryz.func111, Tryz.ntmps111
    go_wp2
    go_ret
    exact ⟨0, rfl, by rw [R.out]; decide, Or.inl rfl, by omega, (Below.refl _ _).alloc (Nat.le_refl _) _⟩
  · obtain ⟨b, o, rfl, hc⟩ := g (by omega)
    have hb := hc.lt (by omega)
    have hc1 := hc.at (i := xs.length - 1) (by omega)
    have bd := nth_bd w1 (xs.length - 1)
    obtain ⟨L, e1, e2, e3, e4⟩ := bitLen_val w1 n (by omega)
    have ht := nm_top w1 n (by omega)
    have hb2 := bitLen_bd (nth xs (xs.length - 1)) ht bd.2
    have E1 : Hid _ := e1
    have ht' : ((xs.length : Int) == 0) = false := by rw [beq_eq_false_iff_ne]; omega
    have hL2 : (Lib.bitLen (nth xs (xs.length - 1)).toNat : Int) ≤ 64 := by omega
    clear e1 hb2 g
    go_enter Tryz.func111, Tryz.ntmps111
    go_wp2_with (go_at_call 161; refine (Tryz.bits_LeadingZeros64 _ _ bd.1 (by omega)).mono ?_; rintro e w' ⟨rfl, rfl⟩)
    go_ret
    exact ⟨L, by rw [← E1.out]; rfl, e2, Or.inr e4, by have := E1.out; omega, (Below.refl _ _).alloc (Nat.le_refl _) _⟩
set_option maxRecDepth 100000 in
theorem Of_any (x : Int) (w : World) (h0 : 0 ≤ x) (h1 : x < 18446744073709551616) :
    Calls Tryz.prog 65 #[.int .u64 x] w fun e w' => ∃ r zs, e = .returned (.agg #[r]) ∧ Rd w' r zs ∧ Nm zs ∧ val zs = x ∧ Below w.heap.size w w' := by
  have hc : Hid (Cells ((w.alloc (.cells #[.slice none 0 0] 65)).alloc (.cells #[.int .u64 x] 87)) (w.heap.size + 1) 0 [x]) := by
    intro i hi
    have : i = 0 := by simp at hi; omega
    subst this
    simp [nth]
  go_enter Tryz.func65, Tryz.ntmps65
  go_wp2_with fail
  refine (trim_rd _ _ _ [x] _ rfl (Wd.cons h0 h1 Wd.nil) (by simp) (by omega) (fun _ => ⟨_, _, rfl, hc.out⟩)).mono ?_
  rintro e w4 ⟨n, zs, rfl, -, hrd, hnm, hvz, hbl⟩
  have V2 := ((Bx.new w _ _).alloc _).below hbl
  have v1 := V2.1
  have v2 := V2.2
  have hvz' : Hid (val zs = x) := by
    have e : val [x] = x := by simp [val]
    exact hvz.trans e
  have pr : Below w.heap.size w ((w.alloc (.cells #[.slice none 0 0] 65)).alloc (.cells #[.int .u64 x] 87)) := ((Below.refl _ _).alloc (Nat.le_refl _) _).alloc (by simp) _
  clear hvz
  go_wp2
  refine bodyPost_ret (v := .agg #[.slice (some ⟨w.heap.size + 1, 0, none⟩) n 1]) (by simp [results, Tryz.results65, go_sem, v1]) rfl ⟨_, zs, rfl, hrd.put (by intro b o l c e; simp at e; omega), hnm, hvz'.out, below_put (pr.trans (hbl.mono pr.size)) (by omega) _⟩
set_option maxRecDepth 100000 in
theorem mulAdd_any (x y z : Int) (w : World) (x0 : 0 ≤ x) (x1 : x < 18446744073709551616) (y0 : 0 ≤ y) (y1 : y < 18446744073709551616) (z0 : 0 ≤ z) (z1 : z < 18446744073709551616) :
    Calls Tryz.prog 160 #[.int .u64 x, .int .u64 y, .int .u64 z] w fun e w' => ∃ l h, e = .returned (.tuple #[.int .u64 l, .int .u64 h]) ∧ 0 ≤ l ∧ l < 18446744073709551616 ∧ 0 ≤ h ∧ h < 18446744073709551616 ∧ l + 18446744073709551616 * h = x * y + z ∧ w' = w := by
  have hh := hiw_bd x0 x1 y0 y1
  have hl := low_bd x y
  have e := hilo x y
  have E : Hid _ := e
  clear e
  go_enter Tryz.func160, Tryz.ntmps160
  go_wp2_with (first | (go_at_call 177; refine (mul64 x y _ x0 x1 y0 y1).mono ?_; rintro e w' ⟨rfl, rfl⟩) | simp only [add64_0 _ _ hl.1 z0])
  go_ret2
  exact ⟨_, _, rfl, by omega, by omega, by omega, by omega, by have := E.out; omega, rfl⟩
end Go.Proofs.YtebilgnmnambnaaGreatDoor

namespace Go.Proofs.YtebilgnmnambnaaGreatDoor
open Go.RowKit Tn
def apLow (x y s c : Int) : Int := (low x y + s + c) % 18446744073709551616
def apHigh (x y s c : Int) : Int := hiw x y + (low x y + s) / 18446744073709551616 + ((low x y + s) % 18446744073709551616 + c) / 18446744073709551616
theorem ap_eq (x y s c : Int) : apLow x y s c + 18446744073709551616 * apHigh x y s c = x * y + s + c := by
  have := hilo x y; unfold apLow apHigh; omega
theorem ap_bd {x y s c : Int} (x0 : 0 ≤ x) (x1 : x < 18446744073709551616) (y0 : 0 ≤ y) (y1 : y < 18446744073709551616) (s0 : 0 ≤ s) (s1 : s < 18446744073709551616) (c0 : 0 ≤ c) (c1 : c < 18446744073709551616) : 0 ≤ apHigh x y s c ∧ apHigh x y s c < 18446744073709551616 := by
  have e := ap_eq x y s c
  have h := mul_hi (M := 18446744073709551615) x0 (by omega) y0 (by omega)
  have : 0 ≤ apLow x y s c ∧ apLow x y s c < 18446744073709551616 := by unfold apLow; omega
  omega
theorem prod_step {X S W : List Int} {k : Nat} {c f : Int} (h : Part X S k) (hW : Wd W) (hk : k < W.length) (hk' : k < S.length) (h0 : 0 ≤ c) (h1 : c < 18446744073709551616) (f0 : 0 ≤ f) (f1 : f < 18446744073709551616) (hv : val (X.take k) + pw k * c = val (S.take k) + val (W.take k) * f) :
    Part (X.set k (apLow (nth W k) f (nth X k) c)) S (k + 1) ∧ 0 ≤ apHigh (nth W k) f (nth X k) c ∧ apHigh (nth W k) f (nth X k) c < 18446744073709551616 ∧
    val ((X.set k (apLow (nth W k) f (nth X k) c)).take (k + 1)) + pw (k + 1) * apHigh (nth W k) f (nth X k) c = val (S.take (k + 1)) + val (W.take (k + 1)) * f := by
  have b1 := nth_bd hW k
  have b2 := nth_bd h.wd k
  have b3 := ap_bd b1.1 b1.2 f0 f1 b2.1 b2.2 h0 h1
  refine ⟨h.step (by unfold apLow; omega) (by unfold apLow; omega), b3.1, b3.2, ?_⟩
  rw [h.val hk', val_at S k hk', val_at W k hk, h.nth]
  have e := ap_eq (nth W k) f (nth S k) c
  simp only [pw]
  grind
set_option maxHeartbeats 800000 in
theorem addProduct_any (b o cap n : Nat) (S : List Int) (a : Option Addr) (cap2 : Nat) (W : List Int) (f : Int) (w : World) (en : n = S.length) (hS : Wd S) (hW : Wd W) (hl : W.length = S.length) (f0 : 0 ≤ f) (f1 : f < 18446744073709551616) (hL : S.length ≤ 1099511627776) (hcS : Cells w b o S) (hF : Free w b o S.length)
    (ha : 0 < W.length → ∃ b2 o2, a = some ⟨b2, o2, none⟩ ∧ b2 ≠ b ∧ Cells w b2 o2 W) :
    Calls Tryz.prog 166 #[.slice (some ⟨b, o, none⟩) n cap, .slice a W.length cap2, .int .u64 f] w fun e w' => ∃ S' c, e = .returned (.int .u64 c) ∧ 0 ≤ c ∧ c < 18446744073709551616 ∧ S'.length = S.length ∧ Wd S' ∧ val S' + pw S.length * c = val S + val W * f ∧ Cells w' b o S' ∧ Wr b o S.length w w' := by
  subst en
  have HL : Hid (W.length = S.length) := hl
  have hl2 : W.length ≤ S.length := by omega
  clear hl
  go_enter Tryz.func166, Tryz.ntmps166
  go_wp2
  go_loopw [7, 15] (fun t i wr => ∃ (k : Nat) (c : Int) (X : List Int), k ≤ W.length ∧ i = .int .i64 k ∧ t = .int .u64 c ∧ 0 ≤ c ∧ c < 18446744073709551616 ∧ Part X S k ∧ val (X.take k) + pw k * c = val (S.take k) + val (W.take k) * f ∧ Cells wr b o X ∧ Wr b o S.length w wr) (fun _ i _ => W.length - (intOf i).toNat)
  case atStart => exact ⟨0, 0, S, Nat.zero_le _, rfl, rfl, by omega, by omega, Part.refl hS 0, by simp [val, pw], hcS, Wr.refl _ _ _ _⟩
  case round =>
    obtain ⟨k, c, X, hk, rfl, rfl, h0, h1, hP, hv, hcX, hwr⟩ := hrel
    have HV : Hid (val (X.take k) + pw k * c = val (S.take k) + val (W.take k) * f) := hv
    clear hv
    by_cases hlt : k < W.length
    · obtain ⟨b2, o2, rfl, hne, hcW⟩ := ha (by omega)
      have k1 := (hcW.other hwr hne).at (i := k) hlt
      have k2 := hcX.at (i := k) (by rw [hP.len]; omega)
      have k3 := (hF.wr hwr (hcS.lt (by omega))) k (by omega)
      have b1 := nth_bd hW k
      have b2 := nth_bd hP.wd k
      have R : Hid _ := prod_step hP hW hlt (by omega) h0 h1 f0 f1 HV.out
      have e1 := hiw_bd b1.1 b1.2 f0 f1
      have e2 := low_bd (nth W k) f
      have e3 : 0 ≤ (low (nth W k) f + nth X k) % 18446744073709551616 := by omega
      have e4 : hiw (nth W k) f + (low (nth W k) f + nth X k) / 18446744073709551616 + ((low (nth W k) f + nth X k) % 18446744073709551616 + c) / 18446744073709551616 < 18446744073709551616 := (ap_bd b1.1 b1.2 f0 f1 b2.1 b2.2 h0 h1).2
      go_wp2_with (first | (go_at_call 177; refine (mul64 _ _ _ b1.1 b1.2 f0 f1).mono ?_; rintro e w' ⟨rfl, rfl⟩) | simp only [add64_0 _ _ e2.1 b2.1] | simp only [add64_0 _ _ e3 h0])
      go_roundw
      case rel => exact ⟨k + 1, apHigh (nth W k) f (nth X k) c, _, by omega, by go_num, rfl, R.out.2.1, R.out.2.2.1, R.out.1, R.out.2.2.2, hcX.set k (by rw [hP.len]; omega) _, hwr.setCell _ (by omega) _⟩
      case measure => simp [intOf]; omega
    · have ek : k = W.length := by omega
      subst ek
      have R : Hid (val X + pw S.length * c = val S + val W * f) := by
        have := HV.out
        have h5 := hP.len
        rw [List.take_length, HL.out, List.take_length] at this
        rw [← h5, List.take_length] at this
        rw [← h5]; exact this
      go_wp2
      go_ret
      exact ⟨X, c, rfl, h0, h1, hP.len, hP.wd, R.out, hcX, hwr⟩
end Go.Proofs.YtebilgnmnambnaaGreatDoor

namespace Go.Proofs.YtebilgnmnambnaaGreatDoor
open Go.RowKit Tn
def spl (X : List Int) (k n : Nat) (S : List Int) : List Int := X.take k ++ (S ++ X.drop (k + n))
theorem spl_len {X S : List Int} {k n : Nat} (h : k + n ≤ X.length) (hS : S.length = n) : (spl X k n S).length = X.length := by simp [spl]; omega
theorem wd_spl {X S : List Int} (h : Wd X) (hS : Wd S) (k n : Nat) : Wd (spl X k n S) := (h.take k).append (hS.append (h.drop _))
theorem Cells.spl {w w2 : World} {b : Nat} {X S : List Int} {k n : Nat} (h : Cells w b 0 X) (hl : k + n ≤ X.length) (hS : S.length = n) (hw : Wr b k n w w2) (hc : Cells w2 b k S) : Cells w2 b 0 (spl X k n S) := by
  refine Cells.append ((h.take k).apart hw (Or.inl (by simp; omega))) ?_
  rw [List.length_take, Nat.min_eq_left (by omega), Nat.zero_add]
  refine Cells.append hc ?_
  have := (h.drop (k + n)).apart hw (Or.inr (by omega))
  rw [Nat.zero_add] at this
  rw [hS]; exact this
theorem val_spl {X S : List Int} {k n : Nat} (hl : k + n ≤ X.length) (hS : S.length = n) : val (spl X k n S) = val X + pw k * (val S - val ((X.drop k).take n)) := by
  have e1 := val_split X k (by omega)
  have e2 := val_split (X.drop k) n (by simp; omega)
  rw [List.drop_drop] at e2
  have h1 : (X.take k).length = k := by simp; omega
  unfold spl
  rw [val_append, val_append, h1, hS, e1, e2]; grind
theorem val_set (X : List Int) (j : Nat) (v : Int) (h : j < X.length) : val (X.set j v) = val X + pw j * (v - nth X j) := by
  have e1 := val_split (X.set j v) (j + 1) (by simp; omega)
  have e2 := val_split X (j + 1) (by omega)
  rw [take_set_succ X j v h, drop_set_succ, val_append, List.length_take, Nat.min_eq_left (by omega)] at e1
  rw [val_at X j h] at e2
  simp only [val] at e1
  grind
theorem nth_spl {X S : List Int} {k n : Nat} (hl : k + n ≤ X.length) (hS : S.length = n) : nth (spl X k n S) (k + n) = nth X (k + n) := by
  have h1 : (X.take k).length = k := by simp; omega
  unfold spl nth
  rw [List.getD_eq_getElem?_getD, List.getElem?_append_right (by omega), List.getElem?_append_right (by omega), List.getElem?_drop, List.getD_eq_getElem?_getD]
  congr 2; omega
theorem nth_zero {X : List Int} {j m : Nat} (h : X.drop j = List.replicate m 0) : nth X j = 0 := by
  have := nth_drop X j 0
  rw [h, nth_replicate] at this
  simpa using this.symm
theorem drop_spl_set {X S : List Int} {k n j : Nat} {v : Int} (hl : k + n ≤ X.length) (hS : S.length = n) (hj : j = k + n) : ((spl X k n S).set j v).drop (j + 1) = X.drop (j + 1) := by
  subst hj
  rw [drop_set_succ]
  have h1 : (X.take k).length = k := by simp; omega
  unfold spl
  rw [List.drop_append, List.drop_append, List.drop_drop, h1, hS]
  rw [List.drop_of_length_le (by omega), List.drop_of_length_le (by omega)]
  simp; congr 1; omega
theorem mul_round {X xs ys S' : List Int} {k : Nat} {c : Int} (hy : k < ys.length) (hl : X.length = xs.length + ys.length) (hw : Wd X) (hd : X.drop (xs.length + k) = List.replicate (ys.length - k) 0) (hv : val X = val xs * val (ys.take k))
    (hS : S'.length = xs.length) (hwS : Wd S') (c0 : 0 ≤ c) (c1 : c < 18446744073709551616) (hs : val S' + pw xs.length * c = val ((X.drop k).take xs.length) + val xs * nth ys k) :
    ((spl X k xs.length S').set (k + xs.length) c).length = xs.length + ys.length ∧ Wd ((spl X k xs.length S').set (k + xs.length) c) ∧ ((spl X k xs.length S').set (k + xs.length) c).drop (xs.length + (k + 1)) = List.replicate (ys.length - (k + 1)) 0 ∧ val ((spl X k xs.length S').set (k + xs.length) c) = val xs * val (ys.take (k + 1)) := by
  have h1 : k + xs.length ≤ X.length := by omega
  have h2 := spl_len (S := S') h1 hS
  refine ⟨by simp; omega, (wd_spl hw hwS k _).set _ c0 c1, ?_, ?_⟩
  · rw [show xs.length + (k + 1) = (k + xs.length) + 1 from by omega, drop_spl_set h1 hS rfl]
    have := congrArg (List.drop 1) hd
    rw [List.drop_drop, List.drop_replicate] at this
    rw [show k + xs.length + 1 = xs.length + k + 1 from by omega, this]
    congr 1
  · rw [val_set _ _ _ (by omega), val_spl h1 hS, nth_spl h1 hS, show k + xs.length = xs.length + k from by omega, nth_zero hd, val_at ys k hy, hv, pw_add]
    grind
end Go.Proofs.YtebilgnmnambnaaGreatDoor

namespace Go.Proofs.YtebilgnmnambnaaGreatDoor
open Go.RowKit Tn
theorem Rd.shape {w : World} {v : Value} {xs : List Int} (h : Rd w v xs) : ∃ a l c, v = .slice a l c := by
  obtain ⟨_, a, c, e, _⟩ := h; exact ⟨a, _, c, e⟩
end Go.Proofs.YtebilgnmnambnaaGreatDoor

namespace Go.Proofs.YtebilgnmnambnaaGreatDoor
open Go.RowKit Tn
def FrA (base : Nat) (v : Value) : Prop := ∀ b o l c, v = .slice (some ⟨b, o, none⟩) l c → base ≤ b
set_option maxHeartbeats 1600000 in
set_option maxRecDepth 100000 in
theorem mulPlainly_new (a1 a2 : Option Addr) (c1 c2 : Nat) (xs ys : List Int) (w : World) (hx : Wd xs) (hy : Wd ys) (hL : xs.length ≤ 274877906944) (hL2 : ys.length ≤ 274877906944) (h1 : 0 < xs.length → ∃ b o, a1 = some ⟨b, o, none⟩ ∧ Cells w b o xs) (h2 : 0 < ys.length → ∃ b o, a2 = some ⟨b, o, none⟩ ∧ Cells w b o ys) :
    Calls Tryz.prog 120 #[.agg #[.slice a1 xs.length c1], .agg #[.slice a2 ys.length c2]] w fun e w' => ∃ r zs, e = .returned (.agg #[r]) ∧ Rd w' r zs ∧ Nm zs ∧ val zs = val xs * val ys ∧ Below w.heap.size w w' ∧ FrA w.heap.size r := by
  have hs : Hid (∀ w', Below w.heap.size w w' → 0 < xs.length → ∃ b o, a1 = some ⟨b, o, none⟩ ∧ b ≠ w.heap.size + 1 + 1 + 1 ∧ Cells w' b o xs) := fun w' h l => by obtain ⟨b, o, e, c⟩ := h1 l; exact ⟨b, o, e, by have := c.lt l; omega, c.grow h⟩
  have hs2 : Hid (∀ w', Below w.heap.size w w' → 0 < ys.length → ∃ b o, a2 = some ⟨b, o, none⟩ ∧ b ≠ w.heap.size + 1 + 1 + 1 ∧ Cells w' b o ys) := fun w' h l => by obtain ⟨b, o, e, c⟩ := h2 l; exact ⟨b, o, e, by have := c.lt l; omega, c.grow h⟩
  clear h1 h2
  go_enter Tryz.func120, Tryz.ntmps120
  go_wp2_with (first
    | (at_make; refine wpList_make_words rfl _ _ rfl (xs.length + ys.length) _ _ rfl rfl (by simp) (by simp) (by omega) ?_; intro w1 k1 k2 k3 k4; have X0 := (((Bx.new w _ _).alloc _).alloc _).below k3; have X1 := ((Bx.new _ _ _).alloc _).below k3; have X2 := (Bx.new _ _ _).below k3; simp only [World.size_alloc] at X1 X2 k1 k2 k3 k4; have q0 := below_alloc3 k3; clear k3; have x1 := X1.1)
    | fail)
  clear x1
  go_loopw [21] (fun i wr => ∃ (k : Nat) (X : List Int), k ≤ ys.length ∧ i = .int .i64 k ∧ X.length = xs.length + ys.length ∧ Wd X ∧ X.drop (xs.length + k) = List.replicate (ys.length - k) 0 ∧ val X = val xs * val (ys.take k) ∧ Cells wr (w.heap.size + 1 + 1 + 1) 0 X ∧ Wr (w.heap.size + 1 + 1 + 1) 0 (xs.length + ys.length) w1 wr) (fun i _ => ys.length - (intOf i).toNat)
  case atStart => exact ⟨0, List.replicate (xs.length + ys.length) 0, Nat.zero_le _, rfl, by simp, Wd.zeros _, by simp, by simp [val_zeros, val], k1, Wr.refl _ _ _ _⟩
  case round =>
    obtain ⟨k, X, hk, rfl, hl, hw, hd, hv, hcX, hwr⟩ := hrel
    have HV : Hid (val X = val xs * val (ys.take k)) := hv
    have HD : Hid (X.drop (xs.length + k) = List.replicate (ys.length - k) 0) := hd
    have HL : Hid (X.length = xs.length + ys.length) := hl
    clear hv hd hl
    have pr := q0.trans (hwr.below (B := w.heap.size) (by omega) (by have := q0.size; omega))
    have Y0 := X0.wr hwr (by omega)
    have Y2 := X2.wr hwr (by omega)
    by_cases hlt : k < ys.length
    · obtain ⟨b2, o2, rfl, hne, hcW⟩ := hs2.out wr pr (by omega)
      have e1 := hcW.at (i := k) hlt
      have b1 := nth_bd hy k
      have y0 := Y0.1
      have hS : Hid (((X.drop k).take xs.length).length = xs.length) := by show _ = _; rw [List.length_take, List.length_drop, HL.out]; omega
      have hcS : Hid (Cells wr (w.heap.size + 1 + 1 + 1) k ((X.drop k).take xs.length)) := by have := (hcX.drop k).take xs.length; rwa [Nat.zero_add] at this
      have hsl := slice_lh (w.heap.size + 1 + 1 + 1) 0 (xs.length + ys.length) (xs.length + ys.length) (k : Int) ((k : Int) + (xs.length : Int)) k xs.length rfl rfl (by omega) (by omega)
      rw [Nat.zero_add] at hsl
      have g0 : Hid (wr.cell? ⟨w.heap.size + 1 + 1 + 1, k + xs.length, none⟩ = some (.int .u64 (nth X (k + xs.length)))) := by have := hcX (k + xs.length) (by have := HL.out; omega); rw [Nat.zero_add] at this; exact this
      have hwp : IntKind.i64.wrap ((k : Int) + (xs.length : Int)) = (k : Int) + (xs.length : Int) := IntWalk.i64_in _ (by omega)
      go_wp2_with fail
      go_region_with (go_at_call 166; go_must (refine (addProduct_any (w.heap.size + 1 + 1 + 1) k _ _ ((X.drop k).take xs.length) a1 _ xs (nth ys k) _ hS.out.symm ((hw.drop k).take _) hx hS.out.symm b1.1 b1.2 (by have := hS.out; omega) hcS.out.drew ((k2.wr hwr).free _ _).drew (hs.out _ pr.drew)).mono ?_; rintro e w2 ⟨S', c, rfl, c0, c1, hl', hw', hv', hc', hwr'⟩; rw [hS.out] at hl' hwr'; have g1 := (hwr'.undrew.cell (k + xs.length) (by omega)).trans g0.out; have g2 := ((k2.wr hwr).wr hwr'.undrew).free 0 (k + xs.length + 1) (k + xs.length) (by omega); rw [Nat.zero_add] at g2))
      have R : Hid _ := mul_round hlt HL.out hw HD.out HV.out hl' hw' c0 c1 (by rw [hS.out] at hv'; exact hv')
      have RC : Hid (Cells w2 (w.heap.size + 1 + 1 + 1) 0 (spl X k xs.length S')) := hcX.spl (k := k) (n := xs.length) (by have := HL.out; omega) hl' hwr'.undrew hc'
      have RW : Hid (Wr (w.heap.size + 1 + 1 + 1) 0 (xs.length + ys.length) w1 w2) := hwr.trans (hwr'.undrew.mono (o' := 0) (n' := xs.length + ys.length) (by omega) (by omega))
      clear hv' hc' hwr'
      go_wp2
      go_roundw
      case rel => exact ⟨k + 1, (spl X k xs.length S').set (k + xs.length) c, by omega, by go_num, R.out.1, R.out.2.1, R.out.2.2.1, R.out.2.2.2, by have := RC.out.set (k + xs.length) (by rw [spl_len (by have := HL.out; omega) hl']; have := HL.out; omega) c; rwa [Nat.zero_add] at this, RW.out.setCell _ (by omega) _⟩
      case measure => simp [intOf]; omega
    · have ek : k = ys.length := by omega
      subst ek
      have hsum : Hid (val X = val xs * val ys) := by have := HV.out; rwa [List.take_length] at this
      clear HV HD
      go_wp2_with fail
      refine (trim_rd _ _ _ X wr HL.out.symm hw (by have := HL.out; omega) (by omega) (fun _ => ⟨_, _, rfl, hcX⟩)).mono ?_
      rintro e w4 ⟨n, zs, rfl, -, hrd, hnm, hvz, hbl⟩
      have V2 := Y2.below hbl
      have v1 := V2.1
      have v2 := V2.2
      have hvz' : Hid (val zs = val xs * val ys) := hvz.trans hsum.out
      clear hvz
      go_wp2
      refine bodyPost_ret (v := .agg #[.slice (some ⟨w.heap.size + 1 + 1 + 1, 0, none⟩) n (xs.length + ys.length)]) (by simp [results, Tryz.results120, go_sem, v1]) rfl ⟨_, zs, rfl, hrd.put (by intro b o l c e; simp at e; omega), hnm, hvz'.out, below_put (pr.trans (hbl.mono pr.size)) (by omega) _, by intro b o l c e; simp at e; omega⟩
theorem mulPlainly_anyF (v1 v2 : Value) (xs ys : List Int) (w : World) (h1 : Rd w v1 xs) (h2 : Rd w v2 ys) (l1 : xs.length ≤ 274877906944) (l2 : ys.length ≤ 274877906944) :
    Calls Tryz.prog 120 #[.agg #[v1], .agg #[v2]] w fun e w' => ∃ r zs, e = .returned (.agg #[r]) ∧ Rd w' r zs ∧ Nm zs ∧ val zs = val xs * val ys ∧ Below w.heap.size w w' ∧ FrA w.heap.size r := by
  obtain ⟨w1, a1, c1, rfl, _, _, g1⟩ := h1
  obtain ⟨w2, a2, c2, rfl, _, _, g2⟩ := h2
  exact mulPlainly_new a1 a2 c1 c2 xs ys w w1 w2 l1 l2 g1 g2
set_option maxRecDepth 100000 in
theorem mul_longF (v1 v2 : Value) (a1 a2 : Option Addr) (c1 c2 : Nat) (xs ys : List Int) (w : World) (e1 : v1 = .slice a1 xs.length c1) (e2 : v2 = .slice a2 ys.length c2) (h1 : Rd w v1 xs) (h2 : Rd w v2 ys) (hle : ys.length ≤ xs.length) (hs : ys.length < 80) (hL : xs.length ≤ 274877906944) :
    Calls Tryz.prog 64 #[.agg #[v1], .agg #[v2]] w fun e w' => ∃ r zs, e = .returned (.agg #[r]) ∧ Rd w' r zs ∧ Nm zs ∧ val zs = val xs * val ys ∧ Below w.heap.size w w' ∧ FrA w.heap.size r := by
  have H1 : Hid (Rd w v1 xs) := h1
  have H2 : Hid (Rd w v2 ys) := h2
  clear h1 h2
  subst e1 e2
  have pr : Below w.heap.size w (((w.alloc (.cells #[.slice a1 xs.length c1] 65)).alloc (.cells #[.slice a2 ys.length c2] 65)).alloc (.cells #[.slice none 0 0] 65)) := (((Below.refl _ _).alloc (Nat.le_refl _) _).alloc (by simp) _).alloc (by simp; omega) _
  go_enter Tryz.func64, Tryz.ntmps64
  go_wp2_with fail
  refine (mulPlainly_anyF _ _ xs ys _ (H1.out.grow pr) (H2.out.grow pr) hL (by omega)).mono ?_
  rintro e w4 ⟨r, zs, rfl, hrd, hnm, hvz, hbl, hfr⟩
  obtain ⟨ra, rl, rc, rfl⟩ := hrd.shape
  have V2 := (Bx.new _ _ _).below hbl
  simp only [World.size_alloc] at V2
  have v1 := V2.1
  have v2 := V2.2
  have HVZ : Hid (val zs = val xs * val ys) := hvz
  clear hvz
  go_wp2
  refine bodyPost_ret (v := .agg #[.slice ra rl rc]) (by simp [results, Tryz.results64, go_sem, v1]) rfl ⟨_, zs, rfl, hrd.box V2, hnm, HVZ.out, below_put (pr.trans (hbl.mono pr.size)) (by omega) _, fun b o l c e => Nat.le_trans pr.size (hfr b o l c e)⟩
set_option maxRecDepth 100000 in
theorem mul_shortF (v1 v2 : Value) (a1 a2 : Option Addr) (c1 c2 : Nat) (xs ys : List Int) (w : World) (e1 : v1 = .slice a1 xs.length c1) (e2 : v2 = .slice a2 ys.length c2) (h1 : Rd w v1 xs) (h2 : Rd w v2 ys) (hle : xs.length < ys.length) (hs : xs.length < 80) (hL : ys.length ≤ 274877906944) :
    Calls Tryz.prog 64 #[.agg #[v1], .agg #[v2]] w fun e w' => ∃ r zs, e = .returned (.agg #[r]) ∧ Rd w' r zs ∧ Nm zs ∧ val zs = val xs * val ys ∧ Below w.heap.size w w' ∧ FrA w.heap.size r := by
  have H1 : Hid (Rd w v1 xs) := h1
  have H2 : Hid (Rd w v2 ys) := h2
  clear h1 h2
  subst e1 e2
  have pr : Below w.heap.size w (((w.alloc (.cells #[.slice a2 ys.length c2] 65)).alloc (.cells #[.slice a1 xs.length c1] 65)).alloc (.cells #[.slice none 0 0] 65)) := (((Below.refl _ _).alloc (Nat.le_refl _) _).alloc (by simp) _).alloc (by simp; omega) _
  go_enter Tryz.func64, Tryz.ntmps64
  go_wp2_with fail
  refine (mulPlainly_anyF _ _ ys xs _ (H2.out.grow pr) (H1.out.grow pr) hL (by omega)).mono ?_
  rintro e w4 ⟨r, zs, rfl, hrd, hnm, hvz, hbl, hfr⟩
  obtain ⟨ra, rl, rc, rfl⟩ := hrd.shape
  have V2 := (Bx.new _ _ _).below hbl
  simp only [World.size_alloc] at V2
  have v1 := V2.1
  have v2 := V2.2
  have HVZ : Hid (val zs = val xs * val ys) := hvz.trans (Int.mul_comm _ _)
  clear hvz
  go_wp2
  refine bodyPost_ret (v := .agg #[.slice ra rl rc]) (by simp [results, Tryz.results64, go_sem, v1]) rfl ⟨_, zs, rfl, hrd.box V2, hnm, HVZ.out, below_put (pr.trans (hbl.mono pr.size)) (by omega) _, fun b o l c e => Nat.le_trans pr.size (hfr b o l c e)⟩
theorem Mul_shortF (v1 v2 : Value) (xs ys : List Int) (w : World) (h1 : Rd w v1 xs) (h2 : Rd w v2 ys) (hs : xs.length < 80 ∨ ys.length < 80) (l1 : xs.length ≤ 274877906944) (l2 : ys.length ≤ 274877906944) :
    Calls Tryz.prog 64 #[.agg #[v1], .agg #[v2]] w fun e w' => ∃ r zs, e = .returned (.agg #[r]) ∧ Rd w' r zs ∧ Nm zs ∧ val zs = val xs * val ys ∧ Below w.heap.size w w' ∧ FrA w.heap.size r := by
  obtain ⟨_, a1, c1, e1, _, _, _⟩ := id h1
  obtain ⟨_, a2, c2, e2, _, _, _⟩ := id h2
  by_cases h : ys.length ≤ xs.length
  · exact mul_longF v1 v2 a1 a2 c1 c2 xs ys w e1 e2 h1 h2 h (by omega) l1
  · exact mul_shortF v1 v2 a1 a2 c1 c2 xs ys w e1 e2 h1 h2 (by omega) (by omega) l2
end Go.Proofs.YtebilgnmnambnaaGreatDoor
