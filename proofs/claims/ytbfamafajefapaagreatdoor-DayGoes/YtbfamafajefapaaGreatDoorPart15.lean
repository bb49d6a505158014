import Derived.Test.YtbfamafajefapaaGreatDoorPart13
import Derived.Deep.RegionWith
import Derived.Deep.RegionHeld3
import Derived.BigRegion
import Derived.Test.YtbfamafajefapaaGreatDoorPart14
import Derived.Deep.DeepCutAuto
import Derived.Deep.CutBlock

namespace Go.Proofs.YtbfamafajefapaaGreatDoor
open Go.RowKit Tn

/-- A part of a row rewritten. -/
def spl (X : List Int) (k n : Nat) (S : List Int) : List Int := X.take k ++ (S ++ X.drop (k + n))
theorem spl_len {X S : List Int} {k n : Nat} (h : k + n ≤ X.length) (hS : S.length = n) : (spl X k n S).length = X.length := by simp [spl]; omega
theorem wd_spl {X S : List Int} (h : Wd X) (hS : Wd S) (k n : Nat) : Wd (spl X k n S) := (h.take k).append (hS.append (h.drop _))
theorem Cells.spl {w w2 : World} {b : Nat} {X S : List Int} {k n : Nat} (h : Cells w b 0 X) (hl : k + n ≤ X.length) (hS : S.length = n) (hw : Wr b k n w w2) (hc : Cells w2 b k S) : Cells w2 b 0 (spl X k n S) := by
  refine Cells.append ((h.take k).apart hw (Or.inl (by simp; omega))) ?_
  rw [List.length_take, Nat.min_eq_left (by omega), Nat.zero_add]
  refine Cells.append hc ?_
  have := (h.drop (k + n)).apart hw (Or.inr (by omega))
  rw [Nat.zero_add] at this
  rw [hS]; exact this
theorem val_spl {X S : List Int} {k n : Nat} (hl : k + n ≤ X.length) (hS : S.length = n) : val (spl X k n S) = val X + pw k * (val S - val ((X.drop k).take n)) := by
  have e1 := val_split X k (by omega)
  have e2 := val_split (X.drop k) n (by simp; omega)
  rw [List.drop_drop] at e2
  have h1 : (X.take k).length = k := by simp; omega
  unfold spl
  rw [val_append, val_append, h1, hS, e1, e2]; grind
theorem val_set (X : List Int) (j : Nat) (v : Int) (h : j < X.length) : val (X.set j v) = val X + pw j * (v - nth X j) := by
  have e1 := val_split (X.set j v) (j + 1) (by simp; omega)
  have e2 := val_split X (j + 1) (by omega)
  rw [take_set_succ X j v h, drop_set_succ, val_append, List.length_take, Nat.min_eq_left (by omega)] at e1
  rw [val_at X j h] at e2
  simp only [val] at e1
  grind
theorem nth_spl {X S : List Int} {k n : Nat} (hl : k + n ≤ X.length) (hS : S.length = n) : nth (spl X k n S) (k + n) = nth X (k + n) := by
  have h1 : (X.take k).length = k := by simp; omega
  unfold spl nth
  rw [List.getD_eq_getElem?_getD, List.getElem?_append_right (by omega), List.getElem?_append_right (by omega), List.getElem?_drop, List.getD_eq_getElem?_getD]
  congr 2; omega
theorem nth_zero {X : List Int} {j m : Nat} (h : X.drop j = List.replicate m 0) : nth X j = 0 := by
  have := nth_drop X j 0
  rw [h, nth_replicate] at this
  simpa using this.symm
theorem drop_spl_set {X S : List Int} {k n j : Nat} {v : Int} (hl : k + n ≤ X.length) (hS : S.length = n) (hj : j = k + n) : ((spl X k n S).set j v).drop (j + 1) = X.drop (j + 1) := by
  subst hj
  rw [drop_set_succ]
  have h1 : (X.take k).length = k := by simp; omega
  unfold spl
  rw [List.drop_append, List.drop_append, List.drop_drop, h1, hS]
  rw [List.drop_of_length_le (by omega), List.drop_of_length_le (by omega)]
  simp; congr 1; omega
theorem mul_round {X xs ys S' : List Int} {k : Nat} {c : Int} (hy : k < ys.length) (hl : X.length = xs.length + ys.length) (hw : Wd X) (hd : X.drop (xs.length + k) = List.replicate (ys.length - k) 0) (hv : val X = val xs * val (ys.take k))
    (hS : S'.length = xs.length) (hwS : Wd S') (c0 : 0 ≤ c) (c1 : c < 18446744073709551616) (hs : val S' + pw xs.length * c = val ((X.drop k).take xs.length) + val xs * nth ys k) :
    ((spl X k xs.length S').set (k + xs.length) c).length = xs.length + ys.length ∧ Wd ((spl X k xs.length S').set (k + xs.length) c) ∧ ((spl X k xs.length S').set (k + xs.length) c).drop (xs.length + (k + 1)) = List.replicate (ys.length - (k + 1)) 0 ∧ val ((spl X k xs.length S').set (k + xs.length) c) = val xs * val (ys.take (k + 1)) := by
  have h1 : k + xs.length ≤ X.length := by omega
  have h2 := spl_len (S := S') h1 hS
  refine ⟨by simp; omega, (wd_spl hw hwS k _).set _ c0 c1, ?_, ?_⟩
  · rw [show xs.length + (k + 1) = (k + xs.length) + 1 from by omega, drop_spl_set h1 hS rfl]
    have := congrArg (List.drop 1) hd
    rw [List.drop_drop, List.drop_replicate] at this
    rw [show k + xs.length + 1 = xs.length + k + 1 from by omega, this]
    congr 1
  · rw [val_set _ _ _ (by omega), val_spl h1 hS, nth_spl h1 hS, show k + xs.length = xs.length + k from by omega, nth_zero hd, val_at ys k hy, hv, pw_add]
    grind

set_option maxHeartbeats 1600000 in
set_option maxRecDepth 100000 in
theorem mulPlainly_all (a1 a2 : Option Addr) (c1 c2 : Nat) (xs ys : List Int) (w : World) (hx : Wd xs) (hy : Wd ys) (hL : xs.length ≤ 274877906944) (hL2 : ys.length ≤ 274877906944) (h1 : 0 < xs.length → ∃ b o, a1 = some ⟨b, o, none⟩ ∧ Cells w b o xs) (h2 : 0 < ys.length → ∃ b o, a2 = some ⟨b, o, none⟩ ∧ Cells w b o ys) :
    Calls Tryz.prog 148 #[.agg #[.slice a1 xs.length c1], .agg #[.slice a2 ys.length c2]] w fun e w' => ∃ r zs, e = .returned (.agg #[r]) ∧ Rd w' r zs ∧ Nm zs ∧ val zs = val xs * val ys ∧ Below w.heap.size w w' := by
  have hs : Hid (∀ w', Below w.heap.size w w' → 0 < xs.length → ∃ b o, a1 = some ⟨b, o, none⟩ ∧ b ≠ w.heap.size + 1 + 1 + 1 ∧ Cells w' b o xs) := fun w' h l => by obtain ⟨b, o, e, c⟩ := h1 l; exact ⟨b, o, e, by have := c.lt l; omega, c.grow h⟩
  have hs2 : Hid (∀ w', Below w.heap.size w w' → 0 < ys.length → ∃ b o, a2 = some ⟨b, o, none⟩ ∧ b ≠ w.heap.size + 1 + 1 + 1 ∧ Cells w' b o ys) := fun w' h l => by obtain ⟨b, o, e, c⟩ := h2 l; exact ⟨b, o, e, by have := c.lt l; omega, c.grow h⟩
  clear h1 h2
  go_enter Tryz.func148, Tryz.ntmps148
  go_wp2_with (first
    | (at_make; refine wpList_make_words rfl _ _ rfl (xs.length + ys.length) _ _ rfl rfl (by simp) (by simp) (by omega) ?_; intro w1 k1 k2 k3 k4; have X0 := (((Bx.new w _ _).alloc _).alloc _).below k3; have X1 := ((Bx.new _ _ _).alloc _).below k3; have X2 := (Bx.new _ _ _).below k3; simp only [World.size_alloc] at X1 X2 k1 k2 k3 k4; have q0 := below_alloc3 k3; clear k3; have x1 := X1.1)
    | fail)
  clear x1
  go_loopw [21] (fun i wr => ∃ (k : Nat) (X : List Int), k ≤ ys.length ∧ i = .int .i64 k ∧ X.length = xs.length + ys.length ∧ Wd X ∧ X.drop (xs.length + k) = List.replicate (ys.length - k) 0 ∧ val X = val xs * val (ys.take k) ∧ Cells wr (w.heap.size + 1 + 1 + 1) 0 X ∧ Wr (w.heap.size + 1 + 1 + 1) 0 (xs.length + ys.length) w1 wr) (fun i _ => ys.length - (intOf i).toNat)
  case atStart => exact ⟨0, List.replicate (xs.length + ys.length) 0, Nat.zero_le _, rfl, by simp, Wd.zeros _, by simp, by simp [val_zeros, val], k1, Wr.refl _ _ _ _⟩
  case round =>
    obtain ⟨k, X, hk, rfl, hl, hw, hd, hv, hcX, hwr⟩ := hrel
    have HV : Hid (val X = val xs * val (ys.take k)) := hv
    have HD : Hid (X.drop (xs.length + k) = List.replicate (ys.length - k) 0) := hd
    have HL : Hid (X.length = xs.length + ys.length) := hl
    clear hv hd hl
    have pr := q0.trans (hwr.below (B := w.heap.size) (by omega) (by have := q0.size; omega))
    have Y0 := X0.wr hwr (by omega)
    have Y2 := X2.wr hwr (by omega)
    by_cases hlt : k < ys.length
    · obtain ⟨b2, o2, rfl, hne, hcW⟩ := hs2.out wr pr (by omega)
      have e1 := hcW.at (i := k) hlt
      have b1 := nth_bd hy k
      have y0 := Y0.1
      have hS : Hid (((X.drop k).take xs.length).length = xs.length) := by show _ = _; rw [List.length_take, List.length_drop, HL.out]; omega
      have hcS : Hid (Cells wr (w.heap.size + 1 + 1 + 1) k ((X.drop k).take xs.length)) := by have := (hcX.drop k).take xs.length; rwa [Nat.zero_add] at this
      have hsl := slice_lh (w.heap.size + 1 + 1 + 1) 0 (xs.length + ys.length) (xs.length + ys.length) (k : Int) ((k : Int) + (xs.length : Int)) k xs.length rfl rfl (by omega) (by omega)
      rw [Nat.zero_add] at hsl
      have g0 : Hid (wr.cell? ⟨w.heap.size + 1 + 1 + 1, k + xs.length, none⟩ = some (.int .u64 (nth X (k + xs.length)))) := by have := hcX (k + xs.length) (by have := HL.out; omega); rw [Nat.zero_add] at this; exact this
      have hwp : IntKind.i64.wrap ((k : Int) + (xs.length : Int)) = (k : Int) + (xs.length : Int) := IntWalk.i64_in _ (by omega)
      go_wp2_with fail
      go_region_with (go_at_call 178; go_must (refine (addProduct_any (w.heap.size + 1 + 1 + 1) k _ _ ((X.drop k).take xs.length) a1 _ xs (nth ys k) _ hS.out.symm ((hw.drop k).take _) hx hS.out.symm b1.1 b1.2 (by have := hS.out; omega) hcS.out.drew ((k2.wr hwr).free _ _).drew (hs.out _ pr.drew)).mono ?_; rintro e w2 ⟨S', c, rfl, c0, c1, hl', hw', hv', hc', hwr'⟩; rw [hS.out] at hl' hwr'; have g1 := (hwr'.undrew.cell (k + xs.length) (by omega)).trans g0.out; have g2 := ((k2.wr hwr).wr hwr'.undrew).free 0 (k + xs.length + 1) (k + xs.length) (by omega); rw [Nat.zero_add] at g2))
      have R : Hid _ := mul_round hlt HL.out hw HD.out HV.out hl' hw' c0 c1 (by rw [hS.out] at hv'; exact hv')
      have RC : Hid (Cells w2 (w.heap.size + 1 + 1 + 1) 0 (spl X k xs.length S')) := hcX.spl (k := k) (n := xs.length) (by have := HL.out; omega) hl' hwr'.undrew hc'
      have RW : Hid (Wr (w.heap.size + 1 + 1 + 1) 0 (xs.length + ys.length) w1 w2) := hwr.trans (hwr'.undrew.mono (o' := 0) (n' := xs.length + ys.length) (by omega) (by omega))
      clear hv' hc' hwr'
      go_wp2
      go_roundw
      case rel => exact ⟨k + 1, (spl X k xs.length S').set (k + xs.length) c, by omega, by go_num, R.out.1, R.out.2.1, R.out.2.2.1, R.out.2.2.2, by have := RC.out.set (k + xs.length) (by rw [spl_len (by have := HL.out; omega) hl']; have := HL.out; omega) c; rwa [Nat.zero_add] at this, RW.out.setCell _ (by omega) _⟩
      case measure => simp [intOf]; omega
    · have ek : k = ys.length := by omega
      subst ek
      have hsum : Hid (val X = val xs * val ys) := by have := HV.out; rwa [List.take_length] at this
      clear HV HD
      go_wp2_with fail
      refine (trim_rd _ _ _ X wr HL.out.symm hw (by have := HL.out; omega) (by omega) (fun _ => ⟨_, _, rfl, hcX⟩)).mono ?_
      rintro e w4 ⟨n, zs, rfl, -, hrd, hnm, hvz, hbl⟩
      have V2 := Y2.below hbl
      have v1 := V2.1
      have v2 := V2.2
      have hvz' : Hid (val zs = val xs * val ys) := hvz.trans hsum.out
      clear hvz
      go_wp2
      refine bodyPost_ret (v := .agg #[.slice (some ⟨w.heap.size + 1 + 1 + 1, 0, none⟩) n (xs.length + ys.length)]) (by simp [results, Tryz.results148, go_sem, v1]) rfl ⟨_, zs, rfl, hrd.put (by intro b o l c e; simp at e; omega), hnm, hvz'.out, below_put (pr.trans (hbl.mono pr.size)) (by omega) _⟩
end Go.Proofs.YtbfamafajefapaaGreatDoor

namespace Go.Proofs.YtbfamafajefapaaGreatDoor
open Go.RowKit Tn

/-- The quotient's word and a guess that is not below it: what is left, up to the words that there are. -/
structure Left (X R D : List Int) (g : Int) : Prop where
  len : X.length = D.length + 1
  wd : Wd X
  ge : val R / val D ≤ g
  g1 : g < 18446744073709551616
  cong : ∃ k : Int, val X = val R - g * val D + pw (D.length + 1) * k
theorem val_last {X : List Int} {n : Nat} (h : X.length = n + 1) : val X = val (X.take n) + pw n * nth X n := by
  have e := val_at X n (by omega)
  rw [← h, List.take_length] at e; exact e
theorem Left.top {X R D : List Int} {g : Int} (h : Left X R D g) (hR : Wd R) (hD : Wd D) (d0 : 0 < val D) (g0 : 0 ≤ g) : (nth X D.length = 0 → g = val R / val D ∧ val (X.take D.length) = val R - g * val D) ∧ (nth X D.length ≠ 0 → val R / val D ≤ g - 1) := by
  obtain ⟨k, hk⟩ := h.cong
  have e := val_last h.len
  have x0 := val_nonneg h.wd
  have x1 := val_lt h.wd
  rw [h.len] at x1
  have p := pw_pos D.length
  have dl := val_lt hD
  have R0 := val_nonneg hR
  have tb := nth_bd h.wd D.length
  have t0 := val_nonneg (h.wd.take D.length)
  have t1 := val_lt (h.wd.take D.length)
  rw [List.length_take, Nat.min_eq_left (by have := h.len; omega)] at t1
  have m1 : (val R / val D) * val D ≤ val R := quo_le d0
  have m2 : val R < (val R / val D + 1) * val D := by have := divmod_eq (val R) (val D); have := Int.emod_lt_of_pos (val R) d0; grind
  have pe : pw (D.length + 1) = 18446744073709551616 * pw D.length := rfl
  rw [pe] at hk x1
  by_cases hg : g = val R / val D
  · have v0 : 0 ≤ val R - g * val D := by rw [hg]; omega
    have v1 : val R - g * val D < val D := by rw [hg]; grind
    have hk0 : k = 0 := by
      by_cases c : k = 0
      · exact c
      · rcases Int.lt_or_gt_of_ne c with c | c
        · have := Int.mul_le_mul_of_nonneg_left (show k ≤ -1 by omega) (show 0 ≤ 18446744073709551616 * pw D.length by omega); omega
        · have := Int.mul_le_mul_of_nonneg_left (show 1 ≤ k by omega) (show 0 ≤ 18446744073709551616 * pw D.length by omega); omega
    rw [hk0] at hk
    have ht : nth X D.length = 0 := by
      by_cases c : nth X D.length = 0
      · exact c
      · have := Int.mul_le_mul_of_nonneg_left (show 1 ≤ nth X D.length by omega) (Int.le_of_lt p); omega
    refine ⟨fun _ => ⟨hg, ?_⟩, fun c => absurd ht c⟩
    rw [ht] at e; omega
  · have hg2 : val R / val D + 1 ≤ g := by have := h.ge; omega
    have v0 : val R - g * val D < 0 := by
      have := Int.mul_le_mul_of_nonneg_right hg2 (Int.le_of_lt d0); omega
    have v1 : -(18446744073709551615 * pw D.length) < val R - g * val D ∨ g = 0 := by
      by_cases c : g = 0
      · exact Or.inr c
      · left
        have a1 := Int.mul_lt_mul_of_pos_left dl (show 0 < g by omega)
        have a2 := Int.mul_le_mul_of_nonneg_right (show g ≤ 18446744073709551615 by have := h.g1; omega) (Int.le_of_lt p)
        omega
    have v1' : -(18446744073709551615 * pw D.length) < val R - g * val D := by
      rcases v1 with v1 | v1
      · exact v1
      · rw [v1] at v0; simp at v0; omega
    have hk1 : 1 ≤ k := by
      by_cases c : 1 ≤ k
      · exact c
      · have := Int.mul_le_mul_of_nonneg_left (show k ≤ 0 by omega) (show 0 ≤ 18446744073709551616 * pw D.length by omega); omega
    have hx : pw D.length < val X := by
      have := Int.mul_le_mul_of_nonneg_left hk1 (show 0 ≤ 18446744073709551616 * pw D.length by omega); omega
    refine ⟨fun c => ?_, fun _ => by omega⟩
    rw [c] at e; omega
theorem guess_fits {R D : List Int} {q : Int} (hR : Wd R) (hD : Wd D) (n : Nat) (hn : D.length = n + 2) (hl : R.length = n + 3) (q0 : 0 ≤ q) (hq : q * val D ≤ val R) :
    q * (nth D (n + 1) * 18446744073709551616 + nth D n) ≤ (nth R (n + 2) * 18446744073709551616 + nth R (n + 1)) * 18446744073709551616 + nth R n := by
  have e1 := val_last (X := D) (n := n + 1) (by omega)
  have e2 := val_at D n (by omega)
  have e3 := val_last (X := R) (n := n + 2) (by omega)
  have e4 := val_at R (n + 1) (by omega)
  have e5 := val_at R n (by omega)
  have d0 := val_nonneg (hD.take n)
  have r1 := val_lt (hR.take n)
  rw [List.length_take, Nat.min_eq_left (by omega)] at r1
  have p := pw_pos n
  have p1 : pw (n + 1) = 18446744073709551616 * pw n := rfl
  have p2 : pw (n + 2) = 18446744073709551616 * (18446744073709551616 * pw n) := rfl
  have f1 : val D = val (D.take n) + (nth D (n + 1) * 18446744073709551616 + nth D n) * pw n := by rw [e1, e2, p1]; grind
  have f2 : val R = val (R.take n) + ((nth R (n + 2) * 18446744073709551616 + nth R (n + 1)) * 18446744073709551616 + nth R n) * pw n := by rw [e3, e4, e5, p1, p2]; grind
  have g1 := Int.mul_nonneg q0 d0
  have g2 : q * (nth D (n + 1) * 18446744073709551616 + nth D n) * pw n < ((nth R (n + 2) * 18446744073709551616 + nth R (n + 1)) * 18446744073709551616 + nth R n + 1) * pw n := by
    rw [f1, f2] at hq; grind
  have := Int.lt_of_mul_lt_mul_right g2 (Int.le_of_lt p)
  omega
theorem Left.first {R D S' : List Int} {g c : Int} (hR : R.length = D.length + 1) (hw : Wd S') (hl : S'.length = D.length) (ge : val R / val D ≤ g) (g1 : g < 18446744073709551616) (hv : val S' - pw D.length * c = val (R.take D.length) - val D * g) : Left (S' ++ [IntKind.u64.wrap (nth R D.length - c)]) R D g := by
  refine ⟨by simp [hl], hw.append (Wd.cons (by rw [wrap_u64]; omega) (by rw [wrap_u64]; omega) Wd.nil), ge, g1, ?_⟩
  have e := val_last hR
  rw [val_snoc, hl, wrap_u64]
  have dm := Int.emod_add_mul_ediv (nth R D.length - c) 18446744073709551616
  refine ⟨-((nth R D.length - c) / 18446744073709551616), ?_⟩
  have pe : pw (D.length + 1) = 18446744073709551616 * pw D.length := rfl
  rw [e, pe]
  grind
theorem Left.back {X R D S' : List Int} {g c : Int} (h : Left X R D g) (hw : Wd S') (hl : S'.length = D.length) (ge : val R / val D ≤ g - 1) (hv : val S' + pw D.length * c = val (X.take D.length) + val D) : Left (S' ++ [IntKind.u64.wrap (nth X D.length + c)]) R D (g - 1) := by
  refine ⟨by simp [hl], hw.append (Wd.cons (by rw [wrap_u64]; omega) (by rw [wrap_u64]; omega) Wd.nil), ge, by have := h.g1; omega, ?_⟩
  have e := val_last h.len
  obtain ⟨k, hk⟩ := h.cong
  rw [val_snoc, hl, wrap_u64]
  have dm := Int.emod_add_mul_ediv (nth X D.length + c) 18446744073709551616
  refine ⟨k - (nth X D.length + c) / 18446744073709551616, ?_⟩
  have pe : pw (D.length + 1) = 18446744073709551616 * pw D.length := rfl
  rw [pe] at hk ⊢
  grind
/-- The words, and one more behind them that was stored. -/
theorem Cells.snoc {w : World} {b o : Nat} {S : List Int} (h : Cells w b o S) (v : Int) {u : Value} (hu : w.cell? ⟨b, o + S.length, none⟩ = some u) : Cells (w.setCell ⟨b, o + S.length, none⟩ (.int .u64 v)) b o (S ++ [v]) := by
  refine Cells.append (fun i hi => ?_) (fun i hi => ?_)
  · rw [World.cell?_setCell_other _ _ _ _ (by simp; try omega)]; exact h i hi
  · have : i = 0 := by simp at hi; omega
    subst this
    exact World.cell?_setCell_same _ _ _ hu
end Go.Proofs.YtbfamafajefapaaGreatDoor

namespace Go.Proofs.YtbfamafajefapaaGreatDoor
open Go.RowKit Tn

/-- s[:n]. -/
theorem slice_h (g o len cap : Nat) (h : Int) (n : Nat) (eh : h = n) (h2 : n ≤ cap) (w : World) :
    (Instr.slice 69 (.slice (some ⟨g, o, none⟩) len cap) none (some (.int .i64 h)) none).run Tryz.prog w = .ok (.slice (some ⟨g, o, none⟩) n cap) w := by
  subst eh
  rw [run_slice_h w 69 _ len cap (by rw [Tryz.elemU]; exact Tryz.underlying69) .i64 _ (by omega) (by omega), Tryz.elemU]
  simp [Tryz.sizeOf119, Result.andThen, sliced, Addr.add]

set_option maxHeartbeats 3200000 in
set_option maxRecDepth 100000 in
/-- whole.divideStep. -/
theorem divStep_any (b o cap m : Nat) (R : List Int) (b2 o2 cap2 : Nat) (D : List Int) (n : Nat) (w : World) (hn : D.length = n + 2) (em : m = n + 3) (hl : R.length = n + 3) (hR : Wd R) (hD : Wd D) (hd : 0 < nth D (n + 1)) (hlt : val R < val D * 18446744073709551616) (hL : n ≤ 549755813888) (hcap : m ≤ cap)
    (hcR : Cells w b o R) (hF : Own w b) (hne : b2 ≠ b) (hcD : Cells w b2 o2 D) :
    Calls Tryz.prog 181 #[.slice (some ⟨b, o, none⟩) m cap, .slice (some ⟨b2, o2, none⟩) (n + 2) cap2] w fun e w' => ∃ q R', e = .returned (.int .u64 q) ∧ 0 ≤ q ∧ q < 18446744073709551616 ∧ R'.length = n + 3 ∧ Wd R' ∧ nth R' (n + 2) = 0 ∧ q * val D + val R' = val R ∧ val R' < val D ∧ Cells w' b o R' ∧ Wr b o (n + 3) w w' := by
  subst em
  have D0 : 0 < val D := by
    have e := val_last (X := D) (n := n + 1) (by omega)
    have := val_nonneg (hD.take (n + 1)); have := Int.mul_le_mul_of_nonneg_left (show 1 ≤ nth D (n + 1) by omega) (Int.le_of_lt (pw_pos (n + 1))); have := pw_pos (n + 1); omega
  have k1 := hcR.at (i := n + 2) (by omega)
  have k2 := hcR.at (i := n + 1) (by omega)
  have k3 := hcR.at (i := n) (by omega)
  have k4 := hcD.at (i := n + 1) (by omega)
  have k5 := hcD.at (i := n) (by omega)
  have c2 := nth_bd hR (n + 2)
  have c1 := nth_bd hR (n + 1)
  have c0 := nth_bd hR n
  have d1 := nth_bd hD (n + 1)
  have d0 := nth_bd hD n
  have w1 : IntKind.i64.wrap ((n : Int) + 2 - 1) = (n : Int) + 1 := by rw [IntWalk.i64_in _ (by omega)]; omega
  have w2 : IntKind.i64.wrap ((n : Int) + 2 - 2) = (n : Int) := by rw [IntWalk.i64_in _ (by omega)]; omega
  have H : Hid (0 < val D ∧ val R < val D * 18446744073709551616 ∧ 0 < nth D (n + 1)) := ⟨D0, hlt, hd⟩
  have HN : Hid (D.length = n + 2) := hn
  have HL : Hid (R.length = n + 3) := hl
  clear hlt hn hl
  go_enter Tryz.func181, Tryz.ntmps181
  go_wp2_with fail
  go_quiet ((go_at_call 200; exact Calls.quiet_of (guess_any _ _ _ _ _ _ c2 c1 c0 ⟨hd, d1.2⟩ d0)))
  have HG : Hid _ := guessF_spec c2.1 c1 c0 hd d0.1 (r2 := nth R (n + 2)) (r1 := nth R (n + 1)) (r0 := nth R n) (d1 := nth D (n + 1)) (d0 := nth D n)
  have hq0 : 0 ≤ val R / val D := Int.ediv_nonneg (val_nonneg hR) (by omega)
  have hq1 : val R / val D < 18446744073709551616 := Int.ediv_lt_of_lt_mul D0 (by have := H.out.2.1; rw [Int.mul_comm]; exact this)
  have HQ : Hid (val R / val D ≤ guessF (nth R (n + 2)) (nth R (n + 1)) (nth R n) (nth D (n + 1)) (nth D n)) := HG.out.2.2 _ hq0 hq1 (guess_fits hR hD n HN.out HL.out hq0 (quo_le D0))
  have g0 := HG.out.1
  have g1 := HG.out.2.1
  generalize guessF (nth R (n + 2)) (nth R (n + 1)) (nth R n) (nth D (n + 1)) (nth D n) = G at *
  have cR0 : Cells (w.drewN nq) b o R := hcR
  have cD0 : Cells (w.drewN nq) b2 o2 D := hcD
  have O0 : Own (w.drewN nq) b := hF
  have W0 : Wr b o (n + 3) w (w.drewN nq) := (Wr.refl _ _ _ _).drewN nq
  generalize w.drewN nq = w0 at *
  have HCD : Hid (Cells w b2 o2 D) := hcD
  have HO : Hid (Own w b) := hF
  clear k1 k2 k3 k4 k5 c2 c1 c0 d1 d0 w1 w2 HG hcR hcD hF
  have k1 := cR0.at (i := n + 2) (by have := HL.out; omega)
  have hsl := slice_h b o (n + 3) cap ((n : Int) + 2) (n + 2) (by omega) (by omega)
  have hb1 : (0 : Int) ≤ (n : Int) + 2 := by omega
  have ht1 : ((n : Int) + 2).toNat = n + 2 := by omega
  have tk : Hid ((R.take (n + 2)).length = n + 2) := by show _ = _; rw [List.length_take, HL.out]; omega
  go_upto_region 3 with fail
  go_cut [6] (fun t wc => ∃ X, t = .int .u64 G ∧ Left X R D G ∧ Cells wc b o X ∧ Wr b o (n + 3) w wc)
  case first =>
    go_region_with (go_at_call 201; refine (subProduct_any b o _ _ (R.take (n + 2)) b2 o2 _ _ D G _ tk.out.symm HN.out.symm (hR.take _) hD (HN.out.trans tk.out.symm) g0 g1 (by have := tk.out; omega) (cR0.take _).drew (O0.free _ _).drew hne cD0.drew).mono ?_; rintro e w2 ⟨S', c, rfl, c0, c1, hl', hw', hv', hc', hwr'⟩; rw [tk.out] at hl' hv' hwr'; have k2 := (hwr'.undrew.cell (o + (n + 2)) (by omega)).trans k1; have k3 := (O0.wr hwr'.undrew).free o (n + 3) (n + 2) (by omega))
    all_goals
      go_wp2_with fail
      go_meet
      case rel =>
        refine ⟨_, rfl, Left.first (HL.out.trans (by rw [HN.out])) hw' (hl'.trans HN.out.symm) HQ.out g1 (by rw [HN.out]; exact hv'), ?_, (W0.trans (hwr'.undrew.mono (Nat.le_refl _) (by omega))).setCell _ (by omega) _⟩
        have := hc'.snoc (IntKind.u64.wrap (nth R (n + 2) - c)) (by rw [hl']; exact k2)
        rw [hl'] at this
        rw [HN.out]; exact this
  case rest =>
    obtain ⟨X0, rfl, hX0, hc0, hwr0⟩ := hcut
    clear k1 cR0 cD0 O0 W0
    go_wp2_with fail
    go_loopw [6] (fun t wr => ∃ (g : Int) (X : List Int), t = .int .u64 g ∧ 0 ≤ g ∧ Left X R D g ∧ Cells wr b o X ∧ Wr b o (n + 3) w wr) (fun t _ => (intOf t).toNat)
    case atStart => exact ⟨G, X0, rfl, g0, hX0, hc0, hwr0⟩
    case round =>
      clear hX0 hc0 hwr0 hq0 hq1 HQ g0 g1
      obtain ⟨g, X, rfl, g0, hX, hc, hwr⟩ := hrel
      have T : Hid _ := hX.top hR hD H.out.1 g0
      have g1 := hX.g1
      have XL : Hid (X.length = n + 3) := hX.len.trans (by rw [HN.out])
      have k1 := hc.at (i := n + 2) (by have := XL.out; omega)
      by_cases hz : nth X (n + 2) = 0
      · have F := T.out.1 (by rw [HN.out]; exact hz)
        have F1 : Hid _ := F
        rw [hz] at k1
        have E : Hid (val X = val R - g * val D) := by
          have e := val_last XL.out
          have f := F.2
          rw [HN.out] at f
          rw [hz] at e
          show _ = _
          omega
        have M : Hid (val X < val D) := by
          have e := E.out
          have e2 := divmod_eq (val R) (val D)
          have e3 := Int.emod_lt_of_pos (val R) H.out.1
          rw [← F.1] at e2
          show _ < _
          omega
        have HZ : Hid (nth X (n + 2) = 0) := hz
        clear F hz
        go_wp2
        go_ret
        exact ⟨g, X, rfl, g0, g1, XL.out, hX.wd, HZ.out, by have := E.out; omega, M.out, hc, hwr⟩
      · have F : Hid (val R / val D ≤ g - 1) := T.out.2 (by rw [HN.out]; exact hz)
        have gp : 1 ≤ g := by have := F.out; have := Int.ediv_nonneg (val_nonneg hR) (Int.le_of_lt H.out.1); omega
        have hz' : (nth X (n + 2) != 0) = true := by rw [bne_iff_ne]; exact hz
        have O := HO.out.wr hwr
        have cD := HCD.out.other hwr hne
        have xk : Hid ((X.take (n + 2)).length = n + 2) := by show _ = _; rw [List.length_take, XL.out]; omega
        clear hz
        go_wp2_with fail
        go_region_with (go_at_call 154; refine (addInto_at b o _ _ (X.take (n + 2)) (some ⟨b2, o2, none⟩) _ _ D _ xk.out.symm HN.out.symm (hX.wd.take _) hD (by have := xk.out; have := HN.out; omega) (by have := xk.out; omega) (hc.take _).drew (O.free _ _).drew (fun _ => ⟨_, _, rfl, hne, cD.drew⟩)).mono ?_; rintro e w2 ⟨S', c, rfl, c0, c1, hl', hw', hv', hc', hwr'⟩; rw [xk.out] at hl' hv' hwr'; have k2 := (hwr'.undrew.cell (o + (n + 2)) (by omega)).trans k1; have k3 := (O.wr hwr'.undrew).free o (n + 3) (n + 2) (by omega))
        all_goals
          go_wp2_with fail
          go_roundw
          case rel =>
            refine ⟨g - 1, _, rfl, by omega, hX.back hw' (hl'.trans HN.out.symm) F.out (by rw [HN.out]; exact hv'), ?_, (hwr.trans (hwr'.undrew.mono (Nat.le_refl _) (by omega))).setCell _ (by omega) _⟩
            have := hc'.snoc (IntKind.u64.wrap (nth X (n + 2) + c)) (by rw [hl']; exact k2)
            rw [hl'] at this
            rw [HN.out]; exact this
          case measure => simp [intOf]; omega
end Go.Proofs.YtbfamafajefapaaGreatDoor
