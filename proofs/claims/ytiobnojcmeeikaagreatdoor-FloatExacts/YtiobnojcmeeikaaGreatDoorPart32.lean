import Derived.Test.YtiobnojcmeeikaaGreatDoorPart31
import Derived.Test.YtiobnojcmeeikaaGreatDoorPart29
import Derived.Test.YtiobnojcmeeikaaGreatDoorPart30

namespace Go.Proofs.YtiobnojcmeeikaaGreatDoor.Mo
open Go.RowKit Dc Tn

theorem undrew {W w1 : World} (b : Below W.drew.heap.size W.drew w1) : Below W.heap.size W w1 := (show Below W.heap.size W W.drew from (Below.refl _ _).drew).trans b
end Go.Proofs.YtiobnojcmeeikaaGreatDoor.Mo

namespace Go.Proofs.YtiobnojcmeeikaaGreatDoor.Mo
open Go.RowKit Dc Tn

end Go.Proofs.YtiobnojcmeeikaaGreatDoor.Mo

namespace Go.Proofs.YtiobnojcmeeikaaGreatDoor.Mo
open Go.RowKit Dc Tn

end Go.Proofs.YtiobnojcmeeikaaGreatDoor.Mo

namespace Go.Proofs.YtiobnojcmeeikaaGreatDoor.Mo
open Go.RowKit Dc Tn

/-- s[z:], z nought. -/
theorem slice_l0 (g o len cap : Nat) (z : Int) (hz : z = 0) (h : 0 < cap) (w : World) :
    (Instr.slice 54 (.slice (some ⟨g, o, none⟩) len cap) (some (.int .i64 z)) none none).run Tryz.prog w = .ok (.slice (some ⟨g, o, none⟩) len cap) w := by
  subst hz
  rw [run_slice_l w 54 _ len cap (by rw [Tryz.elemU]; exact Tryz.underlying54) .i64 _ (by omega) (by omega), Tryz.elemU]
  have e2 : ¬ cap = 0 := by omega
  simp [Tryz.sizeOf22, Result.andThen, sliced, e2, Addr.add]
end Go.Proofs.YtiobnojcmeeikaaGreatDoor.Mo

namespace Go.Proofs.YtiobnojcmeeikaaGreatDoor
open Go.RowKit Tn

/-- A row that does not lie below a place. -/
def FrA (base : Nat) (v : Value) : Prop := ∀ b o l c, v = .slice (some ⟨b, o, none⟩) l c → base ≤ b
set_option maxHeartbeats 1600000 in
set_option maxRecDepth 100000 in
theorem mulPlainly_new (a1 a2 : Option Addr) (c1 c2 : Nat) (xs ys : List Int) (w : World) (hx : Wd xs) (hy : Wd ys) (hL : xs.length ≤ 274877906944) (hL2 : ys.length ≤ 274877906944) (h1 : 0 < xs.length → ∃ b o, a1 = some ⟨b, o, none⟩ ∧ Cells w b o xs) (h2 : 0 < ys.length → ∃ b o, a2 = some ⟨b, o, none⟩ ∧ Cells w b o ys) :
    Calls Tryz.prog 80 #[.agg #[.slice a1 xs.length c1], .agg #[.slice a2 ys.length c2]] w fun e w' => ∃ r zs, e = .returned (.agg #[r]) ∧ Rd w' r zs ∧ Nm zs ∧ val zs = val xs * val ys ∧ Below w.heap.size w w' ∧ FrA w.heap.size r := by
  have hs : Hid (∀ w', Below w.heap.size w w' → 0 < xs.length → ∃ b o, a1 = some ⟨b, o, none⟩ ∧ b ≠ w.heap.size + 1 + 1 + 1 ∧ Cells w' b o xs) := fun w' h l => by obtain ⟨b, o, e, c⟩ := h1 l; exact ⟨b, o, e, by have := c.lt l; omega, c.grow h⟩
  have hs2 : Hid (∀ w', Below w.heap.size w w' → 0 < ys.length → ∃ b o, a2 = some ⟨b, o, none⟩ ∧ b ≠ w.heap.size + 1 + 1 + 1 ∧ Cells w' b o ys) := fun w' h l => by obtain ⟨b, o, e, c⟩ := h2 l; exact ⟨b, o, e, by have := c.lt l; omega, c.grow h⟩
  clear h1 h2
  go_enter Tryz.func80, Tryz.ntmps80
  go_wp2_with (first
    | (at_make; refine wpList_make_words rfl _ _ rfl (xs.length + ys.length) _ _ rfl rfl (by simp) (by simp) (by omega) ?_; intro w1 k1 k2 k3 k4; have X0 := (((Bx.new w _ _).alloc _).alloc _).below k3; have X1 := ((Bx.new _ _ _).alloc _).below k3; have X2 := (Bx.new _ _ _).below k3; simp only [World.size_alloc] at X1 X2 k1 k2 k3 k4; have q0 := below_alloc3 k3; clear k3; have x1 := X1.1)
    | fail)
  clear x1
  go_loopw [21] (fun i wr => ∃ (k : Nat) (X : List Int), k ≤ ys.length ∧ i = .int .i64 k ∧ X.length = xs.length + ys.length ∧ Wd X ∧ X.drop (xs.length + k) = List.replicate (ys.length - k) 0 ∧ val X = val xs * val (ys.take k) ∧ Cells wr (w.heap.size + 1 + 1 + 1) 0 X ∧ Wr (w.heap.size + 1 + 1 + 1) 0 (xs.length + ys.length) w1 wr) (fun i _ => ys.length - (intOf i).toNat)
  case atStart => exact ⟨0, List.replicate (xs.length + ys.length) 0, Nat.zero_le _, rfl, by simp, Wd.zeros _, by simp, by simp [val_zeros, val], k1, Wr.refl _ _ _ _⟩
  case round =>
    obtain ⟨k, X, hk, rfl, hl, hw, hd, hv, hcX, hwr⟩ := hrel
    have HV : Hid (val X = val xs * val (ys.take k)) := hv
    have HD : Hid (X.drop (xs.length + k) = List.replicate (ys.length - k) 0) := hd
    have HL : Hid (X.length = xs.length + ys.length) := hl
    clear hv hd hl
    have pr := q0.trans (hwr.below (B := w.heap.size) (by omega) (by have := q0.size; omega))
    have Y0 := X0.wr hwr (by omega)
    have Y2 := X2.wr hwr (by omega)
    by_cases hlt : k < ys.length
    · obtain ⟨b2, o2, rfl, hne, hcW⟩ := hs2.out wr pr (by omega)
      have e1 := hcW.at (i := k) hlt
      have b1 := nth_bd hy k
      have y0 := Y0.1
      have hS : Hid (((X.drop k).take xs.length).length = xs.length) := by show _ = _; rw [List.length_take, List.length_drop, HL.out]; omega
      have hcS : Hid (Cells wr (w.heap.size + 1 + 1 + 1) k ((X.drop k).take xs.length)) := by have := (hcX.drop k).take xs.length; rwa [Nat.zero_add] at this
      have hsl := slice_lh (w.heap.size + 1 + 1 + 1) 0 (xs.length + ys.length) (xs.length + ys.length) (k : Int) ((k : Int) + (xs.length : Int)) k xs.length rfl rfl (by omega) (by omega)
      rw [Nat.zero_add] at hsl
      have g0 : Hid (wr.cell? ⟨w.heap.size + 1 + 1 + 1, k + xs.length, none⟩ = some (.int .u64 (nth X (k + xs.length)))) := by have := hcX (k + xs.length) (by have := HL.out; omega); rw [Nat.zero_add] at this; exact this
      have hwp : IntKind.i64.wrap ((k : Int) + (xs.length : Int)) = (k : Int) + (xs.length : Int) := IntWalk.i64_in _ (by omega)
      go_wp2_with fail
      go_region_with (go_at_call 93; go_must (refine (addProduct_any (w.heap.size + 1 + 1 + 1) k _ _ ((X.drop k).take xs.length) a1 _ xs (nth ys k) _ hS.out.symm ((hw.drop k).take _) hx hS.out.symm b1.1 b1.2 (by have := hS.out; omega) hcS.out.drew ((k2.wr hwr).free _ _).drew (hs.out _ pr.drew)).mono ?_; rintro e w2 ⟨S', c, rfl, c0, c1, hl', hw', hv', hc', hwr'⟩; rw [hS.out] at hl' hwr'; have g1 := (hwr'.undrew.cell (k + xs.length) (by omega)).trans g0.out; have g2 := ((k2.wr hwr).wr hwr'.undrew).free 0 (k + xs.length + 1) (k + xs.length) (by omega); rw [Nat.zero_add] at g2))
      have R : Hid _ := mul_round hlt HL.out hw HD.out HV.out hl' hw' c0 c1 (by rw [hS.out] at hv'; exact hv')
      have RC : Hid (Cells w2 (w.heap.size + 1 + 1 + 1) 0 (spl X k xs.length S')) := hcX.spl (k := k) (n := xs.length) (by have := HL.out; omega) hl' hwr'.undrew hc'
      have RW : Hid (Wr (w.heap.size + 1 + 1 + 1) 0 (xs.length + ys.length) w1 w2) := hwr.trans (hwr'.undrew.mono (o' := 0) (n' := xs.length + ys.length) (by omega) (by omega))
      clear hv' hc' hwr'
      go_wp2
      go_roundw
      case rel => exact ⟨k + 1, (spl X k xs.length S').set (k + xs.length) c, by omega, by go_num, R.out.1, R.out.2.1, R.out.2.2.1, R.out.2.2.2, by have := RC.out.set (k + xs.length) (by rw [spl_len (by have := HL.out; omega) hl']; have := HL.out; omega) c; rwa [Nat.zero_add] at this, RW.out.setCell _ (by omega) _⟩
      case measure => simp [intOf]; omega
    · have ek : k = ys.length := by omega
      subst ek
      have hsum : Hid (val X = val xs * val ys) := by have := HV.out; rwa [List.take_length] at this
      clear HV HD
      go_wp2_with fail
      refine (trim_rd _ _ _ X wr HL.out.symm hw (by have := HL.out; omega) (by omega) (fun _ => ⟨_, _, rfl, hcX⟩)).mono ?_
      rintro e w4 ⟨n, zs, rfl, -, hrd, hnm, hvz, hbl⟩
      have V2 := Y2.below hbl
      have v1 := V2.1
      have v2 := V2.2
      have hvz' : Hid (val zs = val xs * val ys) := hvz.trans hsum.out
      clear hvz
      go_wp2
      refine bodyPost_ret (v := .agg #[.slice (some ⟨w.heap.size + 1 + 1 + 1, 0, none⟩) n (xs.length + ys.length)]) (by simp [results, Tryz.results80, go_sem, v1]) rfl ⟨_, zs, rfl, hrd.put (by intro b o l c e; simp at e; omega), hnm, hvz'.out, below_put (pr.trans (hbl.mono pr.size)) (by omega) _, by intro b o l c e; simp at e; omega⟩
/-- (Nat).mulPlainly. -/
theorem mulPlainly_anyF (v1 v2 : Value) (xs ys : List Int) (w : World) (h1 : Rd w v1 xs) (h2 : Rd w v2 ys) (l1 : xs.length ≤ 274877906944) (l2 : ys.length ≤ 274877906944) :
    Calls Tryz.prog 80 #[.agg #[v1], .agg #[v2]] w fun e w' => ∃ r zs, e = .returned (.agg #[r]) ∧ Rd w' r zs ∧ Nm zs ∧ val zs = val xs * val ys ∧ Below w.heap.size w w' ∧ FrA w.heap.size r := by
  obtain ⟨w1, a1, c1, rfl, _, _, g1⟩ := h1
  obtain ⟨w2, a2, c2, rfl, _, _, g2⟩ := h2
  exact mulPlainly_new a1 a2 c1 c2 xs ys w w1 w2 l1 l2 g1 g2

set_option maxRecDepth 100000 in
theorem mul_longF (v1 v2 : Value) (a1 a2 : Option Addr) (c1 c2 : Nat) (xs ys : List Int) (w : World) (e1 : v1 = .slice a1 xs.length c1) (e2 : v2 = .slice a2 ys.length c2) (h1 : Rd w v1 xs) (h2 : Rd w v2 ys) (hle : ys.length ≤ xs.length) (hs : ys.length < 80) (hL : xs.length ≤ 274877906944) :
    Calls Tryz.prog 67 #[.agg #[v1], .agg #[v2]] w fun e w' => ∃ r zs, e = .returned (.agg #[r]) ∧ Rd w' r zs ∧ Nm zs ∧ val zs = val xs * val ys ∧ Below w.heap.size w w' ∧ FrA w.heap.size r := by
  have H1 : Hid (Rd w v1 xs) := h1
  have H2 : Hid (Rd w v2 ys) := h2
  clear h1 h2
  subst e1 e2
  have pr : Below w.heap.size w (((w.alloc (.cells #[.slice a1 xs.length c1] 56)).alloc (.cells #[.slice a2 ys.length c2] 56)).alloc (.cells #[.slice none 0 0] 56)) := (((Below.refl _ _).alloc (Nat.le_refl _) _).alloc (by simp) _).alloc (by simp; omega) _
  go_enter Tryz.func67, Tryz.ntmps67
  go_wp2_with fail
  refine (mulPlainly_anyF _ _ xs ys _ (H1.out.grow pr) (H2.out.grow pr) hL (by omega)).mono ?_
  rintro e w4 ⟨r, zs, rfl, hrd, hnm, hvz, hbl, hfr⟩
  obtain ⟨ra, rl, rc, rfl⟩ := hrd.shape
  have V2 := (Bx.new _ _ _).below hbl
  simp only [World.size_alloc] at V2
  have v1 := V2.1
  have v2 := V2.2
  have HVZ : Hid (val zs = val xs * val ys) := hvz
  clear hvz
  go_wp2
  refine bodyPost_ret (v := .agg #[.slice ra rl rc]) (by simp [results, Tryz.results67, go_sem, v1]) rfl ⟨_, zs, rfl, hrd.box V2, hnm, HVZ.out, below_put (pr.trans (hbl.mono pr.size)) (by omega) _, fun b o l c e => Nat.le_trans pr.size (hfr b o l c e)⟩

set_option maxRecDepth 100000 in
theorem mul_shortF (v1 v2 : Value) (a1 a2 : Option Addr) (c1 c2 : Nat) (xs ys : List Int) (w : World) (e1 : v1 = .slice a1 xs.length c1) (e2 : v2 = .slice a2 ys.length c2) (h1 : Rd w v1 xs) (h2 : Rd w v2 ys) (hle : xs.length < ys.length) (hs : xs.length < 80) (hL : ys.length ≤ 274877906944) :
    Calls Tryz.prog 67 #[.agg #[v1], .agg #[v2]] w fun e w' => ∃ r zs, e = .returned (.agg #[r]) ∧ Rd w' r zs ∧ Nm zs ∧ val zs = val xs * val ys ∧ Below w.heap.size w w' ∧ FrA w.heap.size r := by
  have H1 : Hid (Rd w v1 xs) := h1
  have H2 : Hid (Rd w v2 ys) := h2
  clear h1 h2
  subst e1 e2
  have pr : Below w.heap.size w (((w.alloc (.cells #[.slice a2 ys.length c2] 56)).alloc (.cells #[.slice a1 xs.length c1] 56)).alloc (.cells #[.slice none 0 0] 56)) := (((Below.refl _ _).alloc (Nat.le_refl _) _).alloc (by simp) _).alloc (by simp; omega) _
  go_enter Tryz.func67, Tryz.ntmps67
  go_wp2_with fail
  refine (mulPlainly_anyF _ _ ys xs _ (H2.out.grow pr) (H1.out.grow pr) hL (by omega)).mono ?_
  rintro e w4 ⟨r, zs, rfl, hrd, hnm, hvz, hbl, hfr⟩
  obtain ⟨ra, rl, rc, rfl⟩ := hrd.shape
  have V2 := (Bx.new _ _ _).below hbl
  simp only [World.size_alloc] at V2
  have v1 := V2.1
  have v2 := V2.2
  have HVZ : Hid (val zs = val xs * val ys) := hvz.trans (Int.mul_comm _ _)
  clear hvz
  go_wp2
  refine bodyPost_ret (v := .agg #[.slice ra rl rc]) (by simp [results, Tryz.results67, go_sem, v1]) rfl ⟨_, zs, rfl, hrd.box V2, hnm, HVZ.out, below_put (pr.trans (hbl.mono pr.size)) (by omega) _, fun b o l c e => Nat.le_trans pr.size (hfr b o l c e)⟩

/-- (Nat).Mul, where one of both is short. -/
theorem Mul_shortF (v1 v2 : Value) (xs ys : List Int) (w : World) (h1 : Rd w v1 xs) (h2 : Rd w v2 ys) (hs : xs.length < 80 ∨ ys.length < 80) (l1 : xs.length ≤ 274877906944) (l2 : ys.length ≤ 274877906944) :
    Calls Tryz.prog 67 #[.agg #[v1], .agg #[v2]] w fun e w' => ∃ r zs, e = .returned (.agg #[r]) ∧ Rd w' r zs ∧ Nm zs ∧ val zs = val xs * val ys ∧ Below w.heap.size w w' ∧ FrA w.heap.size r := by
  obtain ⟨_, a1, c1, e1, _, _, _⟩ := id h1
  obtain ⟨_, a2, c2, e2, _, _, _⟩ := id h2
  by_cases h : ys.length ≤ xs.length
  · exact mul_longF v1 v2 a1 a2 c1 c2 xs ys w e1 e2 h1 h2 h (by omega) l1
  · exact mul_shortF v1 v2 a1 a2 c1 c2 xs ys w e1 e2 h1 h2 (by omega) (by omega) l2
end Go.Proofs.YtiobnojcmeeikaaGreatDoor

namespace Go.Proofs.YtiobnojcmeeikaaGreatDoor.Mo
open Go.RowKit Dc Tn

theorem Rb.skip {W : World} {n m : Nat} {a b c : Value} (h : Rb W n a b c) (ne : n ≠ m) (v : Value) : Rb (W.setCell ⟨m, 0, none⟩ v) n a b c := by
  have k : Wr m 0 1 W (W.setCell ⟨m, 0, none⟩ v) := (Wr.refl m 0 1 W).setCell 0 (by omega) v
  obtain ⟨t, K⟩ := h.bk
  have K2 := K.wr k ne
  exact ⟨K2.at 0, K2.at 1, K2.at 2, K2.free 0, K2.free 1, K2.free 2, t, K2⟩
end Go.Proofs.YtiobnojcmeeikaaGreatDoor.Mo

namespace Go.Proofs.YtiobnojcmeeikaaGreatDoor.Mo
open Go.RowKit Dc Tn

theorem word_val {xs : List Int} (h : Wd xs) (hv : val xs < 18446744073709551616) : nth xs 0 = val xs := by
  cases xs with
  | nil => simp [nth, val]
  | cons x xs =>
    have h1 : Wd xs := fun y hy => h y (List.mem_cons_of_mem _ hy)
    have := val_nonneg h1
    have hx := (nth_bd h 0).1
    simp only [val, nth] at *
    simp at *
    omega
end Go.Proofs.YtiobnojcmeeikaaGreatDoor.Mo
