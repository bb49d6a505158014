import Derived.Test.YtiaeoknmgidehaaGreatDoorPart08
import Derived.Test.YtiaeoknmgidehaaGreatDoorPart26
import Derived.Deep.DeepCutAuto
import Derived.Deep.RegionHeld3
import Derived.Test.YtiaeoknmgidehaaGreatDoorPart22
import Derived.Test.YtiaeoknmgidehaaGreatDoorPart24
import Derived.Test.YtiaeoknmgidehaaGreatDoorPart03

namespace Go.Proofs.YtiaeoknmgidehaaGreatDoor.Ta
open Go.RowKit

set_option maxRecDepth 100000 in
set_option maxHeartbeats 3200000 in
theorem RateIn_none (s : ByteArray) (f : Int) (vr vs : Value) (rs : List Int) (sel : List (List Int)) (en ys : Int) (w : World) (hr : Rx w vr rs) (hsel : Rr w vs sel) (h : chk s f rs sel = 0) (h2 : okL f rs en ys = true) (N : Nat) (hN : (N : Int) = f + rs.length - en - ys) (n : Nat) (hn : N ≤ n) (hb : (n : Int) ≤ 140) : Calls Tryz.prog 56 #[.agg #[.string s, .int .i64 f, vr, vs], .agg #[.int .i64 en, .int .i64 ys], .int .i64 (n : Int)] w fun e w' => e = .returned (.tuple #[.int .i64 0, .bool false]) ∧ Below w.heap.size w w' := by
  have hr' := hr
  obtain ⟨_, ⟨ar, cr, rfl, _⟩, hL⟩ := hr'
  have hs' := hsel
  obtain ⟨_, ao, co, rfl, hrows⟩ := hs'
  have KT := (Blk.new w #[.string s, .int .i64 f, .slice ar rs.length cr, .slice ao sel.length co] 44).alloc (.cells #[.int .i64 en, .int .i64 ys] 46)
  have KL := Blk.new (w.alloc (.cells #[.string s, .int .i64 f, .slice ar rs.length cr, .slice ao sel.length co] 44)) #[.int .i64 en, .int .i64 ys] 46
  have pr : Below w.heap.size w ((w.alloc (.cells #[.string s, .int .i64 f, .slice ar rs.length cr, .slice ao sel.length co] 44)).alloc (.cells #[.int .i64 en, .int .i64 ys] 46)) := ((Below.refl _ _).alloc (Nat.le_refl _) _).alloc (by simp) _
  simp only [World.size_alloc] at KL
  obtain ⟨_, f1, _, hsb⟩ := of_chk_0 h
  obtain ⟨s1, s2, s3⟩ := sel_bd hsb
  have La := fun W => RLast_any s f ar rs.length cr (.slice ao sel.length co) W f1.1 f1.2.1 hL
  obtain ⟨E, hE⟩ : ∃ E, f + (rs.length : Int) - 1 = E := ⟨_, rfl⟩
  rw [hE] at La
  obtain ⟨z1, z2, z3, z4⟩ := of_decide_eq_true h2
  rw [hE] at z3 z4
  have e1 : 0 ≤ E ∧ E ≤ 130 := by omega
  have g5 : IntKind.i64.wrap (E - en) = E - en := Mo.wrapI _ (by omega) (by omega)
  have g6 : IntKind.i64.wrap (E - en - ys) = E - en - ys := Mo.wrapI _ (by omega) (by omega)
  have g7 : (n : Int) > E - en - ys := by omega
  clear h h2 hsb hN f1 z1 z2 z3 z4 e1 s1 s2 s3 hrows hr hsel hE
  go_enter Tryz.func56, Tryz.ntmps56
  go_wp2_with fail
  generalize (w.alloc (.cells #[.string s, .int .i64 f, .slice ar rs.length cr, .slice ao sel.length co] 44)).alloc (.cells #[.int .i64 en, .int .i64 ys] 46) = W at *
  have k0 := KT.at 0
  have k1 := KT.at 1
  have k2 := KT.at 2
  have k3 := KT.at 3
  have m0 := KL.at 0
  have m1 := KL.at 1
  simp at k0 k1 k2 k3 m0 m1
  go_region_held3 (fun x => x.cell? ⟨w.heap.size, 0, none⟩ = some (.string s) ∧ x.cell? ⟨w.heap.size, 1, none⟩ = some (.int .i64 f) ∧ x.cell? ⟨w.heap.size, 2, none⟩ = some (.slice ar rs.length cr) ∧ x.cell? ⟨w.heap.size, 3, none⟩ = some (.slice ao sel.length co) ∧ x.cell? ⟨w.heap.size + 1, 0, none⟩ = some (.int .i64 en) ∧ x.cell? ⟨w.heap.size + 1, 1, none⟩ = some (.int .i64 ys)) (first | exact ⟨x0, x1, x2, x3, x4, x5⟩ | go_keep) (first
    | (go_at_call 87; (refine (La _).mono ?_); (rintro e w2 ⟨rfl, b1⟩); (have d1 := Mo.undrew b1); (have KT2 := KT.below d1 KT.lt); (have KL2 := KL.below d1 KL.lt); (have x0 := KT2.at 0); (have x1 := KT2.at 1); (have x2 := KT2.at 2); (have x3 := KT2.at 3); (have x4 := KL2.at 0); (have x5 := KL2.at 1); (simp at x0 x1 x2 x3 x4 x5))
    | fail)
  go_wp2_with fail
  go_ret2
  exact ⟨rfl, bel' pr d1⟩
set_option maxRecDepth 100000 in
set_option maxHeartbeats 3200000 in
theorem RateIn_some (s : ByteArray) (f : Int) (vr vs : Value) (rs : List Int) (sel : List (List Int)) (en ys : Int) (w : World) (hr : Rx w vr rs) (hsel : Rr w vs sel) (h : chk s f rs sel = 0) (h2 : okL f rs en ys = true) (N : Nat) (hN : (N : Int) = f + rs.length - en - ys) (n : Nat) (hn : n < N) : Calls Tryz.prog 56 #[.agg #[.string s, .int .i64 f, vr, vs], .agg #[.int .i64 en, .int .i64 ys], .int .i64 (n : Int)] w fun e w' => e = .returned (.tuple #[.int .i64 (rt f rs sel en ys n), .bool true]) ∧ Below w.heap.size w w' := by
  have hr' := hr
  obtain ⟨_, ⟨ar, cr, rfl, _⟩, hL⟩ := hr'
  have hs' := hsel
  obtain ⟨_, ao, co, rfl, hrows⟩ := hs'
  have KT := (Blk.new w #[.string s, .int .i64 f, .slice ar rs.length cr, .slice ao sel.length co] 44).alloc (.cells #[.int .i64 en, .int .i64 ys] 46)
  have KL := Blk.new (w.alloc (.cells #[.string s, .int .i64 f, .slice ar rs.length cr, .slice ao sel.length co] 44)) #[.int .i64 en, .int .i64 ys] 46
  have pr : Below w.heap.size w ((w.alloc (.cells #[.string s, .int .i64 f, .slice ar rs.length cr, .slice ao sel.length co] 44)).alloc (.cells #[.int .i64 en, .int .i64 ys] 46)) := ((Below.refl _ _).alloc (Nat.le_refl _) _).alloc (by simp) _
  simp only [World.size_alloc] at KL
  obtain ⟨_, f1, _, hsb⟩ := of_chk_0 h
  obtain ⟨s1, s2, s3⟩ := sel_bd hsb
  have La := fun W => RLast_any s f ar rs.length cr (.slice ao sel.length co) W f1.1 f1.2.1 hL
  obtain ⟨E, hE⟩ : ∃ E, f + (rs.length : Int) - 1 = E := ⟨_, rfl⟩
  rw [hE] at La
  obtain ⟨z1, z2, z3, z4⟩ := of_decide_eq_true h2
  rw [hE] at z3 z4
  have e1 : 0 ≤ E ∧ E ≤ 130 := by omega
  have g5 : IntKind.i64.wrap (E - en) = E - en := Mo.wrapI _ (by omega) (by omega)
  have g6 : IntKind.i64.wrap (E - en - ys) = E - en - ys := Mo.wrapI _ (by omega) (by omega)
  have g7 : ¬ (n : Int) > E - en - ys := by omega
  obtain ⟨d, hd⟩ : ∃ d : Nat, ys + (n : Int) = (d : Int) := ⟨(ys + n).toNat, by omega⟩
  have y1 : IntKind.i64.wrap (ys + (n : Int)) = (d : Int) := by rw [hd]; exact Mo.wrapI _ (by omega) (by omega)
  have i4 : (0 : Int) ≤ (d : Int) := by omega
  have i5 : ((d : Int)).toNat = d := by omega
  by_cases c : (d : Int) < (sel.length : Int)
  · have q1 : rt f rs sel en ys n = L.nth (sel.getD d []) (en - f).toNat := by unfold rt; rw [if_pos (by omega), show (ys + (n : Int)).toNat = d by omega]
    obtain ⟨i, hi⟩ : ∃ i : Nat, en - f = (i : Int) := ⟨(en - f).toNat, by omega⟩
    have y2 : IntKind.i64.wrap (en - f) = (i : Int) := by rw [hi]; exact Mo.wrapI _ (by omega) (by omega)
    obtain ⟨b, o, rfl, hrow⟩ := hrows (by omega)
    obtain ⟨vd, cd, xd⟩ := hrow d (by omega)
    have il : i < (sel.getD d []).length := by have := (s3 d (by omega)).1; omega
    obtain ⟨b2, o2, c2, rfl, ci, lb2⟩ := lives xd il
    have lb := L.lt_of_cell cd
    rw [q1, show (en - f).toNat = i by omega]
    generalize L.nth (sel.getD d []) i = V at *
    generalize (sel.getD d []).length = ln at *
    have i6 : (0 : Int) ≤ (i : Int) := by omega
    have i7 : ((i : Int)).toNat = i := by omega
    have i8 : (i : Int) < (ln : Int) := by omega
    have cd' := keepc pr lb cd
    have ci' := keepc pr lb2 ci
    clear h h2 hsb hN f1 z1 z2 z3 z4 e1 s1 s2 s3 hrows hr hsel hE hrow hd hi q1 xd il lb lb2 hn cd ci
    go_enter Tryz.func56, Tryz.ntmps56
    go_wp2_with fail
    generalize (w.alloc (.cells #[.string s, .int .i64 f, .slice ar rs.length cr, .slice (some ⟨b, o, none⟩) sel.length co] 44)).alloc (.cells #[.int .i64 en, .int .i64 ys] 46) = W at *
    have k0 := KT.at 0
    have k1 := KT.at 1
    have k2 := KT.at 2
    have k3 := KT.at 3
    have m0 := KL.at 0
    have m1 := KL.at 1
    simp at k0 k1 k2 k3 m0 m1
    go_region_held3 (fun x => x.cell? ⟨w.heap.size, 0, none⟩ = some (.string s) ∧ x.cell? ⟨w.heap.size, 1, none⟩ = some (.int .i64 f) ∧ x.cell? ⟨w.heap.size, 2, none⟩ = some (.slice ar rs.length cr) ∧ x.cell? ⟨w.heap.size, 3, none⟩ = some (.slice (some ⟨b, o, none⟩) sel.length co) ∧ x.cell? ⟨w.heap.size + 1, 0, none⟩ = some (.int .i64 en) ∧ x.cell? ⟨w.heap.size + 1, 1, none⟩ = some (.int .i64 ys)) (first | exact ⟨x0, x1, x2, x3, x4, x5⟩ | go_keep) (first
      | (go_at_call 87; (refine (La _).mono ?_); (rintro e w2 ⟨rfl, b1⟩); (have d1 := Mo.undrew b1); (have KT2 := KT.below d1 KT.lt); (have KL2 := KL.below d1 KL.lt); (have x0 := KT2.at 0); (have x1 := KT2.at 1); (have x2 := KT2.at 2); (have x3 := KT2.at 3); (have x4 := KL2.at 0); (have x5 := KL2.at 1); (simp at x0 x1 x2 x3 x4 x5))
      | fail)
    have x6 := keepc d1 (L.lt_of_cell cd') cd'
    have x7 := keepc d1 (L.lt_of_cell ci') ci'
    go_wp2_with fail
    go_region_held3 (fun x => x.cell? ⟨w.heap.size, 1, none⟩ = some (.int .i64 f) ∧ x.cell? ⟨w.heap.size, 3, none⟩ = some (.slice (some ⟨b, o, none⟩) sel.length co) ∧ x.cell? ⟨w.heap.size + 1, 0, none⟩ = some (.int .i64 en) ∧ x.cell? ⟨b, o + d, none⟩ = some (.slice (some ⟨b2, o2, none⟩) ln c2) ∧ x.cell? ⟨b2, o2 + i, none⟩ = some (.int .i64 V)) (first | exact ⟨x1, x3, x4, x6, x7⟩ | go_keep) (fail)
    go_wp2_with fail
    go_ret2
    exact ⟨rfl, (bel' pr d1).drew⟩
  · have q1 : rt f rs sel en ys n = L.nth rs (en + (ys + (n : Int)) - f).toNat := by unfold rt; rw [if_neg (by omega)]
    obtain ⟨i, hi⟩ : ∃ i : Nat, en + (d : Int) - f = (i : Int) := ⟨(en + (d : Int) - f).toNat, by omega⟩
    have y2 : IntKind.i64.wrap (en + (d : Int)) = en + (d : Int) := Mo.wrapI _ (by omega) (by omega)
    have y3 : IntKind.i64.wrap (en + (d : Int) - f) = (i : Int) := by rw [hi]; exact Mo.wrapI _ (by omega) (by omega)
    have il : i < rs.length := by omega
    obtain ⟨b2, o2, c2, e2, ci, lb2⟩ := lives hr il
    simp only [Value.slice.injEq] at e2
    obtain ⟨rfl, _, rfl⟩ := e2
    have ci' := keepc pr lb2 ci
    rw [q1, show (en + (ys + (n : Int)) - f).toNat = i by omega]
    generalize L.nth rs i = V at *
    have i6 : (0 : Int) ≤ (i : Int) := by omega
    have i7 : ((i : Int)).toNat = i := by omega
    have i8 : (i : Int) < (rs.length : Int) := by omega
    clear h h2 hsb hN f1 z1 z2 z3 z4 e1 s1 s2 s3 hrows hr hsel hE hd hi q1 ci il lb2 hn
    go_enter Tryz.func56, Tryz.ntmps56
    go_wp2_with fail
    generalize (w.alloc (.cells #[.string s, .int .i64 f, .slice (some ⟨b2, o2, none⟩) rs.length cr, .slice ao sel.length co] 44)).alloc (.cells #[.int .i64 en, .int .i64 ys] 46) = W at *
    have k0 := KT.at 0
    have k1 := KT.at 1
    have k2 := KT.at 2
    have k3 := KT.at 3
    have m0 := KL.at 0
    have m1 := KL.at 1
    simp at k0 k1 k2 k3 m0 m1
    go_region_held3 (fun x => x.cell? ⟨w.heap.size, 0, none⟩ = some (.string s) ∧ x.cell? ⟨w.heap.size, 1, none⟩ = some (.int .i64 f) ∧ x.cell? ⟨w.heap.size, 2, none⟩ = some (.slice (some ⟨b2, o2, none⟩) rs.length cr) ∧ x.cell? ⟨w.heap.size, 3, none⟩ = some (.slice ao sel.length co) ∧ x.cell? ⟨w.heap.size + 1, 0, none⟩ = some (.int .i64 en) ∧ x.cell? ⟨w.heap.size + 1, 1, none⟩ = some (.int .i64 ys)) (first | exact ⟨x0, x1, x2, x3, x4, x5⟩ | go_keep) (first
      | (go_at_call 87; (refine (La _).mono ?_); (rintro e w2 ⟨rfl, b1⟩); (have d1 := Mo.undrew b1); (have KT2 := KT.below d1 KT.lt); (have KL2 := KL.below d1 KL.lt); (have x0 := KT2.at 0); (have x1 := KT2.at 1); (have x2 := KT2.at 2); (have x3 := KT2.at 3); (have x4 := KL2.at 0); (have x5 := KL2.at 1); (simp at x0 x1 x2 x3 x4 x5))
      | fail)
    have x7 := keepc d1 (L.lt_of_cell ci') ci'
    go_wp2_with fail
    go_ret2
    exact ⟨rfl, bel' pr d1⟩
end Go.Proofs.YtiaeoknmgidehaaGreatDoor.Ta

namespace Go.Proofs.YtiaeoknmgidehaaGreatDoor
open Go.RowKit Tn

/-- A row that does not lie below a place. -/
def FrA (base : Nat) (v : Value) : Prop := ∀ b o l c, v = .slice (some ⟨b, o, none⟩) l c → base ≤ b
set_option maxHeartbeats 1600000 in
set_option maxRecDepth 100000 in
theorem mulPlainly_new (a1 a2 : Option Addr) (c1 c2 : Nat) (xs ys : List Int) (w : World) (hx : Wd xs) (hy : Wd ys) (hL : xs.length ≤ 274877906944) (hL2 : ys.length ≤ 274877906944) (h1 : 0 < xs.length → ∃ b o, a1 = some ⟨b, o, none⟩ ∧ Cells w b o xs) (h2 : 0 < ys.length → ∃ b o, a2 = some ⟨b, o, none⟩ ∧ Cells w b o ys) :
    Calls Tryz.prog 107 #[.agg #[.slice a1 xs.length c1], .agg #[.slice a2 ys.length c2]] w fun e w' => ∃ r zs, e = .returned (.agg #[r]) ∧ Rd w' r zs ∧ Nm zs ∧ val zs = val xs * val ys ∧ Below w.heap.size w w' ∧ FrA w.heap.size r := by
  have hs : Hid (∀ w', Below w.heap.size w w' → 0 < xs.length → ∃ b o, a1 = some ⟨b, o, none⟩ ∧ b ≠ w.heap.size + 1 + 1 + 1 ∧ Cells w' b o xs) := fun w' h l => by obtain ⟨b, o, e, c⟩ := h1 l; exact ⟨b, o, e, by have := c.lt l; omega, c.grow h⟩
  have hs2 : Hid (∀ w', Below w.heap.size w w' → 0 < ys.length → ∃ b o, a2 = some ⟨b, o, none⟩ ∧ b ≠ w.heap.size + 1 + 1 + 1 ∧ Cells w' b o ys) := fun w' h l => by obtain ⟨b, o, e, c⟩ := h2 l; exact ⟨b, o, e, by have := c.lt l; omega, c.grow h⟩
  clear h1 h2
  go_enter Tryz.func107, Tryz.ntmps107
  go_wp2_with (first
    | (at_make; refine wpList_make_words rfl _ _ rfl (xs.length + ys.length) _ _ rfl rfl (by simp) (by simp) (by omega) ?_; intro w1 k1 k2 k3 k4; have X0 := (((Bx.new w _ _).alloc _).alloc _).below k3; have X1 := ((Bx.new _ _ _).alloc _).below k3; have X2 := (Bx.new _ _ _).below k3; simp only [World.size_alloc] at X1 X2 k1 k2 k3 k4; have q0 := below_alloc3 k3; clear k3; have x1 := X1.1)
    | fail)
  clear x1
  go_loopw [21] (fun i wr => ∃ (k : Nat) (X : List Int), k ≤ ys.length ∧ i = .int .i64 k ∧ X.length = xs.length + ys.length ∧ Wd X ∧ X.drop (xs.length + k) = List.replicate (ys.length - k) 0 ∧ val X = val xs * val (ys.take k) ∧ Cells wr (w.heap.size + 1 + 1 + 1) 0 X ∧ Wr (w.heap.size + 1 + 1 + 1) 0 (xs.length + ys.length) w1 wr) (fun i _ => ys.length - (intOf i).toNat)
  case atStart => exact ⟨0, List.replicate (xs.length + ys.length) 0, Nat.zero_le _, rfl, by simp, Wd.zeros _, by simp, by simp [val_zeros, val], k1, Wr.refl _ _ _ _⟩
  case round =>
    obtain ⟨k, X, hk, rfl, hl, hw, hd, hv, hcX, hwr⟩ := hrel
    have HV : Hid (val X = val xs * val (ys.take k)) := hv
    have HD : Hid (X.drop (xs.length + k) = List.replicate (ys.length - k) 0) := hd
    have HL : Hid (X.length = xs.length + ys.length) := hl
    clear hv hd hl
    have pr := q0.trans (hwr.below (B := w.heap.size) (by omega) (by have := q0.size; omega))
    have Y0 := X0.wr hwr (by omega)
    have Y2 := X2.wr hwr (by omega)
    by_cases hlt : k < ys.length
    · obtain ⟨b2, o2, rfl, hne, hcW⟩ := hs2.out wr pr (by omega)
      have e1 := hcW.at (i := k) hlt
      have b1 := nth_bd hy k
      have y0 := Y0.1
      have hS : Hid (((X.drop k).take xs.length).length = xs.length) := by show _ = _; rw [List.length_take, List.length_drop, HL.out]; omega
      have hcS : Hid (Cells wr (w.heap.size + 1 + 1 + 1) k ((X.drop k).take xs.length)) := by have := (hcX.drop k).take xs.length; rwa [Nat.zero_add] at this
      have hsl := slice_lh (w.heap.size + 1 + 1 + 1) 0 (xs.length + ys.length) (xs.length + ys.length) (k : Int) ((k : Int) + (xs.length : Int)) k xs.length rfl rfl (by omega) (by omega)
      rw [Nat.zero_add] at hsl
      have g0 : Hid (wr.cell? ⟨w.heap.size + 1 + 1 + 1, k + xs.length, none⟩ = some (.int .u64 (nth X (k + xs.length)))) := by have := hcX (k + xs.length) (by have := HL.out; omega); rw [Nat.zero_add] at this; exact this
      have hwp : IntKind.i64.wrap ((k : Int) + (xs.length : Int)) = (k : Int) + (xs.length : Int) := IntWalk.i64_in _ (by omega)
      go_wp2_with fail
      go_region_with (go_at_call 132; go_must (refine (addProduct_any (w.heap.size + 1 + 1 + 1) k _ _ ((X.drop k).take xs.length) a1 _ xs (nth ys k) _ hS.out.symm ((hw.drop k).take _) hx hS.out.symm b1.1 b1.2 (by have := hS.out; omega) hcS.out.drew ((k2.wr hwr).free _ _).drew (hs.out _ pr.drew)).mono ?_; rintro e w2 ⟨S', c, rfl, c0, c1, hl', hw', hv', hc', hwr'⟩; rw [hS.out] at hl' hwr'; have g1 := (hwr'.undrew.cell (k + xs.length) (by omega)).trans g0.out; have g2 := ((k2.wr hwr).wr hwr'.undrew).free 0 (k + xs.length + 1) (k + xs.length) (by omega); rw [Nat.zero_add] at g2))
      have R : Hid _ := mul_round hlt HL.out hw HD.out HV.out hl' hw' c0 c1 (by rw [hS.out] at hv'; exact hv')
      have RC : Hid (Cells w2 (w.heap.size + 1 + 1 + 1) 0 (spl X k xs.length S')) := hcX.spl (k := k) (n := xs.length) (by have := HL.out; omega) hl' hwr'.undrew hc'
      have RW : Hid (Wr (w.heap.size + 1 + 1 + 1) 0 (xs.length + ys.length) w1 w2) := hwr.trans (hwr'.undrew.mono (o' := 0) (n' := xs.length + ys.length) (by omega) (by omega))
      clear hv' hc' hwr'
      go_wp2
      go_roundw
      case rel => exact ⟨k + 1, (spl X k xs.length S').set (k + xs.length) c, by omega, by go_num, R.out.1, R.out.2.1, R.out.2.2.1, R.out.2.2.2, by have := RC.out.set (k + xs.length) (by rw [spl_len (by have := HL.out; omega) hl']; have := HL.out; omega) c; rwa [Nat.zero_add] at this, RW.out.setCell _ (by omega) _⟩
      case measure => simp [intOf]; omega
    · have ek : k = ys.length := by omega
      subst ek
      have hsum : Hid (val X = val xs * val ys) := by have := HV.out; rwa [List.take_length] at this
      clear HV HD
      go_wp2_with fail
      refine (trim_rd _ _ _ X wr HL.out.symm hw (by have := HL.out; omega) (by omega) (fun _ => ⟨_, _, rfl, hcX⟩)).mono ?_
      rintro e w4 ⟨n, zs, rfl, -, hrd, hnm, hvz, hbl⟩
      have V2 := Y2.below hbl
      have v1 := V2.1
      have v2 := V2.2
      have hvz' : Hid (val zs = val xs * val ys) := hvz.trans hsum.out
      clear hvz
      go_wp2
      refine bodyPost_ret (v := .agg #[.slice (some ⟨w.heap.size + 1 + 1 + 1, 0, none⟩) n (xs.length + ys.length)]) (by simp [results, Tryz.results107, go_sem, v1]) rfl ⟨_, zs, rfl, hrd.put (by intro b o l c e; simp at e; omega), hnm, hvz'.out, below_put (pr.trans (hbl.mono pr.size)) (by omega) _, by intro b o l c e; simp at e; omega⟩
/-- (Nat).mulPlainly. -/
theorem mulPlainly_anyF (v1 v2 : Value) (xs ys : List Int) (w : World) (h1 : Rd w v1 xs) (h2 : Rd w v2 ys) (l1 : xs.length ≤ 274877906944) (l2 : ys.length ≤ 274877906944) :
    Calls Tryz.prog 107 #[.agg #[v1], .agg #[v2]] w fun e w' => ∃ r zs, e = .returned (.agg #[r]) ∧ Rd w' r zs ∧ Nm zs ∧ val zs = val xs * val ys ∧ Below w.heap.size w w' ∧ FrA w.heap.size r := by
  obtain ⟨w1, a1, c1, rfl, _, _, g1⟩ := h1
  obtain ⟨w2, a2, c2, rfl, _, _, g2⟩ := h2
  exact mulPlainly_new a1 a2 c1 c2 xs ys w w1 w2 l1 l2 g1 g2

set_option maxRecDepth 100000 in
theorem mul_longF (v1 v2 : Value) (a1 a2 : Option Addr) (c1 c2 : Nat) (xs ys : List Int) (w : World) (e1 : v1 = .slice a1 xs.length c1) (e2 : v2 = .slice a2 ys.length c2) (h1 : Rd w v1 xs) (h2 : Rd w v2 ys) (hle : ys.length ≤ xs.length) (hs : ys.length < 80) (hL : xs.length ≤ 274877906944) :
    Calls Tryz.prog 69 #[.agg #[v1], .agg #[v2]] w fun e w' => ∃ r zs, e = .returned (.agg #[r]) ∧ Rd w' r zs ∧ Nm zs ∧ val zs = val xs * val ys ∧ Below w.heap.size w w' ∧ FrA w.heap.size r := by
  have H1 : Hid (Rd w v1 xs) := h1
  have H2 : Hid (Rd w v2 ys) := h2
  clear h1 h2
  subst e1 e2
  have pr : Below w.heap.size w (((w.alloc (.cells #[.slice a1 xs.length c1] 57)).alloc (.cells #[.slice a2 ys.length c2] 57)).alloc (.cells #[.slice none 0 0] 57)) := (((Below.refl _ _).alloc (Nat.le_refl _) _).alloc (by simp) _).alloc (by simp; omega) _
  go_enter Tryz.func69, Tryz.ntmps69
  go_wp2_with fail
  refine (mulPlainly_anyF _ _ xs ys _ (H1.out.grow pr) (H2.out.grow pr) hL (by omega)).mono ?_
  rintro e w4 ⟨r, zs, rfl, hrd, hnm, hvz, hbl, hfr⟩
  obtain ⟨ra, rl, rc, rfl⟩ := hrd.shape
  have V2 := (Bx.new _ _ _).below hbl
  simp only [World.size_alloc] at V2
  have v1 := V2.1
  have v2 := V2.2
  have HVZ : Hid (val zs = val xs * val ys) := hvz
  clear hvz
  go_wp2
  refine bodyPost_ret (v := .agg #[.slice ra rl rc]) (by simp [results, Tryz.results69, go_sem, v1]) rfl ⟨_, zs, rfl, hrd.box V2, hnm, HVZ.out, below_put (pr.trans (hbl.mono pr.size)) (by omega) _, fun b o l c e => Nat.le_trans pr.size (hfr b o l c e)⟩

set_option maxRecDepth 100000 in
theorem mul_shortF (v1 v2 : Value) (a1 a2 : Option Addr) (c1 c2 : Nat) (xs ys : List Int) (w : World) (e1 : v1 = .slice a1 xs.length c1) (e2 : v2 = .slice a2 ys.length c2) (h1 : Rd w v1 xs) (h2 : Rd w v2 ys) (hle : xs.length < ys.length) (hs : xs.length < 80) (hL : ys.length ≤ 274877906944) :
    Calls Tryz.prog 69 #[.agg #[v1], .agg #[v2]] w fun e w' => ∃ r zs, e = .returned (.agg #[r]) ∧ Rd w' r zs ∧ Nm zs ∧ val zs = val xs * val ys ∧ Below w.heap.size w w' ∧ FrA w.heap.size r := by
  have H1 : Hid (Rd w v1 xs) := h1
  have H2 : Hid (Rd w v2 ys) := h2
  clear h1 h2
  subst e1 e2
  have pr : Below w.heap.size w (((w.alloc (.cells #[.slice a2 ys.length c2] 57)).alloc (.cells #[.slice a1 xs.length c1] 57)).alloc (.cells #[.slice none 0 0] 57)) := (((Below.refl _ _).alloc (Nat.le_refl _) _).alloc (by simp) _).alloc (by simp; omega) _
  go_enter Tryz.func69, Tryz.ntmps69
  go_wp2_with fail
  refine (mulPlainly_anyF _ _ ys xs _ (H2.out.grow pr) (H1.out.grow pr) hL (by omega)).mono ?_
  rintro e w4 ⟨r, zs, rfl, hrd, hnm, hvz, hbl, hfr⟩
  obtain ⟨ra, rl, rc, rfl⟩ := hrd.shape
  have V2 := (Bx.new _ _ _).below hbl
  simp only [World.size_alloc] at V2
  have v1 := V2.1
  have v2 := V2.2
  have HVZ : Hid (val zs = val xs * val ys) := hvz.trans (Int.mul_comm _ _)
  clear hvz
  go_wp2
  refine bodyPost_ret (v := .agg #[.slice ra rl rc]) (by simp [results, Tryz.results69, go_sem, v1]) rfl ⟨_, zs, rfl, hrd.box V2, hnm, HVZ.out, below_put (pr.trans (hbl.mono pr.size)) (by omega) _, fun b o l c e => Nat.le_trans pr.size (hfr b o l c e)⟩

/-- (Nat).Mul, where one of both is short. -/
theorem Mul_shortF (v1 v2 : Value) (xs ys : List Int) (w : World) (h1 : Rd w v1 xs) (h2 : Rd w v2 ys) (hs : xs.length < 80 ∨ ys.length < 80) (l1 : xs.length ≤ 274877906944) (l2 : ys.length ≤ 274877906944) :
    Calls Tryz.prog 69 #[.agg #[v1], .agg #[v2]] w fun e w' => ∃ r zs, e = .returned (.agg #[r]) ∧ Rd w' r zs ∧ Nm zs ∧ val zs = val xs * val ys ∧ Below w.heap.size w w' ∧ FrA w.heap.size r := by
  obtain ⟨_, a1, c1, e1, _, _, _⟩ := id h1
  obtain ⟨_, a2, c2, e2, _, _, _⟩ := id h2
  by_cases h : ys.length ≤ xs.length
  · exact mul_longF v1 v2 a1 a2 c1 c2 xs ys w e1 e2 h1 h2 h (by omega) l1
  · exact mul_shortF v1 v2 a1 a2 c1 c2 xs ys w e1 e2 h1 h2 (by omega) (by omega) l2
end Go.Proofs.YtiaeoknmgidehaaGreatDoor

namespace Go.Proofs.YtiaeoknmgidehaaGreatDoor.Mo
open Go.RowKit Dc Tn

theorem word_val {xs : List Int} (h : Wd xs) (hv : val xs < 18446744073709551616) : nth xs 0 = val xs := by
  cases xs with
  | nil => simp [nth, val]
  | cons x xs =>
    have h1 : Wd xs := fun y hy => h y (List.mem_cons_of_mem _ hy)
    have := val_nonneg h1
    have hx := (nth_bd h 0).1
    simp only [val, nth] at *
    simp at *
    omega
end Go.Proofs.YtiaeoknmgidehaaGreatDoor.Mo

namespace Go.Proofs.YtiaeoknmgidehaaGreatDoor.Mo
open Go.RowKit Dc Tn

/-- A whole number of the program's, by its value. -/
def Nn (x : World) (a : Option Addr) (l c : Nat) (N : Int) : Prop := ∃ xs, Rd x (.slice a l c) xs ∧ Nm xs ∧ val xs = N
theorem Nn.grow {x x' : World} {a : Option Addr} {l c : Nat} {N : Int} (h : Nn x a l c N) (b : Below x.heap.size x x') : Nn x' a l c N := by
  obtain ⟨xs, r, n, v⟩ := h
  exact ⟨xs, r.grow b, n, v⟩
theorem Nn.nonneg {x : World} {a : Option Addr} {l c : Nat} {N : Int} (h : Nn x a l c N) : 0 ≤ N := by
  obtain ⟨xs, r, n, rfl⟩ := h
  exact val_nonneg r.1
theorem Nn.box {x : World} {a : Option Addr} {l c n : Nat} {N : Int} {u : Value} {b' : Option Addr} {l' c' : Nat} (h : Nn x a l c N) (K : Bx x n (.slice b' l' c')) : Nn (x.setCell ⟨n, 0, none⟩ u) a l c N := by
  obtain ⟨xs, r, m, v⟩ := h
  exact ⟨xs, r.box K, m, v⟩
theorem Nn.putF {w : World} {n : Nat} {a : Option Addr} {l c : Nat} {N : Int} {x y z : Value} {g : Bool} {a1 a2 : Option Addr} {n1 c1 n2 c2 : Nat} (h : Nn w a l c N) (R : Rb w n (.bool g) (.slice a1 n1 c1) (.slice a2 n2 c2)) : Nn (((w.setCell ⟨n, 0, none⟩ x).setCell ⟨n, 1, none⟩ y).setCell ⟨n, 2, none⟩ z) a l c N := by
  obtain ⟨xs, r, m, v⟩ := h
  exact ⟨xs, Rd.putF r R, m, v⟩
/-- A value that is such a number. -/
def NV (N : Int) (t : Value) (x : World) : Prop := ∃ a l c, t = .agg #[.slice a l c] ∧ Nn x a l c N
theorem NV.grow {N : Int} {t : Value} {x x' : World} (h : NV N t x) (b : Below x.heap.size x x') : NV N t x' := by
  obtain ⟨a, l, c, e, h⟩ := h
  exact ⟨a, l, c, e, h.grow b⟩
theorem len_of {xs : List Int} {n : Nat} (h : Wd xs) (k : Nm xs) (v : val xs < pw n) : xs.length ≤ n := by
  by_cases e : xs = []
  · subst e; simp
  · have := val_low h k e
    by_cases c : xs.length ≤ n
    · exact c
    · have := pw_mono (show n ≤ xs.length - 1 by omega)
      omega
theorem GCD_n {a1 a2 : Option Addr} {l1 c1 l2 c2 : Nat} {A B : Int} {x : World} (h1 : Nn x a1 l1 c1 A) (h2 : Nn x a2 l2 c2 B) {m : Nat} (hA : A < pw m) (hB : B < pw m) (hm : m ≤ 1000000) :
    Calls Tryz.prog 66 #[.agg #[.slice a1 l1 c1], .agg #[.slice a2 l2 c2]] x fun e w' => ∃ a l c, e = .returned (.agg #[.slice a l c]) ∧ Nn w' a l c (Int.gcd A B) ∧ Below x.heap.size x w' := by
  obtain ⟨xs, r1, n1, rfl⟩ := h1
  obtain ⟨ys, r2, n2, rfl⟩ := h2
  have := len_of r1.1 n1 hA
  have := len_of r2.1 n2 hB
  refine (GCD_any _ _ xs ys x r1 r2 n1 n2 (by omega) (by omega)).mono ?_
  rintro e w' ⟨r, zs, rfl, hr, hn, hv, b⟩
  obtain ⟨a, l, c, rfl⟩ := hr.shape
  exact ⟨a, l, c, rfl, ⟨zs, hr, hn, hv⟩, b⟩
theorem by_n {a1 a2 : Option Addr} {l1 c1 l2 c2 : Nat} {A B : Int} {x : World} (h1 : Nn x a1 l1 c1 A) (h2 : Nn x a2 l2 c2 B) {m : Nat} (hA : A < pw m) (hB : 0 < B) (hm : m ≤ 1000000) :
    Calls Tryz.prog 67 #[.agg #[.slice a1 l1 c1], .agg #[.slice a2 l2 c2]] x fun e w' => ∃ a l c, e = .returned (.agg #[.slice a l c]) ∧ Nn w' a l c (A / B) ∧ Below x.heap.size x w' := by
  obtain ⟨xs, r1, n1, rfl⟩ := h1
  obtain ⟨ys, r2, n2, rfl⟩ := h2
  have := len_of r1.1 n1 hA
  refine (by_any _ _ xs ys x r1 r2 n1 n2 hB (by omega)).mono ?_
  rintro e w' ⟨r, zs, rfl, hr, hn, hv, b⟩
  obtain ⟨a, l, c, rfl⟩ := hr.shape
  exact ⟨a, l, c, rfl, ⟨zs, hr, hn, hv⟩, b⟩
/-- Words that do not lie in block n. -/
def Off (a : Option Addr) (l n : Nat) : Prop := ∀ b o, 0 < l → a = some ⟨b, o, none⟩ → b ≠ n
theorem Nn.off {w : World} {a : Option Addr} {l c n : Nat} {N : Int} {cs : Array Value} {t : TypeId} (h : Nn w a l c N) (K : Blk w n cs t) (hc : ∀ (i : Nat) k z, cs[i]? ≠ some (.int k z)) : Off a l n := by
  obtain ⟨xs, ⟨h1, a', c', e, _, _, h5⟩, _, _⟩ := h
  obtain ⟨rfl, rfl, rfl⟩ : a = a' ∧ l = xs.length ∧ c = c' := by injection e with e1 e2 e3; exact ⟨e1, e2, e3⟩
  rintro b o l0 rfl rfl
  obtain ⟨b', o', e', cc⟩ := h5 l0
  obtain ⟨rfl, rfl⟩ : b = b' ∧ o = o' := by injection e' with e'; injection e' with e1 e2; exact ⟨e1, e2⟩
  have h0 := cc 0 l0
  rw [K.at] at h0
  exact hc _ _ _ h0
theorem Nn.set {w : World} {a : Option Addr} {l c n : Nat} {N : Int} (h : Nn w a l c N) (f : Off a l n) (i : Nat) (v : Value) : Nn (w.setCell ⟨n, i, none⟩ v) a l c N := by
  obtain ⟨xs, ⟨h1, a', c', e, h2, h3, h5⟩, hn, hv⟩ := h
  obtain ⟨rfl, rfl, rfl⟩ : a = a' ∧ l = xs.length ∧ c = c' := by injection e with e1 e2 e3; exact ⟨e1, e2, e3⟩
  refine ⟨xs, ⟨h1, a, c, rfl, h2, h3, fun l0 => ?_⟩, hn, hv⟩
  obtain ⟨b, o, rfl, cc⟩ := h5 l0
  refine ⟨b, o, rfl, fun j hj => ?_⟩
  have := f b o l0 rfl
  rw [World.cell?_setCell_other _ _ _ _ (by simp; try omega)]
  exact cc j hj
theorem Nn.drew {x : World} {a : Option Addr} {l c : Nat} {N : Int} (h : Nn x a l c N) : Nn x.drew a l c N := by
  obtain ⟨xs, r, n, v⟩ := h
  exact ⟨xs, Rd.drew r, n, v⟩
theorem Add_n {P1 P2 : Option Addr} {M1 C1 M2 C2 : Nat} {A B : Int} {x : World} (h1 : Nn x P1 M1 C1 A) (h2 : Nn x P2 M2 C2 B) {m : Nat} (hA : A < pw m) (hB : B < pw m) (hm : m ≤ 1000000) :
    Calls Tryz.prog 105 #[.agg #[.slice P1 M1 C1], .agg #[.slice P2 M2 C2]] x fun e w' => ∃ a l c, e = .returned (.agg #[.slice a l c]) ∧ Nn w' a l c (A + B) ∧ Below x.heap.size x w' := by
  obtain ⟨xs, r1, n1, rfl⟩ := h1
  obtain ⟨ys, r2, n2, rfl⟩ := h2
  have := len_of r1.1 n1 hA
  have := len_of r2.1 n2 hB
  refine (Add_any _ _ xs ys x r1 r2 (by omega) (by omega)).mono ?_
  rintro e w' ⟨r, zs, rfl, hr, hn, hv, b⟩
  obtain ⟨a, l, c, rfl⟩ := hr.shape
  exact ⟨a, l, c, rfl, ⟨zs, hr, hn, hv⟩, b⟩
theorem Sub_n {P1 P2 : Option Addr} {M1 C1 M2 C2 : Nat} {A B : Int} {x : World} (h1 : Nn x P1 M1 C1 A) (h2 : Nn x P2 M2 C2 B) {m : Nat} (hA : A < pw m) (hB : B < pw m) (hm : m ≤ 1000000) (hBA : B ≤ A) :
    Calls Tryz.prog 106 #[.agg #[.slice P1 M1 C1], .agg #[.slice P2 M2 C2]] x fun e w' => ∃ a l c, e = .returned (.agg #[.slice a l c]) ∧ Nn w' a l c (A - B) ∧ Below x.heap.size x w' := by
  obtain ⟨xs, r1, n1, rfl⟩ := h1
  obtain ⟨ys, r2, n2, rfl⟩ := h2
  have := len_of r1.1 n1 hA
  have := len_of r2.1 n2 hB
  refine (Sub_any _ _ xs ys x r1 r2 n2 hBA (by omega)).mono ?_
  rintro e w' ⟨r, zs, rfl, hr, hn, hv, b⟩
  obtain ⟨a, l, c, rfl⟩ := hr.shape
  exact ⟨a, l, c, rfl, ⟨zs, hr, hn, hv⟩, b⟩
theorem Cmp_n {P1 P2 : Option Addr} {M1 C1 M2 C2 : Nat} {A B : Int} {x : World} (h1 : Nn x P1 M1 C1 A) (h2 : Nn x P2 M2 C2 B) {m : Nat} (hA : A < pw m) (hm : m ≤ 1000000) :
    Calls Tryz.prog 97 #[.agg #[.slice P1 M1 C1], .agg #[.slice P2 M2 C2]] x fun e w' => e = .returned (.int .i64 (cmp3 A B)) ∧ Below x.heap.size x w' := by
  obtain ⟨xs, r1, n1, rfl⟩ := h1
  obtain ⟨ys, r2, n2, rfl⟩ := h2
  have := len_of r1.1 n1 hA
  exact Cmp_any _ _ xs ys x r1 r2 n1 n2 (by omega)
theorem Bx.of {x : World} {X : Nat} {v : Value} {t : TypeId} (h : Blk x X #[v] t) : Bx x X v := ⟨h.at 0, h.free 0, t, h⟩
end Go.Proofs.YtiaeoknmgidehaaGreatDoor.Mo

namespace Go.Proofs.YtiaeoknmgidehaaGreatDoor.Mo
open Go.RowKit Tn

/-- s[n:]. -/
theorem slice_l (g o len cap : Nat) (l : Int) (n : Nat) (el : l = n) (h2 : n ≤ len) (h3 : n < cap) (w : World) :
    (Instr.slice 55 (.slice (some ⟨g, o, none⟩) len cap) (some (.int .i64 l)) none none).run Tryz.prog w = .ok (.slice (some ⟨g, o + n, none⟩) (len - n) (cap - n)) w := by
  subst el
  rw [run_slice_l w 55 _ len cap (by rw [Tryz.elemU]; exact Tryz.underlying55) .i64 _ (by omega) (by omega), Tryz.elemU]
  have e2 : ¬ cap = n := by omega
  simp [Tryz.sizeOf91, Result.andThen, sliced, e2, Addr.add]
set_option maxHeartbeats 1600000 in
set_option maxRecDepth 100000 in
theorem cut_raw (b o l c n : Nat) (xs : List Int) (w : World) (hw : Wd xs) (hl : xs.length = l) (hc : l ≤ c) (hcm : c ≤ 9223372036854775807) (hn : 0 < n) (hnl : n < l) (hC : Cells w b o xs) :
    Calls Tryz.prog 133 #[.agg #[.slice (some ⟨b, o, none⟩) l c], .int .i64 n] w fun e w' => ∃ (p : Option Addr × Option Addr) (m q : Nat × Nat), e = .returned (.tuple #[.agg #[.slice p.1 m.1 q.1], .agg #[.slice p.2 m.2 q.2]]) ∧ (Nn w' p.1 m.1 q.1 (val (xs.take n)) ∧ Nn w' p.2 m.2 q.2 (val (xs.drop n))) ∧ Below w.heap.size w w' := by
  have K0 := ((Bx.new w (.slice (some ⟨b, o, none⟩) l c) 57).alloc (.cells #[.slice none 0 0] 57)).alloc (.cells #[.slice none 0 0] 57)
  have K1 := (Bx.new (w.alloc (.cells #[.slice (some ⟨b, o, none⟩) l c] 57)) (.slice none 0 0) 57).alloc (.cells #[.slice none 0 0] 57)
  have K2 := Bx.new ((w.alloc (.cells #[.slice (some ⟨b, o, none⟩) l c] 57)).alloc (.cells #[.slice none 0 0] 57)) (.slice none 0 0) 57
  have pr : Below w.heap.size w (((w.alloc (.cells #[.slice (some ⟨b, o, none⟩) l c] 57)).alloc (.cells #[.slice none 0 0] 57)).alloc (.cells #[.slice none 0 0] 57)) := (((Below.refl _ _).alloc (Nat.le_refl _) _).alloc (by simp) _).alloc (by simp; omega) _
  simp only [World.size_alloc] at K1 K2
  have T1 : ∀ x, Below w.heap.size w x → Calls Tryz.prog 110 #[.slice (some ⟨b, o, none⟩) n c] x fun e w' => ∃ a l q, e = .returned (.agg #[.slice a l q]) ∧ Nn w' a l q (val (xs.take n)) ∧ Below x.heap.size x w' := fun x bx => by
    have e1 : (xs.take n).length = n := by rw [List.length_take]; omega
    refine (trim_rd (some ⟨b, o, none⟩) n c (xs.take n) x e1.symm (hw.take n) (by omega) hcm (fun _ => ⟨b, o, rfl, (hC.take n).grow bx⟩)).mono ?_
    rintro e w' ⟨k, zs, rfl, _, hr, hnm, hv, hb⟩
    exact ⟨_, _, _, rfl, ⟨zs, hr, hnm, hv⟩, hb⟩
  have T2 : ∀ x, Below w.heap.size w x → Calls Tryz.prog 110 #[.slice (some ⟨b, o + n, none⟩) (l - n) (c - n)] x fun e w' => ∃ a l q, e = .returned (.agg #[.slice a l q]) ∧ Nn w' a l q (val (xs.drop n)) ∧ Below x.heap.size x w' := fun x bx => by
    have e1 : (xs.drop n).length = l - n := by rw [List.length_drop]; omega
    refine (trim_rd (some ⟨b, o + n, none⟩) (l - n) (c - n) (xs.drop n) x e1.symm (hw.drop n) (by omega) (by omega) (fun _ => ⟨b, o + n, rfl, (hC.drop n).grow bx⟩)).mono ?_
    rintro e w' ⟨k, zs, rfl, _, hr, hnm, hv, hb⟩
    exact ⟨_, _, _, rfl, ⟨zs, hr, hnm, hv⟩, hb⟩
  have s1 := slice_h b o l c (n : Int) n rfl (by omega)
  have s2 := slice_l b o l c (n : Int) n rfl (by omega) (by omega)
  generalize val (xs.take n) = V1 at *
  generalize val (xs.drop n) = V2 at *
  clear hC hw hl
  go_enter Tryz.func133, Tryz.ntmps133
  go_wp2_with fail
  generalize ((w.alloc (.cells #[.slice (some ⟨b, o, none⟩) l c] 57)).alloc (.cells #[.slice none 0 0] 57)).alloc (.cells #[.slice none 0 0] 57) = W at *
  have k0 := K0.1
  have hn1 : w.heap.size ≠ w.heap.size + 1 + 1 := by omega
  have hn2 : w.heap.size + 1 + 1 ≠ w.heap.size := by omega
  go_region_held3 (fun x => x.cell? ⟨w.heap.size, 0, none⟩ = some (.slice (some ⟨b, o, none⟩) l c)) (go_keep) (first
    | (go_at_call 110; (have z := d1); refine (T2 _ (bel' pr d1)).mono ?_; rintro e w2 ⟨p2, m2, q2, rfl, n2, d2'⟩; have d2 := bel' d1 d2'; have n1 := n1.grow d2'; have i0 := (K0.below d2).1; have K12 := K1.below d2; have K22 := K2.below d2; have y1 := K12.1; have y2 := K12.2; have z1 := K22.1; have z2 := K22.2)
    | (go_at_call 110; refine (T1 _ pr.drew).mono ?_; rintro e w1 ⟨p1, m1, q1, rfl, n1, d1⟩; have d1 := undrew d1; have i0 := (K0.below d1).1)
    | fail)
  have K13 := K12.set (.slice p1 m1 q1)
  have K23 := K22.wr ((Wr.refl (w.heap.size + 1) 0 1 w2).setCell 0 (by omega) (.slice p1 m1 q1)) (by omega)
  have u1 := (n1.box (u := .slice p1 m1 q1) K12).box (u := .slice p2 m2 q2) K23
  have u2 := (n2.box (u := .slice p1 m1 q1) K12).box (u := .slice p2 m2 q2) K23
  have K24 := K23.set (.slice p2 m2 q2)
  have K14 := K13.wr ((Wr.refl (w.heap.size + 1 + 1) 0 1 (w2.setCell ⟨w.heap.size + 1, 0, none⟩ (.slice p1 m1 q1))).setCell 0 (by omega) (.slice p2 m2 q2)) (by omega)
  have BE := below_put (below_put (bel' pr d2) (show w.heap.size ≤ w.heap.size + 1 by omega) (.slice p1 m1 q1)) (show w.heap.size ≤ w.heap.size + 1 + 1 by omega) (.slice p2 m2 q2)
  go_wp2_with fail
  generalize (w2.setCell ⟨w.heap.size + 1, 0, none⟩ (.slice p1 m1 q1)).setCell ⟨w.heap.size + 1 + 1, 0, none⟩ (.slice p2 m2 q2) = WE at *
  have g1 := K14.1
  have g2 := K24.1
  exact bodyPost_ret (v := .tuple #[.agg #[.slice p1 m1 q1], .agg #[.slice p2 m2 q2]]) (by simp [results, Tryz.results133, go_sem, g1, g2]) rfl ⟨(p1, p2), (m1, m2), (q1, q2), rfl, ⟨u1, u2⟩, BE⟩
/-- cut, by numbers. -/
theorem cut_n {a : Option Addr} {l c : Nat} {A : Int} {w : World} (h : Nn w a l c A) (n : Nat) (hn : 0 < n) (hnl : n < l) :
    Calls Tryz.prog 133 #[.agg #[.slice a l c], .int .i64 n] w fun e w' => ∃ (p : Option Addr × Option Addr) (m q : Nat × Nat), e = .returned (.tuple #[.agg #[.slice p.1 m.1 q.1], .agg #[.slice p.2 m.2 q.2]]) ∧ (Nn w' p.1 m.1 q.1 (A % pw n) ∧ Nn w' p.2 m.2 q.2 (A / pw n)) ∧ Below w.heap.size w w' := by
  obtain ⟨xs, ⟨h1, a', c', e, h2, h3, h5⟩, hn', hv⟩ := h
  obtain ⟨rfl, rfl, rfl⟩ : a = a' ∧ l = xs.length ∧ c = c' := by injection e with e1 e2 e3; exact ⟨e1, e2, e3⟩
  obtain ⟨b, o, rfl, cc⟩ := h5 (by omega)
  have sp := val_split xs n (by omega)
  have lt := val_lt (h1.take n)
  have ge := val_nonneg (h1.take n)
  have e1 : (xs.take n).length = n := by rw [List.length_take]; omega
  rw [e1] at lt
  have pp := pw_pos n
  have m1 : A % pw n = val (xs.take n) := by rw [← hv, sp, Int.add_mul_emod_self_left]; exact Int.emod_eq_of_lt ge lt
  have m2 : A / pw n = val (xs.drop n) := by
    rw [← hv, sp, Int.add_mul_ediv_left _ _ (by omega), Int.ediv_eq_zero_of_lt ge lt]
    simp
  rw [m1, m2]
  exact cut_raw b o _ c n xs w h1 rfl h2 h3 hn hnl cc
end Go.Proofs.YtiaeoknmgidehaaGreatDoor.Mo

namespace Go.Proofs.YtiaeoknmgidehaaGreatDoor.Mo
open Go.RowKit Tn

theorem field_words (a : Option Addr) (l c : Nat) (w : World) : (Instr.field 57 (.agg #[.slice a l c]) 0).run Tryz.prog w = .ok (.slice a l c) w := by
  simp [Instr.field, run_underlying Tryz.underlying57, asAgg, part, Tryz.sizeOf55, go_sem]
/-- The words of a number. -/
theorem Nn.words {x : World} {a : Option Addr} {l c : Nat} {N : Int} (h : Nn x a l c N) : ∃ Y, Wd Y ∧ Nm Y ∧ val Y = N ∧ Hid (l = Y.length) ∧ (0 < Y.length → ∃ b o, a = some ⟨b, o, none⟩ ∧ Cells x b o Y) := by
  obtain ⟨xs, ⟨h1, a', c', e, _, _, h5⟩, hn, hv⟩ := h
  obtain ⟨rfl, rfl, rfl⟩ : a = a' ∧ l = xs.length ∧ c = c' := by injection e with e1 e2 e3; exact ⟨e1, e2, e3⟩
  exact ⟨xs, h1, hn, hv, rfl, h5⟩
/-- A number that stands already does not lie in a new block. -/
theorem Nn.old {x : World} {a : Option Addr} {l c g : Nat} {N : Int} (h : Nn x a l c N) (hg : x.heap.size ≤ g) : Off a l g := by
  obtain ⟨Y, _, _, _, hl, hY⟩ := h.words
  rintro b o l0 rfl rfl
  have l1 : 0 < Y.length := hl.out ▸ l0
  obtain ⟨b', o', e, cc⟩ := hY l1
  obtain ⟨rfl, rfl⟩ : b = b' ∧ o = o' := by injection e with e; injection e with e1 e2; exact ⟨e1, e2⟩
  have := cc.lt l1
  omega
theorem Nn.wr {x x' : World} {a : Option Addr} {l c g o k : Nat} {N : Int} (h : Nn x a l c N) (f : Off a l g) (q : Wr g o k x x') : Nn x' a l c N := by
  obtain ⟨xs, ⟨h1, a', c', e, h2, h3, h5⟩, hn, hv⟩ := h
  obtain ⟨rfl, rfl, rfl⟩ : a = a' ∧ l = xs.length ∧ c = c' := by injection e with e1 e2 e3; exact ⟨e1, e2, e3⟩
  refine ⟨xs, ⟨h1, a, c, rfl, h2, h3, fun l0 => ?_⟩, hn, hv⟩
  obtain ⟨b, p, rfl, cc⟩ := h5 l0
  exact ⟨b, p, rfl, cc.other q (f b p l0 rfl)⟩
/-- The row of a product is made: what is copied, and what is added further on. -/
theorem piece_sum {X S' Y W : List Int} {n h : Nat} {P1 P2 T c : Int} (hX : X = Y ++ (List.replicate n 0).drop Y.length) (lY : Y.length ≤ n) (vY : val Y = P1) (vW : val W = P2) (hh : h ≤ n) (hT : T = P1 + pw h * P2) (lt : T < pw n) (wX : Wd X) (wS : Wd S') (lS : S'.length = n - h) (c0 : 0 ≤ c) (hs : val S' + pw (n - h) * c = val (X.drop h) + val W) :
    X.length = n ∧ Wd (spl X h (n - h) S') ∧ (spl X h (n - h) S').length = n ∧ val (spl X h (n - h) S') = T := by
  have lX : X.length = n := by rw [hX]; simp; omega
  have vX : val X = P1 := by
    rw [hX, val_append, List.drop_replicate, val_zeros, vY]; simp
  have sp := val_split X h (by omega)
  have pp : pw n = pw h * pw (n - h) := by rw [← pw_add]; congr 1; omega
  have hp := pw_pos h
  have hp2 := pw_pos (n - h)
  have t0 := val_nonneg (wX.take h)
  have s0 := val_nonneg wS
  have key : pw h * (val (X.drop h) + val W) < pw h * pw (n - h) := by
    rw [← pp, Int.mul_add, vW]
    omega
  have key2 : val (X.drop h) + val W < pw (n - h) := Int.lt_of_mul_lt_mul_left key (Int.le_of_lt hp)
  have cz : c = 0 := by
    by_cases c1 : c = 0
    · exact c1
    · have : pw (n - h) * 1 ≤ pw (n - h) * c := Int.mul_le_mul_of_nonneg_left (by omega) (by omega)
      omega
  subst cz
  simp only [Int.mul_zero, Int.add_zero] at hs
  refine ⟨lX, wd_spl wX wS _ _, by rw [spl_len (by omega) lS]; exact lX, ?_⟩
  rw [val_spl (by omega) lS, vX, List.take_of_length_le (by rw [List.length_drop]; omega), hs, hT, vW]
  grind
set_option maxHeartbeats 3200000 in
set_option maxRecDepth 100000 in
theorem mulPiecewise_raw (a1 a2 : Option Addr) (l1 c1 l2 c2 h : Nat) (Lo Hi P1 P2 T : Int) (w : World) (B0 : Int) (kB : Nn w a2 l2 c2 B0) (hb : l1 + l2 ≤ 1099511627776) (hh : h < l1) (h0 : 0 < h)
    (CC : ∀ x, Below w.heap.size w x → Calls Tryz.prog 133 #[.agg #[.slice a1 l1 c1], .int .i64 h] x fun e w' => ∃ (p : Option Addr × Option Addr) (m q : Nat × Nat), e = .returned (.tuple #[.agg #[.slice p.1 m.1 q.1], .agg #[.slice p.2 m.2 q.2]]) ∧ (Nn w' p.1 m.1 q.1 Lo ∧ Nn w' p.2 m.2 q.2 Hi) ∧ Below x.heap.size x w')
    (ML : ∀ x a l c, Nn x a l c Lo → Nn x a2 l2 c2 B0 → Calls Tryz.prog 69 #[.agg #[.slice a l c], .agg #[.slice a2 l2 c2]] x fun e w' => ∃ a l c, e = .returned (.agg #[.slice a l c]) ∧ Nn w' a l c (P1) ∧ Below x.heap.size x w' ∧ FrA x.heap.size (.slice a l c))
    (MH : ∀ x a l c, Nn x a l c Hi → Nn x a2 l2 c2 B0 → Calls Tryz.prog 69 #[.agg #[.slice a l c], .agg #[.slice a2 l2 c2]] x fun e w' => ∃ a l c, e = .returned (.agg #[.slice a l c]) ∧ Nn w' a l c (P2) ∧ Below x.heap.size x w' ∧ FrA x.heap.size (.slice a l c))
    (hT : T = P1 + pw h * P2) (lt : T < pw (l1 + l2)) (lt1 : P1 < pw (l1 + l2)) (lt2 : P2 < pw (l1 + l2 - h)) :
    Calls Tryz.prog 108 #[.agg #[.slice a1 l1 c1], .agg #[.slice a2 l2 c2], .int .i64 h] w fun e w' => ∃ a l c, e = .returned (.agg #[.slice a l c]) ∧ Nn w' a l c T ∧ Below w.heap.size w w' ∧ FrA w.heap.size (.slice a l c) := by
  have KA := ((Bx.new w (.slice a1 l1 c1) 57).alloc (.cells #[.slice a2 l2 c2] 57)).alloc (.cells #[.slice none 0 0] 57)
  have KB := (Bx.new (w.alloc (.cells #[.slice a1 l1 c1] 57)) (.slice a2 l2 c2) 57).alloc (.cells #[.slice none 0 0] 57)
  have KR := Bx.new ((w.alloc (.cells #[.slice a1 l1 c1] 57)).alloc (.cells #[.slice a2 l2 c2] 57)) (.slice none 0 0) 57
  have pr : Below w.heap.size w (((w.alloc (.cells #[.slice a1 l1 c1] 57)).alloc (.cells #[.slice a2 l2 c2] 57)).alloc (.cells #[.slice none 0 0] 57)) := (((Below.refl _ _).alloc (Nat.le_refl _) _).alloc (by simp) _).alloc (by simp; omega) _
  simp only [World.size_alloc] at KB KR
  have HT : Hid (T = P1 + pw h * P2 ∧ T < pw (l1 + l2) ∧ P1 < pw (l1 + l2) ∧ P2 < pw (l1 + l2 - h)) := ⟨hT, lt, lt1, lt2⟩
  clear hT lt lt1 lt2
  have FW := field_words
  go_enter Tryz.func108, Tryz.ntmps108
  go_wp2_with fail
  generalize ((w.alloc (.cells #[.slice a1 l1 c1] 57)).alloc (.cells #[.slice a2 l2 c2] 57)).alloc (.cells #[.slice none 0 0] 57) = W at *
  replace kB := kB.grow pr
  have ka := KA.1
  have kb := KB.1
  obtain ⟨n, hn⟩ : ∃ n, l1 + l2 = n := ⟨_, rfl⟩
  have wn : IntKind.i64.wrap ((l1 : Int) + (l2 : Int)) = (n : Int) := by rw [← hn]; rw [IntWalk.i64_in _ (by omega)]; push_cast; first | done | rfl
  have HN : Hid (l1 + l2 = n) := hn
  have hn5 : n ≤ 1099511627776 := by omega
  have hh2 : h < n := by omega
  rw [hn] at HT
  clear hn
  go_wp2_with (first
    | (go_at_call 133; refine (CC _ pr).mono ?_; rintro e w1 ⟨p, m, q, rfl, ⟨n1, n2⟩, d1⟩; have al := ((Below.refl w1.heap.size w1).alloc (Nat.le_refl _) (.cells #[.slice p.1 m.1 q.1] 57)).alloc (by simp) (.cells #[.slice p.2 m.2 q.2] 57); have d2 := bel' d1 al; have KL := (Bx.new w1 (.slice p.1 m.1 q.1) 57).alloc (.cells #[.slice p.2 m.2 q.2] 57); have KH := Bx.new (w1.alloc (.cells #[.slice p.1 m.1 q.1] 57)) (.slice p.2 m.2 q.2) 57; have sz : (w1.alloc (.cells #[.slice p.1 m.1 q.1] 57)).heap.size = w1.heap.size + 1 := World.size_alloc _ _; rw [sz] at KH; have KA1 := KA.below d2; have KB1 := KB.below d2; have KR1 := KR.below d2; have n1 := n1.grow al; have n2 := n2.grow al; have kB1 := kB.grow d2; have p1 := bel' pr d2; have ka1 := KA1.1; have kb1 := KB1.1)
    | (at_make; refine wpList_make_words rfl _ _ rfl n _ _ rfl rfl (by simp) (by simp) (by omega) ?_; intro w2 z1 z2 z3 z4; have KB2 := KB1.below z3; have KR2 := KR1.below z3; have KL2 := KL.below z3; have KH2 := KH.below z3; have o1 := n1.old (Nat.le_refl _); have o2 := n2.old (Nat.le_refl _); have oB := kB1.old (Nat.le_refl _); have n12 := n1.grow z3; have n22 := n2.grow z3; have kB2 := kB1.grow z3; have p2 := bel' p1 z3; have kb2 := KB2.1; have kl2 := KL2.1; have eB := KB1.lt; have eR := KR1.lt; have eL := KL.lt; have eH := KH.lt; simp only [World.size_alloc] at z1 z2 z4 o1 o2 oB eB eR eL eH)
    | (go_at_call 69; refine (ML _ _ _ _ n12 kB2).mono ?_; rintro e w3 ⟨ya, yl, yc, rfl, nY, d3, _⟩; obtain ⟨Y, wY, nmY, vY, eY, hY⟩ := nY.words; have KB3 := KB2.below d3; have KR3 := KR2.below d3; have KH3 := KH2.below d3; have n23 := n22.grow d3; have kB3 := kB2.grow d3; have p3 := bel' p2 d3; have c3 := z1.grow d3; have w3o := z2.grow d3)
    | ((with_reducible refine at_copy ?_); refine wpList_copy_words rfl _ _ rfl (List.replicate n 0) Y (w1.heap.size + 1 + 1) 0 n ya yl yc n rfl rfl (by simp) eY.out (by rw [List.length_replicate]; exact len_of wY nmY (by rw [vY]; exact HT.out.2.2.1)) c3 w3o hY ?_; intro w4 c4' q4; rw [List.length_replicate] at q4; have KB4 := KB3.wr q4 (by omega); have KR4 := KR3.wr q4 (by omega); have KH4 := KH3.wr q4 (by omega); have n24 := n23.wr o2 q4; have kB4 := kB3.wr oB q4; have w4o := w3o.wr q4; have p4 := p3.trans (q4.below (B := w.heap.size) (by have := p1.size; simp at this; omega) p3.size); have kh4 := KH4.1; have kb4 := KB4.1)
    | fail)
  have hg : w.heap.size ≤ w1.heap.size + 1 + 1 := by have := p1.size; simp at this; omega
  have gl := w4o.lt
  have hR : w.heap.size + 1 + 1 < w1.heap.size + 1 + 1 := by have := KR1.lt; simp at this; omega
  have hHne : w1.heap.size + 1 ≠ w1.heap.size + 1 + 1 := by omega
  have hBne : w.heap.size + 1 ≠ w1.heap.size + 1 + 1 := by omega
  have HY : Hid (Y.length ≤ n ∧ val Y = P1 ∧ Wd Y) := ⟨len_of wY nmY (by rw [vY]; exact HT.out.2.2.1), vY, wY⟩
  clear KA KB KR KA1 KB1 KR1 KB2 KR2 KL KL2 KH KH2 KB3 KR3 KH3 n1 n2 n12 n22 n23 kB kB1 kB2 kB3 nY hY eY vY wY nmY z1 z2 z3 z4 c3 w3o ka kb ka1 kb1 kb2 kl2 p1 p2 p3 al d1 d2 d3 pr q4 sz CC ML o1 eB eR eL eH
  obtain ⟨X, hX⟩ : ∃ X, Y ++ (List.replicate n 0).drop Y.length = X := ⟨_, rfl⟩
  rw [hX] at c4'
  have HX : Hid (Y ++ (List.replicate n 0).drop Y.length = X) := hX
  clear hX
  have lX : Hid (X.length = n) := by
    show _ = _
    rw [← HX.out]; simp; have := HY.out.1; omega
  have wX : Wd X := by
    rw [← HX.out, List.drop_replicate]
    exact HY.out.2.2.append (Wd.zeros _)
  generalize w1.heap.size + 1 + 1 = g at *
  generalize w1.heap.size + 1 = kh at *
  have sl := slice_l g 0 n n (h : Int) h rfl (by omega) (by omega)
  rw [Nat.zero_add] at sl
  have lS0 : Hid ((X.drop h).length = n - h) := by show _ = _; rw [List.length_drop, lX.out]
  go_region_held3 (fun x => x.cell? ⟨kh, 0, none⟩ = some (.slice p.2 m.2 q.2) ∧ x.cell? ⟨w.heap.size + 1, 0, none⟩ = some (.slice a2 l2 c2)) (go_keep) (first
    | (go_at_call 69; refine (MH _ _ _ _ n24.drew kB4.drew).mono ?_; rintro e w5 ⟨va, vl, vc, rfl, nV, d5', fr⟩; have d5 := undrew d5'; clear d5'; obtain ⟨V, wV, nmV, vV, eV, hV⟩ := nV.words; have i0 := (KH4.below d5).1; have i1 := (KB4.below d5).1; have c5 := c4'.grow d5; have w5o := w4o.grow d5; have c5d : Cells w5 g h (X.drop h) := (by have := c5.drop h; rwa [Nat.zero_add] at this))
    | (go_at_call 130; go_loud (refine (addInto_at g h (n - h) (n - h) (X.drop h) va vc vl V _ lS0.out.symm eV.out (wX.drop h) wV (by rw [lS0.out]; exact len_of wV nmV (by rw [vV]; exact HT.out.2.2.2)) (by rw [lS0.out]; omega) c5d (w5o.free _ _) (fun l0 => by obtain ⟨b2, o2, e2, cc⟩ := hV l0; have := fr b2 o2 vl vc (by rw [e2]); exact ⟨b2, o2, e2, by have hh : w4.drew.heap.size = w4.heap.size := rfl; omega, cc⟩)).mono ?_; rintro e w6 ⟨S', c, rfl, k0, k1, lS, wS, vS, cS, q6⟩; have j0 := ((KH4.below d5).wr q6 hHne).1; have j1 := ((KB4.below d5).wr q6 hBne).1))
    | fail)
  rw [lS0.out] at lS vS q6
  obtain ⟨R1, R2, R3, R4⟩ := piece_sum HX.out.symm HY.out.1 HY.out.2.1 vV (Nat.le_of_lt hh2) HT.out.1 HT.out.2.1 wX wS lS k0 vS
  have CF : Cells w6 g 0 (spl X h (n - h) S') := c5.spl (by omega) lS q6 cS
  have KR6 := (KR4.below d5).wr q6 (by omega)
  have p6 := (bel' p4 d5).trans (q6.below (B := w.heap.size) hg (by have := (bel' p4 d5).size; exact this))
  have HV4 : Hid (val (spl X h (n - h) S') = T) := R4
  have HR3 : Hid ((spl X h (n - h) S').length = n) := R3
  clear R1 R3 R4 HX HY lX lS0 wX c4' c5 c5d cS vS q6 nV hV eV vV wV nmV n24 kB4 KH4 KB4 kh4 kb4 i0 i1 j0 j1 MH fr w4o w5o p4 oB o2 KR4 gl
  go_wp2_with (first
    | (go_at_call 110; refine (trim_rd (some ⟨g, 0, none⟩) n n (spl X h (n - h) S') _ HR3.out.symm R2 (by rw [HR3.out]; exact Nat.le_refl _) (by omega) (fun _ => ⟨g, 0, rfl, CF⟩)).mono ?_; rintro e w7 ⟨k, zs, rfl, _, hr, hnm, hv, d7⟩; have KR7 := KR6.below d7; have r1 := KR7.1; have r2 := KR7.2)
    | fail)
  have NE : Nn w7 (some ⟨g, 0, none⟩) k n T := ⟨zs, hr, hnm, hv.trans HV4.out⟩
  have NF := NE.box (u := .slice (some ⟨g, 0, none⟩) k n) KR7
  have KE := KR7.set (.slice (some ⟨g, 0, none⟩) k n)
  have BE := below_put (bel' p6 d7) (show w.heap.size ≤ w.heap.size + 1 + 1 by omega) (.slice (some ⟨g, 0, none⟩) k n)
  generalize w7.setCell ⟨w.heap.size + 1 + 1, 0, none⟩ (.slice (some ⟨g, 0, none⟩) k n) = WE at *
  have g1 := KE.1
  exact bodyPost_ret (v := .agg #[.slice (some ⟨g, 0, none⟩) k n]) (by simp [results, Tryz.results108, go_sem, g1]) rfl ⟨_, _, _, rfl, NF, BE, fun b o l c e => by simp at e; omega⟩
end Go.Proofs.YtiaeoknmgidehaaGreatDoor.Mo
