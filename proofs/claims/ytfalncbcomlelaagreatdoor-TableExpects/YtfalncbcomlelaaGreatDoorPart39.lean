import Derived.Test.YtfalncbcomlelaaGreatDoorPart08
import Derived.Test.YtfalncbcomlelaaGreatDoorPart30
import Derived.Deep.DeepCutAuto
import Derived.Deep.RegionHeld3

namespace Go.Proofs.YtfalncbcomlelaaGreatDoor.Ta
open Go.RowKit

set_option maxRecDepth 100000 in
set_option maxHeartbeats 3200000 in
theorem RateIn_some (s : ByteArray) (f : Int) (vr vs : Value) (rs : List Int) (sel : List (List Int)) (en ys : Int) (w : World) (hr : Rx w vr rs) (hsel : Rr w vs sel) (h : chk s f rs sel = 0) (h2 : okL f rs en ys = true) (N : Nat) (hN : (N : Int) = f + rs.length - en - ys) (n : Nat) (hn : n < N) : Calls Tryz.prog 91 #[.agg #[.string s, .int .i64 f, vr, vs], .agg #[.int .i64 en, .int .i64 ys], .int .i64 (n : Int)] w fun e w' => e = .returned (.tuple #[.int .i64 (rt f rs sel en ys n), .bool true]) ∧ Below w.heap.size w w' := by
  have hr' := hr
  obtain ⟨_, ⟨ar, cr, rfl, _⟩, hL⟩ := hr'
  have hs' := hsel
  obtain ⟨_, ao, co, rfl, hrows⟩ := hs'
  have KT := (Blk.new w #[.string s, .int .i64 f, .slice ar rs.length cr, .slice ao sel.length co] 46).alloc (.cells #[.int .i64 en, .int .i64 ys] 48)
  have KL := Blk.new (w.alloc (.cells #[.string s, .int .i64 f, .slice ar rs.length cr, .slice ao sel.length co] 46)) #[.int .i64 en, .int .i64 ys] 48
  have pr : Below w.heap.size w ((w.alloc (.cells #[.string s, .int .i64 f, .slice ar rs.length cr, .slice ao sel.length co] 46)).alloc (.cells #[.int .i64 en, .int .i64 ys] 48)) := ((Below.refl _ _).alloc (Nat.le_refl _) _).alloc (by simp) _
  simp only [World.size_alloc] at KL
  obtain ⟨_, f1, _, hsb⟩ := of_chk_0 h
  obtain ⟨s1, s2, s3⟩ := sel_bd hsb
  have La := fun W => RLast_any s f ar rs.length cr (.slice ao sel.length co) W f1.1 f1.2.1 hL
  obtain ⟨E, hE⟩ : ∃ E, f + (rs.length : Int) - 1 = E := ⟨_, rfl⟩
  rw [hE] at La
  obtain ⟨z1, z2, z3, z4⟩ := of_decide_eq_true h2
  rw [hE] at z3 z4
  have e1 : 0 ≤ E ∧ E ≤ 130 := by omega
  have g5 : IntKind.i64.wrap (E - en) = E - en := Mo.wrapI _ (by omega) (by omega)
  have g6 : IntKind.i64.wrap (E - en - ys) = E - en - ys := Mo.wrapI _ (by omega) (by omega)
  have g7 : ¬ (n : Int) > E - en - ys := by omega
  obtain ⟨d, hd⟩ : ∃ d : Nat, ys + (n : Int) = (d : Int) := ⟨(ys + n).toNat, by omega⟩
  have y1 : IntKind.i64.wrap (ys + (n : Int)) = (d : Int) := by rw [hd]; exact Mo.wrapI _ (by omega) (by omega)
  have i4 : (0 : Int) ≤ (d : Int) := by omega
  have i5 : ((d : Int)).toNat = d := by omega
  by_cases c : (d : Int) < (sel.length : Int)
  · have q1 : rt f rs sel en ys n = L.nth (sel.getD d []) (en - f).toNat := by unfold rt; rw [if_pos (by omega), show (ys + (n : Int)).toNat = d by omega]
    obtain ⟨i, hi⟩ : ∃ i : Nat, en - f = (i : Int) := ⟨(en - f).toNat, by omega⟩
    have y2 : IntKind.i64.wrap (en - f) = (i : Int) := by rw [hi]; exact Mo.wrapI _ (by omega) (by omega)
    obtain ⟨b, o, rfl, hrow⟩ := hrows (by omega)
    obtain ⟨vd, cd, xd⟩ := hrow d (by omega)
    have il : i < (sel.getD d []).length := by have := (s3 d (by omega)).1; omega
    obtain ⟨b2, o2, c2, rfl, ci, lb2⟩ := lives xd il
    have lb := L.lt_of_cell cd
    rw [q1, show (en - f).toNat = i by omega]
    generalize L.nth (sel.getD d []) i = V at *
    generalize (sel.getD d []).length = ln at *
    have i6 : (0 : Int) ≤ (i : Int) := by omega
    have i7 : ((i : Int)).toNat = i := by omega
    have i8 : (i : Int) < (ln : Int) := by omega
    have cd' := keepc pr lb cd
    have ci' := keepc pr lb2 ci
    clear h h2 hsb hN f1 z1 z2 z3 z4 e1 s1 s2 s3 hrows hr hsel hE hrow hd hi q1 xd il lb lb2 hn cd ci
    go_enter Tryz.func91, Tryz.ntmps91
    go_wp2_with fail
    generalize (w.alloc (.cells #[.string s, .int .i64 f, .slice ar rs.length cr, .slice (some ⟨b, o, none⟩) sel.length co] 46)).alloc (.cells #[.int .i64 en, .int .i64 ys] 48) = W at *
    have k0 := KT.at 0
    have k1 := KT.at 1
    have k2 := KT.at 2
    have k3 := KT.at 3
    have m0 := KL.at 0
    have m1 := KL.at 1
    simp at k0 k1 k2 k3 m0 m1
    go_region_held3 (fun x => x.cell? ⟨w.heap.size, 0, none⟩ = some (.string s) ∧ x.cell? ⟨w.heap.size, 1, none⟩ = some (.int .i64 f) ∧ x.cell? ⟨w.heap.size, 2, none⟩ = some (.slice ar rs.length cr) ∧ x.cell? ⟨w.heap.size, 3, none⟩ = some (.slice (some ⟨b, o, none⟩) sel.length co) ∧ x.cell? ⟨w.heap.size + 1, 0, none⟩ = some (.int .i64 en) ∧ x.cell? ⟨w.heap.size + 1, 1, none⟩ = some (.int .i64 ys)) (first | exact ⟨x0, x1, x2, x3, x4, x5⟩ | go_keep) (first
      | (go_at_call 90; (refine (La _).mono ?_); (rintro e w2 ⟨rfl, b1⟩); (have d1 := Mo.undrew b1); (have KT2 := KT.below d1 KT.lt); (have KL2 := KL.below d1 KL.lt); (have x0 := KT2.at 0); (have x1 := KT2.at 1); (have x2 := KT2.at 2); (have x3 := KT2.at 3); (have x4 := KL2.at 0); (have x5 := KL2.at 1); (simp at x0 x1 x2 x3 x4 x5))
      | fail)
    have x6 := keepc d1 (L.lt_of_cell cd') cd'
    have x7 := keepc d1 (L.lt_of_cell ci') ci'
    go_wp2_with fail
    go_region_held3 (fun x => x.cell? ⟨w.heap.size, 1, none⟩ = some (.int .i64 f) ∧ x.cell? ⟨w.heap.size, 3, none⟩ = some (.slice (some ⟨b, o, none⟩) sel.length co) ∧ x.cell? ⟨w.heap.size + 1, 0, none⟩ = some (.int .i64 en) ∧ x.cell? ⟨b, o + d, none⟩ = some (.slice (some ⟨b2, o2, none⟩) ln c2) ∧ x.cell? ⟨b2, o2 + i, none⟩ = some (.int .i64 V)) (first | exact ⟨x1, x3, x4, x6, x7⟩ | go_keep) (fail)
    go_wp2_with fail
    go_ret2
    exact ⟨rfl, (bel' pr d1).drew⟩
  · have q1 : rt f rs sel en ys n = L.nth rs (en + (ys + (n : Int)) - f).toNat := by unfold rt; rw [if_neg (by omega)]
    obtain ⟨i, hi⟩ : ∃ i : Nat, en + (d : Int) - f = (i : Int) := ⟨(en + (d : Int) - f).toNat, by omega⟩
    have y2 : IntKind.i64.wrap (en + (d : Int)) = en + (d : Int) := Mo.wrapI _ (by omega) (by omega)
    have y3 : IntKind.i64.wrap (en + (d : Int) - f) = (i : Int) := by rw [hi]; exact Mo.wrapI _ (by omega) (by omega)
    have il : i < rs.length := by omega
    obtain ⟨b2, o2, c2, e2, ci, lb2⟩ := lives hr il
    simp only [Value.slice.injEq] at e2
    obtain ⟨rfl, _, rfl⟩ := e2
    have ci' := keepc pr lb2 ci
    rw [q1, show (en + (ys + (n : Int)) - f).toNat = i by omega]
    generalize L.nth rs i = V at *
    have i6 : (0 : Int) ≤ (i : Int) := by omega
    have i7 : ((i : Int)).toNat = i := by omega
    have i8 : (i : Int) < (rs.length : Int) := by omega
    clear h h2 hsb hN f1 z1 z2 z3 z4 e1 s1 s2 s3 hrows hr hsel hE hd hi q1 ci il lb2 hn
    go_enter Tryz.func91, Tryz.ntmps91
    go_wp2_with fail
    generalize (w.alloc (.cells #[.string s, .int .i64 f, .slice (some ⟨b2, o2, none⟩) rs.length cr, .slice ao sel.length co] 46)).alloc (.cells #[.int .i64 en, .int .i64 ys] 48) = W at *
    have k0 := KT.at 0
    have k1 := KT.at 1
    have k2 := KT.at 2
    have k3 := KT.at 3
    have m0 := KL.at 0
    have m1 := KL.at 1
    simp at k0 k1 k2 k3 m0 m1
    go_region_held3 (fun x => x.cell? ⟨w.heap.size, 0, none⟩ = some (.string s) ∧ x.cell? ⟨w.heap.size, 1, none⟩ = some (.int .i64 f) ∧ x.cell? ⟨w.heap.size, 2, none⟩ = some (.slice (some ⟨b2, o2, none⟩) rs.length cr) ∧ x.cell? ⟨w.heap.size, 3, none⟩ = some (.slice ao sel.length co) ∧ x.cell? ⟨w.heap.size + 1, 0, none⟩ = some (.int .i64 en) ∧ x.cell? ⟨w.heap.size + 1, 1, none⟩ = some (.int .i64 ys)) (first | exact ⟨x0, x1, x2, x3, x4, x5⟩ | go_keep) (first
      | (go_at_call 90; (refine (La _).mono ?_); (rintro e w2 ⟨rfl, b1⟩); (have d1 := Mo.undrew b1); (have KT2 := KT.below d1 KT.lt); (have KL2 := KL.below d1 KL.lt); (have x0 := KT2.at 0); (have x1 := KT2.at 1); (have x2 := KT2.at 2); (have x3 := KT2.at 3); (have x4 := KL2.at 0); (have x5 := KL2.at 1); (simp at x0 x1 x2 x3 x4 x5))
      | fail)
    have x7 := keepc d1 (L.lt_of_cell ci') ci'
    go_wp2_with fail
    go_ret2
    exact ⟨rfl, bel' pr d1⟩
end Go.Proofs.YtfalncbcomlelaaGreatDoor.Ta
