import Derived.Test.YtfalncbcomlelaaGreatDoorWords
import Derived.Test.YtfalncbcomlelaaGreatDoorLaws
namespace Go.Proofs.YtfalncbcomlelaaGreatDoor
open Go.RowKit Tn

theorem drop_rep (n : Nat) : List.drop n (List.replicate (n + 1) (0 : Int)) = [0] := by simp
theorem add_sum {xs ys S' : List Int} {c : Int} (hx : Wd xs) (hy : Wd ys) (hle : ys.length ≤ xs.length) (h0 : 0 ≤ c) (hS : Wd S') (e : val S' + pw (xs ++ [0]).length * c = val (xs ++ [0]) + val ys) : val S' = val xs + val ys := by
  have e1 : val (xs ++ [0]) = val xs := by rw [val_append]; simp [val]
  have e2 : (xs ++ [0]).length = xs.length + 1 := by simp
  rw [e1, e2] at e
  have b1 := val_lt hx; have b2 := val_lt hy; have b3 := pw_mono hle; have b4 := val_nonneg hS; have b5 := pw_pos xs.length
  have hc : c = 0 := by
    by_cases h : c = 0
    · exact h
    · have := Int.mul_le_mul_of_nonneg_left (show 1 ≤ c by omega) (Int.le_of_lt (pw_pos (xs.length + 1)))
      simp only [pw] at this e; omega
  rw [hc] at e; omega

set_option maxHeartbeats 800000 in
set_option maxRecDepth 100000 in
theorem add_long (a1 a2 : Option Addr) (c1 c2 : Nat) (xs ys : List Int) (w : World) (hx : Wd xs) (hy : Wd ys) (hle : ys.length ≤ xs.length) (hL : xs.length ≤ 549755813888) (h1 : 0 < xs.length → ∃ b o, a1 = some ⟨b, o, none⟩ ∧ Cells w b o xs) (h2 : 0 < ys.length → ∃ b o, a2 = some ⟨b, o, none⟩ ∧ Cells w b o ys) :
    Calls Tryz.prog 52 #[.agg #[.slice a1 xs.length c1], .agg #[.slice a2 ys.length c2]] w fun e w' => ∃ r zs, e = .returned (.agg #[r]) ∧ Rd w' r zs ∧ Nm zs ∧ val zs = val xs + val ys ∧ Below w.heap.size w w' := by
  have hs : Hid (∀ w', Below w.heap.size w w' → 0 < xs.length → ∃ b o, a1 = some ⟨b, o, none⟩ ∧ Cells w' b o xs) := fun w' h l => by obtain ⟨b, o, e, c⟩ := h1 l; exact ⟨b, o, e, c.grow h⟩
  have hs2 : Hid (∀ w', Below w.heap.size w w' → 0 < ys.length → ∃ b o, a2 = some ⟨b, o, none⟩ ∧ b ≠ w.heap.size + 1 + 1 + 1 ∧ Cells w' b o ys) := fun w' h l => by obtain ⟨b, o, e, c⟩ := h2 l; exact ⟨b, o, e, by have := c.lt l; omega, c.grow h⟩
  clear h1 h2
  go_enter Tryz.func52, Tryz.ntmps52
  go_wp2_with (first
    | (at_make; refine wpList_make_words rfl _ _ rfl (xs.length + 1) _ _ rfl rfl (by simp) (by simp) (by omega) ?_; intro w1 k1 k2 k3 k4; have X0 := (((Bx.new w _ _).alloc _).alloc _).below k3; have X1 := ((Bx.new _ _ _).alloc _).below k3; have X2 := (Bx.new _ _ _).below k3; simp only [World.size_alloc] at X1 X2 k1 k2 k3 k4; have q0 := below_alloc3 k3; clear k3; have x0 := X0.1)
    | ((with_reducible refine at_copy ?_); go_must (refine wpList_copy_words rfl _ _ rfl (List.replicate (xs.length + 1) 0) xs _ 0 _ a1 _ _ _ rfl rfl (by simp) rfl (by simp) k1 k2 (fun l => hs.out w1 q0 l) ?_; intro w2 k5 k6; rw [drop_rep] at k5; have Y1 := X1.wr k6 (by omega); have Y2 := X2.wr k6 (by omega); have p0 := q0.trans (k6.below (B := w.heap.size) (by omega) (by omega)); have y1 := Y1.1))
    | fail)
  refine (addInto_at _ 0 _ _ (xs ++ [0]) a2 _ _ ys w2 (by simp) rfl (hx.append (Wd.cons (by omega) (by omega) Wd.nil)) hy (by simp; omega) (by simp; omega) k5 ((k2.wr k6).free _ _) (hs2.out w2 p0)).mono ?_
  rintro e w3 ⟨S', c, rfl, c0, c1, hl, hw, hv, hc, hwr⟩
  have hsum : Hid (val S' = val xs + val ys) := add_sum hx hy hle c0 hw hv
  have hl' : Hid (S'.length = xs.length + 1) := hl.trans (by simp)
  have Z2 := Y2.wr hwr (by omega)
  have p1 := p0.trans (hwr.below (B := w.heap.size) (by omega) (by have := p0.size; omega))
  clear hv hl y1 x0
  go_wp2_with fail
  refine (trim_rd _ _ _ S' w3 hl'.out.symm hw (by rw [hl'.out]; omega) (by omega) (fun _ => ⟨_, _, rfl, hc⟩)).mono ?_
  rintro e w4 ⟨n, zs, rfl, -, hrd, hnm, hvz, hbl⟩
  have V2 := Z2.below hbl
  have v1 := V2.1
  have v2 := V2.2
  have hvz' : Hid (val zs = val xs + val ys) := hvz.trans hsum.out
  clear hvz
  go_wp2
  refine bodyPost_ret (v := .agg #[.slice (some ⟨w.heap.size + 1 + 1 + 1, 0, none⟩) n (xs.length + 1)]) (by simp [results, Tryz.results52, go_sem, v1]) rfl ⟨_, zs, rfl, hrd.put (by intro b o l c e; simp at e; omega), hnm, hvz'.out, below_put (p1.trans (hbl.mono p1.size)) (by omega) _⟩

set_option maxHeartbeats 800000 in
set_option maxRecDepth 100000 in
theorem add_short (a1 a2 : Option Addr) (c1 c2 : Nat) (xs ys : List Int) (w : World) (hx : Wd xs) (hy : Wd ys) (hle : xs.length < ys.length) (hL : ys.length ≤ 549755813888) (h1 : 0 < xs.length → ∃ b o, a1 = some ⟨b, o, none⟩ ∧ Cells w b o xs) (h2 : 0 < ys.length → ∃ b o, a2 = some ⟨b, o, none⟩ ∧ Cells w b o ys) :
    Calls Tryz.prog 52 #[.agg #[.slice a1 xs.length c1], .agg #[.slice a2 ys.length c2]] w fun e w' => ∃ r zs, e = .returned (.agg #[r]) ∧ Rd w' r zs ∧ Nm zs ∧ val zs = val xs + val ys ∧ Below w.heap.size w w' := by
  have hs : Hid (∀ w', Below w.heap.size w w' → 0 < ys.length → ∃ b o, a2 = some ⟨b, o, none⟩ ∧ Cells w' b o ys) := fun w' h l => by obtain ⟨b, o, e, c⟩ := h2 l; exact ⟨b, o, e, c.grow h⟩
  have hs2 : Hid (∀ w', Below w.heap.size w w' → 0 < xs.length → ∃ b o, a1 = some ⟨b, o, none⟩ ∧ b ≠ w.heap.size + 1 + 1 + 1 ∧ Cells w' b o xs) := fun w' h l => by obtain ⟨b, o, e, c⟩ := h1 l; exact ⟨b, o, e, by have := c.lt l; omega, c.grow h⟩
  clear h1 h2
  go_enter Tryz.func52, Tryz.ntmps52
  go_wp2_with (first
    | (at_make; refine wpList_make_words rfl _ _ rfl (ys.length + 1) _ _ rfl rfl (by simp) (by simp) (by omega) ?_; intro w1 k1 k2 k3 k4; have X0 := (((Bx.new w _ _).alloc _).alloc _).below k3; have X1 := ((Bx.new _ _ _).alloc _).below k3; have X2 := (Bx.new _ _ _).below k3; simp only [World.size_alloc] at X1 X2 k1 k2 k3 k4; have q0 := below_alloc3 k3; clear k3; have x0 := X0.1)
    | ((with_reducible refine at_copy ?_); refine wpList_copy_words rfl _ _ rfl (List.replicate (ys.length + 1) 0) ys _ 0 _ a2 _ _ _ rfl rfl (by simp) rfl (by simp) k1 k2 (fun l => hs.out w1 q0 l) ?_; intro w2 k5 k6; rw [drop_rep] at k5; have Y1 := X1.wr k6 (by omega); have Y2 := X2.wr k6 (by omega); have p0 := q0.trans (k6.below (B := w.heap.size) (by omega) (by omega)); have y1 := Y1.1)
    | fail)
  refine (addInto_at _ 0 _ _ (ys ++ [0]) a1 _ _ xs w2 (by simp) rfl (hy.append (Wd.cons (by omega) (by omega) Wd.nil)) hx (by simp; omega) (by simp; omega) k5 ((k2.wr k6).free _ _) (hs2.out w2 p0)).mono ?_
  rintro e w3 ⟨S', c, rfl, c0, c1, hl, hw, hv, hc, hwr⟩
  have hsum : Hid (val S' = val xs + val ys) := (add_sum hy hx (Nat.le_of_lt hle) c0 hw hv).trans (Int.add_comm _ _)
  have hl' : Hid (S'.length = ys.length + 1) := hl.trans (by simp)
  have Z2 := Y2.wr hwr (by omega)
  have p1 := p0.trans (hwr.below (B := w.heap.size) (by omega) (by have := p0.size; omega))
  clear hv hl y1 x0
  go_wp2_with fail
  refine (trim_rd _ _ _ S' w3 hl'.out.symm hw (by rw [hl'.out]; omega) (by omega) (fun _ => ⟨_, _, rfl, hc⟩)).mono ?_
  rintro e w4 ⟨n, zs, rfl, -, hrd, hnm, hvz, hbl⟩
  have V2 := Z2.below hbl
  have v1 := V2.1
  have v2 := V2.2
  have hvz' : Hid (val zs = val xs + val ys) := hvz.trans hsum.out
  clear hvz
  go_wp2
  refine bodyPost_ret (v := .agg #[.slice (some ⟨w.heap.size + 1 + 1 + 1, 0, none⟩) n (ys.length + 1)]) (by simp [results, Tryz.results52, go_sem, v1]) rfl ⟨_, zs, rfl, hrd.put (by intro b o l c e; simp at e; omega), hnm, hvz'.out, below_put (p1.trans (hbl.mono p1.size)) (by omega) _⟩

/-- (Nat).Add. -/
theorem Add_any (v1 v2 : Value) (xs ys : List Int) (w : World) (h1 : Rd w v1 xs) (h2 : Rd w v2 ys) (l1 : xs.length ≤ 549755813888) (l2 : ys.length ≤ 549755813888) :
    Calls Tryz.prog 52 #[.agg #[v1], .agg #[v2]] w fun e w' => ∃ r zs, e = .returned (.agg #[r]) ∧ Rd w' r zs ∧ Nm zs ∧ val zs = val xs + val ys ∧ Below w.heap.size w w' := by
  obtain ⟨w1, a1, c1, rfl, _, _, g1⟩ := h1
  obtain ⟨w2, a2, c2, rfl, _, _, g2⟩ := h2
  by_cases h : ys.length ≤ xs.length
  · exact add_long a1 a2 c1 c2 xs ys w w1 w2 h l1 g1 g2
  · exact add_short a1 a2 c1 c2 xs ys w w1 w2 (by omega) l2 g1 g2
end Go.Proofs.YtfalncbcomlelaaGreatDoor
