import Derived.Test.YtejfnplhimfchaaGreatDoorPart19
import Derived.Test.YtejfnplhimfchaaGreatDoorPart13

namespace Go.Proofs.YtejfnplhimfchaaGreatDoor.Mo
open Go.RowKit Dc Tn

theorem undrew {W w1 : World} (b : Below W.drew.heap.size W.drew w1) : Below W.heap.size W w1 := (show Below W.heap.size W W.drew from (Below.refl _ _).drew).trans b
set_option maxHeartbeats 1600000 in
set_option maxRecDepth 100000 in
theorem OfWhole_any (g : Bool) (v : Value) (xs : List Int) (w : World) (h : Rd w v xs) (n : Nm xs) :
    Calls Tryz.prog 48 #[.bool g, .agg #[v]] w fun e w' => ∃ r zs, e = .returned (.agg #[.bool (g && !decide (val xs = 0)), v, r]) ∧ Rd w' v xs ∧ Rd w' r zs ∧ Nm zs ∧ val zs = 1 ∧ Below w.heap.size w w' := by
  have H : Hid (Rd w v xs) := h
  obtain ⟨a1, m1, c1, rfl⟩ := h.shape
  clear h
  have O := fun W => Of_any 1 W (by decide) (by decide)
  have K0 : Bx ((w.alloc (.cells #[.slice a1 m1 c1] 48)).alloc (.cells #[.bool false, .slice none 0 0, .slice none 0 0] 50)) w.heap.size (.slice a1 m1 c1) := (Bx.new w (.slice a1 m1 c1) 48).alloc _
  have K1 := Rb.new (w.alloc (.cells #[.slice a1 m1 c1] 48)) (.bool false) (.slice none 0 0) (.slice none 0 0) 50
  have pr : Below w.heap.size w ((w.alloc (.cells #[.slice a1 m1 c1] 48)).alloc (.cells #[.bool false, .slice none 0 0, .slice none 0 0] 50)) := ((Below.refl _ _).alloc (Nat.le_refl _) _).alloc (by simp) _
  simp only [World.size_alloc] at K1
  obtain ⟨q, hq⟩ : ∃ q, decide (val xs = 0) = q := ⟨_, rfl⟩
  have hs := pr.size
  cases g
  · go_enter Tryz.func48, Tryz.ntmps48
    go_wp2_with fail
    generalize (w.alloc (.cells #[.slice a1 m1 c1] 48)).alloc (.cells #[.bool false, .slice none 0 0, .slice none 0 0] 50) = W at *
    have e0 := K0.1
    go_region_with (first
      | (go_at_call 45; refine (O _).mono ?_; rintro e w2 ⟨r, zs, rfl, hr, hn, hv, b2⟩; obtain ⟨a2, m2, c2, rfl⟩ := hr.shape; have bb := undrew b2; have f0 := (K0.below bb).1; have R := K1.grow bb; have r0 := R.c0; have r1 := R.c1; have r2 := R.c2; have s0 := R.f0; have s1 := R.f1; have s2 := R.f2)
      | fail)
    all_goals
      obtain ⟨F0, F1, F2⟩ := R.put (.bool false) (.slice a1 m1 c1) (.slice a2 m2 c2)
      go_wp2
      exact bodyPost_ret (v := .agg #[.bool false, .slice a1 m1 c1, .slice a2 m2 c2]) (by simp [results, Tryz.results48, go_sem, F0, F1, F2]) rfl ⟨_, zs, rfl, Rd.putF ((H.out.grow pr).grow bb) R, Rd.putF hr R, hn, hv, bset3 (bel' pr bb) (by omega)⟩
  · have Z : ∀ x, Below w.heap.size w x → Calls Tryz.prog 51 #[.agg #[.slice a1 m1 c1]] x fun e w' => e = .returned (.bool q) ∧ Below x.heap.size x w' := fun x b => by have := IsZero_any (.slice a1 m1 c1) xs x (H.out.grow b) n; rw [hq] at this; exact this
    rw [hq]
    go_enter Tryz.func48, Tryz.ntmps48
    go_wp2_with fail
    generalize (w.alloc (.cells #[.slice a1 m1 c1] 48)).alloc (.cells #[.bool false, .slice none 0 0, .slice none 0 0] 50) = W at *
    have e0 := K0.1
    go_region_held3 (fun x => x.cell? ⟨w.heap.size, 0, none⟩ = some (.slice a1 m1 c1)) (go_keep) (first
      | (go_at_call 51; refine (Z _ pr.drew).mono ?_; rintro e w1 ⟨rfl, b1⟩; have b1 := undrew b1; have g0 := (K0.below b1).1)
      | (go_at_call 45; refine (O _).mono ?_; rintro e w2 ⟨r, zs, rfl, hr, hn, hv, b2⟩; obtain ⟨a2, m2, c2, rfl⟩ := hr.shape; have bb := bel' b1 b2; have f0 := (K0.below bb).1; have R := K1.grow bb; have r0 := R.c0; have r1 := R.c1; have r2 := R.c2; have s0 := R.f0; have s1 := R.f1; have s2 := R.f2)
      | fail)
    obtain ⟨F0, F1, F2⟩ := R.put (.bool (!q)) (.slice a1 m1 c1) (.slice a2 m2 c2)
    go_wp2
    exact bodyPost_ret (v := .agg #[.bool (!q), .slice a1 m1 c1, .slice a2 m2 c2]) (by simp [results, Tryz.results48, go_sem, F0, F1, F2]) rfl ⟨_, zs, rfl, Rd.putF ((H.out.grow pr).grow bb) R, Rd.putF hr R, hn, hv, bset3 (bel' pr bb) (by omega)⟩
end Go.Proofs.YtejfnplhimfchaaGreatDoor.Mo

namespace Go.Proofs.YtejfnplhimfchaaGreatDoor.Mo
open Go.RowKit Dc Tn

theorem and1 (x : Int) (h0 : 0 ≤ x) (h1 : x < 18446744073709551616) : bits .and .u64 x 1 = x % 2 := by
  rw [u64_and x 1 h0 h1 (by decide) (by decide)]
  obtain ⟨n, rfl⟩ := Int.eq_ofNat_of_zero_le h0
  have := Nat.and_two_pow_sub_one_eq_mod n 1
  simp only [Int.toNat_natCast]
  have e : (1 : Int).toNat = 2 ^ 1 - 1 := rfl
  rw [e, this]; rfl
theorem val_mod2 {xs : List Int} (h : 0 < xs.length) : val xs % 2 = nth xs 0 % 2 := by
  cases xs with
  | nil => simp at h
  | cons x xs => simp only [val, nth]; simp; omega
set_option maxHeartbeats 800000 in
set_option maxRecDepth 100000 in
theorem IsOdd_any (v : Value) (xs : List Int) (w : World) (h : Rd w v xs) :
    Calls Tryz.prog 54 #[.agg #[v]] w fun e w' => e = .returned (.bool (decide (val xs % 2 = 1))) ∧ Below w.heap.size w w' := by
  obtain ⟨wx, a, c, rfl, _, _, g⟩ := h
  have pr : Below w.heap.size w (w.alloc (.cells #[.slice a xs.length c] 48)) := (Below.refl _ _).alloc (Nat.le_refl _) _
  by_cases h0 : xs = []
  · subst h0
    have HV : Hid (decide (val [] % 2 = 1) = false) := rfl
    go_enter Tryz.func54, Tryz.ntmps54
    go_wp2
    go_ret
    exact ⟨rfl, pr⟩
  · have hl : 0 < xs.length := List.length_pos_iff.2 h0
    obtain ⟨b, o, rfl, hc⟩ := g hl
    have c0 := hc.at (i := 0) hl
    rw [Nat.add_zero] at c0
    have ha := and1 (nth xs 0) (nth_bd wx 0).1 (nth_bd wx 0).2
    have HV : Hid (val xs % 2 = nth xs 0 % 2) := val_mod2 hl
    have hb0 := hc.lt hl
    clear h0
    obtain ⟨q, hq⟩ : ∃ q, nth xs 0 % 2 = q := ⟨_, rfl⟩
    have HQ : Hid (val xs % 2 = q) := HV.out.trans hq
    rw [hq] at ha
    have pos : (0 : Int) < (xs.length : Int) := by omega
    have c1 := (pr.cell (p := ⟨b, o, none⟩) hb0).trans c0
    clear hq HV g
    go_enter Tryz.func54, Tryz.ntmps54
    go_wp2
    go_ret
    refine ⟨?_, pr⟩
    rw [HQ.out]
    show Ending.returned (.bool (q == 1)) = _
    congr 2
set_option maxHeartbeats 800000 in
set_option maxRecDepth 100000 in
theorem OfInt_any (k : Int) (w : World) (h0 : -9223372036854775807 ≤ k) (h1 : k ≤ 9223372036854775807) :
    Calls Tryz.prog 20 #[.int .i64 k] w fun e w' => ∃ v1 v2 xs ys, e = .returned (.agg #[.bool (decide (k < 0)), v1, v2]) ∧ Rd w' v1 xs ∧ Nm xs ∧ val xs = (k.natAbs : Int) ∧ Rd w' v2 ys ∧ Nm ys ∧ val ys = 1 ∧ Below w.heap.size w w' := by
  have O := fun W => Of_any (k.natAbs : Int) W (by omega) (by omega)
  by_cases hk : k < 0
  · have e1 : IntKind.u64.wrap k = k + 18446744073709551616 := by rw [wrap_u64]; omega
    have e2 : IntKind.u64.wrap (-(k + 18446744073709551616)) = (k.natAbs : Int) := by rw [wrap_u64]; omega
    have HK : Hid (decide (k < 0) = true ∧ k.natAbs ≠ 0) := ⟨decide_eq_true hk, by omega⟩
    generalize k.natAbs = q at *
    have K1 := Rb.new w (.bool false) (.slice none 0 0) (.slice none 0 0) 50
    have pr : Below w.heap.size w (w.alloc (.cells #[.bool false, .slice none 0 0, .slice none 0 0] 50)) := (Below.refl _ _).alloc (Nat.le_refl _) _
    go_enter Tryz.func20, Tryz.ntmps20
    go_wp2_with (first
      | (go_at_call 45; go_must (refine (O _).mono ?_; rintro e w1 ⟨r, xs, rfl, hr, hn, hv, b1⟩; obtain ⟨a1, m1, c1, rfl⟩ := hr.shape; have HVX : Hid (val xs = (q : Int)) := hv; clear hv))
      | (go_at_call 48; go_must (refine (OfWhole_any true _ xs _ hr hn).mono ?_; rw [show (true && !decide (val xs = 0)) = true from (by rw [HVX.out]; simp; try exact HK.out.2)]; rintro e w2 ⟨r2, ys, rfl, hr1, hr2, hn2, hv2, b2⟩; obtain ⟨a2, m2, c2, rfl⟩ := hr2.shape; have HV2 : Hid (val ys = 1) := hv2; clear hv2; have bb := bel' b1 b2; have R := K1.grow bb; replace pr := bel' pr bb; have r0 := R.c0; have r1 := R.c1; have r2 := R.c2; have s0 := R.f0; have s1 := R.f1; have s2 := R.f2))
      | fail)
    obtain ⟨F0, F1, F2⟩ := R.put (.bool true) (.slice a1 m1 c1) (.slice a2 m2 c2)
    exact bodyPost_ret (v := .agg #[.bool true, .slice a1 m1 c1, .slice a2 m2 c2]) (by simp [results, Tryz.results20, go_sem, F0, F1, F2]) rfl ⟨_, _, xs, ys, by rw [HK.out.1], Rd.putF hr1 R, hn, HVX.out, Rd.putF hr2 R, hn2, HV2.out, bset3 pr (by omega)⟩
  · have e1 : IntKind.u64.wrap k = (k.natAbs : Int) := by rw [wrap_u64]; omega
    have HK : Hid (decide (k < 0) = false ∧ True) := ⟨decide_eq_false hk, trivial⟩
    generalize k.natAbs = q at *
    have K1 := Rb.new w (.bool false) (.slice none 0 0) (.slice none 0 0) 50
    have pr : Below w.heap.size w (w.alloc (.cells #[.bool false, .slice none 0 0, .slice none 0 0] 50)) := (Below.refl _ _).alloc (Nat.le_refl _) _
    go_enter Tryz.func20, Tryz.ntmps20
    go_wp2_with (first
      | (go_at_call 45; go_must (refine (O _).mono ?_; rintro e w1 ⟨r, xs, rfl, hr, hn, hv, b1⟩; obtain ⟨a1, m1, c1, rfl⟩ := hr.shape; have HVX : Hid (val xs = (q : Int)) := hv; clear hv))
      | (go_at_call 48; go_must (refine (OfWhole_any false _ xs _ hr hn).mono ?_; rw [show (false && !decide (val xs = 0)) = false from (by rw [HVX.out]; simp; try exact HK.out.2)]; rintro e w2 ⟨r2, ys, rfl, hr1, hr2, hn2, hv2, b2⟩; obtain ⟨a2, m2, c2, rfl⟩ := hr2.shape; have HV2 : Hid (val ys = 1) := hv2; clear hv2; have bb := bel' b1 b2; have R := K1.grow bb; replace pr := bel' pr bb; have r0 := R.c0; have r1 := R.c1; have r2 := R.c2; have s0 := R.f0; have s1 := R.f1; have s2 := R.f2))
      | fail)
    obtain ⟨F0, F1, F2⟩ := R.put (.bool false) (.slice a1 m1 c1) (.slice a2 m2 c2)
    exact bodyPost_ret (v := .agg #[.bool false, .slice a1 m1 c1, .slice a2 m2 c2]) (by simp [results, Tryz.results20, go_sem, F0, F1, F2]) rfl ⟨_, _, xs, ys, by rw [HK.out.1], Rd.putF hr1 R, hn, HVX.out, Rd.putF hr2 R, hn2, HV2.out, bset3 pr (by omega)⟩
end Go.Proofs.YtejfnplhimfchaaGreatDoor.Mo

namespace Go.Proofs.YtejfnplhimfchaaGreatDoor.Mo
open Go.RowKit Dc Tn

/-- s[z:], z nought. -/
theorem slice_l0 (g o len cap : Nat) (z : Int) (hz : z = 0) (h : 0 < cap) (w : World) :
    (Instr.slice 46 (.slice (some ⟨g, o, none⟩) len cap) (some (.int .i64 z)) none none).run Tryz.prog w = .ok (.slice (some ⟨g, o, none⟩) len cap) w := by
  subst hz
  rw [run_slice_l w 46 _ len cap (by rw [Tryz.elemU]; exact Tryz.underlying46) .i64 _ (by omega) (by omega), Tryz.elemU]
  have e2 : ¬ cap = 0 := by omega
  simp [Tryz.sizeOf75, Result.andThen, sliced, e2, Addr.add]
set_option maxHeartbeats 800000 in
set_option maxRecDepth 100000 in
theorem shl_walk (k z r : Int) (v : Value) (xs : List Int) (w : World) (h : Rd w v xs) (n : Nm xs) (hL : xs.length ≤ 274877906944) (hq : Int.tdiv k 64 = z) (hm : Int.tmod k 64 = r) (hz1 : IntKind.i64.wrap z = z) (hw1 : IntKind.i64.wrap (z + (xs.length : Int)) = (xs.length : Int)) (HZ : Hid (z = 0 ∧ r = 1)) :
    Calls Tryz.prog 55 #[.agg #[v], .int .i64 k] w fun e w' => ∃ r zs, e = .returned (.agg #[r]) ∧ Rd w' r zs ∧ Nm zs ∧ val zs = val xs * 2 ∧ zs.length ≤ xs.length + 1 ∧ Below w.heap.size w w' := by
  have H : Hid (Rd w v xs) := h
  obtain ⟨wx, a, c, rfl, _, _, g⟩ := h
  have K0 := (Bx.new w (.slice a xs.length c) 48).alloc (.cells #[.slice none 0 0] 48)
  have K1 := Bx.new (w.alloc (.cells #[.slice a xs.length c] 48)) (.slice none 0 0) 48
  simp only [World.size_alloc] at K1
  have pr : Below w.heap.size w ((w.alloc (.cells #[.slice a xs.length c] 48)).alloc (.cells #[.slice none 0 0] 48)) := ((Below.refl _ _).alloc (Nat.le_refl _) _).alloc (by simp) _
  by_cases h0 : xs = []
  · subst h0
    go_enter Tryz.func55, Tryz.ntmps55
    go_wp2_with (go_at_call 51; refine (iszero_len a _ _ _).mono ?_; rintro e w1 ⟨rfl, hb⟩; have X0 := K0.below hb; have X1 := K1.below hb; have x0 := X0.1; have x1 := X1.1; have f1 := X1.2)
    have S2 := (X1.set (.slice a ([] : List Int).length c)).1
    refine bodyPost_ret (v := .agg #[.slice a ([] : List Int).length c]) (by simp [results, Tryz.results55, go_sem] at S2 ⊢; simp [S2]) rfl ⟨_, [], rfl, ((H.out.grow pr).grow hb).box X1, n, by simp [val], by simp, below_put (bel' pr hb) (by omega) _⟩
  · have hl : 0 < xs.length := List.length_pos_iff.2 h0
    have hzl : (xs.length == 0) = false := by rw [beq_eq_false_iff_ne]; omega
    clear h0
    go_enter Tryz.func55, Tryz.ntmps55
    go_wp2_with (first
      | (go_at_call 51; refine (iszero_len a _ _ _).mono ?_; rw [hzl]; rintro e w1 ⟨rfl, hb⟩; have X0 := K0.below hb; have X1 := K1.below hb; have x0 := X0.1; have q1 := bel' pr hb)
      | (at_make; refine wpList_make_wordsN rfl _ _ rfl (xs.length + 1) _ _ rfl rfl (by simp) (by simp) (by omega) ?_; intro w3 k1 k2 k3 k4; have Y0 := X0.below k3; have Y1 := X1.below k3; have y0 := Y0.1; have q3 := bel' q1 k3)
      | fail)
    have lt1 := X1.lt
    have kk1 : Hid (Cells w3 w1.heap.size 0 (List.replicate (xs.length + 1) 0)) := k1
    have kk2 : Hid (OwnN w3 w1.heap.size (xs.length + 1)) := k2
    clear k1 k2
    obtain ⟨N, hN⟩ : ∃ N, xs.length + 1 = N := ⟨_, rfl⟩
    rw [hN]
    have HN : Hid (xs.length + 1 = N) := hN
    have n0 : ¬ N = 0 := by omega
    have n1 : ¬ 0 = N := by omega
    clear hN
    have hsl := slice_l0 w1.heap.size 0 N N z HZ.out.1 (by omega)
    have A : ∃ b2 o2, a = some ⟨b2, o2, none⟩ ∧ b2 ≠ w1.heap.size ∧ Cells w3 b2 o2 xs := by
      obtain ⟨b2, o2, e, cc⟩ := g hl
      have := cc.lt hl
      have := q1.size
      exact ⟨b2, o2, e, by omega, cc.grow q3⟩
    have S := shiftInto_any w1.heap.size 0 N N (List.replicate (xs.length + 1) 0) a c xs.length xs 1 w3.drew (by simp [HN.out]) rfl (Wd.zeros _) wx (by simp) (by omega) (by simp; omega) kk1.out.drew kk2.out.own.drew (fun _ => by obtain ⟨b2, o2, e, ne, cc⟩ := A; exact ⟨b2, o2, e, ne, cc.drew⟩)
    rw [show ((1 : Nat) : Int) = r from HZ.out.2.symm] at S
    clear hb k3 A g
    go_region_held3 (fun x => x.cell? ⟨w.heap.size, 0, none⟩ = some (.slice a xs.length c)) (go_keep) (first | (go_at_call 79; refine S.mono ?_; rintro e w6 ⟨X, rfl, hXl, hXw, hXv, hXc, hXr⟩; have hXr2 := hXr.undrew; have z0 := (Y0.wr hXr2 (by omega)).1) | fail)
    have s1 := q1.size
    have q6 : Below w.heap.size w w6 := q3.trans (hXr2.below (B := w.heap.size) (by omega) (by omega))
    have Z1 := Y1.wr hXr2 (by omega)
    have eN : N = X.length := by rw [hXl]; exact HN.out.symm
    have T := trim_rd (some ⟨w1.heap.size, 0, none⟩) N N X w6 eN hXw (by omega) (by have := HN.out; omega) (fun _ => ⟨_, _, rfl, hXc⟩)
    have HV : Hid (val X = val xs * 2 ^ 1) := hXv
    have HL : Hid (X.length = xs.length + 1) := hXl
    clear hXv hXl eN
    go_wp2_with (first
      | (go_at_call 68; go_must (refine T.mono ?_; rintro e w7 ⟨n7, zs, rfl, hzs, hrd, hnm, hvz, b7⟩; have U1 := Z1.below b7; have u1 := U1.1; have uf := U1.2; have q7 := bel' q6 b7))
      | fail)
    have S2 := (U1.set (.slice (some ⟨w1.heap.size, 0, none⟩) n7 N)).1
    exact bodyPost_ret (v := .agg #[.slice (some ⟨w1.heap.size, 0, none⟩) n7 N]) (by simp [results, Tryz.results55, go_sem, S2]) rfl ⟨_, zs, rfl, hrd.box U1, hnm, by rw [hvz, HV.out]; rfl, by rw [hzs, List.length_take, HL.out]; omega, below_put q7 (by omega) _⟩
theorem ShiftLeft_one (v : Value) (xs : List Int) (w : World) (h : Rd w v xs) (n : Nm xs) (hL : xs.length ≤ 274877906944) :
    Calls Tryz.prog 55 #[.agg #[v], .int .i64 1] w fun e w' => ∃ r zs, e = .returned (.agg #[r]) ∧ Rd w' r zs ∧ Nm zs ∧ val zs = val xs * 2 ∧ zs.length ≤ xs.length + 1 ∧ Below w.heap.size w w' :=
  shl_walk 1 0 1 v xs w h n hL rfl rfl (by decide) (by rw [Int.zero_add]; exact IntWalk.i64_in _ (by omega)) ⟨rfl, rfl⟩
end Go.Proofs.YtejfnplhimfchaaGreatDoor.Mo
