import Derived.Test.YtebilgnmnambnaaGreatDoorPart25
import Derived.Test.YtebilgnmnambnaaGreatDoorPart26
import Derived.Deep.DeepCutAuto

namespace Go.Proofs.YtebilgnmnambnaaGreatDoor.Mo
open Go.RowKit Tn
set_option maxHeartbeats 1600000 in
set_option maxRecDepth 100000 in
theorem Mul_w1 (a1 a2 : Option Addr) (l1 c1 l2 c2 h : Nat) (T : Int) (w : World) (hb : l1 + l2 ≤ 1099511627776) (hle : l2 ≤ l1) (h80 : 80 ≤ l2) (hh : (l1 + 1) / 2 = h) (hc : l2 ≤ h)
    (CP : ∀ x, Below w.heap.size w x → Calls Tryz.prog 121 #[.agg #[.slice a1 l1 c1], .agg #[.slice a2 l2 c2], .int .i64 h] x fun e w' => ∃ a l c, e = .returned (.agg #[.slice a l c]) ∧ Nn w' a l c (T) ∧ Below x.heap.size x w' ∧ FrA x.heap.size (.slice a l c)) :
    Calls Tryz.prog 64 #[.agg #[.slice a1 l1 c1], .agg #[.slice a2 l2 c2]] w fun e w' => ∃ a l c, e = .returned (.agg #[.slice a l c]) ∧ Nn w' a l c (T) ∧ Below w.heap.size w w' ∧ FrA w.heap.size (.slice a l c) := by
  have pr : Below w.heap.size w (((w.alloc (.cells #[.slice a1 l1 c1] 65)).alloc (.cells #[.slice a2 l2 c2] 65)).alloc (.cells #[.slice none 0 0] 65)) := (((Below.refl _ _).alloc (Nat.le_refl _) _).alloc (by simp) _).alloc (by simp; omega) _
  have KR := Bx.new ((w.alloc (.cells #[.slice a1 l1 c1] 65)).alloc (.cells #[.slice a2 l2 c2] 65)) (.slice none 0 0) 65
  simp only [World.size_alloc] at KR
  have q1 : ¬ (l1 : Int) < (l2 : Int) := by omega
  have q2 : ¬ (l2 : Int) < 80 := by omega
  have q3 : IntKind.i64.wrap ((l1 : Int) + 1) = (l1 : Int) + 1 := IntWalk.i64_in _ (by omega)
  have q4 : ((l1 : Int) + 1).tdiv 2 = (h : Int) := by rw [Int.tdiv_eq_ediv_of_nonneg (by omega)]; omega
  have q4' : ((l1 : Int) + 1) / 2 = (h : Int) := by omega
  have q5 : IntKind.i64.wrap (h : Int) = (h : Int) := IntWalk.i64_in _ (by omega)
  have q6 : (l2 : Int) ≤ (h : Int) := by omega
  clear hh hc hle h80
  go_enter Tryz.func64, Tryz.ntmps64
  go_wp2_with (first
    | (go_at_call 121; refine (CP _ pr).mono ?_; rintro e w4 ⟨ra, rl, rc, rfl, nT, d4, fr⟩; have K4 := KR.below d4; have v1 := K4.1; have v2 := K4.2)
    | fail)
  have NF := nT.box (u := .slice ra rl rc) K4
  have KE := K4.set (.slice ra rl rc)
  have BE := below_put (bel' pr d4) (show w.heap.size ≤ w.heap.size + 1 + 1 by omega) (.slice ra rl rc)
  generalize w4.setCell ⟨w.heap.size + 1 + 1, 0, none⟩ (.slice ra rl rc) = WE at *
  have g1 := KE.1
  exact bodyPost_ret (v := .agg #[.slice ra rl rc]) (by simp [results, Tryz.results64, go_sem, g1]) rfl ⟨_, _, _, rfl, NF, BE, fun b o l c e => Nat.le_trans pr.size (fr b o l c e)⟩
set_option maxHeartbeats 1600000 in
set_option maxRecDepth 100000 in
theorem Mul_w2 (a1 a2 : Option Addr) (l1 c1 l2 c2 h : Nat) (T : Int) (w : World) (hb : l1 + l2 ≤ 1099511627776) (hle : l1 < l2) (h80 : 80 ≤ l1) (hh : (l2 + 1) / 2 = h) (hc : l1 ≤ h)
    (CP : ∀ x, Below w.heap.size w x → Calls Tryz.prog 121 #[.agg #[.slice a2 l2 c2], .agg #[.slice a1 l1 c1], .int .i64 h] x fun e w' => ∃ a l c, e = .returned (.agg #[.slice a l c]) ∧ Nn w' a l c (T) ∧ Below x.heap.size x w' ∧ FrA x.heap.size (.slice a l c)) :
    Calls Tryz.prog 64 #[.agg #[.slice a1 l1 c1], .agg #[.slice a2 l2 c2]] w fun e w' => ∃ a l c, e = .returned (.agg #[.slice a l c]) ∧ Nn w' a l c (T) ∧ Below w.heap.size w w' ∧ FrA w.heap.size (.slice a l c) := by
  have pr : Below w.heap.size w (((w.alloc (.cells #[.slice a2 l2 c2] 65)).alloc (.cells #[.slice a1 l1 c1] 65)).alloc (.cells #[.slice none 0 0] 65)) := (((Below.refl _ _).alloc (Nat.le_refl _) _).alloc (by simp) _).alloc (by simp; omega) _
  have KR := Bx.new ((w.alloc (.cells #[.slice a2 l2 c2] 65)).alloc (.cells #[.slice a1 l1 c1] 65)) (.slice none 0 0) 65
  simp only [World.size_alloc] at KR
  have q1 : (l1 : Int) < (l2 : Int) := by omega
  have q2 : ¬ (l1 : Int) < 80 := by omega
  have q3 : IntKind.i64.wrap ((l2 : Int) + 1) = (l2 : Int) + 1 := IntWalk.i64_in _ (by omega)
  have q4 : ((l2 : Int) + 1).tdiv 2 = (h : Int) := by rw [Int.tdiv_eq_ediv_of_nonneg (by omega)]; omega
  have q4' : ((l2 : Int) + 1) / 2 = (h : Int) := by omega
  have q5 : IntKind.i64.wrap (h : Int) = (h : Int) := IntWalk.i64_in _ (by omega)
  have q6 : (l1 : Int) ≤ (h : Int) := by omega
  clear hh hc hle h80
  go_enter Tryz.func64, Tryz.ntmps64
  go_wp2_with (first
    | (go_at_call 121; refine (CP _ pr).mono ?_; rintro e w4 ⟨ra, rl, rc, rfl, nT, d4, fr⟩; have K4 := KR.below d4; have v1 := K4.1; have v2 := K4.2)
    | fail)
  have NF := nT.box (u := .slice ra rl rc) K4
  have KE := K4.set (.slice ra rl rc)
  have BE := below_put (bel' pr d4) (show w.heap.size ≤ w.heap.size + 1 + 1 by omega) (.slice ra rl rc)
  generalize w4.setCell ⟨w.heap.size + 1 + 1, 0, none⟩ (.slice ra rl rc) = WE at *
  have g1 := KE.1
  exact bodyPost_ret (v := .agg #[.slice ra rl rc]) (by simp [results, Tryz.results64, go_sem, g1]) rfl ⟨_, _, _, rfl, NF, BE, fun b o l c e => Nat.le_trans pr.size (fr b o l c e)⟩
set_option maxHeartbeats 1600000 in
set_option maxRecDepth 100000 in
theorem Mul_w3 (a1 a2 : Option Addr) (l1 c1 l2 c2 h : Nat) (T : Int) (w : World) (hb : l1 + l2 ≤ 1099511627776) (hle : l2 ≤ l1) (h80 : 80 ≤ l2) (hh : (l1 + 1) / 2 = h) (hc : ¬ l2 ≤ h)
    (CP : ∀ x, Below w.heap.size w x → Calls Tryz.prog 122 #[.agg #[.slice a1 l1 c1], .agg #[.slice a2 l2 c2], .int .i64 h] x fun e w' => ∃ a l c, e = .returned (.agg #[.slice a l c]) ∧ Nn w' a l c (T) ∧ Below x.heap.size x w' ∧ FrA x.heap.size (.slice a l c)) :
    Calls Tryz.prog 64 #[.agg #[.slice a1 l1 c1], .agg #[.slice a2 l2 c2]] w fun e w' => ∃ a l c, e = .returned (.agg #[.slice a l c]) ∧ Nn w' a l c (T) ∧ Below w.heap.size w w' ∧ FrA w.heap.size (.slice a l c) := by
  have pr : Below w.heap.size w (((w.alloc (.cells #[.slice a1 l1 c1] 65)).alloc (.cells #[.slice a2 l2 c2] 65)).alloc (.cells #[.slice none 0 0] 65)) := (((Below.refl _ _).alloc (Nat.le_refl _) _).alloc (by simp) _).alloc (by simp; omega) _
  have KR := Bx.new ((w.alloc (.cells #[.slice a1 l1 c1] 65)).alloc (.cells #[.slice a2 l2 c2] 65)) (.slice none 0 0) 65
  simp only [World.size_alloc] at KR
  have q1 : ¬ (l1 : Int) < (l2 : Int) := by omega
  have q2 : ¬ (l2 : Int) < 80 := by omega
  have q3 : IntKind.i64.wrap ((l1 : Int) + 1) = (l1 : Int) + 1 := IntWalk.i64_in _ (by omega)
  have q4 : ((l1 : Int) + 1).tdiv 2 = (h : Int) := by rw [Int.tdiv_eq_ediv_of_nonneg (by omega)]; omega
  have q4' : ((l1 : Int) + 1) / 2 = (h : Int) := by omega
  have q5 : IntKind.i64.wrap (h : Int) = (h : Int) := IntWalk.i64_in _ (by omega)
  have q6 : ¬ (l2 : Int) ≤ (h : Int) := by omega
  clear hh hc hle h80
  go_enter Tryz.func64, Tryz.ntmps64
  go_wp2_with (first
    | (go_at_call 122; refine (CP _ pr).mono ?_; rintro e w4 ⟨ra, rl, rc, rfl, nT, d4, fr⟩; have K4 := KR.below d4; have v1 := K4.1; have v2 := K4.2)
    | fail)
  have NF := nT.box (u := .slice ra rl rc) K4
  have KE := K4.set (.slice ra rl rc)
  have BE := below_put (bel' pr d4) (show w.heap.size ≤ w.heap.size + 1 + 1 by omega) (.slice ra rl rc)
  generalize w4.setCell ⟨w.heap.size + 1 + 1, 0, none⟩ (.slice ra rl rc) = WE at *
  have g1 := KE.1
  exact bodyPost_ret (v := .agg #[.slice ra rl rc]) (by simp [results, Tryz.results64, go_sem, g1]) rfl ⟨_, _, _, rfl, NF, BE, fun b o l c e => Nat.le_trans pr.size (fr b o l c e)⟩
set_option maxHeartbeats 1600000 in
set_option maxRecDepth 100000 in
theorem Mul_w4 (a1 a2 : Option Addr) (l1 c1 l2 c2 h : Nat) (T : Int) (w : World) (hb : l1 + l2 ≤ 1099511627776) (hle : l1 < l2) (h80 : 80 ≤ l1) (hh : (l2 + 1) / 2 = h) (hc : ¬ l1 ≤ h)
    (CP : ∀ x, Below w.heap.size w x → Calls Tryz.prog 122 #[.agg #[.slice a2 l2 c2], .agg #[.slice a1 l1 c1], .int .i64 h] x fun e w' => ∃ a l c, e = .returned (.agg #[.slice a l c]) ∧ Nn w' a l c (T) ∧ Below x.heap.size x w' ∧ FrA x.heap.size (.slice a l c)) :
    Calls Tryz.prog 64 #[.agg #[.slice a1 l1 c1], .agg #[.slice a2 l2 c2]] w fun e w' => ∃ a l c, e = .returned (.agg #[.slice a l c]) ∧ Nn w' a l c (T) ∧ Below w.heap.size w w' ∧ FrA w.heap.size (.slice a l c) := by
  have pr : Below w.heap.size w (((w.alloc (.cells #[.slice a2 l2 c2] 65)).alloc (.cells #[.slice a1 l1 c1] 65)).alloc (.cells #[.slice none 0 0] 65)) := (((Below.refl _ _).alloc (Nat.le_refl _) _).alloc (by simp) _).alloc (by simp; omega) _
  have KR := Bx.new ((w.alloc (.cells #[.slice a2 l2 c2] 65)).alloc (.cells #[.slice a1 l1 c1] 65)) (.slice none 0 0) 65
  simp only [World.size_alloc] at KR
  have q1 : (l1 : Int) < (l2 : Int) := by omega
  have q2 : ¬ (l1 : Int) < 80 := by omega
  have q3 : IntKind.i64.wrap ((l2 : Int) + 1) = (l2 : Int) + 1 := IntWalk.i64_in _ (by omega)
  have q4 : ((l2 : Int) + 1).tdiv 2 = (h : Int) := by rw [Int.tdiv_eq_ediv_of_nonneg (by omega)]; omega
  have q4' : ((l2 : Int) + 1) / 2 = (h : Int) := by omega
  have q5 : IntKind.i64.wrap (h : Int) = (h : Int) := IntWalk.i64_in _ (by omega)
  have q6 : ¬ (l1 : Int) ≤ (h : Int) := by omega
  clear hh hc hle h80
  go_enter Tryz.func64, Tryz.ntmps64
  go_wp2_with (first
    | (go_at_call 122; refine (CP _ pr).mono ?_; rintro e w4 ⟨ra, rl, rc, rfl, nT, d4, fr⟩; have K4 := KR.below d4; have v1 := K4.1; have v2 := K4.2)
    | fail)
  have NF := nT.box (u := .slice ra rl rc) K4
  have KE := K4.set (.slice ra rl rc)
  have BE := below_put (bel' pr d4) (show w.heap.size ≤ w.heap.size + 1 + 1 by omega) (.slice ra rl rc)
  generalize w4.setCell ⟨w.heap.size + 1 + 1, 0, none⟩ (.slice ra rl rc) = WE at *
  have g1 := KE.1
  exact bodyPost_ret (v := .agg #[.slice ra rl rc]) (by simp [results, Tryz.results64, go_sem, g1]) rfl ⟨_, _, _, rfl, NF, BE, fun b o l c e => Nat.le_trans pr.size (fr b o l c e)⟩
end Go.Proofs.YtebilgnmnambnaaGreatDoor.Mo

namespace Go.Proofs.YtebilgnmnambnaaGreatDoor.Mo
open Go.RowKit Tn
theorem Nn.lt {x : World} {a : Option Addr} {l c : Nat} {V : Int} (h : Nn x a l c V) : V < pw l := by
  obtain ⟨Y, wY, _, vY, eY, _⟩ := h.words
  rw [← vY, eY.out]
  exact val_lt wY
theorem Nn.len_le {x : World} {a : Option Addr} {l c n : Nat} {V : Int} (h : Nn x a l c V) (hV : V < pw n) : l ≤ n := by
  obtain ⟨Y, wY, nY, vY, eY, _⟩ := h.words
  rw [eY.out]
  exact len_of wY nY (by rw [vY]; exact hV)
theorem mul_pw {A B : Int} {m n : Nat} (a0 : 0 ≤ A) (b0 : 0 ≤ B) (hA : A < pw m) (hB : B < pw n) : 0 ≤ A * B ∧ A * B < pw (m + n) := by
  rw [pw_add]
  exact ⟨Int.mul_nonneg a0 b0, Int.mul_lt_mul' (Int.le_of_lt hA) hB b0 (pw_pos m)⟩
theorem split_pw (A : Int) (n : Nat) {m : Nat} (a0 : 0 ≤ A) (hA : A < pw (n + m)) : A = A % pw n + pw n * (A / pw n) ∧ 0 ≤ A % pw n ∧ A % pw n < pw n ∧ 0 ≤ A / pw n ∧ A / pw n < pw m := by
  have pp := pw_pos n
  refine ⟨(Int.emod_add_mul_ediv A (pw n)).symm, Int.emod_nonneg _ (by omega), Int.emod_lt_of_pos _ pp, Int.ediv_nonneg a0 (by omega), ?_⟩
  rw [pw_add] at hA
  exact Int.ediv_lt_of_lt_mul pp (by rwa [Int.mul_comm] at hA)
theorem pw_le {m n : Nat} {V : Int} (h : V < pw m) (k : m ≤ n) : V < pw n := by have := pw_mono k; omega
theorem halves (AL AH BL BH : Int) (h m n : Nat) (a0 : 0 ≤ AL) (a1 : 0 ≤ AH) (b0 : 0 ≤ BL) (b1 : 0 ≤ BH) (T : Int) (hT : T = (AL + pw h * AH) * (BL + pw h * BH)) (lt : T < pw (h + n)) (_ : m = m) :
    T = AL * BL + pw (2 * h) * (AH * BH) + pw h * (((AL + AH) * (BL + BH) - AL * BL) - AH * BH) ∧ AL * BL ≤ (AL + AH) * (BL + BH) ∧ AH * BH ≤ (AL + AH) * (BL + BH) - AL * BL ∧ ((AL + AH) * (BL + BH) - AL * BL) - AH * BH < pw n := by
  have e2 : pw (2 * h) = pw h * pw h := by rw [← pw_add]; congr 1; omega
  have p := pw_pos h
  have x1 := Int.mul_nonneg a0 b0
  have x2 := Int.mul_nonneg a1 b1
  have x3 := Int.mul_nonneg a0 b1
  have x4 := Int.mul_nonneg a1 b0
  have s : (AL + AH) * (BL + BH) = AL * BL + AL * BH + AH * BL + AH * BH := by grind
  have t : T = AL * BL + pw h * pw h * (AH * BH) + pw h * (AL * BH + AH * BL) := by rw [hT]; grind
  have d : ((AL + AH) * (BL + BH) - AL * BL) - AH * BH = AL * BH + AH * BL := by omega
  rw [e2, d]
  refine ⟨t, by omega, by omega, ?_⟩
  have y1 := Int.mul_nonneg (Int.mul_nonneg (Int.le_of_lt p) (Int.le_of_lt p)) x2
  have key : pw h * (AL * BH + AH * BL) < pw h * pw n := by
    rw [← pw_add]
    omega
  exact Int.lt_of_mul_lt_mul_left key (Int.le_of_lt p)
theorem Mul_all (N : Nat) : ∀ (a1 : Option Addr) (l1 c1 : Nat) (a2 : Option Addr) (l2 c2 : Nat) (A B : Int) (x : World), l1 + l2 ≤ N → l1 + l2 ≤ 900000 → Nn x a1 l1 c1 A → Nn x a2 l2 c2 B →
    Calls Tryz.prog 64 #[.agg #[.slice a1 l1 c1], .agg #[.slice a2 l2 c2]] x fun e w' => ∃ a l c, e = .returned (.agg #[.slice a l c]) ∧ Nn w' a l c (A * B) ∧ Below x.heap.size x w' ∧ FrA x.heap.size (.slice a l c) := by
  induction N with
  | zero =>
    intro a1 l1 c1 a2 l2 c2 A B x h1 _ k1 k2
    obtain ⟨xs, r1, n1, rfl⟩ := k1
    obtain ⟨ys, r2, n2, rfl⟩ := k2
    have e1 := len_of r1.1 n1 (n := xs.length) (val_lt r1.1)
    obtain ⟨_, _, _, q1, _⟩ := id r1
    obtain ⟨_, _, _, q2, _⟩ := id r2
    have z1 : l1 = xs.length := by injection q1
    have z2 : l2 = ys.length := by injection q2
    refine (Mul_shortF _ _ xs ys x r1 r2 (by omega) (by omega) (by omega)).mono ?_
    rintro e w' ⟨r, zs, rfl, hr, hn, hv, b, f⟩
    obtain ⟨a, l, c, rfl⟩ := hr.shape
    exact ⟨a, l, c, rfl, ⟨zs, hr, hn, hv⟩, b, f⟩
  | succ N ih =>
    intro a1 l1 c1 a2 l2 c2 A B x h1 hb k1 k2
    by_cases hs : l1 < 80 ∨ l2 < 80
    · obtain ⟨xs, r1, n1, rfl⟩ := k1
      obtain ⟨ys, r2, n2, rfl⟩ := k2
      obtain ⟨_, _, _, q1, _⟩ := id r1
      obtain ⟨_, _, _, q2, _⟩ := id r2
      have z1 : l1 = xs.length := by injection q1
      have z2 : l2 = ys.length := by injection q2
      refine (Mul_shortF _ _ xs ys x r1 r2 (by omega) (by omega) (by omega)).mono ?_
      rintro e w' ⟨r, zs, rfl, hr, hn, hv, b, f⟩
      obtain ⟨a, l, c, rfl⟩ := hr.shape
      exact ⟨a, l, c, rfl, ⟨zs, hr, hn, hv⟩, b, f⟩
    · -- the greater one first
      have PIECE : ∀ (a1 : Option Addr) (l1 c1 : Nat) (a2 : Option Addr) (l2 c2 : Nat) (A B : Int) (y : World), l1 + l2 ≤ N + 1 → l1 + l2 ≤ 900000 → 80 ≤ l2 → l2 ≤ l1 → l2 ≤ (l1 + 1) / 2 → Nn y a1 l1 c1 A → Nn y a2 l2 c2 B →
          Calls Tryz.prog 121 #[.agg #[.slice a1 l1 c1], .agg #[.slice a2 l2 c2], .int .i64 (((l1 + 1) / 2 : Nat) : Int)] y fun e w' => ∃ a l c, e = .returned (.agg #[.slice a l c]) ∧ Nn w' a l c (A * B) ∧ Below y.heap.size y w' ∧ FrA y.heap.size (.slice a l c) := by
        intro a1 l1 c1 a2 l2 c2 A B y h1 hb h80 hle hc k1 k2
        obtain ⟨h, hh⟩ : ∃ h, (l1 + 1) / 2 = h := ⟨_, rfl⟩
        rw [hh] at hc ⊢
        have A0 := k1.nonneg
        have B0 := k2.nonneg
        have AL := k1.lt
        have BL := k2.lt
        obtain ⟨sp, m0, m1, m2, m3⟩ := split_pw A h (m := l1 - h) A0 (by rw [show h + (l1 - h) = l1 by omega]; exact AL)
        refine mulPiecewise_raw a1 a2 l1 c1 l2 c2 h (A % pw h) (A / pw h) (A % pw h * B) (A / pw h * B) (A * B) y B k2 (by omega) (by omega) (by omega) ?_ ?_ ?_ ?_ ?_ ?_ ?_
        · intro z b
          exact cut_n (k1.grow b) h (by omega) (by omega)
        · intro z a l c u v
          have := u.len_le m1
          exact ih a l c a2 l2 c2 _ _ z (by omega) (by omega) u v
        · intro z a l c u v
          have := u.len_le m3
          exact ih a l c a2 l2 c2 _ _ z (by omega) (by omega) u v
        · rw [← Int.mul_assoc, ← Int.add_mul, ← sp]
        · exact (mul_pw A0 B0 AL BL).2
        · exact pw_le (mul_pw m0 B0 m1 BL).2 (by omega)
        · exact pw_le (mul_pw m2 B0 m3 BL).2 (by omega)
      have HALF : ∀ (a1 : Option Addr) (l1 c1 : Nat) (a2 : Option Addr) (l2 c2 : Nat) (A B : Int) (y : World), l1 + l2 ≤ N + 1 → l1 + l2 ≤ 900000 → 80 ≤ l2 → l2 ≤ l1 → ¬ l2 ≤ (l1 + 1) / 2 → Nn y a1 l1 c1 A → Nn y a2 l2 c2 B →
          Calls Tryz.prog 122 #[.agg #[.slice a1 l1 c1], .agg #[.slice a2 l2 c2], .int .i64 (((l1 + 1) / 2 : Nat) : Int)] y fun e w' => ∃ a l c, e = .returned (.agg #[.slice a l c]) ∧ Nn w' a l c (A * B) ∧ Below y.heap.size y w' ∧ FrA y.heap.size (.slice a l c) := by
        intro a1 l1 c1 a2 l2 c2 A B y h1 hb h80 hle hc k1 k2
        obtain ⟨h, hh⟩ : ∃ h, (l1 + 1) / 2 = h := ⟨_, rfl⟩
        rw [hh] at hc ⊢
        have A0 := k1.nonneg
        have B0 := k2.nonneg
        have AL := k1.lt
        have BL := k2.lt
        obtain ⟨sp, m0, m1, m2, m3⟩ := split_pw A h (m := l1 - h) A0 (by rw [show h + (l1 - h) = l1 by omega]; exact AL)
        obtain ⟨sq, n0, n1, n2, n3⟩ := split_pw B h (m := l2 - h) B0 (by rw [show h + (l2 - h) = l2 by omega]; exact BL)
        have CA := fun (z : World) (b : Below y.heap.size y z) => cut_n (k1.grow b) h (by omega) (by omega)
        have CB := fun (z : World) (b : Below y.heap.size y z) => cut_n (k2.grow b) h (by omega) (by omega)
        generalize A % pw h = X0 at *
        generalize A / pw h = X1 at *
        generalize B % pw h = Y0 at *
        generalize B / pw h = Y1 at *
        have tl := (mul_pw A0 B0 AL BL).2
        obtain ⟨t1, t2, t3, t4⟩ := halves X0 X1 Y0 Y1 h 0 (l1 + l2 - h) m0 m2 n0 n2 (A * B) (by rw [sp, sq]) (by rw [show h + (l1 + l2 - h) = l1 + l2 by omega]; exact tl) rfl
        have e1 : pw 1 = 18446744073709551616 := by decide
        have ad : ∀ {U V : Int}, 0 ≤ U → U < pw h → V < pw h → U + V < pw (h + 1) := fun u0 u v => by rw [pw_add, e1]; omega
        have m3' : X1 < pw h := pw_le m3 (by omega)
        have n3' : Y1 < pw h := pw_le n3 (by omega)
        have s1 := ad m0 m1 m3'
        have s2 := ad n0 n1 n3'
        have mm := mul_pw (show 0 ≤ X0 + X1 by omega) (show 0 ≤ Y0 + Y1 by omega) s1 s2
        have lw := mul_pw m0 n0 m1 n1
        have hg := mul_pw m2 n2 m3 n3
        have IH : ∀ (z : World) (a : Option Addr) (l c : Nat) (a' : Option Addr) (l' c' : Nat) (U V : Int), l + l' ≤ N → l + l' ≤ 900000 → Nn z a l c U → Nn z a' l' c' V → Calls Tryz.prog 64 #[.agg #[.slice a l c], .agg #[.slice a' l' c']] z fun e w' => ∃ a l c, e = .returned (.agg #[.slice a l c]) ∧ Nn w' a l c (U * V) ∧ Below z.heap.size z w' := fun z a l c a' l' c' U V q1 q2 u v => by
          refine (ih a l c a' l' c' U V z q1 q2 u v).mono ?_
          rintro e w' ⟨a, l, c, rfl, k, b, _⟩
          exact ⟨a, l, c, rfl, k, b⟩
        refine mulByHalves_raw a1 a2 l1 c1 l2 c2 h X0 X1 Y0 Y1 (X0 * Y0) (X1 * Y1) (X0 + X1) (Y0 + Y1) ((X0 + X1) * (Y0 + Y1)) ((X0 + X1) * (Y0 + Y1) - X0 * Y0) ((X0 + X1) * (Y0 + Y1) - X0 * Y0 - X1 * Y1) (A * B) y (by omega) (by omega) (by omega) ?_ ?_ ?_ ?_ ?_ ?_ ?_ ?_ ?_ t1 tl ?_ ?_ t4
        · exact CA
        · exact CB
        · intro z a l c a' l' c' u v
          have := u.len_le m1
          have := v.len_le n1
          exact IH z a l c a' l' c' _ _ (by omega) (by omega) u v
        · intro z a l c a' l' c' u v
          have := u.len_le m3
          have := v.len_le n3
          exact IH z a l c a' l' c' _ _ (by omega) (by omega) u v
        · intro z a l c a' l' c' u v
          exact Add_n u v m1 m3' (by omega)
        · intro z a l c a' l' c' u v
          exact Add_n u v n1 n3' (by omega)
        · intro z a l c a' l' c' u v
          have := u.len_le s1
          have := v.len_le s2
          exact IH z a l c a' l' c' _ _ (by omega) (by omega) u v
        · intro z a l c a' l' c' u v
          exact Sub_n u v mm.2 (pw_le lw.2 (by omega)) (by omega) t2
        · intro z a l c a' l' c' u v
          exact Sub_n u v (show _ < pw (h + 1 + (h + 1)) by have := mm.2; have := lw.1; omega) (pw_le hg.2 (by omega)) (by omega) t3
        · rw [show 2 * h = h + h by omega]; exact lw.2
        · exact pw_le hg.2 (by omega)
      by_cases hle : l2 ≤ l1
      · by_cases hc : l2 ≤ (l1 + 1) / 2
        · exact Mul_w1 a1 a2 l1 c1 l2 c2 _ (A * B) x (by omega) hle (by omega) rfl hc (fun y b => PIECE a1 l1 c1 a2 l2 c2 A B y h1 hb (by omega) hle hc (k1.grow b) (k2.grow b))
        · exact Mul_w3 a1 a2 l1 c1 l2 c2 _ (A * B) x (by omega) hle (by omega) rfl hc (fun y b => HALF a1 l1 c1 a2 l2 c2 A B y h1 hb (by omega) hle hc (k1.grow b) (k2.grow b))
      · rw [Int.mul_comm A B]
        by_cases hc : l1 ≤ (l2 + 1) / 2
        · exact Mul_w2 a1 a2 l1 c1 l2 c2 _ (B * A) x (by omega) (by omega) (by omega) rfl hc (fun y b => PIECE a2 l2 c2 a1 l1 c1 B A y (by omega) (by omega) (by omega) (by omega) hc (k2.grow b) (k1.grow b))
        · exact Mul_w4 a1 a2 l1 c1 l2 c2 _ (B * A) x (by omega) (by omega) (by omega) rfl hc (fun y b => HALF a2 l2 c2 a1 l1 c1 B A y (by omega) (by omega) (by omega) (by omega) hc (k2.grow b) (k1.grow b))
end Go.Proofs.YtebilgnmnambnaaGreatDoor.Mo

namespace Go.Proofs.YtebilgnmnambnaaGreatDoor.Mo
open Go.RowKit Dc Tn
def MulOK (m n : Nat) : Prop := (m + n ≤ 900000 ∨ n + m ≤ 900000) ∧ m ≤ 1000000 ∧ n ≤ 1000000
theorem MulOK.le {m n m' n' : Nat} (h : MulOK m n) (a : m' ≤ m) (b : n' ≤ n) : MulOK m' n' := by
  unfold MulOK at *; omega
theorem Mul_n {a1 a2 : Option Addr} {l1 c1 l2 c2 : Nat} {A B : Int} {x : World} (h1 : Nn x a1 l1 c1 A) (h2 : Nn x a2 l2 c2 B) {m n : Nat} (hA : A < pw m) (hB : B < pw n) (hm : MulOK m n) :
    Calls Tryz.prog 64 #[.agg #[.slice a1 l1 c1], .agg #[.slice a2 l2 c2]] x fun e w' => ∃ a l c, e = .returned (.agg #[.slice a l c]) ∧ Nn w' a l c (A * B) ∧ Below x.heap.size x w' := by
  have k1 := h1.len_le hA
  have k2 := h2.len_le hB
  have := (hm.le k1 k2).1
  refine (Mul_all (l1 + l2) a1 l1 c1 a2 l2 c2 A B x (Nat.le_refl _) (by omega) h1 h2).mono ?_
  rintro e w' ⟨a, l, c, rfl, k, b, _⟩
  exact ⟨a, l, c, rfl, k, b⟩
end Go.Proofs.YtebilgnmnambnaaGreatDoor.Mo

namespace Go.Proofs.YtebilgnmnambnaaGreatDoor.Mo
open Go.RowKit Tn
def PF (x : World) (v : Value) (r : Rat) : Prop := ∃ a l c a' l' c', v = .agg #[.bool (decide (r.num < 0)), .slice a l c, .slice a' l' c'] ∧ Nn x a l c (r.num.natAbs : Int) ∧ Nn x a' l' c' (r.den : Int)
theorem PF.grow {x x' : World} {v : Value} {r : Rat} (h : PF x v r) (b : Below x.heap.size x x') : PF x' v r := by
  obtain ⟨a, l, c, a', l', c', e, h1, h2⟩ := h
  exact ⟨a, l, c, a', l', c', e, h1.grow b, h2.grow b⟩
def PS (r : Rat) (K : Nat) : Prop := (r.num.natAbs : Int) < pw K ∧ (r.den : Int) < pw K
theorem PS.mono {r : Rat} {m n : Nat} (h : PS r m) (hm : m ≤ n) : PS r n := by
  have := pw_mono hm
  exact ⟨by have := h.1; omega, by have := h.2; omega⟩
end Go.Proofs.YtebilgnmnambnaaGreatDoor.Mo

namespace Go.Proofs.YtebilgnmnambnaaGreatDoor.Mo
open Go.RowKit Tn
def Fa (r : Rat) (x : World) (e : Ending) (w' : World) : Prop := ∃ g a l c a' l' c', e = .returned (.agg #[.bool g, .slice a l c, .slice a' l' c']) ∧ PF w' (.agg #[.bool g, .slice a l c, .slice a' l' c']) r ∧ Below x.heap.size x w'
def Fr (r : Rat) (x : World) (e : Ending) (w' : World) : Prop := ∃ g a l c a' l' c', e = .returned (.tuple #[.agg #[.bool g, .slice a l c, .slice a' l' c'], .int .i64 0]) ∧ PF w' (.agg #[.bool g, .slice a l c, .slice a' l' c']) r ∧ Below x.heap.size x w'
theorem fa_of {P : Program} {f : Nat} {args : Array Value} {r : Rat} {x : World} (h : Calls P f args x fun e w' => ∃ v, e = .returned v ∧ PF w' v r ∧ Below x.heap.size x w') : Calls P f args x (Fa r x) := by
  refine h.mono ?_
  rintro e w' ⟨v, rfl, hp, b⟩
  obtain ⟨a, l, c, a', l', c', rfl, k1, k2⟩ := hp
  exact ⟨_, a, l, c, a', l', c', rfl, ⟨a, l, c, a', l', c', rfl, k1, k2⟩, b⟩
end Go.Proofs.YtebilgnmnambnaaGreatDoor.Mo
