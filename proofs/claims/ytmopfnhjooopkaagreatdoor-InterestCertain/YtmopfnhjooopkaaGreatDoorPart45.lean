import Derived.Test.YtmopfnhjooopkaaGreatDoorPart37
import Derived.Test.YtmopfnhjooopkaaGreatDoorPart41
import Derived.Test.YtmopfnhjooopkaaGreatDoorPart42
import Derived.Test.YtmopfnhjooopkaaGreatDoorPart43
import Derived.Test.YtmopfnhjooopkaaGreatDoorPart44
import Derived.Test.YtmopfnhjooopkaaGreatDoorPart11
import Derived.Test.YtmopfnhjooopkaaGreatDoorPart39
import Derived.Test.YtmopfnhjooopkaaGreatDoorPart31
import Derived.Test.YtmopfnhjooopkaaGreatDoorPart40

namespace Go.Proofs.YtmopfnhjooopkaaGreatDoor.Mo
open Go.RowKit Ip

set_option maxRecDepth 100000 in
set_option maxHeartbeats 3200000 in
theorem RValue_dn0 (k off : Int) (g : Rat) (am : Nat → Int) (N : Nat) (w : World) (hN : N ≤ 130) (hoff : off = 0) (ham : ∀ j : Nat, j < N → am (j + 1) = ((N : Int) + 1 - ((j : Int) + 1))) (OF : ∀ x (v : Int), -1000 ≤ v → v ≤ 1000 → Calls Tryz.prog 42 #[.int .i64 v] x (Qf (v : Rat) x)) (WO : ∀ x (n : Int), -400 ≤ n → n ≤ 400 → Calls Tryz.prog 144 #[.int .i64 k, .int .i64 n] x (Qf (gp g n) x)) (MU : ∀ x v1 v2 (n : Nat), n < N → L.IsQ x v1 (am (n + 1) : Rat) → L.IsQ x v2 (gp g (-((n : Int) + 1 - off))) → Calls Tryz.prog 60 #[v1, v2] x (Qf ((am (n + 1) : Rat) * gp g (-((n : Int) + 1 - off))) x)) (AD : ∀ x v1 v2 (n : Nat), n < N → L.IsQ x v1 (vs am g off n) → L.IsQ x v2 ((am (n + 1) : Rat) * gp g (-((n : Int) + 1 - off))) → Calls Tryz.prog 82 #[v1, v2] x (Qf (vs am g off (n + 1)) x)) : Calls Tryz.prog 89 #[.int .i64 3, .int .i64 k, .int .i64 (N : Int), .bool false] w (Qf (vs am g off N) w) := by
  have HO : Hid (off = 0) := hoff
  clear hoff
  have KR := Rb.new w (.bool false) (.slice none 0 0) (.slice none 0 0) 65
  have pr : Below w.heap.size w (w.alloc (.cells #[.bool false, .slice none 0 0, .slice none 0 0] 65)) := (Below.refl _ _).alloc (Nat.le_refl _) _
  go_enter Tryz.func89, Tryz.ntmps89
  go_wp2_with (first
    | (go_at_call 42; (refine (OF _ 0 (by decide) (by decide)).mono ?_); (rintro e w1 ⟨g1, a1, l1, c1, a1', l1', c1', rfl, t1, b1⟩); (have al := (Below.refl w1.heap.size w1).alloc (Nat.le_refl _) (.cells #[.bool g1, .slice a1 l1 c1, .slice a1' l1' c1'] 65)); (have bb := bel' b1 al); (have R1 := Rb.new w1 (.bool g1) (.slice a1 l1 c1) (.slice a1' l1' c1') 65); (have p1 := bel' pr bb); (have KR1 := KR.grow bb))
    | fail)
  have t1 := t1.grow al
  have HN : Hid (w.heap.size < w1.heap.size) := L.lt_of_cell (KR.grow b1).c0
  generalize w1.alloc (.cells #[.bool g1, .slice a1 l1 c1, .slice a1' l1' c1'] 65) = W1 at *
  generalize w1.heap.size = n9 at *
  clear KR pr b1 al bb
  go_loopw [10, 11, 12] (fun i _ _ wr => ∃ (j : Nat) (g1 : Bool) (a1 : Option Addr) (l1 c1 : Nat) (a1' : Option Addr) (l1' c1' : Nat), i = .int .i64 ((j : Int) + 1) ∧ j ≤ N ∧ Rb wr n9 (.bool g1) (.slice a1 l1 c1) (.slice a1' l1' c1') ∧ L.IsQ wr (.agg #[.bool g1, .slice a1 l1 c1, .slice a1' l1' c1']) (vs am g off j) ∧ Rb wr w.heap.size (.bool false) (.slice none 0 0) (.slice none 0 0) ∧ Below w.heap.size w wr) (fun i _ _ _ => N + 1 - (RowKit.intOf i).toNat)
  case atStart => exact ⟨0, g1, a1, l1, c1, a1', l1', c1', rfl, Nat.zero_le _, R1, t1, KR1, p1⟩
  case round =>
    clear R1 t1 KR1 p1
    obtain ⟨j, g1, a1, l1, c1, a1', l1', c1', rfl, hj, R1, t1, KR, p⟩ := hrel
    have hn := HN.out
    have q0 := R1.c0
    have q1 := R1.c1
    have q2 := R1.c2
    by_cases lt : j < N
    · have ea := ham j lt
      have eo : -((j : Int) + 1 - off) = -((j : Int) + 1) := by rw [HO.out]; omega
      have O1 := fun x => OF x ((N : Int) + 1 - ((j : Int) + 1)) (by omega) (by omega)
      have W2 := fun x => WO x (-((j : Int) + 1)) (by omega) (by omega)
      have M3 := fun x v1 v2 => MU x v1 v2 j lt
      have A4 := fun x v1 v2 => AD x v1 v2 j lt
      rw [ea, eo] at M3 A4
      have y9 : IntKind.i64.wrap ((j : Int) + 1 + 1) = ((j + 1 : Nat) : Int) + 1 := by rw [show (j : Int) + 1 + 1 = ((j + 1 : Nat) : Int) + 1 by omega]; exact wrapIc _ (by omega) (by omega)
      have HK : Hid (j + 1 ≤ N) := lt
      have x1 : IntKind.i64.wrap ((N : Int) + 1) = (N : Int) + 1 := wrapIc _ (by omega) (by omega)
      have x2 : IntKind.i64.wrap ((N : Int) + 1 - ((j : Int) + 1)) = (N : Int) + 1 - ((j : Int) + 1) := wrapIc _ (by omega) (by omega)
      skip
      have x4 : IntKind.i64.wrap (-((j : Int) + 1)) = -((j : Int) + 1) := wrapIc _ (by omega) (by omega)
      have lt' : (j : Int) + 1 ≤ (N : Int) := by omega
      generalize hT : ((j : Int) + 1) = T at *
      generalize hP : (((N : Int) + 1 - ((j : Int) + 1)) : Int) = P at *
      clear OF WO MU AD ham hN hj lt ea eo
      go_wp2_with fail
      go_region_with (first
        | (go_at_call 82; (have mk := d4); (refine (A4 _ _ _ (t1.grow d4) t4).mono ?_); (rintro e w5 ⟨g5, a5, l5, c5, a5', l5', c5', rfl, t5, b5⟩); (have d5 := bel' d4 b5); (have R5 := R1.grow d5); (have z0 := R5.c0); (have z1 := R5.c1); (have z2 := R5.c2); (have y0 := R5.f0); (have y1 := R5.f1); (have y2 := R5.f2))
        | (go_at_call 60; (have mk := d3); (refine (M3 _ _ _ (t2.grow b3) t3).mono ?_); (rintro e w4 ⟨g4, a4, l4, c4, a4', l4', c4', rfl, t4, b4⟩); (have d4 := bel' d3 b4); (have R4 := R1.grow d4); (have s0 := R4.c0); (have s1 := R4.c1); (have s2 := R4.c2))
        | (go_at_call 144; (have mk := d2); (refine (W2 _).mono ?_); (rintro e w3 ⟨g3, a3, l3, c3, a3', l3', c3', rfl, t3, b3⟩); (have d3 := bel' d2 b3); (have R3 := R1.grow d3); (have u0 := R3.c0); (have u1 := R3.c1); (have u2 := R3.c2))
        | (go_at_call 42; (refine (O1 _).mono ?_); (rintro e w2 ⟨g2, a2, l2, c2, a2', l2', c2', rfl, t2, b2⟩); (have d2 := undrew b2); (have R2 := R1.grow d2); (have v0 := R2.c0); (have v1 := R2.c1); (have v2 := R2.c2))
        | fail)
      all_goals
       have Rn := R5.sets (.bool g5) (.slice a5 l5 c5) (.slice a5' l5' c5')
       have tn := qput (x := .bool g5) (y := .slice a5 l5 c5) (z := .slice a5' l5' c5') t5 R5
       have KRn := (KR.grow d5).skip3 (show w.heap.size ≠ n9 by omega) (.bool g5) (.slice a5 l5 c5) (.slice a5' l5' c5')
       have pn := bset3 (x := .bool g5) (y := .slice a5 l5 c5) (z := .slice a5' l5' c5') (bel' p d5) (show w.heap.size ≤ n9 by omega)
       go_wp2_with fail
       go_roundw
       case rel => exact ⟨j + 1, g5, a5, l5, c5, a5', l5', c5', by go_num, HK.out, Rn, tn, KRn, pn⟩
       case measure => simp [RowKit.intOf]; have := HK.out; omega
    · obtain rfl : j = N := by omega
      have k0 := KR.c0
      have k1 := KR.c1
      have k2 := KR.c2
      have f0 := KR.f0
      have f1 := KR.f1
      have f2 := KR.f2
      have lt' : ¬ (j : Int) + 1 ≤ (j : Int) := by omega
      clear OF WO MU AD ham
      go_wp2_with fail
      obtain ⟨F0, F1, F2⟩ := KR.put (.bool g1) (.slice a1 l1 c1) (.slice a1' l1' c1')
      exact bodyPost_ret (v := .agg #[.bool g1, .slice a1 l1 c1, .slice a1' l1' c1']) (by simp [results, Tryz.results89, go_sem, F0, F1, F2]) rfl ⟨g1, a1, l1, c1, a1', l1', c1', rfl, qput t1 KR, bset3 p (Nat.le_refl _)⟩
set_option maxRecDepth 100000 in
set_option maxHeartbeats 3200000 in
theorem RValue_dn1 (k off : Int) (g : Rat) (am : Nat → Int) (N : Nat) (w : World) (hN : N ≤ 130) (hoff : off = 1) (ham : ∀ j : Nat, j < N → am (j + 1) = ((N : Int) + 1 - ((j : Int) + 1))) (OF : ∀ x (v : Int), -1000 ≤ v → v ≤ 1000 → Calls Tryz.prog 42 #[.int .i64 v] x (Qf (v : Rat) x)) (WO : ∀ x (n : Int), -400 ≤ n → n ≤ 400 → Calls Tryz.prog 144 #[.int .i64 k, .int .i64 n] x (Qf (gp g n) x)) (MU : ∀ x v1 v2 (n : Nat), n < N → L.IsQ x v1 (am (n + 1) : Rat) → L.IsQ x v2 (gp g (-((n : Int) + 1 - off))) → Calls Tryz.prog 60 #[v1, v2] x (Qf ((am (n + 1) : Rat) * gp g (-((n : Int) + 1 - off))) x)) (AD : ∀ x v1 v2 (n : Nat), n < N → L.IsQ x v1 (vs am g off n) → L.IsQ x v2 ((am (n + 1) : Rat) * gp g (-((n : Int) + 1 - off))) → Calls Tryz.prog 82 #[v1, v2] x (Qf (vs am g off (n + 1)) x)) : Calls Tryz.prog 89 #[.int .i64 3, .int .i64 k, .int .i64 (N : Int), .bool true] w (Qf (vs am g off N) w) := by
  have HO : Hid (off = 1) := hoff
  clear hoff
  have KR := Rb.new w (.bool false) (.slice none 0 0) (.slice none 0 0) 65
  have pr : Below w.heap.size w (w.alloc (.cells #[.bool false, .slice none 0 0, .slice none 0 0] 65)) := (Below.refl _ _).alloc (Nat.le_refl _) _
  go_enter Tryz.func89, Tryz.ntmps89
  go_wp2_with (first
    | (go_at_call 42; (refine (OF _ 0 (by decide) (by decide)).mono ?_); (rintro e w1 ⟨g1, a1, l1, c1, a1', l1', c1', rfl, t1, b1⟩); (have al := (Below.refl w1.heap.size w1).alloc (Nat.le_refl _) (.cells #[.bool g1, .slice a1 l1 c1, .slice a1' l1' c1'] 65)); (have bb := bel' b1 al); (have R1 := Rb.new w1 (.bool g1) (.slice a1 l1 c1) (.slice a1' l1' c1') 65); (have p1 := bel' pr bb); (have KR1 := KR.grow bb))
    | fail)
  have t1 := t1.grow al
  have HN : Hid (w.heap.size < w1.heap.size) := L.lt_of_cell (KR.grow b1).c0
  generalize w1.alloc (.cells #[.bool g1, .slice a1 l1 c1, .slice a1' l1' c1'] 65) = W1 at *
  generalize w1.heap.size = n9 at *
  clear KR pr b1 al bb
  go_loopw [10, 11, 12] (fun i _ _ wr => ∃ (j : Nat) (g1 : Bool) (a1 : Option Addr) (l1 c1 : Nat) (a1' : Option Addr) (l1' c1' : Nat), i = .int .i64 ((j : Int) + 1) ∧ j ≤ N ∧ Rb wr n9 (.bool g1) (.slice a1 l1 c1) (.slice a1' l1' c1') ∧ L.IsQ wr (.agg #[.bool g1, .slice a1 l1 c1, .slice a1' l1' c1']) (vs am g off j) ∧ Rb wr w.heap.size (.bool false) (.slice none 0 0) (.slice none 0 0) ∧ Below w.heap.size w wr) (fun i _ _ _ => N + 1 - (RowKit.intOf i).toNat)
  case atStart => exact ⟨0, g1, a1, l1, c1, a1', l1', c1', rfl, Nat.zero_le _, R1, t1, KR1, p1⟩
  case round =>
    clear R1 t1 KR1 p1
    obtain ⟨j, g1, a1, l1, c1, a1', l1', c1', rfl, hj, R1, t1, KR, p⟩ := hrel
    have hn := HN.out
    have q0 := R1.c0
    have q1 := R1.c1
    have q2 := R1.c2
    by_cases lt : j < N
    · have ea := ham j lt
      have eo : -((j : Int) + 1 - off) = -((j : Int) + 1 - 1) := by rw [HO.out]
      have O1 := fun x => OF x ((N : Int) + 1 - ((j : Int) + 1)) (by omega) (by omega)
      have W2 := fun x => WO x (-((j : Int) + 1 - 1)) (by omega) (by omega)
      have M3 := fun x v1 v2 => MU x v1 v2 j lt
      have A4 := fun x v1 v2 => AD x v1 v2 j lt
      rw [ea, eo] at M3 A4
      have y9 : IntKind.i64.wrap ((j : Int) + 1 + 1) = ((j + 1 : Nat) : Int) + 1 := by rw [show (j : Int) + 1 + 1 = ((j + 1 : Nat) : Int) + 1 by omega]; exact wrapIc _ (by omega) (by omega)
      have HK : Hid (j + 1 ≤ N) := lt
      have x1 : IntKind.i64.wrap ((N : Int) + 1) = (N : Int) + 1 := wrapIc _ (by omega) (by omega)
      have x2 : IntKind.i64.wrap ((N : Int) + 1 - ((j : Int) + 1)) = (N : Int) + 1 - ((j : Int) + 1) := wrapIc _ (by omega) (by omega)
      have x3 : IntKind.i64.wrap ((j : Int) + 1 - 1) = (j : Int) + 1 - 1 := wrapIc _ (by omega) (by omega)
      have x4 : IntKind.i64.wrap (-((j : Int) + 1 - 1)) = -((j : Int) + 1 - 1) := wrapIc _ (by omega) (by omega)
      have lt' : (j : Int) + 1 ≤ (N : Int) := by omega
      generalize hT : ((j : Int) + 1 - 1) = T at *
      generalize hP : (((N : Int) + 1 - ((j : Int) + 1)) : Int) = P at *
      clear OF WO MU AD ham hN hj lt ea eo
      go_wp2_with fail
      go_region_with (first
        | (go_at_call 82; (have mk := d4); (refine (A4 _ _ _ (t1.grow d4) t4).mono ?_); (rintro e w5 ⟨g5, a5, l5, c5, a5', l5', c5', rfl, t5, b5⟩); (have d5 := bel' d4 b5); (have R5 := R1.grow d5); (have z0 := R5.c0); (have z1 := R5.c1); (have z2 := R5.c2); (have y0 := R5.f0); (have y1 := R5.f1); (have y2 := R5.f2))
        | (go_at_call 60; (have mk := d3); (refine (M3 _ _ _ (t2.grow b3) t3).mono ?_); (rintro e w4 ⟨g4, a4, l4, c4, a4', l4', c4', rfl, t4, b4⟩); (have d4 := bel' d3 b4); (have R4 := R1.grow d4); (have s0 := R4.c0); (have s1 := R4.c1); (have s2 := R4.c2))
        | (go_at_call 144; (have mk := d2); (refine (W2 _).mono ?_); (rintro e w3 ⟨g3, a3, l3, c3, a3', l3', c3', rfl, t3, b3⟩); (have d3 := bel' d2 b3); (have R3 := R1.grow d3); (have u0 := R3.c0); (have u1 := R3.c1); (have u2 := R3.c2))
        | (go_at_call 42; (refine (O1 _).mono ?_); (rintro e w2 ⟨g2, a2, l2, c2, a2', l2', c2', rfl, t2, b2⟩); (have d2 := undrew b2); (have R2 := R1.grow d2); (have v0 := R2.c0); (have v1 := R2.c1); (have v2 := R2.c2))
        | fail)
      all_goals
       have Rn := R5.sets (.bool g5) (.slice a5 l5 c5) (.slice a5' l5' c5')
       have tn := qput (x := .bool g5) (y := .slice a5 l5 c5) (z := .slice a5' l5' c5') t5 R5
       have KRn := (KR.grow d5).skip3 (show w.heap.size ≠ n9 by omega) (.bool g5) (.slice a5 l5 c5) (.slice a5' l5' c5')
       have pn := bset3 (x := .bool g5) (y := .slice a5 l5 c5) (z := .slice a5' l5' c5') (bel' p d5) (show w.heap.size ≤ n9 by omega)
       go_wp2_with fail
       go_roundw
       case rel => exact ⟨j + 1, g5, a5, l5, c5, a5', l5', c5', by go_num, HK.out, Rn, tn, KRn, pn⟩
       case measure => simp [RowKit.intOf]; have := HK.out; omega
    · obtain rfl : j = N := by omega
      have k0 := KR.c0
      have k1 := KR.c1
      have k2 := KR.c2
      have f0 := KR.f0
      have f1 := KR.f1
      have f2 := KR.f2
      have lt' : ¬ (j : Int) + 1 ≤ (j : Int) := by omega
      clear OF WO MU AD ham
      go_wp2_with fail
      obtain ⟨F0, F1, F2⟩ := KR.put (.bool g1) (.slice a1 l1 c1) (.slice a1' l1' c1')
      exact bodyPost_ret (v := .agg #[.bool g1, .slice a1 l1 c1, .slice a1' l1' c1']) (by simp [results, Tryz.results89, go_sem, F0, F1, F2]) rfl ⟨g1, a1, l1, c1, a1', l1', c1', rfl, qput t1 KR, bset3 p (Nat.le_refl _)⟩
end Go.Proofs.YtmopfnhjooopkaaGreatDoor.Mo

namespace Go.Proofs.YtmopfnhjooopkaaGreatDoor.Mo
open Go.RowKit Ip

theorem wn_bd {am : Nat → Int} {p q : Int} {N : Nat} (ha : ∀ j, j < N → 0 ≤ am (j + 1) ∧ am (j + 1) ≤ 130) (p0 : 0 ≤ p) (p1 : p ≤ 134217728) (q0 : 0 ≤ q) (q1 : q ≤ 16777216) : ∀ n : Nat, n ≤ N → 0 ≤ wn am p q n ∧ wn am p q n ≤ (n : Int) * 130 * ((2 ^ (27 * n) : Nat) : Int)
  | 0, _ => by simp [wn]
  | n + 1, h => by
    obtain ⟨a, b⟩ := wn_bd ha p0 p1 q0 q1 n (by omega)
    obtain ⟨c, d⟩ := ha n (by omega)
    have qn : ∀ m : Nat, 0 ≤ q ^ m ∧ q ^ m ≤ ((2 ^ (27 * m) : Nat) : Int) := fun m => by
      induction m with
      | zero => simp
      | succ m ih =>
        have e : 2 ^ (27 * (m + 1)) = 2 ^ (27 * m) * 134217728 := by rw [Nat.mul_succ, Nat.pow_add]
        rw [Int.pow_succ, e, Int.natCast_mul]
        exact ⟨Int.mul_nonneg ih.1 q0, Int.mul_le_mul ih.2 (by show q ≤ 134217728; omega) q0 (Int.natCast_nonneg _)⟩
    obtain ⟨f, g⟩ := qn n
    have e : 2 ^ (27 * (n + 1)) = 2 ^ (27 * n) * 134217728 := by rw [Nat.mul_succ, Nat.pow_add]
    have z : (0 : Int) ≤ ((2 ^ (27 * n) : Nat) : Int) := Int.natCast_nonneg _
    rw [e, Int.natCast_mul]
    show 0 ≤ wn am p q n * p + am (n + 1) * q ^ n ∧ wn am p q n * p + am (n + 1) * q ^ n ≤ _
    generalize ((2 ^ (27 * n) : Nat) : Int) = Z at *
    have u1 := Int.mul_nonneg a p0
    have u2 := Int.mul_nonneg c f
    have u3 : wn am p q n * p ≤ (n : Int) * 130 * Z * 134217728 := Int.mul_le_mul b p1 p0 (Int.mul_nonneg (by omega) z)
    have u4 : am (n + 1) * q ^ n ≤ 130 * Z := Int.mul_le_mul d g f (by decide)
    refine ⟨by omega, ?_⟩
    have e2 : ((n + 1 : Nat) : Int) * 130 * (Z * ((134217728 : Nat) : Int)) = (n : Int) * 130 * Z * 134217728 + 130 * Z * 134217728 := by
      rw [show ((n + 1 : Nat) : Int) = (n : Int) + 1 by omega]
      simp only [show ((134217728 : Nat) : Int) = 134217728 from rfl]
      grind
    rw [e2]
    generalize (n : Int) * 130 * Z * 134217728 = Y at *
    generalize am (n + 1) * q ^ n = X at *
    omega
/-- What an annuity is worth is not too long. -/
theorem vs_bd {am : Nat → Int} {k off : Int} {N : Nat} (hk : okR k = true) (h0 : 0 ≤ off) (h1 : off ≤ 1) (ha : ∀ j, j < N → 0 ≤ am (j + 1) ∧ am (j + 1) ≤ 130) (hN : N ≤ 130) : ∀ n : Nat, n ≤ N → Bd (vs am (gr k) off n) 7300
  | 0, _ => (Bd.int (p := 0) (m := 1) (by decide) (by decide)).mono (by omega)
  | n + 1, h => by
    have kk : -10000000 < k ∧ k ≤ 100000000 := by simpa [okR] using hk
    obtain ⟨bg, pg⟩ := gr_bd hk
    have gz := pos_ne pg
    have hp : gr k * ((10000000 : Int) : Rat) = ((10000000 + k : Int) : Rat) := by
      unfold gr
      rw [Rat.mul_assoc, Rat.inv_mul_cancel _ (by decide +kernel), Rat.mul_one]
    have e := wn_vs am (10000000 + k) 10000000 (gr k) off h0 h1 gz hp n
    have c := gp_neg (gr k) gz ((n : Int) + 1 - off)
    obtain ⟨w0, w1⟩ := wn_bd (p := 10000000 + k) (q := 10000000) ha (by omega) (by omega) (by decide) (by decide) (n + 1) h
    have qz : ((10000000 : Int) : Rat) ^ n ≠ 0 := fun z => by
      have := congrArg Rat.num z
      rw [Rat.num_pow] at this
      have q2 := pow_ps (show 0 < ((10000000 : Int) : Rat).num by decide +kernel) n
      rw [this] at q2
      exact absurd q2 (by decide)
    have v : vs am (gr k) off (n + 1) = mkRat (wn am (10000000 + k) 10000000 (n + 1)) (10000000 ^ n) * gp (gr k) (-((n : Int) + 1 - off)) := by
      have m : mkRat (wn am (10000000 + k) 10000000 (n + 1)) (10000000 ^ n) * ((10000000 : Int) : Rat) ^ n = (wn am (10000000 + k) 10000000 (n + 1) : Rat) := by
        rw [Rat.mkRat_eq_div, Rat.div_def, Rat.mul_assoc]
        have : ((10000000 ^ n : Nat) : Rat) = ((10000000 : Int) : Rat) ^ n := by rw [Rat.natCast_pow]; rfl
        rw [this, Rat.inv_mul_cancel _ qz, Rat.mul_one]
      rw [← m] at e
      generalize mkRat (wn am (10000000 + k) 10000000 (n + 1)) (10000000 ^ n) = M at *
      generalize vs am (gr k) off (n + 1) = V at *
      generalize gp (gr k) ((n : Int) + 1 - off) = G at *
      generalize gp (gr k) (-((n : Int) + 1 - off)) = H at *
      generalize ((10000000 : Int) : Rat) ^ n = T at *
      have s : (M - V * G) * T = 0 := by grind
      have s2 : M = V * G := by
        rcases Rat.mul_eq_zero.1 s with a | a
        · grind
        · exact absurd a qz
      rw [s2]
      grind
    rw [v]
    refine (Bd.mul (m := 3600) (n := 3600) ?_ ((Bd.gp bg gz _ (M := 131) (by omega)).mono (by omega))).mono (by omega)
    have l := lt_pow2 (a := 10000000) (m := 24) (by decide) n
    have l2 := Nat.pow_le_pow_right (show 0 < 2 by decide) (show 24 * n + 1 ≤ 3600 by omega)
    have l3 := Nat.pow_le_pow_right (show 0 < 2 by decide) (show 27 * (n + 1) + 15 ≤ 3600 by omega)
    rw [Nat.pow_add] at l3
    refine Bd.mk ?_ (Nat.lt_of_lt_of_le l l2) (by have := Nat.pow_pos (n := n) (show 0 < 10000000 by decide); omega)
    have pz := Nat.pow_pos (n := 27 * (n + 1)) (show 0 < 2 by decide)
    have w2 : ((n + 1 : Nat) : Int) * 130 * ((2 ^ (27 * (n + 1)) : Nat) : Int) ≤ 17030 * ((2 ^ (27 * (n + 1)) : Nat) : Int) := Int.mul_le_mul_of_nonneg_right (by omega) (Int.natCast_nonneg _)
    generalize (2 : Nat) ^ (27 * (n + 1)) = Y at *
    generalize (2 : Nat) ^ 3600 = X at *
    generalize ((n + 1 : Nat) : Int) * 130 * (Y : Int) = U at *
    omega
set_option maxRecDepth 100000 in
set_option maxHeartbeats 1600000 in
theorem RAnnuity_yes (kind k n : Int) (due : Bool) (r : Rat) (s t : ByteArray) (er : Int) (w : World) (W : ∀ x, Calls Tryz.prog 89 #[.int .i64 kind, .int .i64 k, .int .i64 n, .bool due] x (Qf r x)) (U : ∀ x v, L.IsQ x v r → Calls Tryz.prog 34 #[v] x fun e w' => e = .returned (.tuple #[.agg #[.string s, .string t], .int .i64 er]) ∧ Below x.heap.size x w') (I1 : okR k = true) (I2 : okY n = true) :
    Calls Tryz.prog 28 #[.int .i64 kind, .int .i64 k, .int .i64 n, .bool due] w fun e w' => e = .returned (.tuple #[.agg #[.string s, .string t], .int .i64 er]) ∧ Below w.heap.size w w' := by
  have KR := Blk.new w #[.string ⟨#[]⟩, .string ⟨#[]⟩] 23
  have pr : Below w.heap.size w (w.alloc (.cells #[.string ⟨#[]⟩, .string ⟨#[]⟩] 23)) := (Below.refl _ _).alloc (Nat.le_refl _) _
  have A1 := fun x => IsRate_any k x
  have A2 := fun x => IsYears_any n x
  simp only [I1, I2] at A1 A2
  go_enter Tryz.func28, Tryz.ntmps28
  go_wp2_with (first
    | (go_at_call 34; (have z4 := p3); (refine (U _ _ t3).mono ?_); (rintro e w4 ⟨rfl, b4⟩); (have p4 := Mo.bel' p3 b4); (have t3_4 := t3.grow b4); (have KR_4 := KR_3.below b4 KR_3.lt); (have q0 := KR_4.at 0); (have q1 := KR_4.at 1); (have y0 := KR_4.free 0); (have y1 := KR_4.free 1); (simp at q0 q1))
    | (go_at_call 89; (have z3 := m2); (refine (W _).mono ?_); (rintro e w3 ⟨g3, a3, l3, c3, a3', l3', c3', rfl, t3, b3⟩); (have p3 := Mo.bel' pr b3); (have KR_3 := KR.below b3 KR.lt))
    | (go_at_call 88; (have z2 := m1); (refine (A2 _).mono ?_); (rintro e w2 ⟨rfl, hw2⟩); (subst w2); (have m2 := True.intro))
    | (go_at_call 87; (refine (A1 _).mono ?_); (rintro e w1 ⟨rfl, hw1⟩); (subst w1); (have m1 := True.intro))
    | fail)
  have KE := bput (bput KR_4 0 (.string s)) 1 (.string t)
  have bE := (p4.setCell (p := ⟨w.heap.size, 0, none⟩) (Nat.le_refl _) (.string s)).setCell (p := ⟨w.heap.size, 1, none⟩) (Nat.le_refl _) (.string t)
  generalize (World.setCell (World.setCell _ ⟨w.heap.size, 0, none⟩ (.string s)) ⟨w.heap.size, 1, none⟩ (.string t)) = WE at *
  have z0 := KE.at 0
  have z1 := KE.at 1
  simp at z0 z1
  exact bodyPost_ret (v := .tuple #[.agg #[.string s, .string t], .int .i64 er]) (by simp [results, Tryz.results28, go_sem, z0, z1]) rfl ⟨rfl, bE⟩
set_option maxRecDepth 100000 in
set_option maxHeartbeats 1600000 in
theorem RAnnuity_no (kind k n : Int) (due : Bool) (w : World) (h : (okR k && okY n) = false) :
    Calls Tryz.prog 28 #[.int .i64 kind, .int .i64 k, .int .i64 n, .bool due] w fun e w' => e = .returned (.tuple #[.agg #[.string ⟨#[]⟩, .string ⟨#[]⟩], .int .i64 1]) ∧ Below w.heap.size w w' := by
  have pr : Below w.heap.size w (w.alloc (.cells #[.string ⟨#[]⟩, .string ⟨#[]⟩] 23)) := (Below.refl _ _).alloc (Nat.le_refl _) _
  have A1 := fun x => IsRate_any k x
  have A2 := fun x => IsYears_any n x
  obtain ⟨u, hu⟩ : ∃ u, okR k = u := ⟨_, rfl⟩
  obtain ⟨v, hv⟩ : ∃ v, okY n = v := ⟨_, rfl⟩
  simp only [hu, hv] at A1 A2 h
  clear hu hv
  cases u
  all_goals
    try (simp at h; subst h)
    go_enter Tryz.func28, Tryz.ntmps28
    go_wp2_with (first
      | (go_at_call 87; refine (A1 _).mono ?_; rintro e w1 ⟨rfl, hw⟩; subst w1)
      | (go_at_call 88; refine (A2 _).mono ?_; rintro e w1 ⟨rfl, hw⟩; subst w1)
      | fail)
    exact bodyPost_ret (v := .tuple #[.agg #[.string ⟨#[]⟩, .string ⟨#[]⟩], .int .i64 1]) (by simp [results, Tryz.results28, go_sem]) rfl ⟨rfl, pr⟩
end Go.Proofs.YtmopfnhjooopkaaGreatDoor.Mo

namespace Go.Proofs.YtmopfnhjooopkaaGreatDoor.Mo
open Go.RowKit Ip

/-- What an annuity is worth. -/
def av (kind k : Int) (off : Int) (n : Nat) : Rat := vs (fun j => pay kind (n : Int) (j : Int)) (gr k) off n
theorem pay_ok {kind : Int} {N : Nat} (hN : N ≤ 130) : ∀ j, j < N → 0 ≤ (fun j : Nat => pay kind (N : Int) (j : Int)) (j + 1) ∧ (fun j : Nat => pay kind (N : Int) (j : Int)) (j + 1) ≤ 130 := fun j hj => by
  have := pay_bd (kind := kind) (years := (N : Int)) (k := ((j + 1 : Nat) : Int)) (by omega) (by omega) (by omega)
  exact ⟨by show 0 ≤ pay _ _ _; omega, this.2⟩
theorem av_bd {kind k off : Int} {N : Nat} (hk : okR k = true) (h0 : 0 ≤ off) (h1 : off ≤ 1) (hN : N ≤ 130) : Bd (av kind k off N) 7300 := vs_bd hk h0 h1 (pay_ok hN) hN N (Nat.le_refl _)
theorem RVal_one0 (k : Int) (N : Nat) (w : World) (hk : okR k = true) (hN : N ≤ 130) : Calls Tryz.prog 89 #[.int .i64 1, .int .i64 k, .int .i64 (N : Int), .bool false] w (Qf (av 1 k 0 N) w) := by
  obtain ⟨bg, pg⟩ := gr_bd hk
  have gz := pos_ne pg
  have bv := fun n (h : n ≤ N) => vs_bd (am := fun j => pay 1 (N : Int) (j : Int)) (off := 0) hk (by decide) (by decide) (pay_ok hN) hN n h
  have ba := fun n (h : n < N) => show Bd ((pay 1 (N : Int) ((n + 1 : Nat) : Int) : Int) : Rat) 8 from Bd.int (by have := pay_bd (kind := 1) (years := (N : Int)) (k := ((n + 1 : Nat) : Int)) (by omega) (by omega) (by omega); show _ < 256; omega) (by decide)
  have bp := fun n (h : n < N) => (Bd.gp bg gz (-((n : Int) + 1 - 0)) (M := 131) (by omega)).mono (show 27 * 131 + 1 ≤ 3600 by decide)
  exact RValue_one0 k 0 (gr k) (fun j => pay 1 (N : Int) (j : Int)) N w hN rfl (fun j hj => rfl) (fun x v h0 h1 => qf_of (L.Of_q v x (by omega) (by omega))) (fun x n h0 h1 => Worth_q k n x hk h0 h1)
    (fun x v1 v2 n h q1 q2 => QMul_s v1 v2 _ _ 400 x q1 q2 (Bd.qs (ba n h) (by decide)) (Bd.qs (bp n h) (by decide)) (by decide))
    (fun x v1 v2 n h q1 q2 => QAdd_s v1 v2 _ _ 400 x q1 q2 (Bd.qs (bv n (by omega)) (by decide)) (Bd.qs ((ba n h).mul (bp n h)) (by decide)) (by decide))
theorem RVal_one1 (k : Int) (N : Nat) (w : World) (hk : okR k = true) (hN : N ≤ 130) : Calls Tryz.prog 89 #[.int .i64 1, .int .i64 k, .int .i64 (N : Int), .bool true] w (Qf (av 1 k 1 N) w) := by
  obtain ⟨bg, pg⟩ := gr_bd hk
  have gz := pos_ne pg
  have bv := fun n (h : n ≤ N) => vs_bd (am := fun j => pay 1 (N : Int) (j : Int)) (off := 1) hk (by decide) (by decide) (pay_ok hN) hN n h
  have ba := fun n (h : n < N) => show Bd ((pay 1 (N : Int) ((n + 1 : Nat) : Int) : Int) : Rat) 8 from Bd.int (by have := pay_bd (kind := 1) (years := (N : Int)) (k := ((n + 1 : Nat) : Int)) (by omega) (by omega) (by omega); show _ < 256; omega) (by decide)
  have bp := fun n (h : n < N) => (Bd.gp bg gz (-((n : Int) + 1 - 1)) (M := 131) (by omega)).mono (show 27 * 131 + 1 ≤ 3600 by decide)
  exact RValue_one1 k 1 (gr k) (fun j => pay 1 (N : Int) (j : Int)) N w hN rfl (fun j hj => rfl) (fun x v h0 h1 => qf_of (L.Of_q v x (by omega) (by omega))) (fun x n h0 h1 => Worth_q k n x hk h0 h1)
    (fun x v1 v2 n h q1 q2 => QMul_s v1 v2 _ _ 400 x q1 q2 (Bd.qs (ba n h) (by decide)) (Bd.qs (bp n h) (by decide)) (by decide))
    (fun x v1 v2 n h q1 q2 => QAdd_s v1 v2 _ _ 400 x q1 q2 (Bd.qs (bv n (by omega)) (by decide)) (Bd.qs ((ba n h).mul (bp n h)) (by decide)) (by decide))
theorem RAnn_one (k n : Int) (due : Bool) (w : World) : Calls Tryz.prog 28 #[.int .i64 1, .int .i64 k, .int .i64 n, .bool due] w fun e w' => e = .returned (gA (okR k && okY n) (av 1 k (if due then 1 else 0) n.toNat)) ∧ Below w.heap.size w w' := by
  cases h : (okR k && okY n)
  · exact RAnnuity_no 1 k n due w h
  · obtain ⟨h1, h2⟩ := Bool.and_eq_true_iff.1 h
    have y := okY_iff h2
    obtain ⟨m, rfl⟩ : ∃ m : Nat, n = m := ⟨n.toNat, by omega⟩
    rw [Int.toNat_natCast]
    have bb : Bd (av 1 k (if due then 1 else 0) m) 7300 := av_bd h1 (by split <;> decide) (by split <;> decide) (by omega)
    refine RAnnuity_yes 1 k m due _ _ _ 0 w (fun x => ?_) (fun x v q => Out_s v _ 7300 x q bb (by decide)) h1 h2
    cases due
    · exact RVal_one0 k m x h1 (by omega)
    · exact RVal_one1 k m x h1 (by omega)
theorem RVal_up0 (k : Int) (N : Nat) (w : World) (hk : okR k = true) (hN : N ≤ 130) : Calls Tryz.prog 89 #[.int .i64 2, .int .i64 k, .int .i64 (N : Int), .bool false] w (Qf (av 2 k 0 N) w) := by
  obtain ⟨bg, pg⟩ := gr_bd hk
  have gz := pos_ne pg
  have bv := fun n (h : n ≤ N) => vs_bd (am := fun j => pay 2 (N : Int) (j : Int)) (off := 0) hk (by decide) (by decide) (pay_ok hN) hN n h
  have ba := fun n (h : n < N) => show Bd ((pay 2 (N : Int) ((n + 1 : Nat) : Int) : Int) : Rat) 8 from Bd.int (by have := pay_bd (kind := 2) (years := (N : Int)) (k := ((n + 1 : Nat) : Int)) (by omega) (by omega) (by omega); show _ < 256; omega) (by decide)
  have bp := fun n (h : n < N) => (Bd.gp bg gz (-((n : Int) + 1 - 0)) (M := 131) (by omega)).mono (show 27 * 131 + 1 ≤ 3600 by decide)
  exact RValue_up0 k 0 (gr k) (fun j => pay 2 (N : Int) (j : Int)) N w hN rfl (fun j hj => by show pay 2 _ _ = _; unfold pay; rw [if_pos rfl]; omega) (fun x v h0 h1 => qf_of (L.Of_q v x (by omega) (by omega))) (fun x n h0 h1 => Worth_q k n x hk h0 h1)
    (fun x v1 v2 n h q1 q2 => QMul_s v1 v2 _ _ 400 x q1 q2 (Bd.qs (ba n h) (by decide)) (Bd.qs (bp n h) (by decide)) (by decide))
    (fun x v1 v2 n h q1 q2 => QAdd_s v1 v2 _ _ 400 x q1 q2 (Bd.qs (bv n (by omega)) (by decide)) (Bd.qs ((ba n h).mul (bp n h)) (by decide)) (by decide))
theorem RVal_up1 (k : Int) (N : Nat) (w : World) (hk : okR k = true) (hN : N ≤ 130) : Calls Tryz.prog 89 #[.int .i64 2, .int .i64 k, .int .i64 (N : Int), .bool true] w (Qf (av 2 k 1 N) w) := by
  obtain ⟨bg, pg⟩ := gr_bd hk
  have gz := pos_ne pg
  have bv := fun n (h : n ≤ N) => vs_bd (am := fun j => pay 2 (N : Int) (j : Int)) (off := 1) hk (by decide) (by decide) (pay_ok hN) hN n h
  have ba := fun n (h : n < N) => show Bd ((pay 2 (N : Int) ((n + 1 : Nat) : Int) : Int) : Rat) 8 from Bd.int (by have := pay_bd (kind := 2) (years := (N : Int)) (k := ((n + 1 : Nat) : Int)) (by omega) (by omega) (by omega); show _ < 256; omega) (by decide)
  have bp := fun n (h : n < N) => (Bd.gp bg gz (-((n : Int) + 1 - 1)) (M := 131) (by omega)).mono (show 27 * 131 + 1 ≤ 3600 by decide)
  exact RValue_up1 k 1 (gr k) (fun j => pay 2 (N : Int) (j : Int)) N w hN rfl (fun j hj => by show pay 2 _ _ = _; unfold pay; rw [if_pos rfl]; omega) (fun x v h0 h1 => qf_of (L.Of_q v x (by omega) (by omega))) (fun x n h0 h1 => Worth_q k n x hk h0 h1)
    (fun x v1 v2 n h q1 q2 => QMul_s v1 v2 _ _ 400 x q1 q2 (Bd.qs (ba n h) (by decide)) (Bd.qs (bp n h) (by decide)) (by decide))
    (fun x v1 v2 n h q1 q2 => QAdd_s v1 v2 _ _ 400 x q1 q2 (Bd.qs (bv n (by omega)) (by decide)) (Bd.qs ((ba n h).mul (bp n h)) (by decide)) (by decide))
theorem RAnn_up (k n : Int) (due : Bool) (w : World) : Calls Tryz.prog 28 #[.int .i64 2, .int .i64 k, .int .i64 n, .bool due] w fun e w' => e = .returned (gA (okR k && okY n) (av 2 k (if due then 1 else 0) n.toNat)) ∧ Below w.heap.size w w' := by
  cases h : (okR k && okY n)
  · exact RAnnuity_no 2 k n due w h
  · obtain ⟨h1, h2⟩ := Bool.and_eq_true_iff.1 h
    have y := okY_iff h2
    obtain ⟨m, rfl⟩ : ∃ m : Nat, n = m := ⟨n.toNat, by omega⟩
    rw [Int.toNat_natCast]
    have bb : Bd (av 2 k (if due then 1 else 0) m) 7300 := av_bd h1 (by split <;> decide) (by split <;> decide) (by omega)
    refine RAnnuity_yes 2 k m due _ _ _ 0 w (fun x => ?_) (fun x v q => Out_s v _ 7300 x q bb (by decide)) h1 h2
    cases due
    · exact RVal_up0 k m x h1 (by omega)
    · exact RVal_up1 k m x h1 (by omega)
theorem RVal_dn0 (k : Int) (N : Nat) (w : World) (hk : okR k = true) (hN : N ≤ 130) : Calls Tryz.prog 89 #[.int .i64 3, .int .i64 k, .int .i64 (N : Int), .bool false] w (Qf (av 3 k 0 N) w) := by
  obtain ⟨bg, pg⟩ := gr_bd hk
  have gz := pos_ne pg
  have bv := fun n (h : n ≤ N) => vs_bd (am := fun j => pay 3 (N : Int) (j : Int)) (off := 0) hk (by decide) (by decide) (pay_ok hN) hN n h
  have ba := fun n (h : n < N) => show Bd ((pay 3 (N : Int) ((n + 1 : Nat) : Int) : Int) : Rat) 8 from Bd.int (by have := pay_bd (kind := 3) (years := (N : Int)) (k := ((n + 1 : Nat) : Int)) (by omega) (by omega) (by omega); show _ < 256; omega) (by decide)
  have bp := fun n (h : n < N) => (Bd.gp bg gz (-((n : Int) + 1 - 0)) (M := 131) (by omega)).mono (show 27 * 131 + 1 ≤ 3600 by decide)
  exact RValue_dn0 k 0 (gr k) (fun j => pay 3 (N : Int) (j : Int)) N w hN rfl (fun j hj => by show pay 3 _ _ = _; unfold pay; rw [if_neg (by decide), if_pos rfl]; omega) (fun x v h0 h1 => qf_of (L.Of_q v x (by omega) (by omega))) (fun x n h0 h1 => Worth_q k n x hk h0 h1)
    (fun x v1 v2 n h q1 q2 => QMul_s v1 v2 _ _ 400 x q1 q2 (Bd.qs (ba n h) (by decide)) (Bd.qs (bp n h) (by decide)) (by decide))
    (fun x v1 v2 n h q1 q2 => QAdd_s v1 v2 _ _ 400 x q1 q2 (Bd.qs (bv n (by omega)) (by decide)) (Bd.qs ((ba n h).mul (bp n h)) (by decide)) (by decide))
theorem RVal_dn1 (k : Int) (N : Nat) (w : World) (hk : okR k = true) (hN : N ≤ 130) : Calls Tryz.prog 89 #[.int .i64 3, .int .i64 k, .int .i64 (N : Int), .bool true] w (Qf (av 3 k 1 N) w) := by
  obtain ⟨bg, pg⟩ := gr_bd hk
  have gz := pos_ne pg
  have bv := fun n (h : n ≤ N) => vs_bd (am := fun j => pay 3 (N : Int) (j : Int)) (off := 1) hk (by decide) (by decide) (pay_ok hN) hN n h
  have ba := fun n (h : n < N) => show Bd ((pay 3 (N : Int) ((n + 1 : Nat) : Int) : Int) : Rat) 8 from Bd.int (by have := pay_bd (kind := 3) (years := (N : Int)) (k := ((n + 1 : Nat) : Int)) (by omega) (by omega) (by omega); show _ < 256; omega) (by decide)
  have bp := fun n (h : n < N) => (Bd.gp bg gz (-((n : Int) + 1 - 1)) (M := 131) (by omega)).mono (show 27 * 131 + 1 ≤ 3600 by decide)
  exact RValue_dn1 k 1 (gr k) (fun j => pay 3 (N : Int) (j : Int)) N w hN rfl (fun j hj => by show pay 3 _ _ = _; unfold pay; rw [if_neg (by decide), if_pos rfl]; omega) (fun x v h0 h1 => qf_of (L.Of_q v x (by omega) (by omega))) (fun x n h0 h1 => Worth_q k n x hk h0 h1)
    (fun x v1 v2 n h q1 q2 => QMul_s v1 v2 _ _ 400 x q1 q2 (Bd.qs (ba n h) (by decide)) (Bd.qs (bp n h) (by decide)) (by decide))
    (fun x v1 v2 n h q1 q2 => QAdd_s v1 v2 _ _ 400 x q1 q2 (Bd.qs (bv n (by omega)) (by decide)) (Bd.qs ((ba n h).mul (bp n h)) (by decide)) (by decide))
theorem RAnn_dn (k n : Int) (due : Bool) (w : World) : Calls Tryz.prog 28 #[.int .i64 3, .int .i64 k, .int .i64 n, .bool due] w fun e w' => e = .returned (gA (okR k && okY n) (av 3 k (if due then 1 else 0) n.toNat)) ∧ Below w.heap.size w w' := by
  cases h : (okR k && okY n)
  · exact RAnnuity_no 3 k n due w h
  · obtain ⟨h1, h2⟩ := Bool.and_eq_true_iff.1 h
    have y := okY_iff h2
    obtain ⟨m, rfl⟩ : ∃ m : Nat, n = m := ⟨n.toNat, by omega⟩
    rw [Int.toNat_natCast]
    have bb : Bd (av 3 k (if due then 1 else 0) m) 7300 := av_bd h1 (by split <;> decide) (by split <;> decide) (by omega)
    refine RAnnuity_yes 3 k m due _ _ _ 0 w (fun x => ?_) (fun x v q => Out_s v _ 7300 x q bb (by decide)) h1 h2
    cases due
    · exact RVal_dn0 k m x h1 (by omega)
    · exact RVal_dn1 k m x h1 (by omega)
end Go.Proofs.YtmopfnhjooopkaaGreatDoor.Mo

namespace Go.Proofs.YtmopfnhjooopkaaGreatDoor.Mo
open Go.RowKit Tn Ip

/-- What the payments are worth, as the program comes to it. -/
theorem vs_eq (am : Nat → Int) (g : Rat) (off : Int) (h0 : 0 ≤ off) (h1 : off ≤ 1) (gz : g ≠ 0) (n : Nat) : vs am g off (n + 1) = mkRat (wn am g.num (g.den : Int) (n + 1)) (g.den ^ n) * gp g (-((n : Int) + 1 - off)) := by
  have dz : ((g.den : Int) : Rat) ≠ 0 := by
    intro z
    have := congrArg Rat.num z
    rw [Rat.num_intCast] at this
    have t : (g.den : Int) = 0 := this
    have := g.den_nz
    omega
  have hp : g * ((g.den : Int) : Rat) = (g.num : Rat) := by
    have := Rat.mkRat_self g
    rw [Rat.mkRat_eq_div, Rat.div_def] at this
    have e : ((g.den : Int) : Rat) = (g.den : Rat) := rfl
    rw [e] at dz ⊢
    have e2 : g * (g.den : Rat) = (g.num : Rat) * (g.den : Rat)⁻¹ * (g.den : Rat) := by rw [this]
    rw [e2, Rat.mul_assoc, Rat.inv_mul_cancel _ dz, Rat.mul_one]
  have e := wn_vs am g.num (g.den : Int) g off h0 h1 gz hp n
  have c := gp_neg g gz ((n : Int) + 1 - off)
  have qz : ((g.den : Int) : Rat) ^ n ≠ 0 := by
    intro z
    have h2 : ((g.den : Int) : Rat) ^ n = (((g.den ^ n : Nat) : Int) : Rat) := by
      rw [← Rat.intCast_pow]
      simp
    rw [h2] at z
    have := congrArg Rat.num z
    rw [Rat.num_intCast] at this
    have p := Nat.pow_pos (n := n) (Nat.pos_of_ne_zero g.den_nz)
    have t : ((g.den ^ n : Nat) : Int) = 0 := this
    omega
  have m : mkRat (wn am g.num (g.den : Int) (n + 1)) (g.den ^ n) * ((g.den : Int) : Rat) ^ n = (wn am g.num (g.den : Int) (n + 1) : Rat) := by
    rw [Rat.mkRat_eq_div, Rat.div_def, Rat.mul_assoc]
    have : ((g.den ^ n : Nat) : Rat) = ((g.den : Int) : Rat) ^ n := by rw [Rat.natCast_pow]; rfl
    rw [this, Rat.inv_mul_cancel _ qz, Rat.mul_one]
  rw [← m] at e
  generalize mkRat (wn am g.num (g.den : Int) (n + 1)) (g.den ^ n) = M at *
  generalize vs am g off (n + 1) = V at *
  generalize gp g ((n : Int) + 1 - off) = G at *
  generalize gp g (-((n : Int) + 1 - off)) = H at *
  generalize ((g.den : Int) : Rat) ^ n = T at *
  have s : (M - V * G) * T = 0 := by grind
  have s2 : M = V * G := by
    rcases Rat.mul_eq_zero.1 s with a | a
    · grind
    · exact absurd a qz
  rw [s2]
  grind
theorem wn_pw {am : Nat → Int} {p q : Int} {N : Nat} (hN : N ≤ 130) (ha : ∀ j, j < N → 0 ≤ am (j + 1) ∧ am (j + 1) ≤ 130) (p0 : 0 ≤ p) (p1 : p < 134217728) (q0 : 0 ≤ q) (q1 : q ≤ 16777216) {n : Nat} (h : n ≤ N) : 0 ≤ wn am p q n ∧ wn am p q n < pw 60 := by
  obtain ⟨a, b⟩ := wn_bd ha p0 (by omega) q0 q1 n h
  refine ⟨a, ?_⟩
  rw [pw_64]
  have l3 := Nat.pow_le_pow_right (show 0 < 2 by decide) (show 27 * n + 15 ≤ 64 * 60 by omega)
  rw [Nat.pow_add] at l3
  have pz := Nat.pow_pos (n := 27 * n) (show 0 < 2 by decide)
  have w2 : (n : Int) * 130 * ((2 ^ (27 * n) : Nat) : Int) ≤ 16900 * ((2 ^ (27 * n) : Nat) : Int) := Int.mul_le_mul_of_nonneg_right (by omega) (Int.natCast_nonneg _)
  generalize (2 : Nat) ^ (27 * n) = Y at *
  generalize (2 : Nat) ^ (64 * 60) = X at *
  generalize (n : Int) * 130 * (Y : Int) = U at *
  omega
theorem qp_pw {q : Int} (q0 : 0 ≤ q) (q1 : q ≤ 16777216) {n : Nat} (h : n ≤ 130) : 0 ≤ q ^ n ∧ q ^ n < pw 60 := by
  obtain ⟨k, rfl⟩ := Int.eq_ofNat_of_zero_le q0
  have l := lt_pow2 (a := k) (m := 25) (by omega) n
  have e : ((k : Int)) ^ n = ((k ^ n : Nat) : Int) := by simp
  rw [e]
  exact ⟨Int.natCast_nonneg _, lt_64 (B := 25 * n + 1) l (by omega)⟩
end Go.Proofs.YtmopfnhjooopkaaGreatDoor.Mo

namespace Go.Proofs.YtmopfnhjooopkaaGreatDoor.Mo
open Go.RowKit Tn Ip

/-- value of a row of payments a year apart. -/
theorem value_vs (k off : Int) (am : Nat → Int) (g N : Nat) (v : Value) (w : World) (hk : okR k = true) (h0 : 0 ≤ off) (h1 : off ≤ 1) (hN : N ≤ 130) (ha : ∀ j, j < N → 0 ≤ am (j + 1) ∧ am (j + 1) ≤ 130) (PY : Py w g N N off am) (hv : PF w v (gr k)) :
    Calls Tryz.prog 181 #[.slice (some ⟨g, 0, none⟩) N N, v, .int .i64 0] w (Fa (vs am (gr k) off N) w) := by
  obtain ⟨bg, pg⟩ := gr_bd hk
  have gz := pos_ne pg
  obtain ⟨P1, M1, C1, P2, M2, C2, rfl, k1, k2⟩ := hv
  rw [num_neg pg]
  cases N with
  | zero => exact value_0 g _ w ⟨_, _, _, _, _, _, rfl⟩ (fun x => fa_of (OfInt_p 0 x (by decide) (by decide)))
  | succ M =>
    have pn : 0 < (gr k).num := by
      have h1 := Rat.num_nonneg.2 (Rat.le_of_lt pg)
      have h2 : (gr k).num ≠ 0 := fun z => gz (Rat.num_eq_zero.1 z)
      omega
    obtain ⟨p, hp⟩ : ∃ p : Nat, (gr k).num = (p : Int) := ⟨(gr k).num.toNat, by omega⟩
    obtain ⟨q, hq⟩ : ∃ q : Nat, (gr k).den = q := ⟨_, rfl⟩
    obtain ⟨b1, b2⟩ := bg
    rw [hp, Int.natAbs_natCast] at k1 b1
    rw [hq] at k2 b2
    have kq : gr k * ((10000000 : Int) : Rat) = ((10000000 + k : Int) : Rat) := by
      unfold gr
      rw [Rat.mul_assoc, Rat.inv_mul_cancel _ (by decide +kernel), Rat.mul_one]
    have qd : q ≤ 10000000 := by
      have hd : (gr k).den ∣ 10000000 := by
        have e : gr k = mkRat (10000000 + k) 10000000 := by
          unfold gr
          rw [Rat.mkRat_eq_div, Rat.div_def]
          rfl
        rw [e, Rat.den_mkRat]
        exact Nat.div_dvd_of_dvd (Nat.gcd_dvd_left _ _)
      rw [← hq]
      exact Nat.le_of_dvd (by decide) hd
    have q0 : 0 < q := by rw [← hq]; exact Nat.pos_of_ne_zero (gr k).den_nz
    obtain ⟨cs, K, e, ni, fj⟩ := PY
    have PY : Py w g (M + 1) (M + 1) off am := ⟨cs, K, e, ni, fj⟩
    have x8 := (K.at (M * 4)).trans (fj M (by omega)).1
    clear K e ni fj
    have wp := fun {n : Nat} (h : n ≤ M + 1) => wn_pw (am := am) (p := (p : Int)) (q := (q : Int)) hN ha (by omega) (by omega) (by omega) (by omega) h
    have qp := fun {n : Nat} (h : n ≤ 130) => qp_pw (q := (q : Int)) (by omega) (by omega) h
    have p1 : ((p : Nat) : Int) < pw 1 := lt_64 (B := 27) b1 (by decide)
    have q1 : ((q : Nat) : Int) < pw 1 := lt_64 (B := 27) b2 (by decide)
    have ap := fun {j : Nat} (h : j < M + 1) => show am (j + 1) < pw 1 from by
      have := ha j h
      have z := lt_64 (a := (am (j + 1)).toNat) (B := 8) (K := 1) (by omega) (by decide)
      omega
    have Z : ∀ {X : Int}, 0 ≤ X → ((X.natAbs : Nat) : Int) = X := fun h => by omega
    refine value_1 g M (M + 1) P1 M1 C1 P2 M2 C2 (wn am (p : Int) (q : Int) (M + 1)) ((q : Int) ^ M) (1 - off + (M : Int)) (-((M : Int) + 1 - off)) (mkRat (wn am (p : Int) (q : Int) (M + 1)) (q ^ M)) (gp (gr k) (-((M : Int) + 1 - off))) _ w rfl hN x8 (by rw [show (0 : Int) - (1 - off + (M : Int)) = -((M : Int) + 1 - off) by omega]; exact wrapIc _ (by omega) (by omega)) ?_ ?_ ?_ ?_
    · intro x b
      refine worth_n g (M + 1) off am P1 M1 C1 P2 M2 C2 (p : Int) (q : Int) x hN h0 h1 (PY.grow b) (Nn.grow k1 b) (Nn.grow k2 b) ?_ ?_ ?_ ?_ ?_ ?_
      · intro y h
        have := Pow_n P1 M1 C1 p 1 y h (by decide) (K := 2) (one_lt64 (by decide)) (by decide) (by rw [Nat.pow_one]; exact lt_64 (B := 27) b1 (by decide))
        rw [Nat.pow_one] at this
        exact this
      · intro y h
        have := Pow_n P2 M2 C2 q 1 y h (by decide) (K := 2) (one_lt64 (by decide)) (by decide) (by rw [Nat.pow_one]; exact lt_64 (B := 27) b2 (by decide))
        rw [Nat.pow_one] at this
        exact this
      · intro y i a l c a' l' c' hi u v
        exact Mul_n u v (wp (by omega)).2 p1 (by unfold MulOK; omega)
      · intro y i a l c a' l' c' hi u v
        rw [Int.pow_succ]
        exact Mul_n u v (qp (by omega)).2 q1 (by unfold MulOK; omega)
      · intro y i a l c a' l' c' hi u v
        exact Mul_n u v (ap hi) (qp (by omega)).2 (by unfold MulOK; omega)
      · intro y i a l c a' l' c' hi u v
        have x0 : 0 ≤ wn am (p : Int) (q : Int) i * (p : Int) := Int.mul_nonneg (wp (by omega)).1 (by omega)
        have y0 : 0 ≤ am (i + 1) * (q : Int) ^ i := Int.mul_nonneg (ha i hi).1 (qp (by omega)).1
        have s0 : wn am (p : Int) (q : Int) (i + 1) = wn am (p : Int) (q : Int) i * (p : Int) + am (i + 1) * (q : Int) ^ i := rfl
        have s1 := (wp (n := i + 1) (by omega)).2
        have t := PSigned_n (wn am (p : Int) (q : Int) i * (p : Int)) (am (i + 1) * (q : Int) ^ i) (P1 := a) (M1 := l) (C1 := c) (P2 := a') (M2 := l') (C2 := c') (w := y) (by rw [Z x0]; exact u) (by rw [Z y0]; exact v) (m := 60) (by rw [Z x0]; omega) (by rw [Z y0]; omega) (by decide)
        rw [show decide (wn am (p : Int) (q : Int) i * (p : Int) < 0) = false from decide_eq_false (by omega), show decide (am (i + 1) * (q : Int) ^ i < 0) = false from decide_eq_false (by omega), show decide (wn am (p : Int) (q : Int) i * (p : Int) + am (i + 1) * (q : Int) ^ i < 0) = false from decide_eq_false (by omega), Z (show 0 ≤ wn am (p : Int) (q : Int) i * (p : Int) + am (i + 1) * (q : Int) ^ i by omega), ← s0] at t
        exact t
    · intro x a l c a' l' c' u v
      obtain ⟨A, hA⟩ : ∃ A : Nat, wn am (p : Int) (q : Int) (M + 1) = (A : Int) := ⟨(wn am (p : Int) (q : Int) (M + 1)).toNat, by have := (wp (n := M + 1) (by omega)).1; omega⟩
      have e2 : ((q : Int)) ^ M = ((q ^ M : Nat) : Int) := by simp
      have a1 := (wp (n := M + 1) (by omega)).2
      have d1 := (qp (n := M) (by omega)).2
      rw [hA] at u a1 ⊢
      rw [e2] at v d1
      exact fa_of (Lowest_p a a' l c l' c' A (q ^ M) 60 x u v (by have := Nat.pow_pos (n := M) q0; omega) a1 d1 (by decide))
    · intro x b
      have pf : PF x (.agg #[.bool false, .slice P1 M1 C1, .slice P2 M2 C2]) (gr k) := ⟨P1, M1, C1, P2, M2, C2, by rw [num_neg pg], by rw [hp, Int.natAbs_natCast]; exact Nn.grow k1 b, by rw [hq]; exact Nn.grow k2 b⟩
      exact Power_p _ (gr k) _ 27 x pf pg (gr_bd hk).1 (by decide) (by omega) (by omega)
    · intro x v1 v2 h1 h2
      have tb : vs am (gr k) off (M + 1) = mkRat (wn am (p : Int) (q : Int) (M + 1)) (q ^ M) * gp (gr k) (-((M : Int) + 1 - off)) := by
        have := vs_eq am (gr k) off h0 (by omega) gz M
        rw [hp, hq] at this
        exact this
      rw [tb]
      have a1 := wp (n := M + 1) (by omega)
      have d1 := (qp (n := M) (by omega)).2
      have m := mk_parts (wn am (p : Int) (q : Int) (M + 1)) (q ^ M) (by have := Nat.pow_pos (n := M) q0; omega)
      have e2 : ((q : Int)) ^ M = ((q ^ M : Nat) : Int) := by simp
      rw [e2] at d1
      have s1 : PS (mkRat (wn am (p : Int) (q : Int) (M + 1)) (q ^ M)) 60 := ⟨by omega, by omega⟩
      exact fa_of (Times_p v1 v2 _ _ 60 60 x h1 h2 s1 (Bd.ps (Bd.gp (gr_bd hk).1 gz _ (M := 131) (by omega)) (by decide)) (by unfold MulOK; omega))
end Go.Proofs.YtmopfnhjooopkaaGreatDoor.Mo

namespace Go.Proofs.YtmopfnhjooopkaaGreatDoor.Mo
open Go.RowKit Ip

set_option maxRecDepth 100000 in
set_option maxHeartbeats 1600000 in
theorem annuity_yes (k n : Int) (due : Bool) (fv : Value) (r : Rat) (s t : ByteArray) (er : Int) (w : World) (Y : ∀ x, Below w.heap.size w x → Calls Tryz.prog 143 #[.int .i64 k, .int .i64 n, .bool due, fv] x (Fa r x)) (U : ∀ x v, Below w.heap.size w x → PF x v r → Calls Tryz.prog 32 #[v] x fun e w' => e = .returned (.tuple #[.agg #[.string s, .string t], .int .i64 er]) ∧ Below x.heap.size x w') (I1 : okR k = true) (I2 : okY n = true) :
    Calls Tryz.prog 83 #[.int .i64 k, .int .i64 n, .bool due, fv] w fun e w' => e = .returned (.tuple #[.agg #[.string s, .string t], .int .i64 er]) ∧ Below w.heap.size w w' := by
  have KR := Blk.new w #[.string ⟨#[]⟩, .string ⟨#[]⟩] 23
  have pr : Below w.heap.size w (w.alloc (.cells #[.string ⟨#[]⟩, .string ⟨#[]⟩] 23)) := (Below.refl _ _).alloc (Nat.le_refl _) _
  have A1 := fun x => isRate_any k x
  have A2 := fun x => isYears_any n x
  simp only [I1, I2] at A1 A2
  go_enter Tryz.func83, Tryz.ntmps83
  go_wp2_with (first
    | (go_at_call 32; (have mk := b1); (refine (U _ _ (bel' pr b1) t1).mono ?_); (rintro e w2 ⟨rfl, b2⟩); (have p2 := bel' (bel' pr b1) b2); (have K1 := KR.below (bel' b1 b2) KR.lt); (have q0 := K1.at 0); (have q1 := K1.at 1); (have y0 := K1.free 0); (have y1 := K1.free 1); (simp at q0 q1))
    | (go_at_call 143; (refine (Y _ pr).mono ?_); (rintro e w1 ⟨g1, a1, l1, c1, a1', l1', c1', rfl, t1, b1⟩))
    | (go_at_call 141; refine (A1 _).mono ?_; rintro e w9 ⟨rfl, hw⟩; subst w9)
    | (go_at_call 142; refine (A2 _).mono ?_; rintro e w9 ⟨rfl, hw⟩; subst w9)
    | fail)
  have KE := bput (bput K1 0 (.string s)) 1 (.string t)
  have bE := (p2.setCell (p := ⟨w.heap.size, 0, none⟩) (Nat.le_refl _) (.string s)).setCell (p := ⟨w.heap.size, 1, none⟩) (Nat.le_refl _) (.string t)
  generalize (World.setCell (World.setCell _ ⟨w.heap.size, 0, none⟩ (.string s)) ⟨w.heap.size, 1, none⟩ (.string t)) = WE at *
  have z0 := KE.at 0
  have z1 := KE.at 1
  simp at z0 z1
  exact bodyPost_ret (v := .tuple #[.agg #[.string s, .string t], .int .i64 er]) (by simp [results, Tryz.results83, go_sem, z0, z1]) rfl ⟨rfl, bE⟩
set_option maxRecDepth 100000 in
set_option maxHeartbeats 1600000 in
theorem annuity_no (k n : Int) (due : Bool) (fv : Value) (w : World) (h : (okR k && okY n) = false) :
    Calls Tryz.prog 83 #[.int .i64 k, .int .i64 n, .bool due, fv] w fun e w' => e = .returned (.tuple #[.agg #[.string ⟨#[]⟩, .string ⟨#[]⟩], .int .i64 1]) ∧ Below w.heap.size w w' := by
  have pr : Below w.heap.size w (w.alloc (.cells #[.string ⟨#[]⟩, .string ⟨#[]⟩] 23)) := (Below.refl _ _).alloc (Nat.le_refl _) _
  have A1 := fun x => isRate_any k x
  have A2 := fun x => isYears_any n x
  obtain ⟨u, hu⟩ : ∃ u, okR k = u := ⟨_, rfl⟩
  obtain ⟨v, hv⟩ : ∃ v, okY n = v := ⟨_, rfl⟩
  simp only [hu, hv] at A1 A2 h
  clear hu hv
  cases u
  all_goals
    try (simp at h; subst h)
    go_enter Tryz.func83, Tryz.ntmps83
    go_wp2_with (first
      | (go_at_call 141; refine (A1 _).mono ?_; rintro e w1 ⟨rfl, hw⟩; subst w1)
      | (go_at_call 142; refine (A2 _).mono ?_; rintro e w1 ⟨rfl, hw⟩; subst w1)
      | fail)
    exact bodyPost_ret (v := .tuple #[.agg #[.string ⟨#[]⟩, .string ⟨#[]⟩], .int .i64 1]) (by simp [results, Tryz.results83, go_sem]) rfl ⟨rfl, pr⟩
set_option maxRecDepth 100000 in
set_option maxHeartbeats 1600000 in
theorem Certain_r (k n : Int) (due : Bool) (s t : ByteArray) (er : Int) (w : World) (AN : ∀ x, Below w.heap.size w x → Calls Tryz.prog 83 #[.int .i64 k, .int .i64 n, .bool due, .func (.func 84) #[] #[]] x fun e w' => e = .returned (.tuple #[.agg #[.string s, .string t], .int .i64 er]) ∧ Below x.heap.size x w') :
    Calls Tryz.prog 25 #[.int .i64 k, .int .i64 n, .bool due] w fun e w' => e = .returned (.tuple #[.agg #[.string s, .string t], .int .i64 er]) ∧ Below w.heap.size w w' := by
  have KR := Blk.new w #[.string ⟨#[]⟩, .string ⟨#[]⟩] 23
  have pr : Below w.heap.size w (w.alloc (.cells #[.string ⟨#[]⟩, .string ⟨#[]⟩] 23)) := (Below.refl _ _).alloc (Nat.le_refl _) _
  go_enter Tryz.func25, Tryz.ntmps25
  go_wp2_with (first
    | (go_at_call 83; (refine (AN _ pr).mono ?_); (rintro e w2 ⟨rfl, b2⟩); (have p2 := bel' pr b2); (have K1 := KR.below b2 KR.lt); (have q0 := K1.at 0); (have q1 := K1.at 1); (have y0 := K1.free 0); (have y1 := K1.free 1); (simp at q0 q1))
    | fail)
  have KE := bput (bput K1 0 (.string s)) 1 (.string t)
  have bE := (p2.setCell (p := ⟨w.heap.size, 0, none⟩) (Nat.le_refl _) (.string s)).setCell (p := ⟨w.heap.size, 1, none⟩) (Nat.le_refl _) (.string t)
  generalize (World.setCell (World.setCell _ ⟨w.heap.size, 0, none⟩ (.string s)) ⟨w.heap.size, 1, none⟩ (.string t)) = WE at *
  have z0 := KE.at 0
  have z1 := KE.at 1
  simp at z0 z1
  exact bodyPost_ret (v := .tuple #[.agg #[.string s, .string t], .int .i64 er]) (by simp [results, Tryz.results25, go_sem, z0, z1]) rfl ⟨rfl, bE⟩
set_option maxRecDepth 100000 in
set_option maxHeartbeats 1600000 in
theorem Rising_r (k n : Int) (due : Bool) (s t : ByteArray) (er : Int) (w : World) (AN : ∀ x, Below w.heap.size w x → Calls Tryz.prog 83 #[.int .i64 k, .int .i64 n, .bool due, .func (.func 85) #[] #[]] x fun e w' => e = .returned (.tuple #[.agg #[.string s, .string t], .int .i64 er]) ∧ Below x.heap.size x w') :
    Calls Tryz.prog 26 #[.int .i64 k, .int .i64 n, .bool due] w fun e w' => e = .returned (.tuple #[.agg #[.string s, .string t], .int .i64 er]) ∧ Below w.heap.size w w' := by
  have KR := Blk.new w #[.string ⟨#[]⟩, .string ⟨#[]⟩] 23
  have pr : Below w.heap.size w (w.alloc (.cells #[.string ⟨#[]⟩, .string ⟨#[]⟩] 23)) := (Below.refl _ _).alloc (Nat.le_refl _) _
  go_enter Tryz.func26, Tryz.ntmps26
  go_wp2_with (first
    | (go_at_call 83; (refine (AN _ pr).mono ?_); (rintro e w2 ⟨rfl, b2⟩); (have p2 := bel' pr b2); (have K1 := KR.below b2 KR.lt); (have q0 := K1.at 0); (have q1 := K1.at 1); (have y0 := K1.free 0); (have y1 := K1.free 1); (simp at q0 q1))
    | fail)
  have KE := bput (bput K1 0 (.string s)) 1 (.string t)
  have bE := (p2.setCell (p := ⟨w.heap.size, 0, none⟩) (Nat.le_refl _) (.string s)).setCell (p := ⟨w.heap.size, 1, none⟩) (Nat.le_refl _) (.string t)
  generalize (World.setCell (World.setCell _ ⟨w.heap.size, 0, none⟩ (.string s)) ⟨w.heap.size, 1, none⟩ (.string t)) = WE at *
  have z0 := KE.at 0
  have z1 := KE.at 1
  simp at z0 z1
  exact bodyPost_ret (v := .tuple #[.agg #[.string s, .string t], .int .i64 er]) (by simp [results, Tryz.results26, go_sem, z0, z1]) rfl ⟨rfl, bE⟩
set_option maxRecDepth 100000 in
set_option maxHeartbeats 1600000 in
theorem Falling_r (k n : Int) (due : Bool) (s t : ByteArray) (er : Int) (w : World) (AN : ∀ x, Below w.heap.size w x → x.cell? ⟨w.heap.size, 0, none⟩ = some (.int .i64 n) → Calls Tryz.prog 83 #[.int .i64 k, .int .i64 n, .bool due, .func (.func 86) #[] #[.pointer (some ⟨w.heap.size, 0, none⟩)]] x fun e w' => e = .returned (.tuple #[.agg #[.string s, .string t], .int .i64 er]) ∧ Below x.heap.size x w') :
    Calls Tryz.prog 27 #[.int .i64 k, .int .i64 n, .bool due] w fun e w' => e = .returned (.tuple #[.agg #[.string s, .string t], .int .i64 er]) ∧ Below w.heap.size w w' := by
  have hmf : ∀ (fn : Fn) (first cap : Array Value) (w : World), (Instr.makeFunc fn first cap).run Tryz.prog w = .ok (.func fn first cap) w := fun _ _ _ _ => rfl
  have KY := (Blk.new w #[.int .i64 n] 3).alloc (.cells #[.string ⟨#[]⟩, .string ⟨#[]⟩] 23)
  have KR := Blk.new (w.alloc (.cells #[.int .i64 n] 3)) #[.string ⟨#[]⟩, .string ⟨#[]⟩] 23
  have pr : Below w.heap.size w ((w.alloc (.cells #[.int .i64 n] 3)).alloc (.cells #[.string ⟨#[]⟩, .string ⟨#[]⟩] 23)) := ((Below.refl _ _).alloc (Nat.le_refl _) _).alloc (by simp) _
  simp only [World.size_alloc] at KR
  go_enter Tryz.func27, Tryz.ntmps27
  go_wp2_with (first
    | (go_at_call 83; (refine (AN _ pr (KY.at 0)).mono ?_); (rintro e w2 ⟨rfl, b2⟩); (have p2 := bel' pr b2); (have K1 := KR.below b2 KR.lt); (have q0 := K1.at 0); (have q1 := K1.at 1); (have y0 := K1.free 0); (have y1 := K1.free 1); (simp at q0 q1))
    | fail)
  have KE := bput (bput K1 0 (.string s)) 1 (.string t)
  have bE := (p2.setCell (p := ⟨w.heap.size + 1, 0, none⟩) (show w.heap.size ≤ w.heap.size + 1 by omega) (.string s)).setCell (p := ⟨w.heap.size + 1, 1, none⟩) (show w.heap.size ≤ w.heap.size + 1 by omega) (.string t)
  have z0 := KE.at 0
  have z1 := KE.at 1
  simp at z0 z1
  exact bodyPost_ret (v := .tuple #[.agg #[.string s, .string t], .int .i64 er]) (by simp [results, Tryz.results27, go_sem, z0, z1]) rfl ⟨rfl, bE⟩
end Go.Proofs.YtmopfnhjooopkaaGreatDoor.Mo
