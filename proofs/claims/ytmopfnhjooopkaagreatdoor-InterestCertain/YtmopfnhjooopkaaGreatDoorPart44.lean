import Derived.Test.YtmopfnhjooopkaaGreatDoorPart37
import Derived.Test.YtmopfnhjooopkaaGreatDoorPart41
import Derived.Test.YtmopfnhjooopkaaGreatDoorPart42

namespace Go.Proofs.YtmopfnhjooopkaaGreatDoor.Mo
open Go.RowKit Ip

set_option maxRecDepth 100000 in
set_option maxHeartbeats 3200000 in
theorem RValue_up0 (k off : Int) (g : Rat) (am : Nat → Int) (N : Nat) (w : World) (hN : N ≤ 130) (hoff : off = 0) (ham : ∀ j : Nat, j < N → am (j + 1) = ((j : Int) + 1)) (OF : ∀ x (v : Int), -1000 ≤ v → v ≤ 1000 → Calls Tryz.prog 42 #[.int .i64 v] x (Qf (v : Rat) x)) (WO : ∀ x (n : Int), -400 ≤ n → n ≤ 400 → Calls Tryz.prog 144 #[.int .i64 k, .int .i64 n] x (Qf (gp g n) x)) (MU : ∀ x v1 v2 (n : Nat), n < N → L.IsQ x v1 (am (n + 1) : Rat) → L.IsQ x v2 (gp g (-((n : Int) + 1 - off))) → Calls Tryz.prog 60 #[v1, v2] x (Qf ((am (n + 1) : Rat) * gp g (-((n : Int) + 1 - off))) x)) (AD : ∀ x v1 v2 (n : Nat), n < N → L.IsQ x v1 (vs am g off n) → L.IsQ x v2 ((am (n + 1) : Rat) * gp g (-((n : Int) + 1 - off))) → Calls Tryz.prog 82 #[v1, v2] x (Qf (vs am g off (n + 1)) x)) : Calls Tryz.prog 89 #[.int .i64 2, .int .i64 k, .int .i64 (N : Int), .bool false] w (Qf (vs am g off N) w) := by
  have HO : Hid (off = 0) := hoff
  clear hoff
  have KR := Rb.new w (.bool false) (.slice none 0 0) (.slice none 0 0) 65
  have pr : Below w.heap.size w (w.alloc (.cells #[.bool false, .slice none 0 0, .slice none 0 0] 65)) := (Below.refl _ _).alloc (Nat.le_refl _) _
  go_enter Tryz.func89, Tryz.ntmps89
  go_wp2_with (first
    | (go_at_call 42; (refine (OF _ 0 (by decide) (by decide)).mono ?_); (rintro e w1 ⟨g1, a1, l1, c1, a1', l1', c1', rfl, t1, b1⟩); (have al := (Below.refl w1.heap.size w1).alloc (Nat.le_refl _) (.cells #[.bool g1, .slice a1 l1 c1, .slice a1' l1' c1'] 65)); (have bb := bel' b1 al); (have R1 := Rb.new w1 (.bool g1) (.slice a1 l1 c1) (.slice a1' l1' c1') 65); (have p1 := bel' pr bb); (have KR1 := KR.grow bb))
    | fail)
  have t1 := t1.grow al
  have HN : Hid (w.heap.size < w1.heap.size) := L.lt_of_cell (KR.grow b1).c0
  generalize w1.alloc (.cells #[.bool g1, .slice a1 l1 c1, .slice a1' l1' c1'] 65) = W1 at *
  generalize w1.heap.size = n9 at *
  clear KR pr b1 al bb
  go_loopw [10, 11, 12] (fun i _ _ wr => ∃ (j : Nat) (g1 : Bool) (a1 : Option Addr) (l1 c1 : Nat) (a1' : Option Addr) (l1' c1' : Nat), i = .int .i64 ((j : Int) + 1) ∧ j ≤ N ∧ Rb wr n9 (.bool g1) (.slice a1 l1 c1) (.slice a1' l1' c1') ∧ L.IsQ wr (.agg #[.bool g1, .slice a1 l1 c1, .slice a1' l1' c1']) (vs am g off j) ∧ Rb wr w.heap.size (.bool false) (.slice none 0 0) (.slice none 0 0) ∧ Below w.heap.size w wr) (fun i _ _ _ => N + 1 - (RowKit.intOf i).toNat)
  case atStart => exact ⟨0, g1, a1, l1, c1, a1', l1', c1', rfl, Nat.zero_le _, R1, t1, KR1, p1⟩
  case round =>
    clear R1 t1 KR1 p1
    obtain ⟨j, g1, a1, l1, c1, a1', l1', c1', rfl, hj, R1, t1, KR, p⟩ := hrel
    have hn := HN.out
    have q0 := R1.c0
    have q1 := R1.c1
    have q2 := R1.c2
    by_cases lt : j < N
    · have ea := ham j lt
      have eo : -((j : Int) + 1 - off) = -((j : Int) + 1) := by rw [HO.out]; omega
      have O1 := fun x => OF x ((j : Int) + 1) (by omega) (by omega)
      have W2 := fun x => WO x (-((j : Int) + 1)) (by omega) (by omega)
      have M3 := fun x v1 v2 => MU x v1 v2 j lt
      have A4 := fun x v1 v2 => AD x v1 v2 j lt
      rw [ea, eo] at M3 A4
      have y9 : IntKind.i64.wrap ((j : Int) + 1 + 1) = ((j + 1 : Nat) : Int) + 1 := by rw [show (j : Int) + 1 + 1 = ((j + 1 : Nat) : Int) + 1 by omega]; exact wrapIc _ (by omega) (by omega)
      have HK : Hid (j + 1 ≤ N) := lt
      skip
      skip
      skip
      have x4 : IntKind.i64.wrap (-((j : Int) + 1)) = -((j : Int) + 1) := wrapIc _ (by omega) (by omega)
      have lt' : (j : Int) + 1 ≤ (N : Int) := by omega
      generalize hT : ((j : Int) + 1) = T at *
      generalize hP : (((j : Int) + 1) : Int) = P at *
      clear OF WO MU AD ham hN hj lt ea eo
      go_wp2_with fail
      go_region_with (first
        | (go_at_call 82; (have mk := d4); (refine (A4 _ _ _ (t1.grow d4) t4).mono ?_); (rintro e w5 ⟨g5, a5, l5, c5, a5', l5', c5', rfl, t5, b5⟩); (have d5 := bel' d4 b5); (have R5 := R1.grow d5); (have z0 := R5.c0); (have z1 := R5.c1); (have z2 := R5.c2); (have y0 := R5.f0); (have y1 := R5.f1); (have y2 := R5.f2))
        | (go_at_call 60; (have mk := d3); (refine (M3 _ _ _ (t2.grow b3) t3).mono ?_); (rintro e w4 ⟨g4, a4, l4, c4, a4', l4', c4', rfl, t4, b4⟩); (have d4 := bel' d3 b4); (have R4 := R1.grow d4); (have s0 := R4.c0); (have s1 := R4.c1); (have s2 := R4.c2))
        | (go_at_call 144; (have mk := d2); (refine (W2 _).mono ?_); (rintro e w3 ⟨g3, a3, l3, c3, a3', l3', c3', rfl, t3, b3⟩); (have d3 := bel' d2 b3); (have R3 := R1.grow d3); (have u0 := R3.c0); (have u1 := R3.c1); (have u2 := R3.c2))
        | (go_at_call 42; (refine (O1 _).mono ?_); (rintro e w2 ⟨g2, a2, l2, c2, a2', l2', c2', rfl, t2, b2⟩); (have d2 := undrew b2); (have R2 := R1.grow d2); (have v0 := R2.c0); (have v1 := R2.c1); (have v2 := R2.c2))
        | fail)
      all_goals
       have Rn := R5.sets (.bool g5) (.slice a5 l5 c5) (.slice a5' l5' c5')
       have tn := qput (x := .bool g5) (y := .slice a5 l5 c5) (z := .slice a5' l5' c5') t5 R5
       have KRn := (KR.grow d5).skip3 (show w.heap.size ≠ n9 by omega) (.bool g5) (.slice a5 l5 c5) (.slice a5' l5' c5')
       have pn := bset3 (x := .bool g5) (y := .slice a5 l5 c5) (z := .slice a5' l5' c5') (bel' p d5) (show w.heap.size ≤ n9 by omega)
       go_wp2_with fail
       go_roundw
       case rel => exact ⟨j + 1, g5, a5, l5, c5, a5', l5', c5', by go_num, HK.out, Rn, tn, KRn, pn⟩
       case measure => simp [RowKit.intOf]; have := HK.out; omega
    · obtain rfl : j = N := by omega
      have k0 := KR.c0
      have k1 := KR.c1
      have k2 := KR.c2
      have f0 := KR.f0
      have f1 := KR.f1
      have f2 := KR.f2
      have lt' : ¬ (j : Int) + 1 ≤ (j : Int) := by omega
      clear OF WO MU AD ham
      go_wp2_with fail
      obtain ⟨F0, F1, F2⟩ := KR.put (.bool g1) (.slice a1 l1 c1) (.slice a1' l1' c1')
      exact bodyPost_ret (v := .agg #[.bool g1, .slice a1 l1 c1, .slice a1' l1' c1']) (by simp [results, Tryz.results89, go_sem, F0, F1, F2]) rfl ⟨g1, a1, l1, c1, a1', l1', c1', rfl, qput t1 KR, bset3 p (Nat.le_refl _)⟩
set_option maxRecDepth 100000 in
set_option maxHeartbeats 3200000 in
theorem RValue_up1 (k off : Int) (g : Rat) (am : Nat → Int) (N : Nat) (w : World) (hN : N ≤ 130) (hoff : off = 1) (ham : ∀ j : Nat, j < N → am (j + 1) = ((j : Int) + 1)) (OF : ∀ x (v : Int), -1000 ≤ v → v ≤ 1000 → Calls Tryz.prog 42 #[.int .i64 v] x (Qf (v : Rat) x)) (WO : ∀ x (n : Int), -400 ≤ n → n ≤ 400 → Calls Tryz.prog 144 #[.int .i64 k, .int .i64 n] x (Qf (gp g n) x)) (MU : ∀ x v1 v2 (n : Nat), n < N → L.IsQ x v1 (am (n + 1) : Rat) → L.IsQ x v2 (gp g (-((n : Int) + 1 - off))) → Calls Tryz.prog 60 #[v1, v2] x (Qf ((am (n + 1) : Rat) * gp g (-((n : Int) + 1 - off))) x)) (AD : ∀ x v1 v2 (n : Nat), n < N → L.IsQ x v1 (vs am g off n) → L.IsQ x v2 ((am (n + 1) : Rat) * gp g (-((n : Int) + 1 - off))) → Calls Tryz.prog 82 #[v1, v2] x (Qf (vs am g off (n + 1)) x)) : Calls Tryz.prog 89 #[.int .i64 2, .int .i64 k, .int .i64 (N : Int), .bool true] w (Qf (vs am g off N) w) := by
  have HO : Hid (off = 1) := hoff
  clear hoff
  have KR := Rb.new w (.bool false) (.slice none 0 0) (.slice none 0 0) 65
  have pr : Below w.heap.size w (w.alloc (.cells #[.bool false, .slice none 0 0, .slice none 0 0] 65)) := (Below.refl _ _).alloc (Nat.le_refl _) _
  go_enter Tryz.func89, Tryz.ntmps89
  go_wp2_with (first
    | (go_at_call 42; (refine (OF _ 0 (by decide) (by decide)).mono ?_); (rintro e w1 ⟨g1, a1, l1, c1, a1', l1', c1', rfl, t1, b1⟩); (have al := (Below.refl w1.heap.size w1).alloc (Nat.le_refl _) (.cells #[.bool g1, .slice a1 l1 c1, .slice a1' l1' c1'] 65)); (have bb := bel' b1 al); (have R1 := Rb.new w1 (.bool g1) (.slice a1 l1 c1) (.slice a1' l1' c1') 65); (have p1 := bel' pr bb); (have KR1 := KR.grow bb))
    | fail)
  have t1 := t1.grow al
  have HN : Hid (w.heap.size < w1.heap.size) := L.lt_of_cell (KR.grow b1).c0
  generalize w1.alloc (.cells #[.bool g1, .slice a1 l1 c1, .slice a1' l1' c1'] 65) = W1 at *
  generalize w1.heap.size = n9 at *
  clear KR pr b1 al bb
  go_loopw [10, 11, 12] (fun i _ _ wr => ∃ (j : Nat) (g1 : Bool) (a1 : Option Addr) (l1 c1 : Nat) (a1' : Option Addr) (l1' c1' : Nat), i = .int .i64 ((j : Int) + 1) ∧ j ≤ N ∧ Rb wr n9 (.bool g1) (.slice a1 l1 c1) (.slice a1' l1' c1') ∧ L.IsQ wr (.agg #[.bool g1, .slice a1 l1 c1, .slice a1' l1' c1']) (vs am g off j) ∧ Rb wr w.heap.size (.bool false) (.slice none 0 0) (.slice none 0 0) ∧ Below w.heap.size w wr) (fun i _ _ _ => N + 1 - (RowKit.intOf i).toNat)
  case atStart => exact ⟨0, g1, a1, l1, c1, a1', l1', c1', rfl, Nat.zero_le _, R1, t1, KR1, p1⟩
  case round =>
    clear R1 t1 KR1 p1
    obtain ⟨j, g1, a1, l1, c1, a1', l1', c1', rfl, hj, R1, t1, KR, p⟩ := hrel
    have hn := HN.out
    have q0 := R1.c0
    have q1 := R1.c1
    have q2 := R1.c2
    by_cases lt : j < N
    · have ea := ham j lt
      have eo : -((j : Int) + 1 - off) = -((j : Int) + 1 - 1) := by rw [HO.out]
      have O1 := fun x => OF x ((j : Int) + 1) (by omega) (by omega)
      have W2 := fun x => WO x (-((j : Int) + 1 - 1)) (by omega) (by omega)
      have M3 := fun x v1 v2 => MU x v1 v2 j lt
      have A4 := fun x v1 v2 => AD x v1 v2 j lt
      rw [ea, eo] at M3 A4
      have y9 : IntKind.i64.wrap ((j : Int) + 1 + 1) = ((j + 1 : Nat) : Int) + 1 := by rw [show (j : Int) + 1 + 1 = ((j + 1 : Nat) : Int) + 1 by omega]; exact wrapIc _ (by omega) (by omega)
      have HK : Hid (j + 1 ≤ N) := lt
      skip
      skip
      have x3 : IntKind.i64.wrap ((j : Int) + 1 - 1) = (j : Int) + 1 - 1 := wrapIc _ (by omega) (by omega)
      have x4 : IntKind.i64.wrap (-((j : Int) + 1 - 1)) = -((j : Int) + 1 - 1) := wrapIc _ (by omega) (by omega)
      have lt' : (j : Int) + 1 ≤ (N : Int) := by omega
      generalize hT : ((j : Int) + 1 - 1) = T at *
      generalize hP : (((j : Int) + 1) : Int) = P at *
      clear OF WO MU AD ham hN hj lt ea eo
      go_wp2_with fail
      go_region_with (first
        | (go_at_call 82; (have mk := d4); (refine (A4 _ _ _ (t1.grow d4) t4).mono ?_); (rintro e w5 ⟨g5, a5, l5, c5, a5', l5', c5', rfl, t5, b5⟩); (have d5 := bel' d4 b5); (have R5 := R1.grow d5); (have z0 := R5.c0); (have z1 := R5.c1); (have z2 := R5.c2); (have y0 := R5.f0); (have y1 := R5.f1); (have y2 := R5.f2))
        | (go_at_call 60; (have mk := d3); (refine (M3 _ _ _ (t2.grow b3) t3).mono ?_); (rintro e w4 ⟨g4, a4, l4, c4, a4', l4', c4', rfl, t4, b4⟩); (have d4 := bel' d3 b4); (have R4 := R1.grow d4); (have s0 := R4.c0); (have s1 := R4.c1); (have s2 := R4.c2))
        | (go_at_call 144; (have mk := d2); (refine (W2 _).mono ?_); (rintro e w3 ⟨g3, a3, l3, c3, a3', l3', c3', rfl, t3, b3⟩); (have d3 := bel' d2 b3); (have R3 := R1.grow d3); (have u0 := R3.c0); (have u1 := R3.c1); (have u2 := R3.c2))
        | (go_at_call 42; (refine (O1 _).mono ?_); (rintro e w2 ⟨g2, a2, l2, c2, a2', l2', c2', rfl, t2, b2⟩); (have d2 := undrew b2); (have R2 := R1.grow d2); (have v0 := R2.c0); (have v1 := R2.c1); (have v2 := R2.c2))
        | fail)
      all_goals
       have Rn := R5.sets (.bool g5) (.slice a5 l5 c5) (.slice a5' l5' c5')
       have tn := qput (x := .bool g5) (y := .slice a5 l5 c5) (z := .slice a5' l5' c5') t5 R5
       have KRn := (KR.grow d5).skip3 (show w.heap.size ≠ n9 by omega) (.bool g5) (.slice a5 l5 c5) (.slice a5' l5' c5')
       have pn := bset3 (x := .bool g5) (y := .slice a5 l5 c5) (z := .slice a5' l5' c5') (bel' p d5) (show w.heap.size ≤ n9 by omega)
       go_wp2_with fail
       go_roundw
       case rel => exact ⟨j + 1, g5, a5, l5, c5, a5', l5', c5', by go_num, HK.out, Rn, tn, KRn, pn⟩
       case measure => simp [RowKit.intOf]; have := HK.out; omega
    · obtain rfl : j = N := by omega
      have k0 := KR.c0
      have k1 := KR.c1
      have k2 := KR.c2
      have f0 := KR.f0
      have f1 := KR.f1
      have f2 := KR.f2
      have lt' : ¬ (j : Int) + 1 ≤ (j : Int) := by omega
      clear OF WO MU AD ham
      go_wp2_with fail
      obtain ⟨F0, F1, F2⟩ := KR.put (.bool g1) (.slice a1 l1 c1) (.slice a1' l1' c1')
      exact bodyPost_ret (v := .agg #[.bool g1, .slice a1 l1 c1, .slice a1' l1' c1']) (by simp [results, Tryz.results89, go_sem, F0, F1, F2]) rfl ⟨g1, a1, l1, c1, a1', l1', c1', rfl, qput t1 KR, bset3 p (Nat.le_refl _)⟩
end Go.Proofs.YtmopfnhjooopkaaGreatDoor.Mo
