import Derived.Test.YtiaeoknmgidehaaGreatDoorPart14
import Derived.Test.YtiaeoknmgidehaaGreatDoorPart41
import Derived.Test.YtiaeoknmgidehaaGreatDoorPart08
import Derived.Test.YtiaeoknmgidehaaGreatDoorPart40
import Derived.Test.YtiaeoknmgidehaaGreatDoorPart15

namespace Go.Proofs.YtiaeoknmgidehaaGreatDoor.Ta
open Go.RowKit Go.Proofs.YtiaeoknmgidehaaGreatDoor.Mo

theorem tYears_any (k : Int) (w : World) : Calls Tryz.prog 84 #[.int .i64 k] w fun e w' => e = .returned (.bool (decide (0 ≤ k) && decide (k ≤ 130))) ∧ w' = w := by
  by_cases h1 : 0 ≤ k <;> by_cases h2 : k ≤ 130
  all_goals
    go_enter Tryz.func84, Tryz.ntmps84
    go_wp2
    go_ret
    exact ⟨by simp [h1, h2], rfl⟩
set_option maxRecDepth 100000 in
set_option maxHeartbeats 1600000 in
theorem comingFor_e (s : ByteArray) (f : Int) (vr vs : Value) (en ys n : Int) (c : Int) (w : World) (hc : (c != 0) = true) (C : ∀ x, Below w.heap.size w x → Calls Tryz.prog 83 #[.agg #[.string s, .int .i64 f, vr, vs], .agg #[.int .i64 en, .int .i64 ys]] x fun e w' => e = .returned (.tuple #[.slice none 0 0, .int .i64 c]) ∧ Below x.heap.size x w') : Calls Tryz.prog 54 #[.agg #[.string s, .int .i64 f, vr, vs], .agg #[.int .i64 en, .int .i64 ys], .int .i64 n] w fun e w' => e = .returned (.tuple #[.slice none 0 0, .int .i64 c]) ∧ Below w.heap.size w w' := by
  have pr : Below w.heap.size w ((w.alloc (.cells #[.string s, .int .i64 f, vr, vs] 44)).alloc (.cells #[.int .i64 en, .int .i64 ys] 46)) := ((Below.refl _ _).alloc (Nat.le_refl _) _).alloc (by simp) _
  go_enter Tryz.func54, Tryz.ntmps54
  go_wp2_with (first
    | (go_at_call 83; refine (C _ pr).mono ?_; rintro e w1 ⟨rfl, b1⟩)
    | fail)
  go_ret2
  exact ⟨rfl, bel' pr b1⟩
set_option maxRecDepth 100000 in
set_option maxHeartbeats 1600000 in
theorem comingFor_r (s : ByteArray) (f : Int) (vr vs : Value) (en ys n : Int) (N : Nat) (q : Nat → Int) (w : World) (hn : (decide (0 ≤ n) && decide (n ≤ 130)) = false) (C : ∀ x, Below w.heap.size w x → Calls Tryz.prog 83 #[.agg #[.string s, .int .i64 f, vr, vs], .agg #[.int .i64 en, .int .i64 ys]] x fun e w' => ∃ g, e = .returned (.tuple #[.slice (some ⟨g, 0, none⟩) N N, .int .i64 0]) ∧ Rc w' g N N q ∧ Below x.heap.size x w') : Calls Tryz.prog 54 #[.agg #[.string s, .int .i64 f, vr, vs], .agg #[.int .i64 en, .int .i64 ys], .int .i64 n] w fun e w' => e = .returned (.tuple #[.slice none 0 0, .int .i64 1]) ∧ Below w.heap.size w w' := by
  have pr : Below w.heap.size w ((w.alloc (.cells #[.string s, .int .i64 f, vr, vs] 44)).alloc (.cells #[.int .i64 en, .int .i64 ys] 46)) := ((Below.refl _ _).alloc (Nat.le_refl _) _).alloc (by simp) _
  have Y := fun x => tYears_any n x
  simp only [hn] at Y
  go_enter Tryz.func54, Tryz.ntmps54
  go_wp2_with (first
    | (go_at_call 83; refine (C _ pr).mono ?_; rintro e w1 ⟨g, rfl, R, b1⟩)
    | (go_at_call 84; refine (Y _).mono ?_; rintro e w9 ⟨rfl, hw⟩; subst w9)
    | fail)
  go_ret2
  exact ⟨rfl, bel' pr b1⟩
set_option maxRecDepth 100000 in
set_option maxHeartbeats 1600000 in
theorem comingFor_k (s : ByteArray) (f : Int) (vr vs : Value) (en ys n : Int) (N : Nat) (q : Nat → Int) (w : World) (hn : (decide (0 ≤ n) && decide (n ≤ 130)) = true) (C : ∀ x, Below w.heap.size w x → Calls Tryz.prog 83 #[.agg #[.string s, .int .i64 f, vr, vs], .agg #[.int .i64 en, .int .i64 ys]] x fun e w' => ∃ g, e = .returned (.tuple #[.slice (some ⟨g, 0, none⟩) N N, .int .i64 0]) ∧ Rc w' g N N q ∧ Below x.heap.size x w') : Calls Tryz.prog 54 #[.agg #[.string s, .int .i64 f, vr, vs], .agg #[.int .i64 en, .int .i64 ys], .int .i64 n] w fun e w' => ∃ g, e = .returned (.tuple #[.slice (some ⟨g, 0, none⟩) N N, .int .i64 0]) ∧ Rc w' g N N q ∧ Below w.heap.size w w' := by
  have pr : Below w.heap.size w ((w.alloc (.cells #[.string s, .int .i64 f, vr, vs] 44)).alloc (.cells #[.int .i64 en, .int .i64 ys] 46)) := ((Below.refl _ _).alloc (Nat.le_refl _) _).alloc (by simp) _
  have Y := fun x => tYears_any n x
  simp only [hn] at Y
  go_enter Tryz.func54, Tryz.ntmps54
  go_wp2_with (first
    | (go_at_call 83; refine (C _ pr).mono ?_; rintro e w1 ⟨g, rfl, R, b1⟩)
    | (go_at_call 84; refine (Y _).mono ?_; rintro e w9 ⟨rfl, hw⟩; subst w9)
    | fail)
  go_ret2
  exact ⟨g, rfl, R, bel' pr b1⟩
set_option maxRecDepth 100000 in
set_option maxHeartbeats 1600000 in
theorem Rate_e (s : ByteArray) (f : Int) (vr vs : Value) (en ys n : Int) (c : Int) (w : World) (hc : (c != 0) = true) (C : ∀ x, Below w.heap.size w x → Calls Tryz.prog 54 #[.agg #[.string s, .int .i64 f, vr, vs], .agg #[.int .i64 en, .int .i64 ys], .int .i64 n] x fun e w' => e = .returned (.tuple #[.slice none 0 0, .int .i64 c]) ∧ Below x.heap.size x w') : Calls Tryz.prog 20 #[.agg #[.string s, .int .i64 f, vr, vs], .agg #[.int .i64 en, .int .i64 ys], .int .i64 n] w fun e w' => e = .returned (.tuple #[.int .i64 0, .int .i64 c]) ∧ Below w.heap.size w w' := by
  have pr : Below w.heap.size w ((w.alloc (.cells #[.string s, .int .i64 f, vr, vs] 44)).alloc (.cells #[.int .i64 en, .int .i64 ys] 46)) := ((Below.refl _ _).alloc (Nat.le_refl _) _).alloc (by simp) _
  go_enter Tryz.func20, Tryz.ntmps20
  go_wp2_with (first
    | (go_at_call 54; refine (C _ pr).mono ?_; rintro e w1 ⟨rfl, b1⟩)
    | fail)
  go_ret2
  exact ⟨rfl, bel' pr b1⟩
set_option maxRecDepth 100000 in
set_option maxHeartbeats 1600000 in
theorem Rate_none (s : ByteArray) (f : Int) (vr vs : Value) (en ys n : Int) (N : Nat) (q : Nat → Int) (w : World) (hn : n ≥ (N : Int)) (C : ∀ x, Below w.heap.size w x → Calls Tryz.prog 54 #[.agg #[.string s, .int .i64 f, vr, vs], .agg #[.int .i64 en, .int .i64 ys], .int .i64 n] x fun e w' => ∃ g, e = .returned (.tuple #[.slice (some ⟨g, 0, none⟩) N N, .int .i64 0]) ∧ Rc w' g N N q ∧ Below x.heap.size x w') : Calls Tryz.prog 20 #[.agg #[.string s, .int .i64 f, vr, vs], .agg #[.int .i64 en, .int .i64 ys], .int .i64 n] w fun e w' => e = .returned (.tuple #[.int .i64 0, .int .i64 7]) ∧ Below w.heap.size w w' := by
  have pr : Below w.heap.size w ((w.alloc (.cells #[.string s, .int .i64 f, vr, vs] 44)).alloc (.cells #[.int .i64 en, .int .i64 ys] 46)) := ((Below.refl _ _).alloc (Nat.le_refl _) _).alloc (by simp) _
  go_enter Tryz.func20, Tryz.ntmps20
  go_wp2_with (first
    | (go_at_call 54; refine (C _ pr).mono ?_; rintro e w1 ⟨g, rfl, R, b1⟩)
    | fail)
  go_ret2
  exact ⟨rfl, bel' pr b1⟩
set_option maxRecDepth 100000 in
set_option maxHeartbeats 1600000 in
theorem Rate_k (s : ByteArray) (f : Int) (vr vs : Value) (en ys : Int) (n : Nat) (N : Nat) (q : Nat → Int) (w : World) (hn : n < N) (C : ∀ x, Below w.heap.size w x → Calls Tryz.prog 54 #[.agg #[.string s, .int .i64 f, vr, vs], .agg #[.int .i64 en, .int .i64 ys], .int .i64 n] x fun e w' => ∃ g, e = .returned (.tuple #[.slice (some ⟨g, 0, none⟩) N N, .int .i64 0]) ∧ Rc w' g N N q ∧ Below x.heap.size x w') : Calls Tryz.prog 20 #[.agg #[.string s, .int .i64 f, vr, vs], .agg #[.int .i64 en, .int .i64 ys], .int .i64 n] w fun e w' => e = .returned (.tuple #[.int .i64 (q n), .int .i64 0]) ∧ Below w.heap.size w w' := by
  have pr : Below w.heap.size w ((w.alloc (.cells #[.string s, .int .i64 f, vr, vs] 44)).alloc (.cells #[.int .i64 en, .int .i64 ys] 46)) := ((Below.refl _ _).alloc (Nat.le_refl _) _).alloc (by simp) _
  have h1 : ¬ (n : Int) ≥ (N : Int) := by omega
  have h2 : (n : Int) < (N : Int) := by omega
  have h3 : (0 : Int) ≤ (n : Int) := by omega
  have h4 : ((n : Int)).toNat = n := by omega
  go_enter Tryz.func20, Tryz.ntmps20
  go_wp2_with (first
    | (go_at_call 54; refine (C _ pr).mono ?_; rintro e w1 ⟨g, rfl, ⟨cs, K, hs, hf⟩, b1⟩; (have z := (K.at n).trans (hf n hn)))
    | fail)
  go_ret2
  exact ⟨rfl, bel' pr b1⟩
set_option maxRecDepth 100000 in
set_option maxHeartbeats 1600000 in
theorem Survive_e (s : ByteArray) (f : Int) (vr vs : Value) (en ys n : Int) (c : Int) (w : World) (hc : (c != 0) = true) (C : ∀ x, Below w.heap.size w x → Calls Tryz.prog 54 #[.agg #[.string s, .int .i64 f, vr, vs], .agg #[.int .i64 en, .int .i64 ys], .int .i64 n] x fun e w' => e = .returned (.tuple #[.slice none 0 0, .int .i64 c]) ∧ Below x.heap.size x w') : Calls Tryz.prog 22 #[.agg #[.string s, .int .i64 f, vr, vs], .agg #[.int .i64 en, .int .i64 ys], .int .i64 n] w fun e w' => e = .returned (.tuple #[.agg #[.string ⟨#[]⟩, .string ⟨#[]⟩], .int .i64 c]) ∧ Below w.heap.size w w' := by
  have pr : Below w.heap.size w (((w.alloc (.cells #[.string s, .int .i64 f, vr, vs] 44)).alloc (.cells #[.int .i64 en, .int .i64 ys] 46)).alloc (.cells #[.string ⟨#[]⟩, .string ⟨#[]⟩] 26)) := (((Below.refl _ _).alloc (Nat.le_refl _) _).alloc (by simp) _).alloc (by simp; omega) _
  have KR := Blk.new ((w.alloc (.cells #[.string s, .int .i64 f, vr, vs] 44)).alloc (.cells #[.int .i64 en, .int .i64 ys] 46)) #[.string ⟨#[]⟩, .string ⟨#[]⟩] 26
  simp only [World.size_alloc] at KR
  go_enter Tryz.func22, Tryz.ntmps22
  go_wp2_with (first
    | (go_at_call 54; refine (C _ pr).mono ?_; rintro e w1 ⟨rfl, b1⟩; (have K1 := KR.below b1 KR.lt); (have z0 := K1.at 0); (have z1 := K1.at 1); (have y0 := K1.free 0); (have y1 := K1.free 1); (simp at z0 z1))
    | fail)
  have KE := bput (bput K1 0 (.string ⟨#[]⟩)) 1 (.string ⟨#[]⟩)
  have bE := ((bel' pr b1).setCell (p := ⟨w.heap.size + 1 + 1, 0, none⟩) (show w.heap.size ≤ w.heap.size + 1 + 1 by omega) (.string ⟨#[]⟩)).setCell (p := ⟨w.heap.size + 1 + 1, 1, none⟩) (show w.heap.size ≤ w.heap.size + 1 + 1 by omega) (.string ⟨#[]⟩)
  have q0 := KE.at 0
  have q1 := KE.at 1
  simp at q0 q1
  exact bodyPost_ret (v := .tuple #[.agg #[.string ⟨#[]⟩, .string ⟨#[]⟩], .int .i64 c]) (by simp [results, Tryz.results22, go_sem, q0, q1]) rfl ⟨rfl, bE⟩
set_option maxRecDepth 100000 in
set_option maxHeartbeats 1600000 in
theorem Die_e (s : ByteArray) (f : Int) (vr vs : Value) (en ys n : Int) (c : Int) (w : World) (hc : (c != 0) = true) (C : ∀ x, Below w.heap.size w x → Calls Tryz.prog 54 #[.agg #[.string s, .int .i64 f, vr, vs], .agg #[.int .i64 en, .int .i64 ys], .int .i64 n] x fun e w' => e = .returned (.tuple #[.slice none 0 0, .int .i64 c]) ∧ Below x.heap.size x w') : Calls Tryz.prog 24 #[.agg #[.string s, .int .i64 f, vr, vs], .agg #[.int .i64 en, .int .i64 ys], .int .i64 n] w fun e w' => e = .returned (.tuple #[.agg #[.string ⟨#[]⟩, .string ⟨#[]⟩], .int .i64 c]) ∧ Below w.heap.size w w' := by
  have pr : Below w.heap.size w (((w.alloc (.cells #[.string s, .int .i64 f, vr, vs] 44)).alloc (.cells #[.int .i64 en, .int .i64 ys] 46)).alloc (.cells #[.string ⟨#[]⟩, .string ⟨#[]⟩] 26)) := (((Below.refl _ _).alloc (Nat.le_refl _) _).alloc (by simp) _).alloc (by simp; omega) _
  have KR := Blk.new ((w.alloc (.cells #[.string s, .int .i64 f, vr, vs] 44)).alloc (.cells #[.int .i64 en, .int .i64 ys] 46)) #[.string ⟨#[]⟩, .string ⟨#[]⟩] 26
  simp only [World.size_alloc] at KR
  go_enter Tryz.func24, Tryz.ntmps24
  go_wp2_with (first
    | (go_at_call 54; refine (C _ pr).mono ?_; rintro e w1 ⟨rfl, b1⟩; (have K1 := KR.below b1 KR.lt); (have z0 := K1.at 0); (have z1 := K1.at 1); (have y0 := K1.free 0); (have y1 := K1.free 1); (simp at z0 z1))
    | fail)
  have KE := bput (bput K1 0 (.string ⟨#[]⟩)) 1 (.string ⟨#[]⟩)
  have bE := ((bel' pr b1).setCell (p := ⟨w.heap.size + 1 + 1, 0, none⟩) (show w.heap.size ≤ w.heap.size + 1 + 1 by omega) (.string ⟨#[]⟩)).setCell (p := ⟨w.heap.size + 1 + 1, 1, none⟩) (show w.heap.size ≤ w.heap.size + 1 + 1 by omega) (.string ⟨#[]⟩)
  have q0 := KE.at 0
  have q1 := KE.at 1
  simp at q0 q1
  exact bodyPost_ret (v := .tuple #[.agg #[.string ⟨#[]⟩, .string ⟨#[]⟩], .int .i64 c]) (by simp [results, Tryz.results24, go_sem, q0, q1]) rfl ⟨rfl, bE⟩
set_option maxRecDepth 100000 in
set_option maxHeartbeats 1600000 in
theorem Survive_k (s : ByteArray) (f : Int) (vr vs : Value) (en ys n : Int) (N : Nat) (q : Nat → Int) (r : Rat) (u t : ByteArray) (er : Int) (w : World) (C : ∀ x, Below w.heap.size w x → Calls Tryz.prog 54 #[.agg #[.string s, .int .i64 f, vr, vs], .agg #[.int .i64 en, .int .i64 ys], .int .i64 n] x fun e w' => ∃ g, e = .returned (.tuple #[.slice (some ⟨g, 0, none⟩) N N, .int .i64 0]) ∧ Rc w' g N N q ∧ Below x.heap.size x w') (S1 : ∀ x g, Rc x g N N q → Calls Tryz.prog 57 #[.slice (some ⟨g, 0, none⟩) N N, .int .i64 n] x (Fa r x)) (RR : ∀ x v, Below w.heap.size w x → PF x v r → Calls Tryz.prog 30 #[v] x fun e w' => e = .returned (.tuple #[.agg #[.string u, .string t], .int .i64 er]) ∧ Below x.heap.size x w') : Calls Tryz.prog 22 #[.agg #[.string s, .int .i64 f, vr, vs], .agg #[.int .i64 en, .int .i64 ys], .int .i64 n] w fun e w' => e = .returned (.tuple #[.agg #[.string u, .string t], .int .i64 er]) ∧ Below w.heap.size w w' := by
  have pr : Below w.heap.size w (((w.alloc (.cells #[.string s, .int .i64 f, vr, vs] 44)).alloc (.cells #[.int .i64 en, .int .i64 ys] 46)).alloc (.cells #[.string ⟨#[]⟩, .string ⟨#[]⟩] 26)) := (((Below.refl _ _).alloc (Nat.le_refl _) _).alloc (by simp) _).alloc (by simp; omega) _
  have KR := Blk.new ((w.alloc (.cells #[.string s, .int .i64 f, vr, vs] 44)).alloc (.cells #[.int .i64 en, .int .i64 ys] 46)) #[.string ⟨#[]⟩, .string ⟨#[]⟩] 26
  simp only [World.size_alloc] at KR
  go_enter Tryz.func22, Tryz.ntmps22
  go_wp2_with (first
    | (go_at_call 30; (have z := p2); refine (RR _ _ p2 t2).mono ?_; rintro e w3 ⟨rfl, b3⟩; (have p3 := bel' p2 b3); (have K1 := KR.below (bel' (bel' b1 b2) b3) KR.lt); (have z0 := K1.at 0); (have z1 := K1.at 1); (have y0 := K1.free 0); (have y1 := K1.free 1); (simp at z0 z1))
    | (go_at_call 57; (have z := p1); refine (S1 _ _ R).mono ?_; rintro e w2 ⟨g2, a2, l2, c2, a2', l2', c2', rfl, t2, b2⟩; (have p2 := bel' p1 b2))
    | (go_at_call 54; refine (C _ pr).mono ?_; rintro e w1 ⟨g, rfl, R, b1⟩; (have p1 := bel' pr b1))
    | fail)
  have KE := bput (bput K1 0 (.string u)) 1 (.string t)
  have bE := (p3.setCell (p := ⟨w.heap.size + 1 + 1, 0, none⟩) (show w.heap.size ≤ w.heap.size + 1 + 1 by omega) (.string u)).setCell (p := ⟨w.heap.size + 1 + 1, 1, none⟩) (show w.heap.size ≤ w.heap.size + 1 + 1 by omega) (.string t)
  have q0 := KE.at 0
  have q1 := KE.at 1
  simp at q0 q1
  exact bodyPost_ret (v := .tuple #[.agg #[.string u, .string t], .int .i64 er]) (by simp [results, Tryz.results22, go_sem, q0, q1]) rfl ⟨rfl, bE⟩
theorem Rc.grow {x x' : World} {g n k : Nat} {q : Nat → Int} (h : Rc x g n k q) (b : Below x.heap.size x x') : Rc x' g n k q := by
  obtain ⟨cs, K, e, f⟩ := h
  exact ⟨cs, K.below b K.lt, e, f⟩
set_option maxRecDepth 100000 in
set_option maxHeartbeats 1600000 in
theorem Die_k (s : ByteArray) (f : Int) (vr vs : Value) (en ys n : Int) (m : Int) (N : Nat) (q : Nat → Int) (r r2 r3 r4 : Rat) (u t : ByteArray) (er : Int) (w : World) (hm : IntKind.i64.wrap (n + 1) = m) (C : ∀ x, Below w.heap.size w x → Calls Tryz.prog 54 #[.agg #[.string s, .int .i64 f, vr, vs], .agg #[.int .i64 en, .int .i64 ys], .int .i64 n] x fun e w' => ∃ g, e = .returned (.tuple #[.slice (some ⟨g, 0, none⟩) N N, .int .i64 0]) ∧ Rc w' g N N q ∧ Below x.heap.size x w') (S1 : ∀ x g, Rc x g N N q → Calls Tryz.prog 57 #[.slice (some ⟨g, 0, none⟩) N N, .int .i64 n] x (Fa r x)) (S2 : ∀ x g, Rc x g N N q → Calls Tryz.prog 57 #[.slice (some ⟨g, 0, none⟩) N N, .int .i64 m] x (Fa r2 x)) (NG : ∀ x v, PF x v r2 → Calls Tryz.prog 59 #[v] x (Fa r3 x)) (PL : ∀ x v1 v2, PF x v1 r → PF x v2 r3 → Calls Tryz.prog 37 #[v1, v2] x (Fa r4 x)) (RR : ∀ x v, Below w.heap.size w x → PF x v r4 → Calls Tryz.prog 30 #[v] x fun e w' => e = .returned (.tuple #[.agg #[.string u, .string t], .int .i64 er]) ∧ Below x.heap.size x w') : Calls Tryz.prog 24 #[.agg #[.string s, .int .i64 f, vr, vs], .agg #[.int .i64 en, .int .i64 ys], .int .i64 n] w fun e w' => e = .returned (.tuple #[.agg #[.string u, .string t], .int .i64 er]) ∧ Below w.heap.size w w' := by
  have pr : Below w.heap.size w (((w.alloc (.cells #[.string s, .int .i64 f, vr, vs] 44)).alloc (.cells #[.int .i64 en, .int .i64 ys] 46)).alloc (.cells #[.string ⟨#[]⟩, .string ⟨#[]⟩] 26)) := (((Below.refl _ _).alloc (Nat.le_refl _) _).alloc (by simp) _).alloc (by simp; omega) _
  have KR := Blk.new ((w.alloc (.cells #[.string s, .int .i64 f, vr, vs] 44)).alloc (.cells #[.int .i64 en, .int .i64 ys] 46)) #[.string ⟨#[]⟩, .string ⟨#[]⟩] 26
  simp only [World.size_alloc] at KR
  go_enter Tryz.func24, Tryz.ntmps24
  go_wp2_with (first
    | (go_at_call 30; (have z := p5); refine (RR _ _ p5 t5).mono ?_; rintro e w6 ⟨rfl, b6⟩; (have p6 := bel' p5 b6); (have K1 := KR.below (bel' (bel' (bel' (bel' (bel' b1 b2) b3) b4) b5) b6) KR.lt); (have z0 := K1.at 0); (have z1 := K1.at 1); (have y0 := K1.free 0); (have y1 := K1.free 1); (simp at z0 z1))
    | (go_at_call 37; (have z := p4); refine (PL _ _ _ ((t2.grow b3).grow b4) t4).mono ?_; rintro e w5 ⟨g5, a5, l5, c5, a5', l5', c5', rfl, t5, b5⟩; (have p5 := bel' p4 b5))
    | (go_at_call 59; (have z := p3); refine (NG _ _ t3).mono ?_; rintro e w4 ⟨g4, a4, l4, c4, a4', l4', c4', rfl, t4, b4⟩; (have p4 := bel' p3 b4))
    | (go_at_call 57; (have z := p2); refine (S2 _ _ (R.grow b2)).mono ?_; rintro e w3 ⟨g3, a3, l3, c3, a3', l3', c3', rfl, t3, b3⟩; (have p3 := bel' p2 b3))
    | (go_at_call 57; (have z := p1); refine (S1 _ _ R).mono ?_; rintro e w2 ⟨g2, a2, l2, c2, a2', l2', c2', rfl, t2, b2⟩; (have p2 := bel' p1 b2))
    | (go_at_call 54; refine (C _ pr).mono ?_; rintro e w1 ⟨g, rfl, R, b1⟩; (have p1 := bel' pr b1))
    | fail)
  have KE := bput (bput K1 0 (.string u)) 1 (.string t)
  have bE := (p6.setCell (p := ⟨w.heap.size + 1 + 1, 0, none⟩) (show w.heap.size ≤ w.heap.size + 1 + 1 by omega) (.string u)).setCell (p := ⟨w.heap.size + 1 + 1, 1, none⟩) (show w.heap.size ≤ w.heap.size + 1 + 1 by omega) (.string t)
  have q0 := KE.at 0
  have q1 := KE.at 1
  simp at q0 q1
  exact bodyPost_ret (v := .tuple #[.agg #[.string u, .string t], .int .i64 er]) (by simp [results, Tryz.results24, go_sem, q0, q1]) rfl ⟨rfl, bE⟩
end Go.Proofs.YtiaeoknmgidehaaGreatDoor.Ta

namespace Go.Proofs.YtiaeoknmgidehaaGreatDoor.Ta
open Go.RowKit
open Go.Proofs.YtiaeoknmgidehaaGreatDoor.Mo (Qf qf_of bput)

set_option maxRecDepth 100000 in
set_option maxHeartbeats 1600000 in
theorem wrong_e (s : ByteArray) (f : Int) (vr vs : Value) (en ys n : Int) (c : Int) (w : World) (hc : (c != 0) = true) (C : ∀ x, Below w.heap.size w x → Calls Tryz.prog 85 #[.agg #[.string s, .int .i64 f, vr, vs]] x fun e w' => e = .returned (.int .i64 c) ∧ Below x.heap.size x w') : Calls Tryz.prog 55 #[.agg #[.string s, .int .i64 f, vr, vs], .agg #[.int .i64 en, .int .i64 ys], .int .i64 n] w fun e w' => e = .returned (.int .i64 c) ∧ Below w.heap.size w w' := by
  have pr : Below w.heap.size w ((w.alloc (.cells #[.string s, .int .i64 f, vr, vs] 44)).alloc (.cells #[.int .i64 en, .int .i64 ys] 46)) := ((Below.refl _ _).alloc (Nat.le_refl _) _).alloc (by simp) _
  have KT := (Blk.new w #[.string s, .int .i64 f, vr, vs] 44).alloc (.cells #[.int .i64 en, .int .i64 ys] 46)
  have KL := Blk.new (w.alloc (.cells #[.string s, .int .i64 f, vr, vs] 44)) #[.int .i64 en, .int .i64 ys] 46
  simp only [World.size_alloc] at KL
  go_enter Tryz.func55, Tryz.ntmps55
  go_wp2_with (first
    | (go_at_call 85; (refine (C _ pr).mono ?_); (rintro e w1 ⟨rfl, b1⟩); (have d1 := b1); (have p1 := Mo.bel' pr d1); (have KT1 := KT.below d1 KT.lt); (have KL1 := KL.below d1 KL.lt); (have c10 := KT1.at 0); (have c11 := KT1.at 1); (have c12 := KT1.at 2); (have c13 := KT1.at 3); (have c14 := KL1.at 0); (have c15 := KL1.at 1); (simp at c10 c11 c12 c13 c14 c15))
    | fail)
  go_ret
  exact ⟨rfl, p1⟩
set_option maxRecDepth 100000 in
set_option maxHeartbeats 1600000 in
theorem wrong_o (s : ByteArray) (f : Int) (vr vs : Value) (en ys n : Int) (w : World) (C : ∀ x, Below w.heap.size w x → Calls Tryz.prog 85 #[.agg #[.string s, .int .i64 f, vr, vs]] x fun e w' => e = .returned (.int .i64 0) ∧ Below x.heap.size x w') (O : ∀ x, Below w.heap.size w x → Calls Tryz.prog 86 #[.agg #[.string s, .int .i64 f, vr, vs], .agg #[.int .i64 en, .int .i64 ys]] x fun e w' => e = .returned (.bool false) ∧ Below x.heap.size x w') : Calls Tryz.prog 55 #[.agg #[.string s, .int .i64 f, vr, vs], .agg #[.int .i64 en, .int .i64 ys], .int .i64 n] w fun e w' => e = .returned (.int .i64 8) ∧ Below w.heap.size w w' := by
  have pr : Below w.heap.size w ((w.alloc (.cells #[.string s, .int .i64 f, vr, vs] 44)).alloc (.cells #[.int .i64 en, .int .i64 ys] 46)) := ((Below.refl _ _).alloc (Nat.le_refl _) _).alloc (by simp) _
  have KT := (Blk.new w #[.string s, .int .i64 f, vr, vs] 44).alloc (.cells #[.int .i64 en, .int .i64 ys] 46)
  have KL := Blk.new (w.alloc (.cells #[.string s, .int .i64 f, vr, vs] 44)) #[.int .i64 en, .int .i64 ys] 46
  simp only [World.size_alloc] at KL
  go_enter Tryz.func55, Tryz.ntmps55
  go_wp2_with (first
    | (go_at_call 85; (refine (C _ pr).mono ?_); (rintro e w1 ⟨rfl, b1⟩); (have d1 := b1); (have p1 := Mo.bel' pr d1); (have KT1 := KT.below d1 KT.lt); (have KL1 := KL.below d1 KL.lt); (have c10 := KT1.at 0); (have c11 := KT1.at 1); (have c12 := KT1.at 2); (have c13 := KT1.at 3); (have c14 := KL1.at 0); (have c15 := KL1.at 1); (simp at c10 c11 c12 c13 c14 c15))
    | (go_at_call 86; (refine (O _ p1).mono ?_); (rintro e w2 ⟨rfl, b2⟩); (have d2 := Mo.bel' d1 b2); (have p2 := Mo.bel' pr d2); (have KT2 := KT.below d2 KT.lt); (have KL2 := KL.below d2 KL.lt); (have c20 := KT2.at 0); (have c21 := KT2.at 1); (have c22 := KT2.at 2); (have c23 := KT2.at 3); (have c24 := KL2.at 0); (have c25 := KL2.at 1); (simp at c20 c21 c22 c23 c24 c25))
    | fail)
  go_ret
  exact ⟨rfl, p2⟩
set_option maxRecDepth 100000 in
set_option maxHeartbeats 1600000 in
theorem wrong_n (s : ByteArray) (f : Int) (vr vs : Value) (en ys n : Int) (k : Int) (w : World) (hk : (0 ≤ n ∧ n ≤ 130 ∧ k = 0) ∨ (n < 0 ∧ k = 1) ∨ (130 < n ∧ k = 1)) (C : ∀ x, Below w.heap.size w x → Calls Tryz.prog 85 #[.agg #[.string s, .int .i64 f, vr, vs]] x fun e w' => e = .returned (.int .i64 0) ∧ Below x.heap.size x w') (O : ∀ x, Below w.heap.size w x → Calls Tryz.prog 86 #[.agg #[.string s, .int .i64 f, vr, vs], .agg #[.int .i64 en, .int .i64 ys]] x fun e w' => e = .returned (.bool true) ∧ Below x.heap.size x w') : Calls Tryz.prog 55 #[.agg #[.string s, .int .i64 f, vr, vs], .agg #[.int .i64 en, .int .i64 ys], .int .i64 n] w fun e w' => e = .returned (.int .i64 k) ∧ Below w.heap.size w w' := by
  have pr : Below w.heap.size w ((w.alloc (.cells #[.string s, .int .i64 f, vr, vs] 44)).alloc (.cells #[.int .i64 en, .int .i64 ys] 46)) := ((Below.refl _ _).alloc (Nat.le_refl _) _).alloc (by simp) _
  have KT := (Blk.new w #[.string s, .int .i64 f, vr, vs] 44).alloc (.cells #[.int .i64 en, .int .i64 ys] 46)
  have KL := Blk.new (w.alloc (.cells #[.string s, .int .i64 f, vr, vs] 44)) #[.int .i64 en, .int .i64 ys] 46
  simp only [World.size_alloc] at KL
  rcases hk with ⟨h1, h2, rfl⟩ | ⟨h1, rfl⟩ | ⟨h1, rfl⟩
  · have g1 : ¬ n < 0 := by omega
    have g2 : ¬ n > 130 := by omega
    go_enter Tryz.func55, Tryz.ntmps55
    go_wp2_with (first
    | (go_at_call 85; (refine (C _ pr).mono ?_); (rintro e w1 ⟨rfl, b1⟩); (have d1 := b1); (have p1 := Mo.bel' pr d1); (have KT1 := KT.below d1 KT.lt); (have KL1 := KL.below d1 KL.lt); (have c10 := KT1.at 0); (have c11 := KT1.at 1); (have c12 := KT1.at 2); (have c13 := KT1.at 3); (have c14 := KL1.at 0); (have c15 := KL1.at 1); (simp at c10 c11 c12 c13 c14 c15))
    | (go_at_call 86; (refine (O _ p1).mono ?_); (rintro e w2 ⟨rfl, b2⟩); (have d2 := Mo.bel' d1 b2); (have p2 := Mo.bel' pr d2); (have KT2 := KT.below d2 KT.lt); (have KL2 := KL.below d2 KL.lt); (have c20 := KT2.at 0); (have c21 := KT2.at 1); (have c22 := KT2.at 2); (have c23 := KT2.at 3); (have c24 := KL2.at 0); (have c25 := KL2.at 1); (simp at c20 c21 c22 c23 c24 c25))
    | fail)
    go_ret
    exact ⟨rfl, p2⟩
  · go_enter Tryz.func55, Tryz.ntmps55
    go_wp2_with (first
    | (go_at_call 85; (refine (C _ pr).mono ?_); (rintro e w1 ⟨rfl, b1⟩); (have d1 := b1); (have p1 := Mo.bel' pr d1); (have KT1 := KT.below d1 KT.lt); (have KL1 := KL.below d1 KL.lt); (have c10 := KT1.at 0); (have c11 := KT1.at 1); (have c12 := KT1.at 2); (have c13 := KT1.at 3); (have c14 := KL1.at 0); (have c15 := KL1.at 1); (simp at c10 c11 c12 c13 c14 c15))
    | (go_at_call 86; (refine (O _ p1).mono ?_); (rintro e w2 ⟨rfl, b2⟩); (have d2 := Mo.bel' d1 b2); (have p2 := Mo.bel' pr d2); (have KT2 := KT.below d2 KT.lt); (have KL2 := KL.below d2 KL.lt); (have c20 := KT2.at 0); (have c21 := KT2.at 1); (have c22 := KT2.at 2); (have c23 := KT2.at 3); (have c24 := KL2.at 0); (have c25 := KL2.at 1); (simp at c20 c21 c22 c23 c24 c25))
    | fail)
    go_ret
    exact ⟨rfl, p2⟩
  · have g1 : ¬ n < 0 := by omega
    have g2 : n > 130 := by omega
    go_enter Tryz.func55, Tryz.ntmps55
    go_wp2_with (first
    | (go_at_call 85; (refine (C _ pr).mono ?_); (rintro e w1 ⟨rfl, b1⟩); (have d1 := b1); (have p1 := Mo.bel' pr d1); (have KT1 := KT.below d1 KT.lt); (have KL1 := KL.below d1 KL.lt); (have c10 := KT1.at 0); (have c11 := KT1.at 1); (have c12 := KT1.at 2); (have c13 := KT1.at 3); (have c14 := KL1.at 0); (have c15 := KL1.at 1); (simp at c10 c11 c12 c13 c14 c15))
    | (go_at_call 86; (refine (O _ p1).mono ?_); (rintro e w2 ⟨rfl, b2⟩); (have d2 := Mo.bel' d1 b2); (have p2 := Mo.bel' pr d2); (have KT2 := KT.below d2 KT.lt); (have KL2 := KL.below d2 KL.lt); (have c20 := KT2.at 0); (have c21 := KT2.at 1); (have c22 := KT2.at 2); (have c23 := KT2.at 3); (have c24 := KL2.at 0); (have c25 := KL2.at 1); (simp at c20 c21 c22 c23 c24 c25))
    | fail)
    go_ret
    exact ⟨rfl, p2⟩
set_option maxRecDepth 100000 in
set_option maxHeartbeats 1600000 in
theorem RRate_e (s : ByteArray) (f : Int) (vr vs : Value) (en ys n : Int) (c : Int) (w : World) (hc : (c != 0) = true) (C : ∀ x, Below w.heap.size w x → Calls Tryz.prog 55 #[.agg #[.string s, .int .i64 f, vr, vs], .agg #[.int .i64 en, .int .i64 ys], .int .i64 n] x fun e w' => e = .returned (.int .i64 c) ∧ Below x.heap.size x w') : Calls Tryz.prog 21 #[.agg #[.string s, .int .i64 f, vr, vs], .agg #[.int .i64 en, .int .i64 ys], .int .i64 n] w fun e w' => e = .returned (.tuple #[.int .i64 0, .int .i64 c]) ∧ Below w.heap.size w w' := by
  have pr : Below w.heap.size w ((w.alloc (.cells #[.string s, .int .i64 f, vr, vs] 44)).alloc (.cells #[.int .i64 en, .int .i64 ys] 46)) := ((Below.refl _ _).alloc (Nat.le_refl _) _).alloc (by simp) _
  have KT := (Blk.new w #[.string s, .int .i64 f, vr, vs] 44).alloc (.cells #[.int .i64 en, .int .i64 ys] 46)
  have KL := Blk.new (w.alloc (.cells #[.string s, .int .i64 f, vr, vs] 44)) #[.int .i64 en, .int .i64 ys] 46
  simp only [World.size_alloc] at KL
  go_enter Tryz.func21, Tryz.ntmps21
  go_wp2_with (first
    | (go_at_call 55; (refine (C _ pr).mono ?_); (rintro e w1 ⟨rfl, b1⟩); (have d1 := b1); (have p1 := Mo.bel' pr d1); (have KT1 := KT.below d1 KT.lt); (have KL1 := KL.below d1 KL.lt); (have c10 := KT1.at 0); (have c11 := KT1.at 1); (have c12 := KT1.at 2); (have c13 := KT1.at 3); (have c14 := KL1.at 0); (have c15 := KL1.at 1); (simp at c10 c11 c12 c13 c14 c15))
    | fail)
  go_ret2
  exact ⟨rfl, p1⟩
set_option maxRecDepth 100000 in
set_option maxHeartbeats 1600000 in
theorem RRate_none (s : ByteArray) (f : Int) (vr vs : Value) (en ys n : Int) (q : Int) (w : World) (C : ∀ x, Below w.heap.size w x → Calls Tryz.prog 55 #[.agg #[.string s, .int .i64 f, vr, vs], .agg #[.int .i64 en, .int .i64 ys], .int .i64 n] x fun e w' => e = .returned (.int .i64 0) ∧ Below x.heap.size x w') (R : ∀ x, Below w.heap.size w x → Calls Tryz.prog 56 #[.agg #[.string s, .int .i64 f, vr, vs], .agg #[.int .i64 en, .int .i64 ys], .int .i64 n] x fun e w' => e = .returned (.tuple #[.int .i64 q, .bool false]) ∧ Below x.heap.size x w') : Calls Tryz.prog 21 #[.agg #[.string s, .int .i64 f, vr, vs], .agg #[.int .i64 en, .int .i64 ys], .int .i64 n] w fun e w' => e = .returned (.tuple #[.int .i64 0, .int .i64 7]) ∧ Below w.heap.size w w' := by
  have pr : Below w.heap.size w ((w.alloc (.cells #[.string s, .int .i64 f, vr, vs] 44)).alloc (.cells #[.int .i64 en, .int .i64 ys] 46)) := ((Below.refl _ _).alloc (Nat.le_refl _) _).alloc (by simp) _
  have KT := (Blk.new w #[.string s, .int .i64 f, vr, vs] 44).alloc (.cells #[.int .i64 en, .int .i64 ys] 46)
  have KL := Blk.new (w.alloc (.cells #[.string s, .int .i64 f, vr, vs] 44)) #[.int .i64 en, .int .i64 ys] 46
  simp only [World.size_alloc] at KL
  go_enter Tryz.func21, Tryz.ntmps21
  go_wp2_with (first
    | (go_at_call 55; (refine (C _ pr).mono ?_); (rintro e w1 ⟨rfl, b1⟩); (have d1 := b1); (have p1 := Mo.bel' pr d1); (have KT1 := KT.below d1 KT.lt); (have KL1 := KL.below d1 KL.lt); (have c10 := KT1.at 0); (have c11 := KT1.at 1); (have c12 := KT1.at 2); (have c13 := KT1.at 3); (have c14 := KL1.at 0); (have c15 := KL1.at 1); (simp at c10 c11 c12 c13 c14 c15))
    | (go_at_call 56; (refine (R _ p1).mono ?_); (rintro e w2 ⟨rfl, b2⟩); (have d2 := Mo.bel' d1 b2); (have p2 := Mo.bel' pr d2); (have KT2 := KT.below d2 KT.lt); (have KL2 := KL.below d2 KL.lt); (have c20 := KT2.at 0); (have c21 := KT2.at 1); (have c22 := KT2.at 2); (have c23 := KT2.at 3); (have c24 := KL2.at 0); (have c25 := KL2.at 1); (simp at c20 c21 c22 c23 c24 c25))
    | fail)
  go_ret2
  exact ⟨rfl, p2⟩
set_option maxRecDepth 100000 in
set_option maxHeartbeats 1600000 in
theorem RRate_k (s : ByteArray) (f : Int) (vr vs : Value) (en ys n : Int) (q : Int) (w : World) (C : ∀ x, Below w.heap.size w x → Calls Tryz.prog 55 #[.agg #[.string s, .int .i64 f, vr, vs], .agg #[.int .i64 en, .int .i64 ys], .int .i64 n] x fun e w' => e = .returned (.int .i64 0) ∧ Below x.heap.size x w') (R : ∀ x, Below w.heap.size w x → Calls Tryz.prog 56 #[.agg #[.string s, .int .i64 f, vr, vs], .agg #[.int .i64 en, .int .i64 ys], .int .i64 n] x fun e w' => e = .returned (.tuple #[.int .i64 q, .bool true]) ∧ Below x.heap.size x w') : Calls Tryz.prog 21 #[.agg #[.string s, .int .i64 f, vr, vs], .agg #[.int .i64 en, .int .i64 ys], .int .i64 n] w fun e w' => e = .returned (.tuple #[.int .i64 q, .int .i64 0]) ∧ Below w.heap.size w w' := by
  have pr : Below w.heap.size w ((w.alloc (.cells #[.string s, .int .i64 f, vr, vs] 44)).alloc (.cells #[.int .i64 en, .int .i64 ys] 46)) := ((Below.refl _ _).alloc (Nat.le_refl _) _).alloc (by simp) _
  have KT := (Blk.new w #[.string s, .int .i64 f, vr, vs] 44).alloc (.cells #[.int .i64 en, .int .i64 ys] 46)
  have KL := Blk.new (w.alloc (.cells #[.string s, .int .i64 f, vr, vs] 44)) #[.int .i64 en, .int .i64 ys] 46
  simp only [World.size_alloc] at KL
  go_enter Tryz.func21, Tryz.ntmps21
  go_wp2_with (first
    | (go_at_call 55; (refine (C _ pr).mono ?_); (rintro e w1 ⟨rfl, b1⟩); (have d1 := b1); (have p1 := Mo.bel' pr d1); (have KT1 := KT.below d1 KT.lt); (have KL1 := KL.below d1 KL.lt); (have c10 := KT1.at 0); (have c11 := KT1.at 1); (have c12 := KT1.at 2); (have c13 := KT1.at 3); (have c14 := KL1.at 0); (have c15 := KL1.at 1); (simp at c10 c11 c12 c13 c14 c15))
    | (go_at_call 56; (refine (R _ p1).mono ?_); (rintro e w2 ⟨rfl, b2⟩); (have d2 := Mo.bel' d1 b2); (have p2 := Mo.bel' pr d2); (have KT2 := KT.below d2 KT.lt); (have KL2 := KL.below d2 KL.lt); (have c20 := KT2.at 0); (have c21 := KT2.at 1); (have c22 := KT2.at 2); (have c23 := KT2.at 3); (have c24 := KL2.at 0); (have c25 := KL2.at 1); (simp at c20 c21 c22 c23 c24 c25))
    | fail)
  go_ret2
  exact ⟨rfl, p2⟩
set_option maxRecDepth 100000 in
set_option maxHeartbeats 1600000 in
theorem RSurvive_e (s : ByteArray) (f : Int) (vr vs : Value) (en ys n : Int) (c : Int) (w : World) (hc : (c != 0) = true) (C : ∀ x, Below w.heap.size w x → Calls Tryz.prog 55 #[.agg #[.string s, .int .i64 f, vr, vs], .agg #[.int .i64 en, .int .i64 ys], .int .i64 n] x fun e w' => e = .returned (.int .i64 c) ∧ Below x.heap.size x w') : Calls Tryz.prog 23 #[.agg #[.string s, .int .i64 f, vr, vs], .agg #[.int .i64 en, .int .i64 ys], .int .i64 n] w fun e w' => e = .returned (.tuple #[.agg #[.string ⟨#[]⟩, .string ⟨#[]⟩], .int .i64 c]) ∧ Below w.heap.size w w' := by
  have pr : Below w.heap.size w (((w.alloc (.cells #[.string s, .int .i64 f, vr, vs] 44)).alloc (.cells #[.int .i64 en, .int .i64 ys] 46)).alloc (.cells #[.string ⟨#[]⟩, .string ⟨#[]⟩] 26)) := (((Below.refl _ _).alloc (Nat.le_refl _) _).alloc (by simp) _).alloc (by simp; omega) _
  have KT := ((Blk.new w #[.string s, .int .i64 f, vr, vs] 44).alloc (.cells #[.int .i64 en, .int .i64 ys] 46)).alloc (.cells #[.string ⟨#[]⟩, .string ⟨#[]⟩] 26)
  have KL := (Blk.new (w.alloc (.cells #[.string s, .int .i64 f, vr, vs] 44)) #[.int .i64 en, .int .i64 ys] 46).alloc (.cells #[.string ⟨#[]⟩, .string ⟨#[]⟩] 26)
  have KR := Blk.new ((w.alloc (.cells #[.string s, .int .i64 f, vr, vs] 44)).alloc (.cells #[.int .i64 en, .int .i64 ys] 46)) #[.string ⟨#[]⟩, .string ⟨#[]⟩] 26
  simp only [World.size_alloc] at KL KR
  go_enter Tryz.func23, Tryz.ntmps23
  go_wp2_with (first
    | (go_at_call 55; (refine (C _ pr).mono ?_); (rintro e w1 ⟨rfl, b1⟩); (have d1 := b1); (have p1 := Mo.bel' pr d1); (have KT1 := KT.below d1 KT.lt); (have KL1 := KL.below d1 KL.lt); (have c10 := KT1.at 0); (have c11 := KT1.at 1); (have c12 := KT1.at 2); (have c13 := KT1.at 3); (have c14 := KL1.at 0); (have c15 := KL1.at 1); (have K1 := KR.below d1 KR.lt); (have z0 := K1.at 0); (have z1 := K1.at 1); (have y0 := K1.free 0); (have y1 := K1.free 1); (simp at z0 z1); (simp at c10 c11 c12 c13 c14 c15))
    | fail)
  have KE := bput (bput K1 0 (.string ⟨#[]⟩)) 1 (.string ⟨#[]⟩)
  have bE := (p1.setCell (p := ⟨w.heap.size + 1 + 1, 0, none⟩) (show w.heap.size ≤ w.heap.size + 1 + 1 by omega) (.string ⟨#[]⟩)).setCell (p := ⟨w.heap.size + 1 + 1, 1, none⟩) (show w.heap.size ≤ w.heap.size + 1 + 1 by omega) (.string ⟨#[]⟩)
  have q0 := KE.at 0
  have q1 := KE.at 1
  simp at q0 q1
  exact bodyPost_ret (v := .tuple #[.agg #[.string ⟨#[]⟩, .string ⟨#[]⟩], .int .i64 c]) (by simp [results, Tryz.results23, go_sem, q0, q1]) rfl ⟨rfl, bE⟩
set_option maxRecDepth 100000 in
set_option maxHeartbeats 1600000 in
theorem RDie_e (s : ByteArray) (f : Int) (vr vs : Value) (en ys n : Int) (c : Int) (w : World) (hc : (c != 0) = true) (C : ∀ x, Below w.heap.size w x → Calls Tryz.prog 55 #[.agg #[.string s, .int .i64 f, vr, vs], .agg #[.int .i64 en, .int .i64 ys], .int .i64 n] x fun e w' => e = .returned (.int .i64 c) ∧ Below x.heap.size x w') : Calls Tryz.prog 25 #[.agg #[.string s, .int .i64 f, vr, vs], .agg #[.int .i64 en, .int .i64 ys], .int .i64 n] w fun e w' => e = .returned (.tuple #[.agg #[.string ⟨#[]⟩, .string ⟨#[]⟩], .int .i64 c]) ∧ Below w.heap.size w w' := by
  have pr : Below w.heap.size w (((w.alloc (.cells #[.string s, .int .i64 f, vr, vs] 44)).alloc (.cells #[.int .i64 en, .int .i64 ys] 46)).alloc (.cells #[.string ⟨#[]⟩, .string ⟨#[]⟩] 26)) := (((Below.refl _ _).alloc (Nat.le_refl _) _).alloc (by simp) _).alloc (by simp; omega) _
  have KT := ((Blk.new w #[.string s, .int .i64 f, vr, vs] 44).alloc (.cells #[.int .i64 en, .int .i64 ys] 46)).alloc (.cells #[.string ⟨#[]⟩, .string ⟨#[]⟩] 26)
  have KL := (Blk.new (w.alloc (.cells #[.string s, .int .i64 f, vr, vs] 44)) #[.int .i64 en, .int .i64 ys] 46).alloc (.cells #[.string ⟨#[]⟩, .string ⟨#[]⟩] 26)
  have KR := Blk.new ((w.alloc (.cells #[.string s, .int .i64 f, vr, vs] 44)).alloc (.cells #[.int .i64 en, .int .i64 ys] 46)) #[.string ⟨#[]⟩, .string ⟨#[]⟩] 26
  simp only [World.size_alloc] at KL KR
  go_enter Tryz.func25, Tryz.ntmps25
  go_wp2_with (first
    | (go_at_call 55; (refine (C _ pr).mono ?_); (rintro e w1 ⟨rfl, b1⟩); (have d1 := b1); (have p1 := Mo.bel' pr d1); (have KT1 := KT.below d1 KT.lt); (have KL1 := KL.below d1 KL.lt); (have c10 := KT1.at 0); (have c11 := KT1.at 1); (have c12 := KT1.at 2); (have c13 := KT1.at 3); (have c14 := KL1.at 0); (have c15 := KL1.at 1); (have K1 := KR.below d1 KR.lt); (have z0 := K1.at 0); (have z1 := K1.at 1); (have y0 := K1.free 0); (have y1 := K1.free 1); (simp at z0 z1); (simp at c10 c11 c12 c13 c14 c15))
    | fail)
  have KE := bput (bput K1 0 (.string ⟨#[]⟩)) 1 (.string ⟨#[]⟩)
  have bE := (p1.setCell (p := ⟨w.heap.size + 1 + 1, 0, none⟩) (show w.heap.size ≤ w.heap.size + 1 + 1 by omega) (.string ⟨#[]⟩)).setCell (p := ⟨w.heap.size + 1 + 1, 1, none⟩) (show w.heap.size ≤ w.heap.size + 1 + 1 by omega) (.string ⟨#[]⟩)
  have q0 := KE.at 0
  have q1 := KE.at 1
  simp at q0 q1
  exact bodyPost_ret (v := .tuple #[.agg #[.string ⟨#[]⟩, .string ⟨#[]⟩], .int .i64 c]) (by simp [results, Tryz.results25, go_sem, q0, q1]) rfl ⟨rfl, bE⟩
set_option maxRecDepth 100000 in
set_option maxHeartbeats 1600000 in
theorem RSurvive_k (s : ByteArray) (f : Int) (vr vs : Value) (en ys n : Int) (r4 : Rat) (u t : ByteArray) (er : Int) (w : World) (C : ∀ x, Below w.heap.size w x → Calls Tryz.prog 55 #[.agg #[.string s, .int .i64 f, vr, vs], .agg #[.int .i64 en, .int .i64 ys], .int .i64 n] x fun e w' => e = .returned (.int .i64 0) ∧ Below x.heap.size x w') (S1 : ∀ x, Below w.heap.size w x → Calls Tryz.prog 58 #[.agg #[.string s, .int .i64 f, vr, vs], .agg #[.int .i64 en, .int .i64 ys], .int .i64 n] x (Qf r4 x)) (RR : ∀ x v, L.IsQ x v r4 → Calls Tryz.prog 34 #[v] x fun e w' => e = .returned (.tuple #[.agg #[.string u, .string t], .int .i64 er]) ∧ Below x.heap.size x w') : Calls Tryz.prog 23 #[.agg #[.string s, .int .i64 f, vr, vs], .agg #[.int .i64 en, .int .i64 ys], .int .i64 n] w fun e w' => e = .returned (.tuple #[.agg #[.string u, .string t], .int .i64 er]) ∧ Below w.heap.size w w' := by
  have pr : Below w.heap.size w (((w.alloc (.cells #[.string s, .int .i64 f, vr, vs] 44)).alloc (.cells #[.int .i64 en, .int .i64 ys] 46)).alloc (.cells #[.string ⟨#[]⟩, .string ⟨#[]⟩] 26)) := (((Below.refl _ _).alloc (Nat.le_refl _) _).alloc (by simp) _).alloc (by simp; omega) _
  have KT := ((Blk.new w #[.string s, .int .i64 f, vr, vs] 44).alloc (.cells #[.int .i64 en, .int .i64 ys] 46)).alloc (.cells #[.string ⟨#[]⟩, .string ⟨#[]⟩] 26)
  have KL := (Blk.new (w.alloc (.cells #[.string s, .int .i64 f, vr, vs] 44)) #[.int .i64 en, .int .i64 ys] 46).alloc (.cells #[.string ⟨#[]⟩, .string ⟨#[]⟩] 26)
  have KR := Blk.new ((w.alloc (.cells #[.string s, .int .i64 f, vr, vs] 44)).alloc (.cells #[.int .i64 en, .int .i64 ys] 46)) #[.string ⟨#[]⟩, .string ⟨#[]⟩] 26
  simp only [World.size_alloc] at KL KR
  go_enter Tryz.func23, Tryz.ntmps23
  go_wp2_with (first
    | (go_at_call 34; (have z := d2); (refine (RR _ _ t2).mono ?_); (rintro e w3 ⟨rfl, b3⟩); (have d3 := Mo.bel' d2 b3); (have p3 := Mo.bel' pr d3); (have K1 := KR.below d3 KR.lt); (have z0 := K1.at 0); (have z1 := K1.at 1); (have y0 := K1.free 0); (have y1 := K1.free 1); (simp at z0 z1))
    | (go_at_call 58; (have z2 := p1); (refine (S1 _ p1).mono ?_); (rintro e w2 ⟨g2, a2, l2, c2, a2', l2', c2', rfl, t2, b2⟩); (have d2 := Mo.bel' d1 b2); (have p2 := Mo.bel' pr d2); (have KT2 := KT.below d2 KT.lt); (have KL2 := KL.below d2 KL.lt); (have x20 := KT2.at 0); (have x21 := KT2.at 1); (have x22 := KT2.at 2); (have x23 := KT2.at 3); (have x24 := KL2.at 0); (have x25 := KL2.at 1); (simp at x20 x21 x22 x23 x24 x25))
    | (go_at_call 55; (refine (C _ pr).mono ?_); (rintro e w1 ⟨rfl, b1⟩); (have d1 := b1); (have p1 := Mo.bel' pr d1); (have KT1 := KT.below d1 KT.lt); (have KL1 := KL.below d1 KL.lt); (have c10 := KT1.at 0); (have c11 := KT1.at 1); (have c12 := KT1.at 2); (have c13 := KT1.at 3); (have c14 := KL1.at 0); (have c15 := KL1.at 1); (simp at c10 c11 c12 c13 c14 c15))
    | fail)
  have KE := bput (bput K1 0 (.string u)) 1 (.string t)
  have bE := (p3.setCell (p := ⟨w.heap.size + 1 + 1, 0, none⟩) (show w.heap.size ≤ w.heap.size + 1 + 1 by omega) (.string u)).setCell (p := ⟨w.heap.size + 1 + 1, 1, none⟩) (show w.heap.size ≤ w.heap.size + 1 + 1 by omega) (.string t)
  have q0 := KE.at 0
  have q1 := KE.at 1
  simp at q0 q1
  exact bodyPost_ret (v := .tuple #[.agg #[.string u, .string t], .int .i64 er]) (by simp [results, Tryz.results23, go_sem, q0, q1]) rfl ⟨rfl, bE⟩
set_option maxRecDepth 100000 in
set_option maxHeartbeats 1600000 in
theorem RDie_k (s : ByteArray) (f : Int) (vr vs : Value) (en ys n : Int) (m : Int) (r r2 r4 : Rat) (u t : ByteArray) (er : Int) (w : World) (hm : IntKind.i64.wrap (n + 1) = m) (C : ∀ x, Below w.heap.size w x → Calls Tryz.prog 55 #[.agg #[.string s, .int .i64 f, vr, vs], .agg #[.int .i64 en, .int .i64 ys], .int .i64 n] x fun e w' => e = .returned (.int .i64 0) ∧ Below x.heap.size x w') (S1 : ∀ x, Below w.heap.size w x → Calls Tryz.prog 58 #[.agg #[.string s, .int .i64 f, vr, vs], .agg #[.int .i64 en, .int .i64 ys], .int .i64 n] x (Qf r x)) (S2 : ∀ x, Below w.heap.size w x → Calls Tryz.prog 58 #[.agg #[.string s, .int .i64 f, vr, vs], .agg #[.int .i64 en, .int .i64 ys], .int .i64 m] x (Qf r2 x)) (SB : ∀ x v1 v2, L.IsQ x v1 r → L.IsQ x v2 r2 → Calls Tryz.prog 44 #[v1, v2] x (Qf r4 x)) (RR : ∀ x v, L.IsQ x v r4 → Calls Tryz.prog 34 #[v] x fun e w' => e = .returned (.tuple #[.agg #[.string u, .string t], .int .i64 er]) ∧ Below x.heap.size x w') : Calls Tryz.prog 25 #[.agg #[.string s, .int .i64 f, vr, vs], .agg #[.int .i64 en, .int .i64 ys], .int .i64 n] w fun e w' => e = .returned (.tuple #[.agg #[.string u, .string t], .int .i64 er]) ∧ Below w.heap.size w w' := by
  have pr : Below w.heap.size w (((w.alloc (.cells #[.string s, .int .i64 f, vr, vs] 44)).alloc (.cells #[.int .i64 en, .int .i64 ys] 46)).alloc (.cells #[.string ⟨#[]⟩, .string ⟨#[]⟩] 26)) := (((Below.refl _ _).alloc (Nat.le_refl _) _).alloc (by simp) _).alloc (by simp; omega) _
  have KT := ((Blk.new w #[.string s, .int .i64 f, vr, vs] 44).alloc (.cells #[.int .i64 en, .int .i64 ys] 46)).alloc (.cells #[.string ⟨#[]⟩, .string ⟨#[]⟩] 26)
  have KL := (Blk.new (w.alloc (.cells #[.string s, .int .i64 f, vr, vs] 44)) #[.int .i64 en, .int .i64 ys] 46).alloc (.cells #[.string ⟨#[]⟩, .string ⟨#[]⟩] 26)
  have KR := Blk.new ((w.alloc (.cells #[.string s, .int .i64 f, vr, vs] 44)).alloc (.cells #[.int .i64 en, .int .i64 ys] 46)) #[.string ⟨#[]⟩, .string ⟨#[]⟩] 26
  simp only [World.size_alloc] at KL KR
  go_enter Tryz.func25, Tryz.ntmps25
  go_wp2_with (first
    | (go_at_call 55; (refine (C _ pr).mono ?_); (rintro e w1 ⟨rfl, b1⟩); (have d1 := b1); (have p1 := Mo.bel' pr d1); (have KT1 := KT.below d1 KT.lt); (have KL1 := KL.below d1 KL.lt); (have c10 := KT1.at 0); (have c11 := KT1.at 1); (have c12 := KT1.at 2); (have c13 := KT1.at 3); (have c14 := KL1.at 0); (have c15 := KL1.at 1); (simp at c10 c11 c12 c13 c14 c15))
    | fail)
  have neT : w.heap.size + 1 + 1 ≠ w.heap.size := by omega
  have neL : w.heap.size + 1 + 1 ≠ w.heap.size + 1 := by omega
  go_region_held3 (fun x => x.cell? ⟨w.heap.size, 0, none⟩ = some (.string s) ∧ x.cell? ⟨w.heap.size, 1, none⟩ = some (.int .i64 f) ∧ x.cell? ⟨w.heap.size, 2, none⟩ = some vr ∧ x.cell? ⟨w.heap.size, 3, none⟩ = some vs ∧ x.cell? ⟨w.heap.size + 1, 0, none⟩ = some (.int .i64 en) ∧ x.cell? ⟨w.heap.size + 1, 1, none⟩ = some (.int .i64 ys)) (first | exact ⟨s0, s1, s2, s3, s4, s5⟩ | exact ⟨x50, x51, x52, x53, x54, x55⟩ | exact ⟨x40, x41, x42, x43, x44, x45⟩ | exact ⟨x30, x31, x32, x33, x34, x35⟩ | exact ⟨x20, x21, x22, x23, x24, x25⟩ | go_keep) (first
    | (go_at_call 34; (have z := d4); (refine (RR _ _ t4).mono ?_); (rintro e w5 ⟨rfl, b5⟩); (have d5 := Mo.bel' d4 b5); (have p5 := Mo.bel' pr d5); (have KT5 := KT.below d5 KT.lt); (have KL5 := KL.below d5 KL.lt); (have x50 := KT5.at 0); (have x51 := KT5.at 1); (have x52 := KT5.at 2); (have x53 := KT5.at 3); (have x54 := KL5.at 0); (have x55 := KL5.at 1); (simp at x50 x51 x52 x53 x54 x55); (have K1 := KR.below d5 KR.lt); (have z0 := K1.at 0); (have z1 := K1.at 1); (have y0 := K1.free 0); (have y1 := K1.free 1); (simp at z0 z1); (have KS := bskip (bskip KT5 neT 0 (.string u)) neT 1 (.string t)); (have KM := bskip (bskip KL5 neL 0 (.string u)) neL 1 (.string t)); (have s0 := KS.at 0); (have s1 := KS.at 1); (have s2 := KS.at 2); (have s3 := KS.at 3); (have s4 := KM.at 0); (have s5 := KM.at 1); (simp at s0 s1 s2 s3 s4 s5))
    | (go_at_call 44; (have z := d3); (refine (SB _ _ _ (t2.grow b3) t3).mono ?_); (rintro e w4 ⟨g4, a4, l4, c4, a4', l4', c4', rfl, t4, b4⟩); (have d4 := Mo.bel' d3 b4); (have KT4 := KT.below d4 KT.lt); (have KL4 := KL.below d4 KL.lt); (have x40 := KT4.at 0); (have x41 := KT4.at 1); (have x42 := KT4.at 2); (have x43 := KT4.at 3); (have x44 := KL4.at 0); (have x45 := KL4.at 1); (simp at x40 x41 x42 x43 x44 x45))
    | (go_at_call 58; (have z := d2); (refine (S2 _ (Mo.bel' pr d2)).mono ?_); (rintro e w3 ⟨g3, a3, l3, c3, a3', l3', c3', rfl, t3, b3⟩); (have d3 := Mo.bel' d2 b3); (have KT3 := KT.below d3 KT.lt); (have KL3 := KL.below d3 KL.lt); (have x30 := KT3.at 0); (have x31 := KT3.at 1); (have x32 := KT3.at 2); (have x33 := KT3.at 3); (have x34 := KL3.at 0); (have x35 := KL3.at 1); (simp at x30 x31 x32 x33 x34 x35))
    | (go_at_call 58; (refine (S1 _ (p1.drew)).mono ?_); (rintro e w2 ⟨g2, a2, l2, c2, a2', l2', c2', rfl, t2, b2⟩); (have d2 := Mo.bel' d1 (Mo.undrew b2)); (have KT2 := KT.below d2 KT.lt); (have KL2 := KL.below d2 KL.lt); (have x20 := KT2.at 0); (have x21 := KT2.at 1); (have x22 := KT2.at 2); (have x23 := KT2.at 3); (have x24 := KL2.at 0); (have x25 := KL2.at 1); (simp at x20 x21 x22 x23 x24 x25))
    | fail)
  all_goals
    have KE := bput (bput K1 0 (.string u)) 1 (.string t)
    have bE := (p5.setCell (p := ⟨w.heap.size + 1 + 1, 0, none⟩) (show w.heap.size ≤ w.heap.size + 1 + 1 by omega) (.string u)).setCell (p := ⟨w.heap.size + 1 + 1, 1, none⟩) (show w.heap.size ≤ w.heap.size + 1 + 1 by omega) (.string t)
    have q0 := KE.at 0
    have q1 := KE.at 1
    simp at q0 q1
    go_wp2_with fail
    exact bodyPost_ret (v := .tuple #[.agg #[.string u, .string t], .int .i64 er]) (by simp [results, Tryz.results25, go_sem, q0, q1]) rfl ⟨rfl, bE⟩
end Go.Proofs.YtiaeoknmgidehaaGreatDoor.Ta

namespace Go.Proofs.YtiaeoknmgidehaaGreatDoor.Mo
open Go.RowKit Fu Tn Go.Lib Ip

theorem Bd.ps {r : Rat} {B K : Nat} (h : Bd r B) (hB : B ≤ 64 * K) : PS r K := ⟨lt_64 h.1 hB, lt_64 h.2 hB⟩
theorem Bd.qs {r : Rat} {B K : Nat} (h : Bd r B) (hB : B ≤ 30 * K) : L.QS r K := ⟨lt_30 h.1 hB, lt_30 h.2 hB⟩
theorem two_ten : (2 : Nat) ^ 13606 ≤ 10 ^ 4096 := by decide +kernel
theorem dig_le {N B k n : Nat} (h : N < 2 ^ B) (hB : B ≤ k) (h2 : 2 ^ k ≤ 10 ^ n) (hn : 0 < n) : (decDigits N).length ≤ n := by
  rw [decDigits_length]
  exact _root_.Dc.nDigits_le hn (Nat.lt_of_lt_of_le h (Nat.le_trans (Nat.pow_le_pow_right (by decide) hB) h2))
theorem dig_short {N B : Nat} (h : N < 2 ^ B) (hB : B ≤ 13606) : (decDigits N).length ≤ 4096 := dig_le h hB two_ten (by decide)
theorem Ratio_s (v : Value) (r : Rat) (B : Nat) (w : World) (h : PF w v r) (hB : Bd r B) (h13 : B ≤ 13606) (G : Gw w) :
    Calls Tryz.prog 30 #[v] w fun e w' => e = .returned (.tuple #[wrt r, .int .i64 0]) ∧ Below w.heap.size w w' := by
  have := Ratio_any v r w h (Bd.ps hB (by omega)) G
  rw [wrA_short (dig_short hB.1 h13) (dig_short hB.2 h13)] at this
  exact this
theorem Out_s (v : Value) (r : Rat) (B : Nat) (w : World) (h : L.IsQ w v r) (hB : Bd r B) (h13 : B ≤ 13606) :
    Calls Tryz.prog 34 #[v] w fun e w' => e = .returned (.tuple #[wrt r, .int .i64 0]) ∧ Below w.heap.size w w' :=
  L.Out_q v r 1000 w h (Bd.qs hB (by omega)) (by decide) (dig_short hB.1 h13) (dig_short hB.2 h13)
end Go.Proofs.YtiaeoknmgidehaaGreatDoor.Mo
