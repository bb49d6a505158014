import Derived.Test.YtiobnojcmeeikaaGreatDoorPart45
import Derived.Test.YtiobnojcmeeikaaGreatDoorPart14
import Derived.Test.YtiobnojcmeeikaaGreatDoorPart19
import Derived.Test.YtiobnojcmeeikaaGreatDoorPart20
import Derived.Test.YtiobnojcmeeikaaGreatDoorPart44
import Derived.Deep.RegionHeld3

namespace Go.Proofs.YtiobnojcmeeikaaGreatDoor.Mo
open Go.RowKit Tn

set_option maxHeartbeats 3200000 in
set_option maxRecDepth 100000 in
theorem exactOf_no (k m e : Int) (g : Bool) (w : World) (IF : ∀ x, Calls Tryz.prog 17 #[.agg #[.int .i64 k, .bool g, .int .u64 m, .int .i64 e]] x fun r w' => r = .returned (.bool false) ∧ Below x.heap.size x w') : Calls Tryz.prog 11 #[.agg #[.int .i64 k, .bool g, .int .u64 m, .int .i64 e]] w fun r w' => r = .returned (.tuple #[.agg #[.string ⟨#[]⟩, .string ⟨#[]⟩], .int .i64 20]) ∧ Below w.heap.size w w' := by
  have KP := (Blk.new w #[.int .i64 k, .bool g, .int .u64 m, .int .i64 e] 42).alloc (.cells #[.string ⟨#[]⟩, .string ⟨#[]⟩] 25)
  have KR := Blk.new (w.alloc (.cells #[.int .i64 k, .bool g, .int .u64 m, .int .i64 e] 42)) #[.string ⟨#[]⟩, .string ⟨#[]⟩] 25
  have pr : Below w.heap.size w ((w.alloc (.cells #[.int .i64 k, .bool g, .int .u64 m, .int .i64 e] 42)).alloc (.cells #[.string ⟨#[]⟩, .string ⟨#[]⟩] 25)) := ((Below.refl _ _).alloc (Nat.le_refl _) _).alloc (by simp) _
  simp only [World.size_alloc] at KR
  go_enter Tryz.func11, Tryz.ntmps11
  go_wp2_with (first
    | (go_at_call 17; (refine (IF _).mono ?_); (rintro r w1 ⟨rfl, b1⟩); (have p1 := bel' pr b1); (have KP1 := KP.below b1 KP.lt); (have s0 := KP1.at 1); (have s1 := KP1.at 2); (have s2 := KP1.at 3); (simp at s0 s1 s2); (have KR1 := KR.below b1 KR.lt); (have z0 := KR1.at 0); (have z1 := KR1.at 1); (have y0 := KR1.free 0); (have y1 := KR1.free 1); (simp at z0 z1))
    | fail)
  have KE := bput (bput KR1 0 (.string ⟨#[]⟩)) 1 (.string ⟨#[]⟩)
  have bE := (p1.setCell (p := ⟨w.heap.size + 1, 0, none⟩) (show w.heap.size ≤ w.heap.size + 1 by omega) (.string ⟨#[]⟩)).setCell (p := ⟨w.heap.size + 1, 1, none⟩) (show w.heap.size ≤ w.heap.size + 1 by omega) (.string ⟨#[]⟩)
  have q0 := KE.at 0
  have q1 := KE.at 1
  simp at q0 q1
  exact bodyPost_ret (v := .tuple #[.agg #[.string ⟨#[]⟩, .string ⟨#[]⟩], .int .i64 20]) (by simp [results, Tryz.results11, go_sem, q0, q1]) rfl ⟨rfl, bE⟩
set_option maxHeartbeats 3200000 in
set_option maxRecDepth 100000 in
theorem exactOf_yes (k m e : Int) (g : Bool) (u v : ByteArray) (er : Int) (w : World) (IF : ∀ x, Calls Tryz.prog 17 #[.agg #[.int .i64 k, .bool g, .int .u64 m, .int .i64 e]] x fun r w' => r = .returned (.bool true) ∧ Below x.heap.size x w') (OF : ∀ x, Calls Tryz.prog 19 #[.int .u64 m] x fun r w' => ∃ a l c, r = .returned (.agg #[.slice a l c]) ∧ Nn w' a l c m ∧ Below x.heap.size x w') (WS : ∀ x a l c, Below w.heap.size w x → Nn x a l c m → Calls Tryz.prog 18 #[.bool g, .agg #[.slice a l c], .int .i64 e] x fun r w' => r = .returned (.tuple #[.agg #[.string u, .string v], .int .i64 er]) ∧ Below x.heap.size x w') : Calls Tryz.prog 11 #[.agg #[.int .i64 k, .bool g, .int .u64 m, .int .i64 e]] w fun r w' => r = .returned (.tuple #[.agg #[.string u, .string v], .int .i64 er]) ∧ Below w.heap.size w w' := by
  have KP := (Blk.new w #[.int .i64 k, .bool g, .int .u64 m, .int .i64 e] 42).alloc (.cells #[.string ⟨#[]⟩, .string ⟨#[]⟩] 25)
  have KR := Blk.new (w.alloc (.cells #[.int .i64 k, .bool g, .int .u64 m, .int .i64 e] 42)) #[.string ⟨#[]⟩, .string ⟨#[]⟩] 25
  have pr : Below w.heap.size w ((w.alloc (.cells #[.int .i64 k, .bool g, .int .u64 m, .int .i64 e] 42)).alloc (.cells #[.string ⟨#[]⟩, .string ⟨#[]⟩] 25)) := ((Below.refl _ _).alloc (Nat.le_refl _) _).alloc (by simp) _
  simp only [World.size_alloc] at KR
  go_enter Tryz.func11, Tryz.ntmps11
  go_wp2_with (first
    | (go_at_call 17; (refine (IF _).mono ?_); (rintro r w1 ⟨rfl, b1⟩); (have p1 := bel' pr b1); (have KP1 := KP.below b1 KP.lt); (have s0 := KP1.at 1); (have s1 := KP1.at 2); (have s2 := KP1.at 3); (simp at s0 s1 s2); (have KR1 := KR.below b1 KR.lt); (have z0 := KR1.at 0); (have z1 := KR1.at 1); (have y0 := KR1.free 0); (have y1 := KR1.free 1); (simp at z0 z1))
    | fail)
  have ne1 : w.heap.size ≠ w.heap.size + 1 := by omega
  have ne2 : w.heap.size + 1 ≠ w.heap.size := by omega
  go_region_held3 (fun x => x.cell? ⟨w.heap.size, 1, none⟩ = some (.bool g) ∧ x.cell? ⟨w.heap.size, 2, none⟩ = some (.int .u64 m) ∧ x.cell? ⟨w.heap.size, 3, none⟩ = some (.int .i64 e)) (go_keep) (first
    | (go_at_call 18; refine (WS _ _ _ _ (bel' p1 d3) n3).mono ?_; rintro r w9 ⟨rfl, b9⟩; have d9 := bel' d3 b9; have KP9 := KP1.below d9 KP1.lt; have s90 := KP9.at 1; have s91 := KP9.at 2; have s92 := KP9.at 3; simp at s90 s91 s92; have KR9 := KR1.below d9 KR1.lt; have z0 := KR9.at 0; have z1 := KR9.at 1; have y0 := KR9.free 0; have y1 := KR9.free 1; simp at z0 z1)
    | (go_at_call 19; refine (OF _).mono ?_; rintro r w3 ⟨a3, l3, c3, rfl, n3, b3⟩; have d3 := undrew b3; have KP3 := KP1.below d3 KP1.lt; have s30 := KP3.at 1; have s31 := KP3.at 2; have s32 := KP3.at 3; simp at s30 s31 s32)
    | fail)
  go_wp2_with fail
  have p9 := bel' p1 d9
  have KE := bput (bput KR9 0 (.string u)) 1 (.string v)
  have bE := (p9.setCell (p := ⟨w.heap.size + 1, 0, none⟩) (show w.heap.size ≤ w.heap.size + 1 by omega) (.string u)).setCell (p := ⟨w.heap.size + 1, 1, none⟩) (show w.heap.size ≤ w.heap.size + 1 by omega) (.string v)
  have q0 := KE.at 0
  have q1 := KE.at 1
  simp at q0 q1
  exact bodyPost_ret (v := .tuple #[.agg #[.string u, .string v], .int .i64 er]) (by simp [results, Tryz.results11, go_sem, q0, q1]) rfl ⟨rfl, bE⟩
set_option maxHeartbeats 3200000 in
set_option maxRecDepth 100000 in
theorem Exact_any (n : Nat) (k m e : Int) (g : Bool) (u v : ByteArray) (er : Int) (w : World) (SP : ∀ x, Calls Tryz.prog 12 #[.float .f64 n] x fun r w' => r = .returned (.agg #[.int .i64 k, .bool g, .int .u64 m, .int .i64 e]) ∧ Below x.heap.size x w') (EX : ∀ x, Below w.heap.size w x → Calls Tryz.prog 11 #[.agg #[.int .i64 k, .bool g, .int .u64 m, .int .i64 e]] x fun r w' => r = .returned (.tuple #[.agg #[.string u, .string v], .int .i64 er]) ∧ Below x.heap.size x w') : Calls Tryz.prog 4 #[.float .f64 n] w fun r w' => r = .returned (.tuple #[.agg #[.string u, .string v], .int .i64 er]) ∧ Below w.heap.size w w' := by
  have KR := Blk.new w #[.string ⟨#[]⟩, .string ⟨#[]⟩] 25
  have pr : Below w.heap.size w (w.alloc (.cells #[.string ⟨#[]⟩, .string ⟨#[]⟩] 25)) := (Below.refl _ _).alloc (Nat.le_refl _) _
  go_enter Tryz.func4, Tryz.ntmps4
  go_wp2_with (first
    | (go_at_call 11; (have mk := p1); (refine (EX _ p1).mono ?_); (rintro r w2 ⟨rfl, b2⟩); (have p2 := bel' p1 b2); (have KR2 := KR1.below b2 KR1.lt); (have z0 := KR2.at 0); (have z1 := KR2.at 1); (have y0 := KR2.free 0); (have y1 := KR2.free 1); (simp at z0 z1))
    | (go_at_call 12; (refine (SP _).mono ?_); (rintro r w1 ⟨rfl, b1⟩); (have p1 := bel' pr b1); (have KR1 := KR.below b1 KR.lt); (have z0 := KR1.at 0); (have z1 := KR1.at 1); (have y0 := KR1.free 0); (have y1 := KR1.free 1); (simp at z0 z1))
    | fail)
  have KE := bput (bput KR2 0 (.string u)) 1 (.string v)
  have bE := (p2.setCell (p := ⟨w.heap.size, 0, none⟩) (show w.heap.size ≤ w.heap.size by omega) (.string u)).setCell (p := ⟨w.heap.size, 1, none⟩) (show w.heap.size ≤ w.heap.size by omega) (.string v)
  have q0 := KE.at 0
  have q1 := KE.at 1
  simp at q0 q1
  exact bodyPost_ret (v := .tuple #[.agg #[.string u, .string v], .int .i64 er]) (by simp [results, Tryz.results4, go_sem, q0, q1]) rfl ⟨rfl, bE⟩
set_option maxHeartbeats 3200000 in
set_option maxRecDepth 100000 in
theorem Exact32_any (n : Nat) (k m e : Int) (g : Bool) (u v : ByteArray) (er : Int) (w : World) (SP : ∀ x, Calls Tryz.prog 13 #[.float .f32 n] x fun r w' => r = .returned (.agg #[.int .i64 k, .bool g, .int .u64 m, .int .i64 e]) ∧ Below x.heap.size x w') (EX : ∀ x, Below w.heap.size w x → Calls Tryz.prog 11 #[.agg #[.int .i64 k, .bool g, .int .u64 m, .int .i64 e]] x fun r w' => r = .returned (.tuple #[.agg #[.string u, .string v], .int .i64 er]) ∧ Below x.heap.size x w') : Calls Tryz.prog 6 #[.float .f32 n] w fun r w' => r = .returned (.tuple #[.agg #[.string u, .string v], .int .i64 er]) ∧ Below w.heap.size w w' := by
  have KR := Blk.new w #[.string ⟨#[]⟩, .string ⟨#[]⟩] 25
  have pr : Below w.heap.size w (w.alloc (.cells #[.string ⟨#[]⟩, .string ⟨#[]⟩] 25)) := (Below.refl _ _).alloc (Nat.le_refl _) _
  go_enter Tryz.func6, Tryz.ntmps6
  go_wp2_with (first
    | (go_at_call 11; (have mk := p1); (refine (EX _ p1).mono ?_); (rintro r w2 ⟨rfl, b2⟩); (have p2 := bel' p1 b2); (have KR2 := KR1.below b2 KR1.lt); (have z0 := KR2.at 0); (have z1 := KR2.at 1); (have y0 := KR2.free 0); (have y1 := KR2.free 1); (simp at z0 z1))
    | (go_at_call 13; (refine (SP _).mono ?_); (rintro r w1 ⟨rfl, b1⟩); (have p1 := bel' pr b1); (have KR1 := KR.below b1 KR.lt); (have z0 := KR1.at 0); (have z1 := KR1.at 1); (have y0 := KR1.free 0); (have y1 := KR1.free 1); (simp at z0 z1))
    | fail)
  have KE := bput (bput KR2 0 (.string u)) 1 (.string v)
  have bE := (p2.setCell (p := ⟨w.heap.size, 0, none⟩) (show w.heap.size ≤ w.heap.size by omega) (.string u)).setCell (p := ⟨w.heap.size, 1, none⟩) (show w.heap.size ≤ w.heap.size by omega) (.string v)
  have q0 := KE.at 0
  have q1 := KE.at 1
  simp at q0 q1
  exact bodyPost_ret (v := .tuple #[.agg #[.string u, .string v], .int .i64 er]) (by simp [results, Tryz.results6, go_sem, q0, q1]) rfl ⟨rfl, bE⟩
set_option maxHeartbeats 3200000 in
set_option maxRecDepth 100000 in
theorem RExact_no (P Lo Hi Fr b : Int) (w : World) (FI : ∀ x, Calls Tryz.prog 14 #[.agg #[.int .i64 P, .int .i64 Lo, .int .i64 Hi, .int .i64 Fr], .int .u64 b] x fun r w' => r = .returned (.bool false) ∧ Below x.heap.size x w') : Calls Tryz.prog 9 #[.agg #[.int .i64 P, .int .i64 Lo, .int .i64 Hi, .int .i64 Fr], .int .u64 b] w fun r w' => r = .returned (.tuple #[.agg #[.string ⟨#[]⟩, .string ⟨#[]⟩], .int .i64 20]) ∧ Below w.heap.size w w' := by
  have KP := (Blk.new w #[.int .i64 P, .int .i64 Lo, .int .i64 Hi, .int .i64 Fr] 36).alloc (.cells #[.string ⟨#[]⟩, .string ⟨#[]⟩] 25)
  have KR := Blk.new (w.alloc (.cells #[.int .i64 P, .int .i64 Lo, .int .i64 Hi, .int .i64 Fr] 36)) #[.string ⟨#[]⟩, .string ⟨#[]⟩] 25
  have pr : Below w.heap.size w ((w.alloc (.cells #[.int .i64 P, .int .i64 Lo, .int .i64 Hi, .int .i64 Fr] 36)).alloc (.cells #[.string ⟨#[]⟩, .string ⟨#[]⟩] 25)) := ((Below.refl _ _).alloc (Nat.le_refl _) _).alloc (by simp) _
  simp only [World.size_alloc] at KR
  go_enter Tryz.func9, Tryz.ntmps9
  go_wp2_with (first
    | (go_at_call 14; (refine (FI _).mono ?_); (rintro r w1 ⟨rfl, b1⟩); (have p1 := bel' pr b1); (have KP1 := KP.below b1 KP.lt); (have s0 := KP1.at 0); (have s1 := KP1.at 1); (have s2 := KP1.at 2); (have s3 := KP1.at 3); (simp at s0 s1 s2 s3); (have KR1 := KR.below b1 KR.lt); (have z0 := KR1.at 0); (have z1 := KR1.at 1); (have y0 := KR1.free 0); (have y1 := KR1.free 1); (simp at z0 z1))
    | fail)
  have KE := bput (bput KR1 0 (.string ⟨#[]⟩)) 1 (.string ⟨#[]⟩)
  have bE := (p1.setCell (p := ⟨w.heap.size + 1, 0, none⟩) (show w.heap.size ≤ w.heap.size + 1 by omega) (.string ⟨#[]⟩)).setCell (p := ⟨w.heap.size + 1, 1, none⟩) (show w.heap.size ≤ w.heap.size + 1 by omega) (.string ⟨#[]⟩)
  have q0 := KE.at 0
  have q1 := KE.at 1
  simp at q0 q1
  exact bodyPost_ret (v := .tuple #[.agg #[.string ⟨#[]⟩, .string ⟨#[]⟩], .int .i64 20]) (by simp [results, Tryz.results9, go_sem, q0, q1]) rfl ⟨rfl, bE⟩
set_option maxHeartbeats 3200000 in
set_option maxRecDepth 100000 in
theorem RExact_yes (P Lo Hi Fr b : Int) (t : Rat) (u v : ByteArray) (er : Int) (w : World) (FI : ∀ x, Calls Tryz.prog 14 #[.agg #[.int .i64 P, .int .i64 Lo, .int .i64 Hi, .int .i64 Fr], .int .u64 b] x fun r w' => r = .returned (.bool true) ∧ Below x.heap.size x w') (NU : ∀ x, Calls Tryz.prog 15 #[.agg #[.int .i64 P, .int .i64 Lo, .int .i64 Hi, .int .i64 Fr], .int .u64 b] x (Qf t x)) (OU : ∀ x v1, L.IsQ x v1 t → Calls Tryz.prog 16 #[v1] x fun r w' => r = .returned (.tuple #[.agg #[.string u, .string v], .int .i64 er]) ∧ Below x.heap.size x w') : Calls Tryz.prog 9 #[.agg #[.int .i64 P, .int .i64 Lo, .int .i64 Hi, .int .i64 Fr], .int .u64 b] w fun r w' => r = .returned (.tuple #[.agg #[.string u, .string v], .int .i64 er]) ∧ Below w.heap.size w w' := by
  have KP := (Blk.new w #[.int .i64 P, .int .i64 Lo, .int .i64 Hi, .int .i64 Fr] 36).alloc (.cells #[.string ⟨#[]⟩, .string ⟨#[]⟩] 25)
  have KR := Blk.new (w.alloc (.cells #[.int .i64 P, .int .i64 Lo, .int .i64 Hi, .int .i64 Fr] 36)) #[.string ⟨#[]⟩, .string ⟨#[]⟩] 25
  have pr : Below w.heap.size w ((w.alloc (.cells #[.int .i64 P, .int .i64 Lo, .int .i64 Hi, .int .i64 Fr] 36)).alloc (.cells #[.string ⟨#[]⟩, .string ⟨#[]⟩] 25)) := ((Below.refl _ _).alloc (Nat.le_refl _) _).alloc (by simp) _
  simp only [World.size_alloc] at KR
  go_enter Tryz.func9, Tryz.ntmps9
  go_wp2_with (first
    | (go_at_call 16; (have mk := t2); (refine (OU _ _ t2).mono ?_); (rintro r w3 ⟨rfl, b3⟩); (have p3 := bel' p2 b3); (have KR3 := KR2.below b3 KR2.lt); (have z0 := KR3.at 0); (have z1 := KR3.at 1); (have y0 := KR3.free 0); (have y1 := KR3.free 1); (simp at z0 z1))
    | (go_at_call 15; (have mk := p1); (refine (NU _).mono ?_); (rintro r w2 ⟨g2, a2, l2, c2, a2', l2', c2', rfl, t2, b2⟩); (have p2 := bel' p1 b2); (have KR2 := KR1.below b2 KR1.lt); (have z0 := KR2.at 0); (have z1 := KR2.at 1); (have y0 := KR2.free 0); (have y1 := KR2.free 1); (simp at z0 z1))
    | (go_at_call 14; (refine (FI _).mono ?_); (rintro r w1 ⟨rfl, b1⟩); (have p1 := bel' pr b1); (have KP1 := KP.below b1 KP.lt); (have s0 := KP1.at 0); (have s1 := KP1.at 1); (have s2 := KP1.at 2); (have s3 := KP1.at 3); (simp at s0 s1 s2 s3); (have KR1 := KR.below b1 KR.lt); (have z0 := KR1.at 0); (have z1 := KR1.at 1); (have y0 := KR1.free 0); (have y1 := KR1.free 1); (simp at z0 z1))
    | fail)
  have KE := bput (bput KR3 0 (.string u)) 1 (.string v)
  have bE := (p3.setCell (p := ⟨w.heap.size + 1, 0, none⟩) (show w.heap.size ≤ w.heap.size + 1 by omega) (.string u)).setCell (p := ⟨w.heap.size + 1, 1, none⟩) (show w.heap.size ≤ w.heap.size + 1 by omega) (.string v)
  have q0 := KE.at 0
  have q1 := KE.at 1
  simp at q0 q1
  exact bodyPost_ret (v := .tuple #[.agg #[.string u, .string v], .int .i64 er]) (by simp [results, Tryz.results9, go_sem, q0, q1]) rfl ⟨rfl, bE⟩
end Go.Proofs.YtiobnojcmeeikaaGreatDoor.Mo

namespace Go.Proofs.YtiobnojcmeeikaaGreatDoor.Mo
open Go.RowKit Tn

theorem tn_tl3 : ∀ m : Nat, Tn.pw m ≤ Tl.pw (3 * m)
  | 0 => by decide
  | m + 1 => by
    have h := tn_tl3 m
    have p := Tl.pw_pos (3 * m)
    have e1 : Tn.pw (m + 1) = 18446744073709551616 * Tn.pw m := rfl
    have e2 : Tl.pw (3 * (m + 1)) = 1073741824 * (1073741824 * (1073741824 * Tl.pw (3 * m))) := rfl
    omega
theorem mk_qs (z : Int) (d K : Nat) (d0 : d ≠ 0) (h1 : (z.natAbs : Int) < Tl.pw K) (h2 : (d : Int) < Tl.pw K) : L.QS (mkRat z d) K := by
  refine ⟨?_, ?_⟩
  · rw [Rat.num_mkRat, if_neg d0]
    have := Int.natAbs_ediv_le_natAbs z ((d.gcd z.natAbs : Nat) : Int)
    omega
  · rw [Rat.den_mkRat, if_neg d0]
    have := Nat.div_le_self d (d.gcd z.natAbs)
    omega
theorem xr_qs (g : Bool) (m : Nat) (e : Int) (m1 : m < 18446744073709551616) (e0 : -1100 ≤ e) (e1 : e ≤ 1100) : L.QS (xr g m e) 57 := by
  have t : Tn.pw 19 ≤ Tl.pw 57 := tn_tl3 19
  unfold xr
  split
  · obtain ⟨T, rfl⟩ : ∃ T : Nat, e = (T : Int) := ⟨e.toNat, by omega⟩
    have h := pw_19 m1 (show T ≤ 1100 by omega)
    have h1 := two_19 (show 0 ≤ 1100 by omega)
    rw [Int.toNat_natCast, show (m : Int) * 2 ^ T = ((m * 2 ^ T : Nat) : Int) by push_cast; rfl]
    exact mk_qs _ 1 57 (by decide) (by rw [sgI_nat]; omega) (by omega)
  · obtain ⟨T, rfl⟩ : ∃ T : Nat, e = -(T : Int) := ⟨(-e).toNat, by omega⟩
    have h := two_19 (show T ≤ 1100 by omega)
    have h1 := pw_19 (T := 0) m1 (by omega)
    rw [Nat.pow_zero, Nat.mul_one] at h1
    rw [show (- -(T : Int)).toNat = T by omega]
    exact mk_qs _ _ 57 (Nat.ne_of_gt (Nat.two_pow_pos T)) (by rw [sgI_nat]; omega) (by omega)
theorem Of_m (m : Nat) (h : m < 18446744073709551616) (x : World) : Calls Tryz.prog 19 #[.int .u64 (m : Int)] x fun r w' => ∃ a l c, r = .returned (.agg #[.slice a l c]) ∧ Nn w' a l c (m : Int) ∧ Below x.heap.size x w' := by
  refine (Of_any (m : Int) x (by omega) (by omega)).mono ?_
  rintro e w1 ⟨r, zs, rfl, q1, n1, v1, b1⟩
  obtain ⟨a1, l1, c1, rfl⟩ := q1.shape
  exact ⟨a1, l1, c1, rfl, ⟨zs, q1, n1, v1⟩, b1⟩
/-- Number of the reference, by the parts. -/
theorem Num_xr (P Lo Hi Fr b k e : Int) (m : Nat) (g : Bool) (S : ∀ w, Calls Tryz.prog 26 #[.agg #[.int .i64 P, .int .i64 Lo, .int .i64 Hi, .int .i64 Fr], .int .u64 b] w fun e' w' => e' = .returned (.agg #[.int .i64 k, .bool g, .int .u64 (m : Int), .int .i64 e]) ∧ Below w.heap.size w w') (m1 : m < 18446744073709551616) (e0 : -1100 ≤ e) (e1 : e ≤ 1100) (w : World) :
    Calls Tryz.prog 15 #[.agg #[.int .i64 P, .int .i64 Lo, .int .i64 Hi, .int .i64 Fr], .int .u64 b] w (Qf (xr g m e) w) := by
  unfold xr
  split
  · obtain ⟨T, rfl⟩ : ∃ T : Nat, e = (T : Int) := ⟨e.toNat, by omega⟩
    rw [Int.toNat_natCast]
    exact qf_of (L.Numq_pos P Lo Hi Fr b k m g T S (by omega) (by omega) (by omega) w)
  · obtain ⟨T, rfl⟩ : ∃ T : Nat, e = -(T : Int) := ⟨(-e).toNat, by omega⟩
    rw [show (- -(T : Int)).toNat = T by omega]
    exact qf_of (L.Numq_neg P Lo Hi Fr b k m _ g T S (by omega) (by omega) (by omega) (by omega) (by omega) w)
set_option maxRecDepth 100000 in
/-- Exact of both sides tells the same of any float. -/
theorem both_Exact64 (b : Nat) (hb : b < 18446744073709551616) (w : World) (G : Gw w) (Z : Gz w) : ∃ (u v : ByteArray) (er : Int), (∀ x, Below w.heap.size w x → Calls Tryz.prog 4 #[.float .f64 b] x fun r w' => r = .returned (.tuple #[.agg #[.string u, .string v], .int .i64 er]) ∧ Below x.heap.size x w') ∧ (∀ x, Below w.heap.size w x → Calls Tryz.prog 9 #[szW, .int .u64 b] x fun r w' => r = .returned (.tuple #[.agg #[.string u, .string v], .int .i64 er]) ∧ Below x.heap.size x w') := by
  have S1 := FSplit64 b hb
  have S2 := Split_w b (by omega)
  have hd := hdW b (by omega)
  by_cases fd : fdW b = 2047
  · have FI := Finite_w (b : Int) (2047 : Int) false (by rw [hd, fd]; rfl) (by decide)
    have nf : ∃ k : Int, (k = 3 ∨ k = 4) ∧ (splW b).1 = k := by
      unfold splW
      rw [if_pos fd]
      split
      · exact ⟨3, Or.inl rfl, rfl⟩
      · exact ⟨4, Or.inr rfl, rfl⟩
    generalize splW b = q at S1 nf
    obtain ⟨k, g, m, e⟩ := q
    obtain ⟨k', hk, rfl⟩ := nf
    refine ⟨⟨#[]⟩, ⟨#[]⟩, 20, fun x _ => Exact_any b k m e g _ _ _ x S1 (fun y _ => exactOf_no k m e g y ?_), fun x _ => RExact_no _ _ _ _ _ x FI⟩
    rcases hk with h | h
    · exact isFinite_no3 k g m e (by rw [show k = 3 from h]; decide)
    · exact isFinite_no4 k g m e (by rw [show k = 4 from h]; decide) (by rw [show k = 4 from h]; decide)
  · have FI := Finite_w (b : Int) (fdW b : Int) true hd (by simp; omega)
    have ok : ∃ (k : Int) (g : Bool) (m : Nat) (e : Int), splW b = (k, g, (m : Int), e) ∧ (k != 3) = true ∧ (k != 4) = true ∧ m < 18446744073709551616 ∧ -1100 ≤ e ∧ e ≤ 1100 := by
      have f1 : fdW b < 2048 := Nat.mod_lt _ (by decide)
      have f2 : frW b < 4503599627370496 := Nat.mod_lt _ (by decide)
      unfold splW
      rw [if_neg fd]
      split
      · split
        · exact ⟨0, _, 0, 0, rfl, by decide, by decide, by decide, by decide, by decide⟩
        · exact ⟨1, _, frW b, _, rfl, by decide, by decide, by omega, by decide, by decide⟩
      · exact ⟨2, _, frW b + 4503599627370496, _, rfl, by decide, by decide, by omega, by omega, by omega⟩
    obtain ⟨k, g, m, e, eq, k3, k4, m1, e0, e1⟩ := ok
    rw [eq] at S1 S2
    obtain ⟨t, ht⟩ : ∃ t, xr g m e = t := ⟨_, rfl⟩
    have qs := xr_qs g m e m1 e0 e1
    have NU := Num_xr _ _ _ _ (b : Int) k e m g S2 m1 e0 e1
    refine ⟨(wA (decide (t.num < 0)) t.num.natAbs t.den).1.1, (wA (decide (t.num < 0)) t.num.natAbs t.den).1.2, (wrA t).2, fun x bx => Exact_any b k m e g _ _ _ x S1 (fun y by' => exactOf_yes k m e g _ _ _ y (isFinite_yes k g m e k3 k4) (Of_m m m1) (fun z a l c bz hz => ?_)), fun x bx => RExact_yes _ _ _ _ _ t _ _ _ x FI (fun y => by have := NU y; rwa [ht] at this) (fun y v h => ?_)⟩
    · exact WS_xr g a l c m e _ _ _ z hz m1 e0 e1 (G.grow (bel' bx (bel' by' bz))) (Z.grow (bel' bx (bel' by' bz))) (by rw [ht]; rfl)
    · rw [← ht] at h ⊢
      exact L.Out_any v _ 57 y h qs (by decide)
set_option maxRecDepth 100000 in
/-- Exact of both sides tells the same of any small float. -/
theorem both_Exact32 (b : Nat) (hb : b < 4294967296) (w : World) (G : Gw w) (Z : Gz w) : ∃ (u v : ByteArray) (er : Int), (∀ x, Below w.heap.size w x → Calls Tryz.prog 6 #[.float .f32 b] x fun r w' => r = .returned (.tuple #[.agg #[.string u, .string v], .int .i64 er]) ∧ Below x.heap.size x w') ∧ (∀ x, Below w.heap.size w x → Calls Tryz.prog 9 #[szS, .int .u64 b] x fun r w' => r = .returned (.tuple #[.agg #[.string u, .string v], .int .i64 er]) ∧ Below x.heap.size x w') := by
  have S1 := FSplit32 b hb
  have S2 := Split_s b (by omega)
  have hd := hdS b (by omega)
  by_cases fd : fdS b = 255
  · have FI := Finite_s (b : Int) (255 : Int) false (by rw [hd, fd]; rfl) (by decide)
    have nf : ∃ k : Int, (k = 3 ∨ k = 4) ∧ (splS b).1 = k := by
      unfold splS
      rw [if_pos fd]
      split
      · exact ⟨3, Or.inl rfl, rfl⟩
      · exact ⟨4, Or.inr rfl, rfl⟩
    generalize splS b = q at S1 nf
    obtain ⟨k, g, m, e⟩ := q
    obtain ⟨k', hk, rfl⟩ := nf
    refine ⟨⟨#[]⟩, ⟨#[]⟩, 20, fun x _ => Exact32_any b k m e g _ _ _ x S1 (fun y _ => exactOf_no k m e g y ?_), fun x _ => RExact_no _ _ _ _ _ x FI⟩
    rcases hk with h | h
    · exact isFinite_no3 k g m e (by rw [show k = 3 from h]; decide)
    · exact isFinite_no4 k g m e (by rw [show k = 4 from h]; decide) (by rw [show k = 4 from h]; decide)
  · have FI := Finite_s (b : Int) (fdS b : Int) true hd (by simp; omega)
    have ok : ∃ (k : Int) (g : Bool) (m : Nat) (e : Int), splS b = (k, g, (m : Int), e) ∧ (k != 3) = true ∧ (k != 4) = true ∧ m < 18446744073709551616 ∧ -1100 ≤ e ∧ e ≤ 1100 := by
      have f1 : fdS b < 256 := Nat.mod_lt _ (by decide)
      have f2 : frS b < 8388608 := Nat.mod_lt _ (by decide)
      unfold splS
      rw [if_neg fd]
      split
      · split
        · exact ⟨0, _, 0, 0, rfl, by decide, by decide, by decide, by decide, by decide⟩
        · exact ⟨1, _, frS b, _, rfl, by decide, by decide, by omega, by decide, by decide⟩
      · exact ⟨2, _, frS b + 8388608, _, rfl, by decide, by decide, by omega, by omega, by omega⟩
    obtain ⟨k, g, m, e, eq, k3, k4, m1, e0, e1⟩ := ok
    rw [eq] at S1 S2
    obtain ⟨t, ht⟩ : ∃ t, xr g m e = t := ⟨_, rfl⟩
    have qs := xr_qs g m e m1 e0 e1
    have NU := Num_xr _ _ _ _ (b : Int) k e m g S2 m1 e0 e1
    refine ⟨(wA (decide (t.num < 0)) t.num.natAbs t.den).1.1, (wA (decide (t.num < 0)) t.num.natAbs t.den).1.2, (wrA t).2, fun x bx => Exact32_any b k m e g _ _ _ x S1 (fun y by' => exactOf_yes k m e g _ _ _ y (isFinite_yes k g m e k3 k4) (Of_m m m1) (fun z a l c bz hz => ?_)), fun x bx => RExact_yes _ _ _ _ _ t _ _ _ x FI (fun y => by have := NU y; rwa [ht] at this) (fun y v h => ?_)⟩
    · exact WS_xr g a l c m e _ _ _ z hz m1 e0 e1 (G.grow (bel' bx (bel' by' bz))) (Z.grow (bel' bx (bel' by' bz))) (by rw [ht]; rfl)
    · rw [← ht] at h ⊢
      exact L.Out_any v _ 57 y h qs (by decide)
end Go.Proofs.YtiobnojcmeeikaaGreatDoor.Mo

namespace Go.Proofs.YtiobnojcmeeikaaGreatDoor.Mo
open Go.RowKit Tn

set_option maxRecDepth 100000 in
set_option maxHeartbeats 6400000 in
theorem exacts_walk (b c : Nat) (hc : c < 4294967296) (u1 v1 u2 v2 : ByteArray) (e1 e2 : Int) (w : World) (E1 : ∀ x, Below w.heap.size w x → Calls Tryz.prog 4 #[.float .f64 b] x fun r w' => r = .returned (.tuple #[.agg #[.string u1, .string v1], .int .i64 e1]) ∧ Below x.heap.size x w') (E2 : ∀ x, Below w.heap.size w x → Calls Tryz.prog 6 #[.float .f32 c] x fun r w' => r = .returned (.tuple #[.agg #[.string u2, .string v2], .int .i64 e2]) ∧ Below x.heap.size x w') (E3 : ∀ x, Below w.heap.size w x → Calls Tryz.prog 9 #[szW, .int .u64 b] x fun r w' => r = .returned (.tuple #[.agg #[.string u1, .string v1], .int .i64 e1]) ∧ Below x.heap.size x w') (E4 : ∀ x, Below w.heap.size w x → Calls Tryz.prog 9 #[szS, .int .u64 c] x fun r w' => r = .returned (.tuple #[.agg #[.string u2, .string v2], .int .i64 e2]) ∧ Below x.heap.size x w') (E5 : ∀ x, Below w.heap.size w x → Calls Tryz.prog 4 #[.float .f64 4602678819172646912] x fun r w' => r = .returned (.tuple #[.agg #[.string ⟨#[49]⟩, .string ⟨#[50]⟩], .int .i64 0]) ∧ Below x.heap.size x w') : Calls Tryz.prog 3 #[.int .u64 b, .int .u32 c] w fun r w' => r = .returned (.bool true) ∧ Below w.heap.size w w' := by
  have pr : Below w.heap.size w w := Below.refl _ _
  have hf1 := f64frombits b
  have hf2 := f32frombits c
  have hw : IntKind.u64.wrap (c : Int) = c := wu64 _ (by omega) (by omega)
  go_enter Tryz.func3, Tryz.ntmps3
  go_wp2_with (first
    | (go_at_call 4; (have mk7 := p6); (refine (E5 _ p6).mono ?_); (rintro r w7 ⟨rfl, b7⟩); (have al7 := (Below.refl w7.heap.size w7).alloc (Nat.le_refl _) (.cells #[.string ⟨#[49]⟩, .string ⟨#[50]⟩] 25)); (have bb7 := bel' b7 al7); (have p7 := bel' p6 bb7); (have K1_7 := K1_6.below bb7 K1_6.lt); (have K2_7 := K2_6.below bb7 K2_6.lt); (have K4_7 := K4_6.below bb7 K4_6.lt); (have K6_7 := K6.below bb7 K6.lt); (have K7 := Blk.new w7 #[.string ⟨#[49]⟩, .string ⟨#[50]⟩] 25); (have hK10 := K1_7.at 0); (have hK11 := K1_7.at 1); (simp at hK10 hK11); (have hK20 := K2_7.at 0); (have hK21 := K2_7.at 1); (simp at hK20 hK21); (have hK40 := K4_7.at 0); (have hK41 := K4_7.at 1); (simp at hK40 hK41); (have hK60 := K6_7.at 0); (have hK61 := K6_7.at 1); (simp at hK60 hK61); (have hK70 := K7.at 0); (have hK71 := K7.at 1); (simp at hK70 hK71))
    | (go_at_call 9; (have mk6 := p5); (refine (E4 _ p5).mono ?_); (rintro r w6 ⟨rfl, b6⟩); (have al6 := (Below.refl w6.heap.size w6).alloc (Nat.le_refl _) (.cells #[.string u2, .string v2] 25)); (have bb6 := bel' b6 al6); (have p6 := bel' p5 bb6); (have K1_6 := K1_5.below bb6 K1_5.lt); (have K2_6 := K2_5.below bb6 K2_5.lt); (have K4_6 := K4_5.below bb6 K4_5.lt); (have K6 := Blk.new w6 #[.string u2, .string v2] 25))
    | (go_at_call 10; (have mk5 := p4); (refine (Small_any _).mono ?_); (rintro r w5 ⟨rfl, bb5⟩); (have p5 := bel' p4 bb5); (have K1_5 := K1_4.below bb5 K1_4.lt); (have K2_5 := K2_4.below bb5 K2_4.lt); (have K4_5 := K4.below bb5 K4.lt))
    | (go_at_call 9; (have mk4 := p3); (refine (E3 _ p3).mono ?_); (rintro r w4 ⟨rfl, b4⟩); (have al4 := (Below.refl w4.heap.size w4).alloc (Nat.le_refl _) (.cells #[.string u1, .string v1] 25)); (have bb4 := bel' b4 al4); (have p4 := bel' p3 bb4); (have K1_4 := K1_3.below bb4 K1_3.lt); (have K2_4 := K2_3.below bb4 K2_3.lt); (have K4 := Blk.new w4 #[.string u1, .string v1] 25))
    | (go_at_call 8; (have mk3 := p2); (refine (Wide_any _).mono ?_); (rintro r w3 ⟨rfl, bb3⟩); (have p3 := bel' p2 bb3); (have K1_3 := K1_2.below bb3 K1_2.lt); (have K2_3 := K2.below bb3 K2.lt))
    | (go_at_call 6; (have mk2 := p1); (refine (E2 _ p1).mono ?_); (rintro r w2 ⟨rfl, b2⟩); (have al2 := (Below.refl w2.heap.size w2).alloc (Nat.le_refl _) (.cells #[.string u2, .string v2] 25)); (have bb2 := bel' b2 al2); (have p2 := bel' p1 bb2); (have K1_2 := K1.below bb2 K1.lt); (have K2 := Blk.new w2 #[.string u2, .string v2] 25))
    | (go_at_call 4; (refine (E1 _ pr).mono ?_); (rintro r w1 ⟨rfl, b1⟩); (have al1 := (Below.refl w1.heap.size w1).alloc (Nat.le_refl _) (.cells #[.string u1, .string v1] 25)); (have bb1 := bel' b1 al1); (have p1 := bel' pr bb1); (have K1 := Blk.new w1 #[.string u1, .string v1] 25))
    | fail)
  go_ret
  exact ⟨by simp, p7⟩
theorem half_parts : wrA (xr false (4503599627370496 : Nat) (-53)) = (.agg #[.string ⟨#[49]⟩, .string ⟨#[50]⟩], 0) := by
  have := xr_dn false 4503599627370496 53 52 1 1 (by decide) (by decide) (by decide) (by decide) (by decide)
  rw [show (-((53 : Nat) : Int)) = -53 from rfl] at this
  rw [this]
  have d1 : Go.Lib.decDigits 1 = [49] := by simp [Go.Lib.decDigits]
  have d2 : Go.Lib.decDigits (2 ^ 1) = [50] := by simp [Go.Lib.decDigits]
  unfold wA
  rw [d1, d2]
  rfl
set_option maxRecDepth 100000 in
theorem half_split : splW 4602678819172646912 = (2, false, ((4503599627370496 : Nat) : Int), -53) := by decide +kernel
theorem Exact_half (w : World) (G : Gw w) (Z : Gz w) : Calls Tryz.prog 4 #[.float .f64 4602678819172646912] w fun r w' => r = .returned (.tuple #[.agg #[.string ⟨#[49]⟩, .string ⟨#[50]⟩], .int .i64 0]) ∧ Below w.heap.size w w' := by
  have S1 := FSplit64 4602678819172646912 (by decide)
  rw [half_split] at S1
  exact Exact_any _ 2 _ (-53) false _ _ _ w S1 (fun y by' => exactOf_yes _ _ _ _ _ _ _ y (isFinite_yes 2 false _ _ (by decide) (by decide)) (Of_m _ (by decide)) (fun z a l c bz hz => WS_xr false a l c 4503599627370496 (-53) _ _ _ z hz (by decide) (by decide) (by decide) (G.grow (bel' by' bz)) (Z.grow (bel' by' bz)) half_parts))
theorem exacts_law (b c : Nat) (hb : b < 18446744073709551616) (hc : c < 4294967296) (w : World) (G : Gw w) (Z : Gz w) : Calls Tryz.prog 3 #[.int .u64 b, .int .u32 c] w fun r w' => r = .returned (.bool true) ∧ Below w.heap.size w w' := by
  obtain ⟨u1, v1, e1, A1, A2⟩ := both_Exact64 b hb w G Z
  obtain ⟨u2, v2, e2, B1, B2⟩ := both_Exact32 c hc w G Z
  exact exacts_walk b c hc u1 v1 u2 v2 e1 e2 w A1 B1 A2 B2 (fun x bx => Exact_half x (G.grow bx) (Z.grow bx))
theorem exacts_wf (x y : Int) (w : World) (hx : (Lit.int .u64 x).wf = true) (hy : (Lit.int .u32 y).wf = true) (G : Gw w) (Z : Gz w) : Calls Tryz.prog 3 #[.int .u64 x, .int .u32 y] w fun r w' => r = .returned (.bool true) ∧ Below w.heap.size w w' := by
  have x1 : 0 ≤ x ∧ x ≤ 18446744073709551615 := ⟨of_decide_eq_true (Bool.and_eq_true_iff.1 hx).1, of_decide_eq_true (Bool.and_eq_true_iff.1 hx).2⟩
  have y1 : 0 ≤ y ∧ y ≤ 4294967295 := ⟨of_decide_eq_true (Bool.and_eq_true_iff.1 hy).1, of_decide_eq_true (Bool.and_eq_true_iff.1 hy).2⟩
  obtain ⟨b, rfl⟩ : ∃ b : Nat, x = (b : Int) := ⟨x.toNat, by omega⟩
  obtain ⟨c, rfl⟩ : ∃ c : Nat, y = (c : Int) := ⟨y.toNat, by omega⟩
  exact exacts_law b c (by omega) (by omega) w G Z
end Go.Proofs.YtiobnojcmeeikaaGreatDoor.Mo
