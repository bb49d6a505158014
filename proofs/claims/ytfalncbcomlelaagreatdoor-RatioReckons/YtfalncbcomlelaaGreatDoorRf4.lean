import Derived.Test.YtfalncbcomlelaaGreatDoorRf2
namespace Go.Proofs.YtfalncbcomlelaaGreatDoor.Mo
open Go.RowKit Fu Tn Go.Lib Dc

set_option maxHeartbeats 3200000 in
set_option maxRecDepth 100000 in
theorem Cmp_raw (s1 t1 s2 t2 : ByteArray) (g1 g2 : Bool) (O1 D1 O2 D2 : Int) (k : Int) (w : World)
    (CR' : ∀ x, Below w.heap.size w x → Calls Tryz.prog 39 #[.agg #[.string s1, .string t1], .agg #[.string s2, .string t2]] x fun e w' => ∃ (a : (Option Addr × Option Addr) × (Option Addr × Option Addr)) (l c : (Nat × Nat) × (Nat × Nat)), e = .returned (.tuple #[.agg #[.bool g1, .slice a.1.1 l.1.1 c.1.1, .slice a.1.2 l.1.2 c.1.2], .agg #[.bool g2, .slice a.2.1 l.2.1 c.2.1, .slice a.2.2 l.2.2 c.2.2], .int .i64 0]) ∧ ((Nn w' a.1.1 l.1.1 c.1.1 O1 ∧ Nn w' a.1.2 l.1.2 c.1.2 D1) ∧ (Nn w' a.2.1 l.2.1 c.2.1 O2 ∧ Nn w' a.2.2 l.2.2 c.2.2 D2)) ∧ Below x.heap.size x w')
    (CC : ∀ x (a : Option Addr × Option Addr) (l c : Nat × Nat) (a' : Option Addr × Option Addr) (l' c' : Nat × Nat), Nn x a.1 l.1 c.1 O1 → Nn x a.2 l.2 c.2 D1 → Nn x a'.1 l'.1 c'.1 O2 → Nn x a'.2 l'.2 c'.2 D2 → Calls Tryz.prog 44 #[.agg #[.bool g1, .slice a.1 l.1 c.1, .slice a.2 l.2 c.2], .agg #[.bool g2, .slice a'.1 l'.1 c'.1, .slice a'.2 l'.2 c'.2]] x fun e w' => e = .returned (.int .i64 k) ∧ Below x.heap.size x w') :
    Calls Tryz.prog 15 #[.agg #[.string s1, .string t1], .agg #[.string s2, .string t2]] w fun e w' => e = .returned (.tuple #[.int .i64 k, .int .i64 0]) ∧ Below w.heap.size w w' := by
  have KA := (Blk.new w #[.string s1, .string t1] 23).alloc (.cells #[.string s2, .string t2] 23)
  have KB := Blk.new (w.alloc (.cells #[.string s1, .string t1] 23)) #[.string s2, .string t2] 23
  simp only [World.size_alloc] at KB
  have pr : Below w.heap.size w ((w.alloc (.cells #[.string s1, .string t1] 23)).alloc (.cells #[.string s2, .string t2] 23)) := ((Below.refl _ _).alloc (Nat.le_refl _) _).alloc (by simp) _
  go_enter Tryz.func15, Tryz.ntmps15
  go_wp2_with fail
  have ka0 := KA.at 0
  have ka1 := KA.at 1
  have kb0 := KB.at 0
  have kb1 := KB.at 1
  simp at ka0 ka1 kb0 kb1
  generalize ((w.alloc (.cells #[.string s1, .string t1] 23)).alloc (.cells #[.string s2, .string t2] 23)) = W at *
  go_wp2_with (first
    | (go_at_call 39; go_must (refine (CR' _ pr).mono ?_; rintro e w1 ⟨p, q, r, rfl, H, b1⟩; (have al := (((Below.refl w1.heap.size w1).alloc (Nat.le_refl _) (.cells #[.bool g1, .slice p.1.1 q.1.1 r.1.1, .slice p.1.2 q.1.2 r.1.2] 58)).alloc (by simp) (.cells #[.bool g2, .slice p.2.1 q.2.1 r.2.1, .slice p.2.2 q.2.2 r.2.2] 58))); (have b2 := bel' b1 al); (have pB := bel' pr b2); (have n1 := (⟨H.1.1.grow al, H.1.2.grow al⟩ : _ ∧ _)); (have n2 := (⟨H.2.1.grow al, H.2.2.grow al⟩ : _ ∧ _)); (have KF := Rb.new w1 (.bool g1) (.slice p.1.1 q.1.1 r.1.1) (.slice p.1.2 q.1.2 r.1.2) 58); (have KF := KF.alloc (.cells #[.bool g2, .slice p.2.1 q.2.1 r.2.1, .slice p.2.2 q.2.2 r.2.2] 58)); (have KG := Rb.new (w1.alloc (.cells #[.bool g1, .slice p.1.1 q.1.1 r.1.1, .slice p.1.2 q.1.2 r.1.2] 58)) (.bool g2) (.slice p.2.1 q.2.1 r.2.1) (.slice p.2.2 q.2.2 r.2.2) 58); (have sz : (w1.alloc (.cells #[.bool g1, .slice p.1.1 q.1.1 r.1.1, .slice p.1.2 q.1.2 r.1.2] 58)).heap.size = w1.heap.size + 1 := World.size_alloc _ _); (rw [sz] at KG); (have kf0 := KF.c0); (have kf1 := KF.c1); (have kf2 := KF.c2); (have kg0 := KG.c0); (have kg1 := KG.c1); (have kg2 := KG.c2)))
    | (go_at_call 44; go_must (refine (CC _ p.1 q.1 r.1 p.2 q.2 r.2 n1.1 n1.2 n2.1 n2.2).mono ?_; rintro e w9 ⟨rfl, b9⟩; (have pE := bel' pB b9)))
    | fail)
  exact bodyPost_ret (v := .tuple #[.int .i64 k, .int .i64 0]) (by simp [results, Tryz.results15, go_sem]) rfl ⟨rfl, pE⟩
set_option maxHeartbeats 3200000 in
set_option maxRecDepth 100000 in
theorem Neg_raw (s1 t1 u v : ByteArray) (g1 : Bool) (O1 D1 : Int) (er : Int) (t : Rat) (w : World)
    (CR' : ∀ x, Below w.heap.size w x → Calls Tryz.prog 23 #[.agg #[.string s1, .string t1]] x fun e w' => ∃ (a : Option Addr × Option Addr) (l c : Nat × Nat), e = .returned (.tuple #[.agg #[.bool g1, .slice a.1 l.1 c.1, .slice a.2 l.2 c.2], .int .i64 0]) ∧ (Nn w' a.1 l.1 c.1 O1 ∧ Nn w' a.2 l.2 c.2 D1) ∧ Below x.heap.size x w')
    (CN : ∀ x (a : Option Addr × Option Addr) (l c : Nat × Nat), Nn x a.1 l.1 c.1 O1 → Nn x a.2 l.2 c.2 D1 → Calls Tryz.prog 24 #[.agg #[.bool g1, .slice a.1 l.1 c.1, .slice a.2 l.2 c.2]] x fun e w' => ∃ y, e = .returned y ∧ PF w' y t ∧ Below x.heap.size x w')
    (CT : ∀ x y, PF x y t → Below w.heap.size w x → Calls Tryz.prog 25 #[y] x fun e w' => e = .returned (.tuple #[.agg #[.string u, .string v], .int .i64 er]) ∧ Below x.heap.size x w') :
    Calls Tryz.prog 6 #[.agg #[.string s1, .string t1]] w fun e w' => e = .returned (.tuple #[.agg #[.string u, .string v], .int .i64 er]) ∧ Below w.heap.size w w' := by
  have KA := (Blk.new w #[.string s1, .string t1] 23).alloc (.cells #[.string ⟨#[]⟩, .string ⟨#[]⟩] 23)
  have KR := Blk.new (w.alloc (.cells #[.string s1, .string t1] 23)) #[.string ⟨#[]⟩, .string ⟨#[]⟩] 23
  simp only [World.size_alloc] at KR
  have pr : Below w.heap.size w ((w.alloc (.cells #[.string s1, .string t1] 23)).alloc (.cells #[.string ⟨#[]⟩, .string ⟨#[]⟩] 23)) := ((Below.refl _ _).alloc (Nat.le_refl _) _).alloc (by simp) _
  go_enter Tryz.func6, Tryz.ntmps6
  go_wp2_with fail
  have ka0 := KA.at 0
  have ka1 := KA.at 1
  simp at ka0 ka1
  generalize ((w.alloc (.cells #[.string s1, .string t1] 23)).alloc (.cells #[.string ⟨#[]⟩, .string ⟨#[]⟩] 23)) = W at *
  go_wp2_with (first
    | (go_at_call 23; go_must (refine (CR' _ pr).mono ?_; rintro e w1 ⟨p, q, r, rfl, H, b1⟩; (have al := ((Below.refl w1.heap.size w1).alloc (Nat.le_refl _) (.cells #[.bool g1, .slice p.1 q.1 r.1, .slice p.2 q.2 r.2] 58))); (have b2 := bel' b1 al); (have pB := bel' pr b2); (have n1 := (⟨H.1.grow al, H.2.grow al⟩ : _ ∧ _)); (have KR1 := KR.below b2 KR.lt); (have KF := Rb.new w1 (.bool g1) (.slice p.1 q.1 r.1) (.slice p.2 q.2 r.2) 58); (have kf0 := KF.c0); (have kf1 := KF.c1); (have kf2 := KF.c2)))
    | (go_at_call 24; go_must (refine (CN _ p q r n1.1 n1.2).mono ?_; rintro e w3 ⟨y, rfl, hy, b3⟩))
    | (go_at_call 25; go_must (refine (CT _ _ hy (bel' pB b3)).mono ?_; rintro e w9 ⟨rfl, b9⟩; (have b5 := bel' b3 b9); (have KR2 := KR1.below b5 KR1.lt); (have m0 := KR2.at 0); (have m1 := KR2.at 1); (have m2 := KR2.free 0); (have m3 := KR2.free 1); (simp at m0 m1)))
    | fail)
  have kE : Blk ((w9.setCell ⟨w.heap.size + 1, 0, none⟩ (.string u)).setCell ⟨w.heap.size + 1, 1, none⟩ (.string v)) (w.heap.size + 1) #[.string u, .string v] 23 := bput (bput KR2 0 _) 1 _
  have bE : Below w.heap.size w ((w9.setCell ⟨w.heap.size + 1, 0, none⟩ (.string u)).setCell ⟨w.heap.size + 1, 1, none⟩ (.string v)) := ((bel' pB b5).setCell (p := ⟨w.heap.size + 1, 0, none⟩) (by show w.heap.size ≤ w.heap.size + 1; omega) _).setCell (p := ⟨w.heap.size + 1, 1, none⟩) (by show w.heap.size ≤ w.heap.size + 1; omega) _
  generalize (w9.setCell ⟨w.heap.size + 1, 0, none⟩ (.string u)).setCell ⟨w.heap.size + 1, 1, none⟩ (.string v) = WE at *
  have r0 := kE.at 0
  have r1 := kE.at 1
  simp at r0 r1
  exact bodyPost_ret (v := .tuple #[.agg #[.string u, .string v], .int .i64 er]) (by simp [results, Tryz.results6, go_sem, r0, r1]) rfl ⟨rfl, bE⟩
set_option maxHeartbeats 3200000 in
set_option maxRecDepth 100000 in
theorem Sign_raw (s1 t1 : ByteArray) (g1 : Bool) (O1 D1 : Int) (k : Int) (w : World)
    (CR' : ∀ x, Below w.heap.size w x → Calls Tryz.prog 23 #[.agg #[.string s1, .string t1]] x fun e w' => ∃ (a : Option Addr × Option Addr) (l c : Nat × Nat), e = .returned (.tuple #[.agg #[.bool g1, .slice a.1 l.1 c.1, .slice a.2 l.2 c.2], .int .i64 0]) ∧ (Nn w' a.1 l.1 c.1 O1 ∧ Nn w' a.2 l.2 c.2 D1) ∧ Below x.heap.size x w')
    (CN : ∀ x (a : Option Addr × Option Addr) (l c : Nat × Nat), Nn x a.1 l.1 c.1 O1 → Nn x a.2 l.2 c.2 D1 → Calls Tryz.prog 46 #[.agg #[.bool g1, .slice a.1 l.1 c.1, .slice a.2 l.2 c.2]] x fun e w' => e = .returned (.int .i64 k) ∧ Below x.heap.size x w') :
    Calls Tryz.prog 17 #[.agg #[.string s1, .string t1]] w fun e w' => e = .returned (.tuple #[.int .i64 k, .int .i64 0]) ∧ Below w.heap.size w w' := by
  have KA := Blk.new w #[.string s1, .string t1] 23
  have pr : Below w.heap.size w (w.alloc (.cells #[.string s1, .string t1] 23)) := (Below.refl _ _).alloc (Nat.le_refl _) _
  go_enter Tryz.func17, Tryz.ntmps17
  go_wp2_with fail
  have ka0 := KA.at 0
  have ka1 := KA.at 1
  simp at ka0 ka1
  generalize (w.alloc (.cells #[.string s1, .string t1] 23)) = W at *
  go_wp2_with (first
    | (go_at_call 23; go_must (refine (CR' _ pr).mono ?_; rintro e w1 ⟨p, q, r, rfl, H, b1⟩; (have al := ((Below.refl w1.heap.size w1).alloc (Nat.le_refl _) (.cells #[.bool g1, .slice p.1 q.1 r.1, .slice p.2 q.2 r.2] 58))); (have b2 := bel' b1 al); (have pB := bel' pr b2); (have n1 := (⟨H.1.grow al, H.2.grow al⟩ : _ ∧ _)); (have KF := Rb.new w1 (.bool g1) (.slice p.1 q.1 r.1) (.slice p.2 q.2 r.2) 58); (have kf0 := KF.c0); (have kf1 := KF.c1); (have kf2 := KF.c2)))
    | (go_at_call 46; go_must (refine (CN _ p q r n1.1 n1.2).mono ?_; rintro e w3 ⟨rfl, b3⟩))
    | fail)
  exact bodyPost_ret (v := .tuple #[.int .i64 k, .int .i64 0]) (by simp [results, Tryz.results17, go_sem]) rfl ⟨rfl, bel' pB b3⟩
set_option maxHeartbeats 3200000 in
set_option maxRecDepth 100000 in
theorem Check_raw (s1 t1 : ByteArray) (k : Int) (w : World)
    (CR' : ∀ x, Below w.heap.size w x → Calls Tryz.prog 23 #[.agg #[.string s1, .string t1]] x fun e w' => ∃ (g : Bool) (a : Option Addr × Option Addr) (l c : Nat × Nat), e = .returned (.tuple #[.agg #[.bool g, .slice a.1 l.1 c.1, .slice a.2 l.2 c.2], .int .i64 k]) ∧ Below x.heap.size x w') :
    Calls Tryz.prog 8 #[.agg #[.string s1, .string t1]] w fun e w' => e = .returned (.int .i64 k) ∧ Below w.heap.size w w' := by
  have KA := Blk.new w #[.string s1, .string t1] 23
  have pr : Below w.heap.size w (w.alloc (.cells #[.string s1, .string t1] 23)) := (Below.refl _ _).alloc (Nat.le_refl _) _
  have ka0 := KA.at 0
  have ka1 := KA.at 1
  simp at ka0 ka1
  go_enter Tryz.func8, Tryz.ntmps8
  go_wp2_with (first
    | (go_at_call 23; go_must (refine (CR' _ pr).mono ?_; rintro e w1 ⟨g, a, l, c, rfl, b1⟩))
    | fail)
  exact bodyPost_ret (v := .int .i64 k) (by simp [results, Tryz.results8, go_sem]) rfl ⟨rfl, bel' (bel' pr b1) ((Below.refl _ _).alloc (Nat.le_refl _) _)⟩
end Go.Proofs.YtfalncbcomlelaaGreatDoor.Mo
