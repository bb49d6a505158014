import Derived.Test.YtfalncbcomlelaaGreatDoorRf2
import Derived.Deep.RegionHeld3
namespace Go.Proofs.YtfalncbcomlelaaGreatDoor.Mo
open Go.RowKit Fu Tn Go.Lib Dc

set_option maxHeartbeats 3200000 in
set_option maxRecDepth 100000 in
theorem Mul_raw (s1 t1 s2 t2 u v : ByteArray) (g1 g2 : Bool) (O1 D1 O2 D2 : Int) (er : Int) (w : World)
    (CR' : ∀ x, Below w.heap.size w x → Calls Tryz.prog 39 #[.agg #[.string s1, .string t1], .agg #[.string s2, .string t2]] x fun e w' => ∃ (a : (Option Addr × Option Addr) × (Option Addr × Option Addr)) (l c : (Nat × Nat) × (Nat × Nat)), e = .returned (.tuple #[.agg #[.bool g1, .slice a.1.1 l.1.1 c.1.1, .slice a.1.2 l.1.2 c.1.2], .agg #[.bool g2, .slice a.2.1 l.2.1 c.2.1, .slice a.2.2 l.2.2 c.2.2], .int .i64 0]) ∧ ((Nn w' a.1.1 l.1.1 c.1.1 O1 ∧ Nn w' a.1.2 l.1.2 c.1.2 D1) ∧ (Nn w' a.2.1 l.2.1 c.2.1 O2 ∧ Nn w' a.2.2 l.2.2 c.2.2 D2)) ∧ Below x.heap.size x w')
    (CP : ∀ x (a : (Option Addr × Option Addr) × (Option Addr × Option Addr)) (l c : (Nat × Nat) × (Nat × Nat)), Below w.heap.size w x → (Nn x a.1.1 l.1.1 c.1.1 O1 ∧ Nn x a.1.2 l.1.2 c.1.2 D1) → (Nn x a.2.1 l.2.1 c.2.1 O2 ∧ Nn x a.2.2 l.2.2 c.2.2 D2) → Calls Tryz.prog 41 #[.agg #[.bool g1, .slice a.1.1 l.1.1 c.1.1, .slice a.1.2 l.1.2 c.1.2], .agg #[.bool g2, .slice a.2.1 l.2.1 c.2.1, .slice a.2.2 l.2.2 c.2.2]] x fun e w' => ∃ y, e = .returned y ∧ (∀ z, Below w'.heap.size w' z → Calls Tryz.prog 25 #[y] z fun e w2 => e = .returned (.tuple #[.agg #[.string u, .string v], .int .i64 er]) ∧ Below z.heap.size z w2) ∧ Below x.heap.size x w') :
    Calls Tryz.prog 13 #[.agg #[.string s1, .string t1], .agg #[.string s2, .string t2]] w fun e w' => e = .returned (.tuple #[.agg #[.string u, .string v], .int .i64 er]) ∧ Below w.heap.size w w' := by
  have KA := ((Blk.new w #[.string s1, .string t1] 23).alloc (.cells #[.string s2, .string t2] 23)).alloc (.cells #[.string ⟨#[]⟩, .string ⟨#[]⟩] 23)
  have KB := (Blk.new (w.alloc (.cells #[.string s1, .string t1] 23)) #[.string s2, .string t2] 23).alloc (.cells #[.string ⟨#[]⟩, .string ⟨#[]⟩] 23)
  have KR := Blk.new ((w.alloc (.cells #[.string s1, .string t1] 23)).alloc (.cells #[.string s2, .string t2] 23)) #[.string ⟨#[]⟩, .string ⟨#[]⟩] 23
  simp only [World.size_alloc] at KB KR
  have pr : Below w.heap.size w (((w.alloc (.cells #[.string s1, .string t1] 23)).alloc (.cells #[.string s2, .string t2] 23)).alloc (.cells #[.string ⟨#[]⟩, .string ⟨#[]⟩] 23)) := (((Below.refl _ _).alloc (Nat.le_refl _) _).alloc (by simp) _).alloc (by simp; omega) _
  go_enter Tryz.func13, Tryz.ntmps13
  go_wp2_with fail
  have ka0 := KA.at 0
  have ka1 := KA.at 1
  have kb0 := KB.at 0
  have kb1 := KB.at 1
  simp at ka0 ka1 kb0 kb1
  generalize (((w.alloc (.cells #[.string s1, .string t1] 23)).alloc (.cells #[.string s2, .string t2] 23)).alloc (.cells #[.string ⟨#[]⟩, .string ⟨#[]⟩] 23)) = W at *
  go_wp2_with (first
    | (go_at_call 39; go_must (refine (CR' _ pr).mono ?_; rintro e w1 ⟨p, q, r, rfl, H, b1⟩; (have al := (((Below.refl w1.heap.size w1).alloc (Nat.le_refl _) (.cells #[.bool g1, .slice p.1.1 q.1.1 r.1.1, .slice p.1.2 q.1.2 r.1.2] 58)).alloc (by simp) (.cells #[.bool g2, .slice p.2.1 q.2.1 r.2.1, .slice p.2.2 q.2.2 r.2.2] 58))); (have b2 := bel' b1 al); (have pB := bel' pr b2); (have n1 := (⟨H.1.1.grow al, H.1.2.grow al⟩ : _ ∧ _)); (have n2 := (⟨H.2.1.grow al, H.2.2.grow al⟩ : _ ∧ _)); (have KR1 := KR.below b2 KR.lt)))
    | (go_at_call 41; go_must (refine (CP _ p q r pB n1 n2).mono ?_; rintro e w3 ⟨y, rfl, CY, b3⟩))
    | (go_at_call 25; go_must (refine (CY _ (Below.refl _ _)).mono ?_; rintro e w4 ⟨rfl, b4⟩; (have b5 := bel' b3 b4); (have KR2 := KR1.below b5 KR1.lt); (have m0 := KR2.at 0); (have m1 := KR2.at 1); (have m2 := KR2.free 0); (have m3 := KR2.free 1); (simp at m0 m1)))
    | fail)
  have kE : Blk ((w4.setCell ⟨w.heap.size + 1 + 1, 0, none⟩ (.string u)).setCell ⟨w.heap.size + 1 + 1, 1, none⟩ (.string v)) (w.heap.size + 1 + 1) #[.string u, .string v] 23 := bput (bput KR2 0 _) 1 _
  have bE : Below w.heap.size w ((w4.setCell ⟨w.heap.size + 1 + 1, 0, none⟩ (.string u)).setCell ⟨w.heap.size + 1 + 1, 1, none⟩ (.string v)) := ((bel' pB b5).setCell (p := ⟨w.heap.size + 1 + 1, 0, none⟩) (by show w.heap.size ≤ w.heap.size + 1 + 1; omega) _).setCell (p := ⟨w.heap.size + 1 + 1, 1, none⟩) (by show w.heap.size ≤ w.heap.size + 1 + 1; omega) _
  generalize (w4.setCell ⟨w.heap.size + 1 + 1, 0, none⟩ (.string u)).setCell ⟨w.heap.size + 1 + 1, 1, none⟩ (.string v) = WE at *
  have r0 := kE.at 0
  have r1 := kE.at 1
  simp at r0 r1
  exact bodyPost_ret (v := .tuple #[.agg #[.string u, .string v], .int .i64 er]) (by simp [results, Tryz.results13, go_sem, r0, r1]) rfl ⟨rfl, bE⟩
set_option maxHeartbeats 3200000 in
set_option maxRecDepth 100000 in
theorem Sub_raw (s1 t1 s2 t2 u v : ByteArray) (g1 g2 : Bool) (O1 D1 O2 D2 : Int) (er : Int) (s t : Rat) (w : World)
    (CR' : ∀ x, Below w.heap.size w x → Calls Tryz.prog 39 #[.agg #[.string s1, .string t1], .agg #[.string s2, .string t2]] x fun e w' => ∃ (a : (Option Addr × Option Addr) × (Option Addr × Option Addr)) (l c : (Nat × Nat) × (Nat × Nat)), e = .returned (.tuple #[.agg #[.bool g1, .slice a.1.1 l.1.1 c.1.1, .slice a.1.2 l.1.2 c.1.2], .agg #[.bool g2, .slice a.2.1 l.2.1 c.2.1, .slice a.2.2 l.2.2 c.2.2], .int .i64 0]) ∧ ((Nn w' a.1.1 l.1.1 c.1.1 O1 ∧ Nn w' a.1.2 l.1.2 c.1.2 D1) ∧ (Nn w' a.2.1 l.2.1 c.2.1 O2 ∧ Nn w' a.2.2 l.2.2 c.2.2 D2)) ∧ Below x.heap.size x w')
    (CN : ∀ x (a : Option Addr × Option Addr) (l c : Nat × Nat), Nn x a.1 l.1 c.1 O2 → Nn x a.2 l.2 c.2 D2 → Calls Tryz.prog 24 #[.agg #[.bool g2, .slice a.1 l.1 c.1, .slice a.2 l.2 c.2]] x fun e w' => ∃ y, e = .returned y ∧ PF w' y s ∧ Below x.heap.size x w')
    (CP : ∀ x (a : Option Addr × Option Addr) (l c : Nat × Nat) y, Nn x a.1 l.1 c.1 O1 → Nn x a.2 l.2 c.2 D1 → PF x y s → Calls Tryz.prog 40 #[.agg #[.bool g1, .slice a.1 l.1 c.1, .slice a.2 l.2 c.2], y] x fun e w' => ∃ z, e = .returned z ∧ PF w' z t ∧ Below x.heap.size x w')
    (CT : ∀ x y, PF x y t → Below w.heap.size w x → Calls Tryz.prog 25 #[y] x fun e w' => e = .returned (.tuple #[.agg #[.string u, .string v], .int .i64 er]) ∧ Below x.heap.size x w') :
    Calls Tryz.prog 12 #[.agg #[.string s1, .string t1], .agg #[.string s2, .string t2]] w fun e w' => e = .returned (.tuple #[.agg #[.string u, .string v], .int .i64 er]) ∧ Below w.heap.size w w' := by
  have KA := ((Blk.new w #[.string s1, .string t1] 23).alloc (.cells #[.string s2, .string t2] 23)).alloc (.cells #[.string ⟨#[]⟩, .string ⟨#[]⟩] 23)
  have KB := (Blk.new (w.alloc (.cells #[.string s1, .string t1] 23)) #[.string s2, .string t2] 23).alloc (.cells #[.string ⟨#[]⟩, .string ⟨#[]⟩] 23)
  have KR := Blk.new ((w.alloc (.cells #[.string s1, .string t1] 23)).alloc (.cells #[.string s2, .string t2] 23)) #[.string ⟨#[]⟩, .string ⟨#[]⟩] 23
  simp only [World.size_alloc] at KB KR
  have pr : Below w.heap.size w (((w.alloc (.cells #[.string s1, .string t1] 23)).alloc (.cells #[.string s2, .string t2] 23)).alloc (.cells #[.string ⟨#[]⟩, .string ⟨#[]⟩] 23)) := (((Below.refl _ _).alloc (Nat.le_refl _) _).alloc (by simp) _).alloc (by simp; omega) _
  go_enter Tryz.func12, Tryz.ntmps12
  go_wp2_with fail
  have ka0 := KA.at 0
  have ka1 := KA.at 1
  have kb0 := KB.at 0
  have kb1 := KB.at 1
  simp at ka0 ka1 kb0 kb1
  generalize (((w.alloc (.cells #[.string s1, .string t1] 23)).alloc (.cells #[.string s2, .string t2] 23)).alloc (.cells #[.string ⟨#[]⟩, .string ⟨#[]⟩] 23)) = W at *
  go_wp2_with (first
    | (go_at_call 39; go_must (refine (CR' _ pr).mono ?_; rintro e w1 ⟨p, q, r, rfl, H, b1⟩; (have al := (((Below.refl w1.heap.size w1).alloc (Nat.le_refl _) (.cells #[.bool g1, .slice p.1.1 q.1.1 r.1.1, .slice p.1.2 q.1.2 r.1.2] 58)).alloc (by simp) (.cells #[.bool g2, .slice p.2.1 q.2.1 r.2.1, .slice p.2.2 q.2.2 r.2.2] 58))); (have b2 := bel' b1 al); (have pB := bel' pr b2); (have n1 := (⟨H.1.1.grow al, H.1.2.grow al⟩ : _ ∧ _)); (have n2 := (⟨H.2.1.grow al, H.2.2.grow al⟩ : _ ∧ _)); (have KR1 := KR.below b2 KR.lt); (have KF := Rb.new w1 (.bool g1) (.slice p.1.1 q.1.1 r.1.1) (.slice p.1.2 q.1.2 r.1.2) 58); (have KF := KF.alloc (.cells #[.bool g2, .slice p.2.1 q.2.1 r.2.1, .slice p.2.2 q.2.2 r.2.2] 58)); (have KG := Rb.new (w1.alloc (.cells #[.bool g1, .slice p.1.1 q.1.1 r.1.1, .slice p.1.2 q.1.2 r.1.2] 58)) (.bool g2) (.slice p.2.1 q.2.1 r.2.1) (.slice p.2.2 q.2.2 r.2.2) 58); (have sz : (w1.alloc (.cells #[.bool g1, .slice p.1.1 q.1.1 r.1.1, .slice p.1.2 q.1.2 r.1.2] 58)).heap.size = w1.heap.size + 1 := World.size_alloc _ _); (rw [sz] at KG); (have kf0 := KF.c0); (have kf1 := KF.c1); (have kf2 := KF.c2); (have kg0 := KG.c0); (have kg1 := KG.c1); (have kg2 := KG.c2)))
    | fail)
  have hX : w.heap.size + 1 + 1 < w1.heap.size := by have := KR.lt; have := b1.size; omega
  generalize (w1.alloc (.cells #[.bool g1, .slice p.1.1 q.1.1 r.1.1, .slice p.1.2 q.1.2 r.1.2] 58)).alloc (.cells #[.bool g2, .slice p.2.1 q.2.1 r.2.1, .slice p.2.2 q.2.2 r.2.2] 58) = WA at *
  generalize w1.heap.size = X at *
  have hX1 : X ≠ w.heap.size + 1 + 1 := by omega
  have hX2 : w.heap.size + 1 + 1 ≠ X := by omega
  have hX3 : X + 1 ≠ w.heap.size + 1 + 1 := by omega
  have hX4 : w.heap.size + 1 + 1 ≠ X + 1 := by omega
  have hX5 : X ≠ w.heap.size + 1 := by omega
  have hX6 : w.heap.size + 1 ≠ X := by omega
  clear CR' H al sz kf0 kf1 kf2 kg0 kg1 kg2
  have kf0 := KF.c0
  have kf1 := KF.c1
  have kf2 := KF.c2
  have kg0 := KG.c0
  have kg1 := KG.c1
  have kg2 := KG.c2
  go_region_held3 (fun x => x.cell? ⟨X, 0, none⟩ = some (.bool g1) ∧ x.cell? ⟨X, 1, none⟩ = some (.slice p.1.1 q.1.1 r.1.1) ∧ x.cell? ⟨X, 2, none⟩ = some (.slice p.1.2 q.1.2 r.1.2) ∧ x.cell? ⟨X + 1, 0, none⟩ = some (.bool g2) ∧ x.cell? ⟨X + 1, 1, none⟩ = some (.slice p.2.1 q.2.1 r.2.1) ∧ x.cell? ⟨X + 1, 2, none⟩ = some (.slice p.2.2 q.2.2 r.2.2)) (go_keep) (first
    | (go_at_call 24; refine (CN _ p.2 q.2 r.2 n2.1.drew n2.2.drew).mono ?_; rintro e w3 ⟨y, rfl, hy, b3⟩; have b3 := undrew b3; have h0 := (KF.grow b3).c0; have h1 := (KF.grow b3).c1; have h2 := (KF.grow b3).c2; have h3 := (KG.grow b3).c0; have h4 := (KG.grow b3).c1; have h5 := (KG.grow b3).c2)
    | (go_at_call 40; refine (CP _ p.1 q.1 r.1 y (n1.1.grow b3) (n1.2.grow b3) hy).mono ?_; rintro e w4 ⟨z, rfl, hz, b4⟩; have b4 := bel' b3 b4; have i0 := (KF.grow b4).c0; have i1 := (KF.grow b4).c1; have i2 := (KF.grow b4).c2; have i3 := (KG.grow b4).c0; have i4 := (KG.grow b4).c1; have i5 := (KG.grow b4).c2)
    | (go_at_call 25; refine (CT _ _ hz (bel' pB b4)).mono ?_; rintro e w9 ⟨rfl, b9⟩; have b5 := bel' b4 b9; have j0 := (KF.grow b5).c0; have j1 := (KF.grow b5).c1; have j2 := (KF.grow b5).c2; have j3 := (KG.grow b5).c0; have j4 := (KG.grow b5).c1; have j5 := (KG.grow b5).c2; have KR2 := KR1.below b5 KR1.lt; have m0 := KR2.at 0; have m1 := KR2.at 1; have m2 := KR2.free 0; have m3 := KR2.free 1; simp at m0 m1)
    | fail)
  go_wp2_with fail
  have kE : Blk ((w9.setCell ⟨w.heap.size + 1 + 1, 0, none⟩ (.string u)).setCell ⟨w.heap.size + 1 + 1, 1, none⟩ (.string v)) (w.heap.size + 1 + 1) #[.string u, .string v] 23 := bput (bput KR2 0 _) 1 _
  have bE : Below w.heap.size w ((w9.setCell ⟨w.heap.size + 1 + 1, 0, none⟩ (.string u)).setCell ⟨w.heap.size + 1 + 1, 1, none⟩ (.string v)) := ((bel' pB b5).setCell (p := ⟨w.heap.size + 1 + 1, 0, none⟩) (by show w.heap.size ≤ w.heap.size + 1 + 1; omega) _).setCell (p := ⟨w.heap.size + 1 + 1, 1, none⟩) (by show w.heap.size ≤ w.heap.size + 1 + 1; omega) _
  generalize (w9.setCell ⟨w.heap.size + 1 + 1, 0, none⟩ (.string u)).setCell ⟨w.heap.size + 1 + 1, 1, none⟩ (.string v) = WE at *
  have r0 := kE.at 0
  have r1 := kE.at 1
  simp at r0 r1
  exact bodyPost_ret (v := .tuple #[.agg #[.string u, .string v], .int .i64 er]) (by simp [results, Tryz.results12, go_sem, r0, r1]) rfl ⟨rfl, bE⟩
set_option maxHeartbeats 3200000 in
set_option maxRecDepth 100000 in
theorem Div_raw (s1 t1 s2 t2 u v : ByteArray) (g1 g2 : Bool) (O1 D1 O2 D2 : Int) (er : Int) (s t : Rat) (w : World)
    (CR' : ∀ x, Below w.heap.size w x → Calls Tryz.prog 39 #[.agg #[.string s1, .string t1], .agg #[.string s2, .string t2]] x fun e w' => ∃ (a : (Option Addr × Option Addr) × (Option Addr × Option Addr)) (l c : (Nat × Nat) × (Nat × Nat)), e = .returned (.tuple #[.agg #[.bool g1, .slice a.1.1 l.1.1 c.1.1, .slice a.1.2 l.1.2 c.1.2], .agg #[.bool g2, .slice a.2.1 l.2.1 c.2.1, .slice a.2.2 l.2.2 c.2.2], .int .i64 0]) ∧ ((Nn w' a.1.1 l.1.1 c.1.1 O1 ∧ Nn w' a.1.2 l.1.2 c.1.2 D1) ∧ (Nn w' a.2.1 l.2.1 c.2.1 O2 ∧ Nn w' a.2.2 l.2.2 c.2.2 D2)) ∧ Below x.heap.size x w')
    (CN : ∀ x (a : Option Addr × Option Addr) (l c : Nat × Nat), Nn x a.1 l.1 c.1 O2 → Nn x a.2 l.2 c.2 D2 → Calls Tryz.prog 43 #[.agg #[.bool g2, .slice a.1 l.1 c.1, .slice a.2 l.2 c.2]] x fun e w' => ∃ y, e = .returned y ∧ PF w' y s ∧ Below x.heap.size x w')
    (CP : ∀ x (a : Option Addr × Option Addr) (l c : Nat × Nat) y, Nn x a.1 l.1 c.1 O1 → Nn x a.2 l.2 c.2 D1 → PF x y s → Calls Tryz.prog 41 #[.agg #[.bool g1, .slice a.1 l.1 c.1, .slice a.2 l.2 c.2], y] x fun e w' => ∃ z, e = .returned z ∧ PF w' z t ∧ Below x.heap.size x w')
    (CT : ∀ x y, PF x y t → Below w.heap.size w x → Calls Tryz.prog 25 #[y] x fun e w' => e = .returned (.tuple #[.agg #[.string u, .string v], .int .i64 er]) ∧ Below x.heap.size x w')
    (CZ : ∀ x a l c, Nn x a l c O2 → Calls Tryz.prog 42 #[.agg #[.slice a l c]] x fun e w' => e = .returned (.bool false) ∧ Below x.heap.size x w') :
    Calls Tryz.prog 14 #[.agg #[.string s1, .string t1], .agg #[.string s2, .string t2]] w fun e w' => e = .returned (.tuple #[.agg #[.string u, .string v], .int .i64 er]) ∧ Below w.heap.size w w' := by
  have KA := ((Blk.new w #[.string s1, .string t1] 23).alloc (.cells #[.string s2, .string t2] 23)).alloc (.cells #[.string ⟨#[]⟩, .string ⟨#[]⟩] 23)
  have KB := (Blk.new (w.alloc (.cells #[.string s1, .string t1] 23)) #[.string s2, .string t2] 23).alloc (.cells #[.string ⟨#[]⟩, .string ⟨#[]⟩] 23)
  have KR := Blk.new ((w.alloc (.cells #[.string s1, .string t1] 23)).alloc (.cells #[.string s2, .string t2] 23)) #[.string ⟨#[]⟩, .string ⟨#[]⟩] 23
  simp only [World.size_alloc] at KB KR
  have pr : Below w.heap.size w (((w.alloc (.cells #[.string s1, .string t1] 23)).alloc (.cells #[.string s2, .string t2] 23)).alloc (.cells #[.string ⟨#[]⟩, .string ⟨#[]⟩] 23)) := (((Below.refl _ _).alloc (Nat.le_refl _) _).alloc (by simp) _).alloc (by simp; omega) _
  go_enter Tryz.func14, Tryz.ntmps14
  go_wp2_with fail
  have ka0 := KA.at 0
  have ka1 := KA.at 1
  have kb0 := KB.at 0
  have kb1 := KB.at 1
  simp at ka0 ka1 kb0 kb1
  generalize (((w.alloc (.cells #[.string s1, .string t1] 23)).alloc (.cells #[.string s2, .string t2] 23)).alloc (.cells #[.string ⟨#[]⟩, .string ⟨#[]⟩] 23)) = W at *
  go_wp2_with (first
    | (go_at_call 39; go_must (refine (CR' _ pr).mono ?_; rintro e w1 ⟨p, q, r, rfl, H, b1⟩; (have al := (((Below.refl w1.heap.size w1).alloc (Nat.le_refl _) (.cells #[.bool g1, .slice p.1.1 q.1.1 r.1.1, .slice p.1.2 q.1.2 r.1.2] 58)).alloc (by simp) (.cells #[.bool g2, .slice p.2.1 q.2.1 r.2.1, .slice p.2.2 q.2.2 r.2.2] 58))); (have b2 := bel' b1 al); (have pB := bel' pr b2); (have n1 := (⟨H.1.1.grow al, H.1.2.grow al⟩ : _ ∧ _)); (have n2 := (⟨H.2.1.grow al, H.2.2.grow al⟩ : _ ∧ _)); (have KR1 := KR.below b2 KR.lt); (have KF := Rb.new w1 (.bool g1) (.slice p.1.1 q.1.1 r.1.1) (.slice p.1.2 q.1.2 r.1.2) 58); (have KF := KF.alloc (.cells #[.bool g2, .slice p.2.1 q.2.1 r.2.1, .slice p.2.2 q.2.2 r.2.2] 58)); (have KG := Rb.new (w1.alloc (.cells #[.bool g1, .slice p.1.1 q.1.1 r.1.1, .slice p.1.2 q.1.2 r.1.2] 58)) (.bool g2) (.slice p.2.1 q.2.1 r.2.1) (.slice p.2.2 q.2.2 r.2.2) 58); (have sz : (w1.alloc (.cells #[.bool g1, .slice p.1.1 q.1.1 r.1.1, .slice p.1.2 q.1.2 r.1.2] 58)).heap.size = w1.heap.size + 1 := World.size_alloc _ _); (rw [sz] at KG); (have kf0 := KF.c0); (have kf1 := KF.c1); (have kf2 := KF.c2); (have kg0 := KG.c0); (have kg1 := KG.c1); (have kg2 := KG.c2)))
    | (go_at_call 42; go_must (refine (CZ _ _ _ _ n2.1).mono ?_; rintro e WA ⟨rfl, bz⟩; (replace KF := KF.grow bz); (replace KG := KG.grow bz); (replace n1 := (⟨n1.1.grow bz, n1.2.grow bz⟩ : _ ∧ _)); (replace n2 := (⟨n2.1.grow bz, n2.2.grow bz⟩ : _ ∧ _)); (replace pB := bel' pB bz); (replace KR1 := KR1.below bz KR1.lt)))
    | fail)
  have hX : w.heap.size + 1 + 1 < w1.heap.size := by have := KR.lt; have := b1.size; omega
  generalize w1.heap.size = X at *
  have hX1 : X ≠ w.heap.size + 1 + 1 := by omega
  have hX2 : w.heap.size + 1 + 1 ≠ X := by omega
  have hX3 : X + 1 ≠ w.heap.size + 1 + 1 := by omega
  have hX4 : w.heap.size + 1 + 1 ≠ X + 1 := by omega
  have hX5 : X ≠ w.heap.size + 1 := by omega
  have hX6 : w.heap.size + 1 ≠ X := by omega
  clear CR' H al sz kf0 kf1 kf2 kg0 kg1 kg2
  have kf0 := KF.c0
  have kf1 := KF.c1
  have kf2 := KF.c2
  have kg0 := KG.c0
  have kg1 := KG.c1
  have kg2 := KG.c2
  go_region_held3 (fun x => x.cell? ⟨X, 0, none⟩ = some (.bool g1) ∧ x.cell? ⟨X, 1, none⟩ = some (.slice p.1.1 q.1.1 r.1.1) ∧ x.cell? ⟨X, 2, none⟩ = some (.slice p.1.2 q.1.2 r.1.2) ∧ x.cell? ⟨X + 1, 0, none⟩ = some (.bool g2) ∧ x.cell? ⟨X + 1, 1, none⟩ = some (.slice p.2.1 q.2.1 r.2.1) ∧ x.cell? ⟨X + 1, 2, none⟩ = some (.slice p.2.2 q.2.2 r.2.2)) (go_keep) (first
    | (go_at_call 43; refine (CN _ p.2 q.2 r.2 n2.1.drew n2.2.drew).mono ?_; rintro e w3 ⟨y, rfl, hy, b3⟩; have b3 := undrew b3; have h0 := (KF.grow b3).c0; have h1 := (KF.grow b3).c1; have h2 := (KF.grow b3).c2; have h3 := (KG.grow b3).c0; have h4 := (KG.grow b3).c1; have h5 := (KG.grow b3).c2)
    | (go_at_call 41; refine (CP _ p.1 q.1 r.1 y (n1.1.grow b3) (n1.2.grow b3) hy).mono ?_; rintro e w4 ⟨z, rfl, hz, b4⟩; have b4 := bel' b3 b4; have i0 := (KF.grow b4).c0; have i1 := (KF.grow b4).c1; have i2 := (KF.grow b4).c2; have i3 := (KG.grow b4).c0; have i4 := (KG.grow b4).c1; have i5 := (KG.grow b4).c2)
    | (go_at_call 25; refine (CT _ _ hz (bel' pB b4)).mono ?_; rintro e w9 ⟨rfl, b9⟩; have b5 := bel' b4 b9; have j0 := (KF.grow b5).c0; have j1 := (KF.grow b5).c1; have j2 := (KF.grow b5).c2; have j3 := (KG.grow b5).c0; have j4 := (KG.grow b5).c1; have j5 := (KG.grow b5).c2; have KR2 := KR1.below b5 KR1.lt; have m0 := KR2.at 0; have m1 := KR2.at 1; have m2 := KR2.free 0; have m3 := KR2.free 1; simp at m0 m1)
    | fail)
  go_wp2_with fail
  have kE : Blk ((w9.setCell ⟨w.heap.size + 1 + 1, 0, none⟩ (.string u)).setCell ⟨w.heap.size + 1 + 1, 1, none⟩ (.string v)) (w.heap.size + 1 + 1) #[.string u, .string v] 23 := bput (bput KR2 0 _) 1 _
  have bE : Below w.heap.size w ((w9.setCell ⟨w.heap.size + 1 + 1, 0, none⟩ (.string u)).setCell ⟨w.heap.size + 1 + 1, 1, none⟩ (.string v)) := ((bel' pB b5).setCell (p := ⟨w.heap.size + 1 + 1, 0, none⟩) (by show w.heap.size ≤ w.heap.size + 1 + 1; omega) _).setCell (p := ⟨w.heap.size + 1 + 1, 1, none⟩) (by show w.heap.size ≤ w.heap.size + 1 + 1; omega) _
  generalize (w9.setCell ⟨w.heap.size + 1 + 1, 0, none⟩ (.string u)).setCell ⟨w.heap.size + 1 + 1, 1, none⟩ (.string v) = WE at *
  have r0 := kE.at 0
  have r1 := kE.at 1
  simp at r0 r1
  exact bodyPost_ret (v := .tuple #[.agg #[.string u, .string v], .int .i64 er]) (by simp [results, Tryz.results14, go_sem, r0, r1]) rfl ⟨rfl, bE⟩
set_option maxHeartbeats 3200000 in
set_option maxRecDepth 100000 in
theorem Div_zero (s1 t1 s2 t2 : ByteArray) (g1 g2 : Bool) (O1 D1 O2 D2 : Int) (w : World)
    (CR' : ∀ x, Below w.heap.size w x → Calls Tryz.prog 39 #[.agg #[.string s1, .string t1], .agg #[.string s2, .string t2]] x fun e w' => ∃ (a : (Option Addr × Option Addr) × (Option Addr × Option Addr)) (l c : (Nat × Nat) × (Nat × Nat)), e = .returned (.tuple #[.agg #[.bool g1, .slice a.1.1 l.1.1 c.1.1, .slice a.1.2 l.1.2 c.1.2], .agg #[.bool g2, .slice a.2.1 l.2.1 c.2.1, .slice a.2.2 l.2.2 c.2.2], .int .i64 0]) ∧ ((Nn w' a.1.1 l.1.1 c.1.1 O1 ∧ Nn w' a.1.2 l.1.2 c.1.2 D1) ∧ (Nn w' a.2.1 l.2.1 c.2.1 O2 ∧ Nn w' a.2.2 l.2.2 c.2.2 D2)) ∧ Below x.heap.size x w')
    (CZ : ∀ x a l c, Nn x a l c O2 → Calls Tryz.prog 42 #[.agg #[.slice a l c]] x fun e w' => e = .returned (.bool true) ∧ Below x.heap.size x w') :
    Calls Tryz.prog 14 #[.agg #[.string s1, .string t1], .agg #[.string s2, .string t2]] w fun e w' => e = .returned (.tuple #[.agg #[.string ⟨#[]⟩, .string ⟨#[]⟩], .int .i64 4]) ∧ Below w.heap.size w w' := by
  have KA := ((Blk.new w #[.string s1, .string t1] 23).alloc (.cells #[.string s2, .string t2] 23)).alloc (.cells #[.string ⟨#[]⟩, .string ⟨#[]⟩] 23)
  have KB := (Blk.new (w.alloc (.cells #[.string s1, .string t1] 23)) #[.string s2, .string t2] 23).alloc (.cells #[.string ⟨#[]⟩, .string ⟨#[]⟩] 23)
  have KR := Blk.new ((w.alloc (.cells #[.string s1, .string t1] 23)).alloc (.cells #[.string s2, .string t2] 23)) #[.string ⟨#[]⟩, .string ⟨#[]⟩] 23
  simp only [World.size_alloc] at KB KR
  have pr : Below w.heap.size w (((w.alloc (.cells #[.string s1, .string t1] 23)).alloc (.cells #[.string s2, .string t2] 23)).alloc (.cells #[.string ⟨#[]⟩, .string ⟨#[]⟩] 23)) := (((Below.refl _ _).alloc (Nat.le_refl _) _).alloc (by simp) _).alloc (by simp; omega) _
  go_enter Tryz.func14, Tryz.ntmps14
  go_wp2_with fail
  have ka0 := KA.at 0
  have ka1 := KA.at 1
  have kb0 := KB.at 0
  have kb1 := KB.at 1
  simp at ka0 ka1 kb0 kb1
  generalize (((w.alloc (.cells #[.string s1, .string t1] 23)).alloc (.cells #[.string s2, .string t2] 23)).alloc (.cells #[.string ⟨#[]⟩, .string ⟨#[]⟩] 23)) = W at *
  go_wp2_with (first
    | (go_at_call 39; go_must (refine (CR' _ pr).mono ?_; rintro e w1 ⟨p, q, r, rfl, H, b1⟩; (have al := (((Below.refl w1.heap.size w1).alloc (Nat.le_refl _) (.cells #[.bool g1, .slice p.1.1 q.1.1 r.1.1, .slice p.1.2 q.1.2 r.1.2] 58)).alloc (by simp) (.cells #[.bool g2, .slice p.2.1 q.2.1 r.2.1, .slice p.2.2 q.2.2 r.2.2] 58))); (have b2 := bel' b1 al); (have pB := bel' pr b2); (have n1 := (⟨H.1.1.grow al, H.1.2.grow al⟩ : _ ∧ _)); (have n2 := (⟨H.2.1.grow al, H.2.2.grow al⟩ : _ ∧ _)); (have KR1 := KR.below b2 KR.lt); (have KF := Rb.new w1 (.bool g1) (.slice p.1.1 q.1.1 r.1.1) (.slice p.1.2 q.1.2 r.1.2) 58); (have KF := KF.alloc (.cells #[.bool g2, .slice p.2.1 q.2.1 r.2.1, .slice p.2.2 q.2.2 r.2.2] 58)); (have KG := Rb.new (w1.alloc (.cells #[.bool g1, .slice p.1.1 q.1.1 r.1.1, .slice p.1.2 q.1.2 r.1.2] 58)) (.bool g2) (.slice p.2.1 q.2.1 r.2.1) (.slice p.2.2 q.2.2 r.2.2) 58); (have sz : (w1.alloc (.cells #[.bool g1, .slice p.1.1 q.1.1 r.1.1, .slice p.1.2 q.1.2 r.1.2] 58)).heap.size = w1.heap.size + 1 := World.size_alloc _ _); (rw [sz] at KG); (have kf0 := KF.c0); (have kf1 := KF.c1); (have kf2 := KF.c2); (have kg0 := KG.c0); (have kg1 := KG.c1); (have kg2 := KG.c2)))
    | (go_at_call 42; go_must (refine (CZ _ _ _ _ n2.1).mono ?_; rintro e w9 ⟨rfl, b9⟩; (have b5 := b9); (have KR2 := KR1.below b5 KR1.lt); (have m0 := KR2.at 0); (have m1 := KR2.at 1); (have m2 := KR2.free 0); (have m3 := KR2.free 1); (simp at m0 m1)))
    | fail)
  have kE : Blk ((w9.setCell ⟨w.heap.size + 1 + 1, 0, none⟩ (.string ⟨#[]⟩)).setCell ⟨w.heap.size + 1 + 1, 1, none⟩ (.string ⟨#[]⟩)) (w.heap.size + 1 + 1) #[.string ⟨#[]⟩, .string ⟨#[]⟩] 23 := bput (bput KR2 0 _) 1 _
  have bE : Below w.heap.size w ((w9.setCell ⟨w.heap.size + 1 + 1, 0, none⟩ (.string ⟨#[]⟩)).setCell ⟨w.heap.size + 1 + 1, 1, none⟩ (.string ⟨#[]⟩)) := ((bel' pB b5).setCell (p := ⟨w.heap.size + 1 + 1, 0, none⟩) (by show w.heap.size ≤ w.heap.size + 1 + 1; omega) _).setCell (p := ⟨w.heap.size + 1 + 1, 1, none⟩) (by show w.heap.size ≤ w.heap.size + 1 + 1; omega) _
  generalize (w9.setCell ⟨w.heap.size + 1 + 1, 0, none⟩ (.string ⟨#[]⟩)).setCell ⟨w.heap.size + 1 + 1, 1, none⟩ (.string ⟨#[]⟩) = WE at *
  have r0 := kE.at 0
  have r1 := kE.at 1
  simp at r0 r1
  exact bodyPost_ret (v := .tuple #[.agg #[.string ⟨#[]⟩, .string ⟨#[]⟩], .int .i64 4]) (by simp [results, Tryz.results14, go_sem, r0, r1]) rfl ⟨rfl, bE⟩
end Go.Proofs.YtfalncbcomlelaaGreatDoor.Mo
