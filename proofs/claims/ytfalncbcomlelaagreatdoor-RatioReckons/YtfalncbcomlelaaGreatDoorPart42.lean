import Derived.Test.YtfalncbcomlelaaGreatDoorPart40
import Derived.Deep.RegionHeld3
import Derived.Test.YtfalncbcomlelaaGreatDoorPart13
import Derived.Test.YtfalncbcomlelaaGreatDoorPart39
import Derived.Test.YtfalncbcomlelaaGreatDoorPart10

namespace Go.Proofs.YtfalncbcomlelaaGreatDoor.Mo
open Go.RowKit Fu Tn Go.Lib Dc

set_option maxHeartbeats 3200000 in
set_option maxRecDepth 100000 in
theorem Mul_raw (s1 t1 s2 t2 u v : ByteArray) (g1 g2 : Bool) (O1 D1 O2 D2 : Int) (er : Int) (w : World)
  (CR' : ∀ x, Below w.heap.size w x → Calls Tryz.prog 39 #[.agg #[.string s1, .string t1], .agg #[.string s2, .string t2]] x fun e w' => ∃ (a : (Option Addr × Option Addr) × (Option Addr × Option Addr)) (l c : (Nat × Nat) × (Nat × Nat)), e = .returned (.tuple #[.agg #[.bool g1, .slice a.1.1 l.1.1 c.1.1, .slice a.1.2 l.1.2 c.1.2], .agg #[.bool g2, .slice a.2.1 l.2.1 c.2.1, .slice a.2.2 l.2.2 c.2.2], .int .i64 0]) ∧ ((Nn w' a.1.1 l.1.1 c.1.1 O1 ∧ Nn w' a.1.2 l.1.2 c.1.2 D1) ∧ (Nn w' a.2.1 l.2.1 c.2.1 O2 ∧ Nn w' a.2.2 l.2.2 c.2.2 D2)) ∧ Below x.heap.size x w')
  (CP : ∀ x (a : (Option Addr × Option Addr) × (Option Addr × Option Addr)) (l c : (Nat × Nat) × (Nat × Nat)), Below w.heap.size w x → (Nn x a.1.1 l.1.1 c.1.1 O1 ∧ Nn x a.1.2 l.1.2 c.1.2 D1) → (Nn x a.2.1 l.2.1 c.2.1 O2 ∧ Nn x a.2.2 l.2.2 c.2.2 D2) → Calls Tryz.prog 41 #[.agg #[.bool g1, .slice a.1.1 l.1.1 c.1.1, .slice a.1.2 l.1.2 c.1.2], .agg #[.bool g2, .slice a.2.1 l.2.1 c.2.1, .slice a.2.2 l.2.2 c.2.2]] x fun e w' => ∃ y, e = .returned y ∧ (∀ z, Below w'.heap.size w' z → Calls Tryz.prog 25 #[y] z fun e w2 => e = .returned (.tuple #[.agg #[.string u, .string v], .int .i64 er]) ∧ Below z.heap.size z w2) ∧ Below x.heap.size x w') :
  Calls Tryz.prog 13 #[.agg #[.string s1, .string t1], .agg #[.string s2, .string t2]] w fun e w' => e = .returned (.tuple #[.agg #[.string u, .string v], .int .i64 er]) ∧ Below w.heap.size w w' := by
 have KA := ((Blk.new w #[.string s1, .string t1] 23).alloc (.cells #[.string s2, .string t2] 23)).alloc (.cells #[.string ⟨#[]⟩, .string ⟨#[]⟩] 23)
 have KB := (Blk.new (w.alloc (.cells #[.string s1, .string t1] 23)) #[.string s2, .string t2] 23).alloc (.cells #[.string ⟨#[]⟩, .string ⟨#[]⟩] 23)
 have KR := Blk.new ((w.alloc (.cells #[.string s1, .string t1] 23)).alloc (.cells #[.string s2, .string t2] 23)) #[.string ⟨#[]⟩, .string ⟨#[]⟩] 23
 simp only [World.size_alloc] at KB KR
 have pr : Below w.heap.size w (((w.alloc (.cells #[.string s1, .string t1] 23)).alloc (.cells #[.string s2, .string t2] 23)).alloc (.cells #[.string ⟨#[]⟩, .string ⟨#[]⟩] 23)) := (((Below.refl _ _).alloc (Nat.le_refl _) _).alloc (by simp) _).alloc (by simp; omega) _
 go_enter Tryz.func13, Tryz.ntmps13
 go_wp2_with fail
 have ka0 := KA.at 0
 have ka1 := KA.at 1
 have kb0 := KB.at 0
 have kb1 := KB.at 1
 simp at ka0 ka1 kb0 kb1
 generalize (((w.alloc (.cells #[.string s1, .string t1] 23)).alloc (.cells #[.string s2, .string t2] 23)).alloc (.cells #[.string ⟨#[]⟩, .string ⟨#[]⟩] 23)) = W at *
 go_wp2_with (first
  | (go_at_call 39; go_must (refine (CR' _ pr).mono ?_; rintro e w1 ⟨p, q, r, rfl, H, b1⟩; (have al := (((Below.refl w1.heap.size w1).alloc (Nat.le_refl _) (.cells #[.bool g1, .slice p.1.1 q.1.1 r.1.1, .slice p.1.2 q.1.2 r.1.2] 58)).alloc (by simp) (.cells #[.bool g2, .slice p.2.1 q.2.1 r.2.1, .slice p.2.2 q.2.2 r.2.2] 58))); (have b2 := bel' b1 al); (have pB := bel' pr b2); (have n1 := (⟨H.1.1.grow al, H.1.2.grow al⟩ : _ ∧ _)); (have n2 := (⟨H.2.1.grow al, H.2.2.grow al⟩ : _ ∧ _)); (have KR1 := KR.below b2 KR.lt)))
  | (go_at_call 41; go_must (refine (CP _ p q r pB n1 n2).mono ?_; rintro e w3 ⟨y, rfl, CY, b3⟩))
  | (go_at_call 25; go_must (refine (CY _ (Below.refl _ _)).mono ?_; rintro e w4 ⟨rfl, b4⟩; (have b5 := bel' b3 b4); (have KR2 := KR1.below b5 KR1.lt); (have m0 := KR2.at 0); (have m1 := KR2.at 1); (have m2 := KR2.free 0); (have m3 := KR2.free 1); (simp at m0 m1)))
  | fail)
 have kE : Blk ((w4.setCell ⟨w.heap.size + 1 + 1, 0, none⟩ (.string u)).setCell ⟨w.heap.size + 1 + 1, 1, none⟩ (.string v)) (w.heap.size + 1 + 1) #[.string u, .string v] 23 := bput (bput KR2 0 _) 1 _
 have bE : Below w.heap.size w ((w4.setCell ⟨w.heap.size + 1 + 1, 0, none⟩ (.string u)).setCell ⟨w.heap.size + 1 + 1, 1, none⟩ (.string v)) := ((bel' pB b5).setCell (p := ⟨w.heap.size + 1 + 1, 0, none⟩) (by show w.heap.size ≤ w.heap.size + 1 + 1; omega) _).setCell (p := ⟨w.heap.size + 1 + 1, 1, none⟩) (by show w.heap.size ≤ w.heap.size + 1 + 1; omega) _
 generalize (w4.setCell ⟨w.heap.size + 1 + 1, 0, none⟩ (.string u)).setCell ⟨w.heap.size + 1 + 1, 1, none⟩ (.string v) = WE at *
 have r0 := kE.at 0
 have r1 := kE.at 1
 simp at r0 r1
 exact bodyPost_ret (v := .tuple #[.agg #[.string u, .string v], .int .i64 er]) (by simp [results, Tryz.results13, go_sem, r0, r1]) rfl ⟨rfl, bE⟩
set_option maxHeartbeats 3200000 in
set_option maxRecDepth 100000 in
theorem Sub_raw (s1 t1 s2 t2 u v : ByteArray) (g1 g2 : Bool) (O1 D1 O2 D2 : Int) (er : Int) (s t : Rat) (w : World)
  (CR' : ∀ x, Below w.heap.size w x → Calls Tryz.prog 39 #[.agg #[.string s1, .string t1], .agg #[.string s2, .string t2]] x fun e w' => ∃ (a : (Option Addr × Option Addr) × (Option Addr × Option Addr)) (l c : (Nat × Nat) × (Nat × Nat)), e = .returned (.tuple #[.agg #[.bool g1, .slice a.1.1 l.1.1 c.1.1, .slice a.1.2 l.1.2 c.1.2], .agg #[.bool g2, .slice a.2.1 l.2.1 c.2.1, .slice a.2.2 l.2.2 c.2.2], .int .i64 0]) ∧ ((Nn w' a.1.1 l.1.1 c.1.1 O1 ∧ Nn w' a.1.2 l.1.2 c.1.2 D1) ∧ (Nn w' a.2.1 l.2.1 c.2.1 O2 ∧ Nn w' a.2.2 l.2.2 c.2.2 D2)) ∧ Below x.heap.size x w')
  (CN : ∀ x (a : Option Addr × Option Addr) (l c : Nat × Nat), Nn x a.1 l.1 c.1 O2 → Nn x a.2 l.2 c.2 D2 → Calls Tryz.prog 24 #[.agg #[.bool g2, .slice a.1 l.1 c.1, .slice a.2 l.2 c.2]] x fun e w' => ∃ y, e = .returned y ∧ PF w' y s ∧ Below x.heap.size x w')
  (CP : ∀ x (a : Option Addr × Option Addr) (l c : Nat × Nat) y, Nn x a.1 l.1 c.1 O1 → Nn x a.2 l.2 c.2 D1 → PF x y s → Calls Tryz.prog 40 #[.agg #[.bool g1, .slice a.1 l.1 c.1, .slice a.2 l.2 c.2], y] x fun e w' => ∃ z, e = .returned z ∧ PF w' z t ∧ Below x.heap.size x w')
  (CT : ∀ x y, PF x y t → Below w.heap.size w x → Calls Tryz.prog 25 #[y] x fun e w' => e = .returned (.tuple #[.agg #[.string u, .string v], .int .i64 er]) ∧ Below x.heap.size x w') :
  Calls Tryz.prog 12 #[.agg #[.string s1, .string t1], .agg #[.string s2, .string t2]] w fun e w' => e = .returned (.tuple #[.agg #[.string u, .string v], .int .i64 er]) ∧ Below w.heap.size w w' := by
 have KA := ((Blk.new w #[.string s1, .string t1] 23).alloc (.cells #[.string s2, .string t2] 23)).alloc (.cells #[.string ⟨#[]⟩, .string ⟨#[]⟩] 23)
 have KB := (Blk.new (w.alloc (.cells #[.string s1, .string t1] 23)) #[.string s2, .string t2] 23).alloc (.cells #[.string ⟨#[]⟩, .string ⟨#[]⟩] 23)
 have KR := Blk.new ((w.alloc (.cells #[.string s1, .string t1] 23)).alloc (.cells #[.string s2, .string t2] 23)) #[.string ⟨#[]⟩, .string ⟨#[]⟩] 23
 simp only [World.size_alloc] at KB KR
 have pr : Below w.heap.size w (((w.alloc (.cells #[.string s1, .string t1] 23)).alloc (.cells #[.string s2, .string t2] 23)).alloc (.cells #[.string ⟨#[]⟩, .string ⟨#[]⟩] 23)) := (((Below.refl _ _).alloc (Nat.le_refl _) _).alloc (by simp) _).alloc (by simp; omega) _
 go_enter Tryz.func12, Tryz.ntmps12
 go_wp2_with fail
 have ka0 := KA.at 0
 have ka1 := KA.at 1
 have kb0 := KB.at 0
 have kb1 := KB.at 1
 simp at ka0 ka1 kb0 kb1
 generalize (((w.alloc (.cells #[.string s1, .string t1] 23)).alloc (.cells #[.string s2, .string t2] 23)).alloc (.cells #[.string ⟨#[]⟩, .string ⟨#[]⟩] 23)) = W at *
 go_wp2_with (first
  | (go_at_call 39; go_must (refine (CR' _ pr).mono ?_; rintro e w1 ⟨p, q, r, rfl, H, b1⟩; (have al := (((Below.refl w1.heap.size w1).alloc (Nat.le_refl _) (.cells #[.bool g1, .slice p.1.1 q.1.1 r.1.1, .slice p.1.2 q.1.2 r.1.2] 58)).alloc (by simp) (.cells #[.bool g2, .slice p.2.1 q.2.1 r.2.1, .slice p.2.2 q.2.2 r.2.2] 58))); (have b2 := bel' b1 al); (have pB := bel' pr b2); (have n1 := (⟨H.1.1.grow al, H.1.2.grow al⟩ : _ ∧ _)); (have n2 := (⟨H.2.1.grow al, H.2.2.grow al⟩ : _ ∧ _)); (have KR1 := KR.below b2 KR.lt); (have KF := Rb.new w1 (.bool g1) (.slice p.1.1 q.1.1 r.1.1) (.slice p.1.2 q.1.2 r.1.2) 58); (have KF := KF.alloc (.cells #[.bool g2, .slice p.2.1 q.2.1 r.2.1, .slice p.2.2 q.2.2 r.2.2] 58)); (have KG := Rb.new (w1.alloc (.cells #[.bool g1, .slice p.1.1 q.1.1 r.1.1, .slice p.1.2 q.1.2 r.1.2] 58)) (.bool g2) (.slice p.2.1 q.2.1 r.2.1) (.slice p.2.2 q.2.2 r.2.2) 58); (have sz : (w1.alloc (.cells #[.bool g1, .slice p.1.1 q.1.1 r.1.1, .slice p.1.2 q.1.2 r.1.2] 58)).heap.size = w1.heap.size + 1 := World.size_alloc _ _); (rw [sz] at KG); (have kf0 := KF.c0); (have kf1 := KF.c1); (have kf2 := KF.c2); (have kg0 := KG.c0); (have kg1 := KG.c1); (have kg2 := KG.c2)))
  | fail)
 have hX : w.heap.size + 1 + 1 < w1.heap.size := by have := KR.lt; have := b1.size; omega
 generalize (w1.alloc (.cells #[.bool g1, .slice p.1.1 q.1.1 r.1.1, .slice p.1.2 q.1.2 r.1.2] 58)).alloc (.cells #[.bool g2, .slice p.2.1 q.2.1 r.2.1, .slice p.2.2 q.2.2 r.2.2] 58) = WA at *
 generalize w1.heap.size = X at *
 have hX1 : X ≠ w.heap.size + 1 + 1 := by omega
 have hX2 : w.heap.size + 1 + 1 ≠ X := by omega
 have hX3 : X + 1 ≠ w.heap.size + 1 + 1 := by omega
 have hX4 : w.heap.size + 1 + 1 ≠ X + 1 := by omega
 have hX5 : X ≠ w.heap.size + 1 := by omega
 have hX6 : w.heap.size + 1 ≠ X := by omega
 clear CR' H al sz kf0 kf1 kf2 kg0 kg1 kg2
 have kf0 := KF.c0
 have kf1 := KF.c1
 have kf2 := KF.c2
 have kg0 := KG.c0
 have kg1 := KG.c1
 have kg2 := KG.c2
 go_region_held3 (fun x => x.cell? ⟨X, 0, none⟩ = some (.bool g1) ∧ x.cell? ⟨X, 1, none⟩ = some (.slice p.1.1 q.1.1 r.1.1) ∧ x.cell? ⟨X, 2, none⟩ = some (.slice p.1.2 q.1.2 r.1.2) ∧ x.cell? ⟨X + 1, 0, none⟩ = some (.bool g2) ∧ x.cell? ⟨X + 1, 1, none⟩ = some (.slice p.2.1 q.2.1 r.2.1) ∧ x.cell? ⟨X + 1, 2, none⟩ = some (.slice p.2.2 q.2.2 r.2.2)) (go_keep) (first
  | (go_at_call 24; refine (CN _ p.2 q.2 r.2 n2.1.drew n2.2.drew).mono ?_; rintro e w3 ⟨y, rfl, hy, b3⟩; have b3 := undrew b3; have h0 := (KF.grow b3).c0; have h1 := (KF.grow b3).c1; have h2 := (KF.grow b3).c2; have h3 := (KG.grow b3).c0; have h4 := (KG.grow b3).c1; have h5 := (KG.grow b3).c2)
  | (go_at_call 40; refine (CP _ p.1 q.1 r.1 y (n1.1.grow b3) (n1.2.grow b3) hy).mono ?_; rintro e w4 ⟨z, rfl, hz, b4⟩; have b4 := bel' b3 b4; have i0 := (KF.grow b4).c0; have i1 := (KF.grow b4).c1; have i2 := (KF.grow b4).c2; have i3 := (KG.grow b4).c0; have i4 := (KG.grow b4).c1; have i5 := (KG.grow b4).c2)
  | (go_at_call 25; refine (CT _ _ hz (bel' pB b4)).mono ?_; rintro e w9 ⟨rfl, b9⟩; have b5 := bel' b4 b9; have j0 := (KF.grow b5).c0; have j1 := (KF.grow b5).c1; have j2 := (KF.grow b5).c2; have j3 := (KG.grow b5).c0; have j4 := (KG.grow b5).c1; have j5 := (KG.grow b5).c2; have KR2 := KR1.below b5 KR1.lt; have m0 := KR2.at 0; have m1 := KR2.at 1; have m2 := KR2.free 0; have m3 := KR2.free 1; simp at m0 m1)
  | fail)
 go_wp2_with fail
 have kE : Blk ((w9.setCell ⟨w.heap.size + 1 + 1, 0, none⟩ (.string u)).setCell ⟨w.heap.size + 1 + 1, 1, none⟩ (.string v)) (w.heap.size + 1 + 1) #[.string u, .string v] 23 := bput (bput KR2 0 _) 1 _
 have bE : Below w.heap.size w ((w9.setCell ⟨w.heap.size + 1 + 1, 0, none⟩ (.string u)).setCell ⟨w.heap.size + 1 + 1, 1, none⟩ (.string v)) := ((bel' pB b5).setCell (p := ⟨w.heap.size + 1 + 1, 0, none⟩) (by show w.heap.size ≤ w.heap.size + 1 + 1; omega) _).setCell (p := ⟨w.heap.size + 1 + 1, 1, none⟩) (by show w.heap.size ≤ w.heap.size + 1 + 1; omega) _
 generalize (w9.setCell ⟨w.heap.size + 1 + 1, 0, none⟩ (.string u)).setCell ⟨w.heap.size + 1 + 1, 1, none⟩ (.string v) = WE at *
 have r0 := kE.at 0
 have r1 := kE.at 1
 simp at r0 r1
 exact bodyPost_ret (v := .tuple #[.agg #[.string u, .string v], .int .i64 er]) (by simp [results, Tryz.results12, go_sem, r0, r1]) rfl ⟨rfl, bE⟩
set_option maxHeartbeats 3200000 in
set_option maxRecDepth 100000 in
theorem Div_raw (s1 t1 s2 t2 u v : ByteArray) (g1 g2 : Bool) (O1 D1 O2 D2 : Int) (er : Int) (s t : Rat) (w : World)
  (CR' : ∀ x, Below w.heap.size w x → Calls Tryz.prog 39 #[.agg #[.string s1, .string t1], .agg #[.string s2, .string t2]] x fun e w' => ∃ (a : (Option Addr × Option Addr) × (Option Addr × Option Addr)) (l c : (Nat × Nat) × (Nat × Nat)), e = .returned (.tuple #[.agg #[.bool g1, .slice a.1.1 l.1.1 c.1.1, .slice a.1.2 l.1.2 c.1.2], .agg #[.bool g2, .slice a.2.1 l.2.1 c.2.1, .slice a.2.2 l.2.2 c.2.2], .int .i64 0]) ∧ ((Nn w' a.1.1 l.1.1 c.1.1 O1 ∧ Nn w' a.1.2 l.1.2 c.1.2 D1) ∧ (Nn w' a.2.1 l.2.1 c.2.1 O2 ∧ Nn w' a.2.2 l.2.2 c.2.2 D2)) ∧ Below x.heap.size x w')
  (CN : ∀ x (a : Option Addr × Option Addr) (l c : Nat × Nat), Nn x a.1 l.1 c.1 O2 → Nn x a.2 l.2 c.2 D2 → Calls Tryz.prog 43 #[.agg #[.bool g2, .slice a.1 l.1 c.1, .slice a.2 l.2 c.2]] x fun e w' => ∃ y, e = .returned y ∧ PF w' y s ∧ Below x.heap.size x w')
  (CP : ∀ x (a : Option Addr × Option Addr) (l c : Nat × Nat) y, Nn x a.1 l.1 c.1 O1 → Nn x a.2 l.2 c.2 D1 → PF x y s → Calls Tryz.prog 41 #[.agg #[.bool g1, .slice a.1 l.1 c.1, .slice a.2 l.2 c.2], y] x fun e w' => ∃ z, e = .returned z ∧ PF w' z t ∧ Below x.heap.size x w')
  (CT : ∀ x y, PF x y t → Below w.heap.size w x → Calls Tryz.prog 25 #[y] x fun e w' => e = .returned (.tuple #[.agg #[.string u, .string v], .int .i64 er]) ∧ Below x.heap.size x w')
  (CZ : ∀ x a l c, Nn x a l c O2 → Calls Tryz.prog 42 #[.agg #[.slice a l c]] x fun e w' => e = .returned (.bool false) ∧ Below x.heap.size x w') :
  Calls Tryz.prog 14 #[.agg #[.string s1, .string t1], .agg #[.string s2, .string t2]] w fun e w' => e = .returned (.tuple #[.agg #[.string u, .string v], .int .i64 er]) ∧ Below w.heap.size w w' := by
 have KA := ((Blk.new w #[.string s1, .string t1] 23).alloc (.cells #[.string s2, .string t2] 23)).alloc (.cells #[.string ⟨#[]⟩, .string ⟨#[]⟩] 23)
 have KB := (Blk.new (w.alloc (.cells #[.string s1, .string t1] 23)) #[.string s2, .string t2] 23).alloc (.cells #[.string ⟨#[]⟩, .string ⟨#[]⟩] 23)
 have KR := Blk.new ((w.alloc (.cells #[.string s1, .string t1] 23)).alloc (.cells #[.string s2, .string t2] 23)) #[.string ⟨#[]⟩, .string ⟨#[]⟩] 23
 simp only [World.size_alloc] at KB KR
 have pr : Below w.heap.size w (((w.alloc (.cells #[.string s1, .string t1] 23)).alloc (.cells #[.string s2, .string t2] 23)).alloc (.cells #[.string ⟨#[]⟩, .string ⟨#[]⟩] 23)) := (((Below.refl _ _).alloc (Nat.le_refl _) _).alloc (by simp) _).alloc (by simp; omega) _
 go_enter Tryz.func14, Tryz.ntmps14
 go_wp2_with fail
 have ka0 := KA.at 0
 have ka1 := KA.at 1
 have kb0 := KB.at 0
 have kb1 := KB.at 1
 simp at ka0 ka1 kb0 kb1
 generalize (((w.alloc (.cells #[.string s1, .string t1] 23)).alloc (.cells #[.string s2, .string t2] 23)).alloc (.cells #[.string ⟨#[]⟩, .string ⟨#[]⟩] 23)) = W at *
 go_wp2_with (first
  | (go_at_call 39; go_must (refine (CR' _ pr).mono ?_; rintro e w1 ⟨p, q, r, rfl, H, b1⟩; (have al := (((Below.refl w1.heap.size w1).alloc (Nat.le_refl _) (.cells #[.bool g1, .slice p.1.1 q.1.1 r.1.1, .slice p.1.2 q.1.2 r.1.2] 58)).alloc (by simp) (.cells #[.bool g2, .slice p.2.1 q.2.1 r.2.1, .slice p.2.2 q.2.2 r.2.2] 58))); (have b2 := bel' b1 al); (have pB := bel' pr b2); (have n1 := (⟨H.1.1.grow al, H.1.2.grow al⟩ : _ ∧ _)); (have n2 := (⟨H.2.1.grow al, H.2.2.grow al⟩ : _ ∧ _)); (have KR1 := KR.below b2 KR.lt); (have KF := Rb.new w1 (.bool g1) (.slice p.1.1 q.1.1 r.1.1) (.slice p.1.2 q.1.2 r.1.2) 58); (have KF := KF.alloc (.cells #[.bool g2, .slice p.2.1 q.2.1 r.2.1, .slice p.2.2 q.2.2 r.2.2] 58)); (have KG := Rb.new (w1.alloc (.cells #[.bool g1, .slice p.1.1 q.1.1 r.1.1, .slice p.1.2 q.1.2 r.1.2] 58)) (.bool g2) (.slice p.2.1 q.2.1 r.2.1) (.slice p.2.2 q.2.2 r.2.2) 58); (have sz : (w1.alloc (.cells #[.bool g1, .slice p.1.1 q.1.1 r.1.1, .slice p.1.2 q.1.2 r.1.2] 58)).heap.size = w1.heap.size + 1 := World.size_alloc _ _); (rw [sz] at KG); (have kf0 := KF.c0); (have kf1 := KF.c1); (have kf2 := KF.c2); (have kg0 := KG.c0); (have kg1 := KG.c1); (have kg2 := KG.c2)))
  | (go_at_call 42; go_must (refine (CZ _ _ _ _ n2.1).mono ?_; rintro e WA ⟨rfl, bz⟩; (replace KF := KF.grow bz); (replace KG := KG.grow bz); (replace n1 := (⟨n1.1.grow bz, n1.2.grow bz⟩ : _ ∧ _)); (replace n2 := (⟨n2.1.grow bz, n2.2.grow bz⟩ : _ ∧ _)); (replace pB := bel' pB bz); (replace KR1 := KR1.below bz KR1.lt)))
  | fail)
 have hX : w.heap.size + 1 + 1 < w1.heap.size := by have := KR.lt; have := b1.size; omega
 generalize w1.heap.size = X at *
 have hX1 : X ≠ w.heap.size + 1 + 1 := by omega
 have hX2 : w.heap.size + 1 + 1 ≠ X := by omega
 have hX3 : X + 1 ≠ w.heap.size + 1 + 1 := by omega
 have hX4 : w.heap.size + 1 + 1 ≠ X + 1 := by omega
 have hX5 : X ≠ w.heap.size + 1 := by omega
 have hX6 : w.heap.size + 1 ≠ X := by omega
 clear CR' H al sz kf0 kf1 kf2 kg0 kg1 kg2
 have kf0 := KF.c0
 have kf1 := KF.c1
 have kf2 := KF.c2
 have kg0 := KG.c0
 have kg1 := KG.c1
 have kg2 := KG.c2
 go_region_held3 (fun x => x.cell? ⟨X, 0, none⟩ = some (.bool g1) ∧ x.cell? ⟨X, 1, none⟩ = some (.slice p.1.1 q.1.1 r.1.1) ∧ x.cell? ⟨X, 2, none⟩ = some (.slice p.1.2 q.1.2 r.1.2) ∧ x.cell? ⟨X + 1, 0, none⟩ = some (.bool g2) ∧ x.cell? ⟨X + 1, 1, none⟩ = some (.slice p.2.1 q.2.1 r.2.1) ∧ x.cell? ⟨X + 1, 2, none⟩ = some (.slice p.2.2 q.2.2 r.2.2)) (go_keep) (first
  | (go_at_call 43; refine (CN _ p.2 q.2 r.2 n2.1.drew n2.2.drew).mono ?_; rintro e w3 ⟨y, rfl, hy, b3⟩; have b3 := undrew b3; have h0 := (KF.grow b3).c0; have h1 := (KF.grow b3).c1; have h2 := (KF.grow b3).c2; have h3 := (KG.grow b3).c0; have h4 := (KG.grow b3).c1; have h5 := (KG.grow b3).c2)
  | (go_at_call 41; refine (CP _ p.1 q.1 r.1 y (n1.1.grow b3) (n1.2.grow b3) hy).mono ?_; rintro e w4 ⟨z, rfl, hz, b4⟩; have b4 := bel' b3 b4; have i0 := (KF.grow b4).c0; have i1 := (KF.grow b4).c1; have i2 := (KF.grow b4).c2; have i3 := (KG.grow b4).c0; have i4 := (KG.grow b4).c1; have i5 := (KG.grow b4).c2)
  | (go_at_call 25; refine (CT _ _ hz (bel' pB b4)).mono ?_; rintro e w9 ⟨rfl, b9⟩; have b5 := bel' b4 b9; have j0 := (KF.grow b5).c0; have j1 := (KF.grow b5).c1; have j2 := (KF.grow b5).c2; have j3 := (KG.grow b5).c0; have j4 := (KG.grow b5).c1; have j5 := (KG.grow b5).c2; have KR2 := KR1.below b5 KR1.lt; have m0 := KR2.at 0; have m1 := KR2.at 1; have m2 := KR2.free 0; have m3 := KR2.free 1; simp at m0 m1)
  | fail)
 go_wp2_with fail
 have kE : Blk ((w9.setCell ⟨w.heap.size + 1 + 1, 0, none⟩ (.string u)).setCell ⟨w.heap.size + 1 + 1, 1, none⟩ (.string v)) (w.heap.size + 1 + 1) #[.string u, .string v] 23 := bput (bput KR2 0 _) 1 _
 have bE : Below w.heap.size w ((w9.setCell ⟨w.heap.size + 1 + 1, 0, none⟩ (.string u)).setCell ⟨w.heap.size + 1 + 1, 1, none⟩ (.string v)) := ((bel' pB b5).setCell (p := ⟨w.heap.size + 1 + 1, 0, none⟩) (by show w.heap.size ≤ w.heap.size + 1 + 1; omega) _).setCell (p := ⟨w.heap.size + 1 + 1, 1, none⟩) (by show w.heap.size ≤ w.heap.size + 1 + 1; omega) _
 generalize (w9.setCell ⟨w.heap.size + 1 + 1, 0, none⟩ (.string u)).setCell ⟨w.heap.size + 1 + 1, 1, none⟩ (.string v) = WE at *
 have r0 := kE.at 0
 have r1 := kE.at 1
 simp at r0 r1
 exact bodyPost_ret (v := .tuple #[.agg #[.string u, .string v], .int .i64 er]) (by simp [results, Tryz.results14, go_sem, r0, r1]) rfl ⟨rfl, bE⟩
set_option maxHeartbeats 3200000 in
set_option maxRecDepth 100000 in
theorem Div_zero (s1 t1 s2 t2 : ByteArray) (g1 g2 : Bool) (O1 D1 O2 D2 : Int) (w : World)
  (CR' : ∀ x, Below w.heap.size w x → Calls Tryz.prog 39 #[.agg #[.string s1, .string t1], .agg #[.string s2, .string t2]] x fun e w' => ∃ (a : (Option Addr × Option Addr) × (Option Addr × Option Addr)) (l c : (Nat × Nat) × (Nat × Nat)), e = .returned (.tuple #[.agg #[.bool g1, .slice a.1.1 l.1.1 c.1.1, .slice a.1.2 l.1.2 c.1.2], .agg #[.bool g2, .slice a.2.1 l.2.1 c.2.1, .slice a.2.2 l.2.2 c.2.2], .int .i64 0]) ∧ ((Nn w' a.1.1 l.1.1 c.1.1 O1 ∧ Nn w' a.1.2 l.1.2 c.1.2 D1) ∧ (Nn w' a.2.1 l.2.1 c.2.1 O2 ∧ Nn w' a.2.2 l.2.2 c.2.2 D2)) ∧ Below x.heap.size x w')
  (CZ : ∀ x a l c, Nn x a l c O2 → Calls Tryz.prog 42 #[.agg #[.slice a l c]] x fun e w' => e = .returned (.bool true) ∧ Below x.heap.size x w') :
  Calls Tryz.prog 14 #[.agg #[.string s1, .string t1], .agg #[.string s2, .string t2]] w fun e w' => e = .returned (.tuple #[.agg #[.string ⟨#[]⟩, .string ⟨#[]⟩], .int .i64 4]) ∧ Below w.heap.size w w' := by
 have KA := ((Blk.new w #[.string s1, .string t1] 23).alloc (.cells #[.string s2, .string t2] 23)).alloc (.cells #[.string ⟨#[]⟩, .string ⟨#[]⟩] 23)
 have KB := (Blk.new (w.alloc (.cells #[.string s1, .string t1] 23)) #[.string s2, .string t2] 23).alloc (.cells #[.string ⟨#[]⟩, .string ⟨#[]⟩] 23)
 have KR := Blk.new ((w.alloc (.cells #[.string s1, .string t1] 23)).alloc (.cells #[.string s2, .string t2] 23)) #[.string ⟨#[]⟩, .string ⟨#[]⟩] 23
 simp only [World.size_alloc] at KB KR
 have pr : Below w.heap.size w (((w.alloc (.cells #[.string s1, .string t1] 23)).alloc (.cells #[.string s2, .string t2] 23)).alloc (.cells #[.string ⟨#[]⟩, .string ⟨#[]⟩] 23)) := (((Below.refl _ _).alloc (Nat.le_refl _) _).alloc (by simp) _).alloc (by simp; omega) _
 go_enter Tryz.func14, Tryz.ntmps14
 go_wp2_with fail
 have ka0 := KA.at 0
 have ka1 := KA.at 1
 have kb0 := KB.at 0
 have kb1 := KB.at 1
 simp at ka0 ka1 kb0 kb1
 generalize (((w.alloc (.cells #[.string s1, .string t1] 23)).alloc (.cells #[.string s2, .string t2] 23)).alloc (.cells #[.string ⟨#[]⟩, .string ⟨#[]⟩] 23)) = W at *
 go_wp2_with (first
  | (go_at_call 39; go_must (refine (CR' _ pr).mono ?_; rintro e w1 ⟨p, q, r, rfl, H, b1⟩; (have al := (((Below.refl w1.heap.size w1).alloc (Nat.le_refl _) (.cells #[.bool g1, .slice p.1.1 q.1.1 r.1.1, .slice p.1.2 q.1.2 r.1.2] 58)).alloc (by simp) (.cells #[.bool g2, .slice p.2.1 q.2.1 r.2.1, .slice p.2.2 q.2.2 r.2.2] 58))); (have b2 := bel' b1 al); (have pB := bel' pr b2); (have n1 := (⟨H.1.1.grow al, H.1.2.grow al⟩ : _ ∧ _)); (have n2 := (⟨H.2.1.grow al, H.2.2.grow al⟩ : _ ∧ _)); (have KR1 := KR.below b2 KR.lt); (have KF := Rb.new w1 (.bool g1) (.slice p.1.1 q.1.1 r.1.1) (.slice p.1.2 q.1.2 r.1.2) 58); (have KF := KF.alloc (.cells #[.bool g2, .slice p.2.1 q.2.1 r.2.1, .slice p.2.2 q.2.2 r.2.2] 58)); (have KG := Rb.new (w1.alloc (.cells #[.bool g1, .slice p.1.1 q.1.1 r.1.1, .slice p.1.2 q.1.2 r.1.2] 58)) (.bool g2) (.slice p.2.1 q.2.1 r.2.1) (.slice p.2.2 q.2.2 r.2.2) 58); (have sz : (w1.alloc (.cells #[.bool g1, .slice p.1.1 q.1.1 r.1.1, .slice p.1.2 q.1.2 r.1.2] 58)).heap.size = w1.heap.size + 1 := World.size_alloc _ _); (rw [sz] at KG); (have kf0 := KF.c0); (have kf1 := KF.c1); (have kf2 := KF.c2); (have kg0 := KG.c0); (have kg1 := KG.c1); (have kg2 := KG.c2)))
  | (go_at_call 42; go_must (refine (CZ _ _ _ _ n2.1).mono ?_; rintro e w9 ⟨rfl, b9⟩; (have b5 := b9); (have KR2 := KR1.below b5 KR1.lt); (have m0 := KR2.at 0); (have m1 := KR2.at 1); (have m2 := KR2.free 0); (have m3 := KR2.free 1); (simp at m0 m1)))
  | fail)
 have kE : Blk ((w9.setCell ⟨w.heap.size + 1 + 1, 0, none⟩ (.string ⟨#[]⟩)).setCell ⟨w.heap.size + 1 + 1, 1, none⟩ (.string ⟨#[]⟩)) (w.heap.size + 1 + 1) #[.string ⟨#[]⟩, .string ⟨#[]⟩] 23 := bput (bput KR2 0 _) 1 _
 have bE : Below w.heap.size w ((w9.setCell ⟨w.heap.size + 1 + 1, 0, none⟩ (.string ⟨#[]⟩)).setCell ⟨w.heap.size + 1 + 1, 1, none⟩ (.string ⟨#[]⟩)) := ((bel' pB b5).setCell (p := ⟨w.heap.size + 1 + 1, 0, none⟩) (by show w.heap.size ≤ w.heap.size + 1 + 1; omega) _).setCell (p := ⟨w.heap.size + 1 + 1, 1, none⟩) (by show w.heap.size ≤ w.heap.size + 1 + 1; omega) _
 generalize (w9.setCell ⟨w.heap.size + 1 + 1, 0, none⟩ (.string ⟨#[]⟩)).setCell ⟨w.heap.size + 1 + 1, 1, none⟩ (.string ⟨#[]⟩) = WE at *
 have r0 := kE.at 0
 have r1 := kE.at 1
 simp at r0 r1
 exact bodyPost_ret (v := .tuple #[.agg #[.string ⟨#[]⟩, .string ⟨#[]⟩], .int .i64 4]) (by simp [results, Tryz.results14, go_sem, r0, r1]) rfl ⟨rfl, bE⟩
end Go.Proofs.YtfalncbcomlelaaGreatDoor.Mo

namespace Go.Proofs.YtfalncbcomlelaaGreatDoor.Mo
open Go.RowKit Fu Tn Go.Lib Dc

set_option maxHeartbeats 3200000 in
set_option maxRecDepth 100000 in
theorem Cmp_raw (s1 t1 s2 t2 : ByteArray) (g1 g2 : Bool) (O1 D1 O2 D2 : Int) (k : Int) (w : World)
  (CR' : ∀ x, Below w.heap.size w x → Calls Tryz.prog 39 #[.agg #[.string s1, .string t1], .agg #[.string s2, .string t2]] x fun e w' => ∃ (a : (Option Addr × Option Addr) × (Option Addr × Option Addr)) (l c : (Nat × Nat) × (Nat × Nat)), e = .returned (.tuple #[.agg #[.bool g1, .slice a.1.1 l.1.1 c.1.1, .slice a.1.2 l.1.2 c.1.2], .agg #[.bool g2, .slice a.2.1 l.2.1 c.2.1, .slice a.2.2 l.2.2 c.2.2], .int .i64 0]) ∧ ((Nn w' a.1.1 l.1.1 c.1.1 O1 ∧ Nn w' a.1.2 l.1.2 c.1.2 D1) ∧ (Nn w' a.2.1 l.2.1 c.2.1 O2 ∧ Nn w' a.2.2 l.2.2 c.2.2 D2)) ∧ Below x.heap.size x w')
  (CC : ∀ x (a : Option Addr × Option Addr) (l c : Nat × Nat) (a' : Option Addr × Option Addr) (l' c' : Nat × Nat), Nn x a.1 l.1 c.1 O1 → Nn x a.2 l.2 c.2 D1 → Nn x a'.1 l'.1 c'.1 O2 → Nn x a'.2 l'.2 c'.2 D2 → Calls Tryz.prog 44 #[.agg #[.bool g1, .slice a.1 l.1 c.1, .slice a.2 l.2 c.2], .agg #[.bool g2, .slice a'.1 l'.1 c'.1, .slice a'.2 l'.2 c'.2]] x fun e w' => e = .returned (.int .i64 k) ∧ Below x.heap.size x w') :
  Calls Tryz.prog 15 #[.agg #[.string s1, .string t1], .agg #[.string s2, .string t2]] w fun e w' => e = .returned (.tuple #[.int .i64 k, .int .i64 0]) ∧ Below w.heap.size w w' := by
 have KA := (Blk.new w #[.string s1, .string t1] 23).alloc (.cells #[.string s2, .string t2] 23)
 have KB := Blk.new (w.alloc (.cells #[.string s1, .string t1] 23)) #[.string s2, .string t2] 23
 simp only [World.size_alloc] at KB
 have pr : Below w.heap.size w ((w.alloc (.cells #[.string s1, .string t1] 23)).alloc (.cells #[.string s2, .string t2] 23)) := ((Below.refl _ _).alloc (Nat.le_refl _) _).alloc (by simp) _
 go_enter Tryz.func15, Tryz.ntmps15
 go_wp2_with fail
 have ka0 := KA.at 0
 have ka1 := KA.at 1
 have kb0 := KB.at 0
 have kb1 := KB.at 1
 simp at ka0 ka1 kb0 kb1
 generalize ((w.alloc (.cells #[.string s1, .string t1] 23)).alloc (.cells #[.string s2, .string t2] 23)) = W at *
 go_wp2_with (first
  | (go_at_call 39; go_must (refine (CR' _ pr).mono ?_; rintro e w1 ⟨p, q, r, rfl, H, b1⟩; (have al := (((Below.refl w1.heap.size w1).alloc (Nat.le_refl _) (.cells #[.bool g1, .slice p.1.1 q.1.1 r.1.1, .slice p.1.2 q.1.2 r.1.2] 58)).alloc (by simp) (.cells #[.bool g2, .slice p.2.1 q.2.1 r.2.1, .slice p.2.2 q.2.2 r.2.2] 58))); (have b2 := bel' b1 al); (have pB := bel' pr b2); (have n1 := (⟨H.1.1.grow al, H.1.2.grow al⟩ : _ ∧ _)); (have n2 := (⟨H.2.1.grow al, H.2.2.grow al⟩ : _ ∧ _)); (have KF := Rb.new w1 (.bool g1) (.slice p.1.1 q.1.1 r.1.1) (.slice p.1.2 q.1.2 r.1.2) 58); (have KF := KF.alloc (.cells #[.bool g2, .slice p.2.1 q.2.1 r.2.1, .slice p.2.2 q.2.2 r.2.2] 58)); (have KG := Rb.new (w1.alloc (.cells #[.bool g1, .slice p.1.1 q.1.1 r.1.1, .slice p.1.2 q.1.2 r.1.2] 58)) (.bool g2) (.slice p.2.1 q.2.1 r.2.1) (.slice p.2.2 q.2.2 r.2.2) 58); (have sz : (w1.alloc (.cells #[.bool g1, .slice p.1.1 q.1.1 r.1.1, .slice p.1.2 q.1.2 r.1.2] 58)).heap.size = w1.heap.size + 1 := World.size_alloc _ _); (rw [sz] at KG); (have kf0 := KF.c0); (have kf1 := KF.c1); (have kf2 := KF.c2); (have kg0 := KG.c0); (have kg1 := KG.c1); (have kg2 := KG.c2)))
  | (go_at_call 44; go_must (refine (CC _ p.1 q.1 r.1 p.2 q.2 r.2 n1.1 n1.2 n2.1 n2.2).mono ?_; rintro e w9 ⟨rfl, b9⟩; (have pE := bel' pB b9)))
  | fail)
 exact bodyPost_ret (v := .tuple #[.int .i64 k, .int .i64 0]) (by simp [results, Tryz.results15, go_sem]) rfl ⟨rfl, pE⟩
set_option maxHeartbeats 3200000 in
set_option maxRecDepth 100000 in
theorem Neg_raw (s1 t1 u v : ByteArray) (g1 : Bool) (O1 D1 : Int) (er : Int) (t : Rat) (w : World)
  (CR' : ∀ x, Below w.heap.size w x → Calls Tryz.prog 23 #[.agg #[.string s1, .string t1]] x fun e w' => ∃ (a : Option Addr × Option Addr) (l c : Nat × Nat), e = .returned (.tuple #[.agg #[.bool g1, .slice a.1 l.1 c.1, .slice a.2 l.2 c.2], .int .i64 0]) ∧ (Nn w' a.1 l.1 c.1 O1 ∧ Nn w' a.2 l.2 c.2 D1) ∧ Below x.heap.size x w')
  (CN : ∀ x (a : Option Addr × Option Addr) (l c : Nat × Nat), Nn x a.1 l.1 c.1 O1 → Nn x a.2 l.2 c.2 D1 → Calls Tryz.prog 24 #[.agg #[.bool g1, .slice a.1 l.1 c.1, .slice a.2 l.2 c.2]] x fun e w' => ∃ y, e = .returned y ∧ PF w' y t ∧ Below x.heap.size x w')
  (CT : ∀ x y, PF x y t → Below w.heap.size w x → Calls Tryz.prog 25 #[y] x fun e w' => e = .returned (.tuple #[.agg #[.string u, .string v], .int .i64 er]) ∧ Below x.heap.size x w') :
  Calls Tryz.prog 6 #[.agg #[.string s1, .string t1]] w fun e w' => e = .returned (.tuple #[.agg #[.string u, .string v], .int .i64 er]) ∧ Below w.heap.size w w' := by
 have KA := (Blk.new w #[.string s1, .string t1] 23).alloc (.cells #[.string ⟨#[]⟩, .string ⟨#[]⟩] 23)
 have KR := Blk.new (w.alloc (.cells #[.string s1, .string t1] 23)) #[.string ⟨#[]⟩, .string ⟨#[]⟩] 23
 simp only [World.size_alloc] at KR
 have pr : Below w.heap.size w ((w.alloc (.cells #[.string s1, .string t1] 23)).alloc (.cells #[.string ⟨#[]⟩, .string ⟨#[]⟩] 23)) := ((Below.refl _ _).alloc (Nat.le_refl _) _).alloc (by simp) _
 go_enter Tryz.func6, Tryz.ntmps6
 go_wp2_with fail
 have ka0 := KA.at 0
 have ka1 := KA.at 1
 simp at ka0 ka1
 generalize ((w.alloc (.cells #[.string s1, .string t1] 23)).alloc (.cells #[.string ⟨#[]⟩, .string ⟨#[]⟩] 23)) = W at *
 go_wp2_with (first
  | (go_at_call 23; go_must (refine (CR' _ pr).mono ?_; rintro e w1 ⟨p, q, r, rfl, H, b1⟩; (have al := ((Below.refl w1.heap.size w1).alloc (Nat.le_refl _) (.cells #[.bool g1, .slice p.1 q.1 r.1, .slice p.2 q.2 r.2] 58))); (have b2 := bel' b1 al); (have pB := bel' pr b2); (have n1 := (⟨H.1.grow al, H.2.grow al⟩ : _ ∧ _)); (have KR1 := KR.below b2 KR.lt); (have KF := Rb.new w1 (.bool g1) (.slice p.1 q.1 r.1) (.slice p.2 q.2 r.2) 58); (have kf0 := KF.c0); (have kf1 := KF.c1); (have kf2 := KF.c2)))
  | (go_at_call 24; go_must (refine (CN _ p q r n1.1 n1.2).mono ?_; rintro e w3 ⟨y, rfl, hy, b3⟩))
  | (go_at_call 25; go_must (refine (CT _ _ hy (bel' pB b3)).mono ?_; rintro e w9 ⟨rfl, b9⟩; (have b5 := bel' b3 b9); (have KR2 := KR1.below b5 KR1.lt); (have m0 := KR2.at 0); (have m1 := KR2.at 1); (have m2 := KR2.free 0); (have m3 := KR2.free 1); (simp at m0 m1)))
  | fail)
 have kE : Blk ((w9.setCell ⟨w.heap.size + 1, 0, none⟩ (.string u)).setCell ⟨w.heap.size + 1, 1, none⟩ (.string v)) (w.heap.size + 1) #[.string u, .string v] 23 := bput (bput KR2 0 _) 1 _
 have bE : Below w.heap.size w ((w9.setCell ⟨w.heap.size + 1, 0, none⟩ (.string u)).setCell ⟨w.heap.size + 1, 1, none⟩ (.string v)) := ((bel' pB b5).setCell (p := ⟨w.heap.size + 1, 0, none⟩) (by show w.heap.size ≤ w.heap.size + 1; omega) _).setCell (p := ⟨w.heap.size + 1, 1, none⟩) (by show w.heap.size ≤ w.heap.size + 1; omega) _
 generalize (w9.setCell ⟨w.heap.size + 1, 0, none⟩ (.string u)).setCell ⟨w.heap.size + 1, 1, none⟩ (.string v) = WE at *
 have r0 := kE.at 0
 have r1 := kE.at 1
 simp at r0 r1
 exact bodyPost_ret (v := .tuple #[.agg #[.string u, .string v], .int .i64 er]) (by simp [results, Tryz.results6, go_sem, r0, r1]) rfl ⟨rfl, bE⟩
set_option maxHeartbeats 3200000 in
set_option maxRecDepth 100000 in
theorem Sign_raw (s1 t1 : ByteArray) (g1 : Bool) (O1 D1 : Int) (k : Int) (w : World)
  (CR' : ∀ x, Below w.heap.size w x → Calls Tryz.prog 23 #[.agg #[.string s1, .string t1]] x fun e w' => ∃ (a : Option Addr × Option Addr) (l c : Nat × Nat), e = .returned (.tuple #[.agg #[.bool g1, .slice a.1 l.1 c.1, .slice a.2 l.2 c.2], .int .i64 0]) ∧ (Nn w' a.1 l.1 c.1 O1 ∧ Nn w' a.2 l.2 c.2 D1) ∧ Below x.heap.size x w')
  (CN : ∀ x (a : Option Addr × Option Addr) (l c : Nat × Nat), Nn x a.1 l.1 c.1 O1 → Nn x a.2 l.2 c.2 D1 → Calls Tryz.prog 46 #[.agg #[.bool g1, .slice a.1 l.1 c.1, .slice a.2 l.2 c.2]] x fun e w' => e = .returned (.int .i64 k) ∧ Below x.heap.size x w') :
  Calls Tryz.prog 17 #[.agg #[.string s1, .string t1]] w fun e w' => e = .returned (.tuple #[.int .i64 k, .int .i64 0]) ∧ Below w.heap.size w w' := by
 have KA := Blk.new w #[.string s1, .string t1] 23
 have pr : Below w.heap.size w (w.alloc (.cells #[.string s1, .string t1] 23)) := (Below.refl _ _).alloc (Nat.le_refl _) _
 go_enter Tryz.func17, Tryz.ntmps17
 go_wp2_with fail
 have ka0 := KA.at 0
 have ka1 := KA.at 1
 simp at ka0 ka1
 generalize (w.alloc (.cells #[.string s1, .string t1] 23)) = W at *
 go_wp2_with (first
  | (go_at_call 23; go_must (refine (CR' _ pr).mono ?_; rintro e w1 ⟨p, q, r, rfl, H, b1⟩; (have al := ((Below.refl w1.heap.size w1).alloc (Nat.le_refl _) (.cells #[.bool g1, .slice p.1 q.1 r.1, .slice p.2 q.2 r.2] 58))); (have b2 := bel' b1 al); (have pB := bel' pr b2); (have n1 := (⟨H.1.grow al, H.2.grow al⟩ : _ ∧ _)); (have KF := Rb.new w1 (.bool g1) (.slice p.1 q.1 r.1) (.slice p.2 q.2 r.2) 58); (have kf0 := KF.c0); (have kf1 := KF.c1); (have kf2 := KF.c2)))
  | (go_at_call 46; go_must (refine (CN _ p q r n1.1 n1.2).mono ?_; rintro e w3 ⟨rfl, b3⟩))
  | fail)
 exact bodyPost_ret (v := .tuple #[.int .i64 k, .int .i64 0]) (by simp [results, Tryz.results17, go_sem]) rfl ⟨rfl, bel' pB b3⟩
set_option maxHeartbeats 3200000 in
set_option maxRecDepth 100000 in
theorem Check_raw (s1 t1 : ByteArray) (k : Int) (w : World)
  (CR' : ∀ x, Below w.heap.size w x → Calls Tryz.prog 23 #[.agg #[.string s1, .string t1]] x fun e w' => ∃ (g : Bool) (a : Option Addr × Option Addr) (l c : Nat × Nat), e = .returned (.tuple #[.agg #[.bool g, .slice a.1 l.1 c.1, .slice a.2 l.2 c.2], .int .i64 k]) ∧ Below x.heap.size x w') :
  Calls Tryz.prog 8 #[.agg #[.string s1, .string t1]] w fun e w' => e = .returned (.int .i64 k) ∧ Below w.heap.size w w' := by
 have KA := Blk.new w #[.string s1, .string t1] 23
 have pr : Below w.heap.size w (w.alloc (.cells #[.string s1, .string t1] 23)) := (Below.refl _ _).alloc (Nat.le_refl _) _
 have ka0 := KA.at 0
 have ka1 := KA.at 1
 simp at ka0 ka1
 go_enter Tryz.func8, Tryz.ntmps8
 go_wp2_with (first
  | (go_at_call 23; go_must (refine (CR' _ pr).mono ?_; rintro e w1 ⟨g, a, l, c, rfl, b1⟩))
  | fail)
 exact bodyPost_ret (v := .int .i64 k) (by simp [results, Tryz.results8, go_sem]) rfl ⟨rfl, bel' (bel' pr b1) ((Below.refl _ _).alloc (Nat.le_refl _) _)⟩
end Go.Proofs.YtfalncbcomlelaaGreatDoor.Mo

namespace Go.Proofs.YtfalncbcomlelaaGreatDoor.Mo
open Go.RowKit Fu Tn Go.Lib Dc

/-- What is written. -/
def wn (r : Rat) : ByteArray := (wA (decide (r.num < 0)) r.num.natAbs r.den).1.1
def wd (r : Rat) : ByteArray := (wA (decide (r.num < 0)) r.num.natAbs r.den).1.2
/-- A number that is read: neither part has more than 4096 digits. -/
def Rdy (r : Rat) : Prop := (decDigits r.num.natAbs).length ≤ 4096 ∧ (decDigits r.den).length ≤ 4096
theorem Read_r {r : Rat} (h : Rdy r) (x : World) : Calls Tryz.prog 23 #[wrt r] x fun e w' => ∃ (a : Option Addr × Option Addr) (l c : Nat × Nat), e = .returned (.tuple #[.agg #[.bool (decide (r.num < 0)), .slice a.1 l.1 c.1, .slice a.2 l.2 c.2], .int .i64 0]) ∧ (Nn w' a.1 l.1 c.1 (r.num.natAbs : Int) ∧ Nn w' a.2 l.2 c.2 (r.den : Int)) ∧ Below x.heap.size x w' := by
 refine (Read_p r x h.1 h.2).mono ?_
 rintro e w' ⟨v, rfl, ⟨a, l, c, a', l', c', rfl, k1, k2⟩, b⟩
 exact ⟨(a, a'), (l, l'), (c, c'), rfl, ⟨k1, k2⟩, b⟩
theorem Add_r {r s : Rat} {m n : Nat} (hr : Rdy r) (hs : Rdy s) (h1 : PS r m) (h2 : PS s n) (hk : MulOK m n) (hb : m + n + 1 ≤ 1000000) (w : World) (G : Gw w) :
  Calls Tryz.prog 11 #[wrt r, wrt s] w fun e w' => e = .returned (.tuple #[(wrA (r + s)).1, .int .i64 (wrA (r + s)).2]) ∧ Below w.heap.size w w' := by
 refine Add_raw _ _ _ _ _ _ _ _ _ _ _ _ _ w (fun x _ => readTwo_p r s x hr.1 hr.2 hs.1 hs.2) ?_
 intro x a l c b n1 n2
 refine (Plus_p _ _ r s m n x ⟨_, _, _, _, _, _, rfl, n1.1, n1.2⟩ ⟨_, _, _, _, _, _, rfl, n2.1, n2.2⟩ h1 h2 hk hb).mono ?_
 rintro e w' ⟨y, rfl, hy, b'⟩
 exact ⟨y, rfl, fun z bz => Ratio_any y (r + s) z (hy.grow bz) ((h1.add h2).mono hb) (G.grow (bel' (bel' b b') bz)), b'⟩
theorem Mul_r {r s : Rat} {m n : Nat} (hr : Rdy r) (hs : Rdy s) (h1 : PS r m) (h2 : PS s n) (hk : MulOK m n) (hb : m + n ≤ 1000000) (w : World) (G : Gw w) :
  Calls Tryz.prog 13 #[wrt r, wrt s] w fun e w' => e = .returned (.tuple #[(wrA (r * s)).1, .int .i64 (wrA (r * s)).2]) ∧ Below w.heap.size w w' := by
 refine Mul_raw _ _ _ _ _ _ _ _ _ _ _ _ _ w (fun x _ => readTwo_p r s x hr.1 hr.2 hs.1 hs.2) ?_
 intro x a l c b n1 n2
 refine (Times_p _ _ r s m n x ⟨_, _, _, _, _, _, rfl, n1.1, n1.2⟩ ⟨_, _, _, _, _, _, rfl, n2.1, n2.2⟩ h1 h2 hk).mono ?_
 rintro e w' ⟨y, rfl, hy, b'⟩
 exact ⟨y, rfl, fun z bz => Ratio_any y (r * s) z (hy.grow bz) ((h1.mul h2).mono hb) (G.grow (bel' (bel' b b') bz)), b'⟩
theorem Sub_r {r s : Rat} {m n : Nat} (hr : Rdy r) (hs : Rdy s) (h1 : PS r m) (h2 : PS s n) (hk : MulOK m n) (hb : m + n + 1 ≤ 1000000) (w : World) (G : Gw w) :
  Calls Tryz.prog 12 #[wrt r, wrt s] w fun e w' => e = .returned (.tuple #[(wrA (r - s)).1, .int .i64 (wrA (r - s)).2]) ∧ Below w.heap.size w w' := by
 rw [Rat.sub_eq_add_neg]
 refine Sub_raw _ _ _ _ _ _ _ _ _ _ _ _ _ (-s) (r + -s) w (fun x _ => readTwo_p r s x hr.1 hr.2 hs.1 hs.2) ?_ ?_ ?_
 ·intro x a l c k1 k2
  exact Negated_p _ s x ⟨_, _, _, _, _, _, rfl, k1, k2⟩
 ·intro x a l c y k1 k2 hy
  exact Plus_p _ y r (-s) m n x ⟨_, _, _, _, _, _, rfl, k1, k2⟩ hy h1 h2.neg hk hb
 ·intro x y hy b
  exact Ratio_any y (r + -s) x hy ((h1.add h2.neg).mono hb) (G.grow b)
theorem Div_r {r s : Rat} {m n : Nat} (hr : Rdy r) (hs : Rdy s) (h1 : PS r m) (h2 : PS s n) (hk : MulOK m n) (hb : m + n ≤ 1000000) (h0 : s ≠ 0) (w : World) (G : Gw w) :
  Calls Tryz.prog 14 #[wrt r, wrt s] w fun e w' => e = .returned (.tuple #[(wrA (r / s)).1, .int .i64 (wrA (r / s)).2]) ∧ Below w.heap.size w w' := by
 rw [Rat.div_def]
 refine Div_raw _ _ _ _ _ _ _ _ _ _ _ _ _ s⁻¹ (r * s⁻¹) w (fun x _ => readTwo_p r s x hr.1 hr.2 hs.1 hs.2) ?_ ?_ ?_ ?_
 ·intro x a l c k1 k2
  exact Inverse_p _ s x ⟨_, _, _, _, _, _, rfl, k1, k2⟩ h0
 ·intro x a l c y k1 k2 hy
  exact Times_p _ y r s⁻¹ m n x ⟨_, _, _, _, _, _, rfl, k1, k2⟩ hy h1 (h2.inv h0) hk
 ·intro x y hy b
  exact Ratio_any y (r * s⁻¹) x hy ((h1.mul (h2.inv h0)).mono hb) (G.grow b)
 ·intro x a l c k
  have := IsZero_n k
  rwa [decide_eq_false (by have := mt Rat.num_eq_zero.1 h0; omega)] at this
theorem Div_r0 {r : Rat} (hr : Rdy r) (w : World) :
  Calls Tryz.prog 14 #[wrt r, wrt 0] w fun e w' => e = .returned (.tuple #[.agg #[.string ⟨#[]⟩, .string ⟨#[]⟩], .int .i64 4]) ∧ Below w.heap.size w w' := by
 have hs : Rdy (0 : Rat) := ⟨by decide +kernel, by decide +kernel⟩
 refine Div_zero _ _ _ _ _ _ _ _ _ _ w (fun x _ => readTwo_p r 0 x hr.1 hr.2 hs.1 hs.2) ?_
 intro x a l c k
 have := IsZero_n k
 rwa [decide_eq_true (by simp)] at this
theorem Neg_r {r : Rat} {m : Nat} (hr : Rdy r) (h1 : PS r m) (hm : m ≤ 1000000) (w : World) (G : Gw w) :
  Calls Tryz.prog 6 #[wrt r] w fun e w' => e = .returned (.tuple #[(wrA (-r)).1, .int .i64 (wrA (-r)).2]) ∧ Below w.heap.size w w' := by
 refine Neg_raw _ _ _ _ _ _ _ _ (-r) w (fun x _ => Read_r hr x) ?_ ?_
 ·intro x a l c k1 k2
  exact Negated_p _ r x ⟨_, _, _, _, _, _, rfl, k1, k2⟩
 ·intro x y hy b
  exact Ratio_any y (-r) x hy (h1.neg.mono hm) (G.grow b)
theorem Sign_r {r : Rat} (hr : Rdy r) (w : World) :
  Calls Tryz.prog 17 #[wrt r] w fun e w' => e = .returned (.tuple #[.int .i64 (psg r), .int .i64 0]) ∧ Below w.heap.size w w' := by
 refine Sign_raw _ _ _ _ _ _ w (fun x _ => Read_r hr x) ?_
 intro x a l c k1 k2
 exact Sign_p _ r x ⟨_, _, _, _, _, _, rfl, k1, k2⟩
theorem Check_any (n d : ByteArray) (w : World) (hn : n.size ≤ 9223372036854775807) (hd : d.size ≤ 9223372036854775807) :
  Calls Tryz.prog 8 #[.agg #[.string n, .string d]] w fun e w' => e = .returned (.int .i64 (goodE n d)) ∧ Below w.heap.size w w' := by
 refine Check_raw _ _ _ w (fun x _ => ?_)
 refine (Read_any n d x hn hd).mono ?_
 rintro e w' ⟨b, h | h⟩
 ·exact ⟨false, (none, none), (0, 0), (0, 0), h.2, b⟩
 ·obtain ⟨h0, v1, v2, xs, ys, rfl, r1, _, _, _, r2, _⟩ := h
  obtain ⟨a, l, c, rfl⟩ := r1.shape
  obtain ⟨a', l', c', rfl⟩ := r2.shape
  rw [h0]
  exact ⟨_, (a, a'), (l, l'), (c, c'), rfl, b⟩
end Go.Proofs.YtfalncbcomlelaaGreatDoor.Mo

namespace Go.Proofs.YtfalncbcomlelaaGreatDoor.L
open Go.RowKit Tl Go.Lib
set_option maxRecDepth 100000 in
set_option maxHeartbeats 3200000 in
theorem out_long (g : Bool) (a1 a2 : Option Addr) (m1 c1 m2 c2 : Nat) (s t : ByteArray) (w : World) (hl : (s.size : Int) > 4096 ∨ (¬ (s.size : Int) > 4096 ∧ (t.size : Int) > 4096))
    (T1 : ∀ x, Below w.heap.size w x → Calls Tryz.prog 70 #[.slice a1 m1 c1] x fun e w' => e = .returned (.string s) ∧ Below x.heap.size x w')
    (T2 : ∀ x, Below w.heap.size w x → Calls Tryz.prog 70 #[.slice a2 m2 c2] x fun e w' => e = .returned (.string t) ∧ Below x.heap.size x w') :
    Calls Tryz.prog 29 #[.agg #[.bool g, .slice a1 m1 c1, .slice a2 m2 c2]] w fun e w' => e = .returned (.tuple #[.agg #[.string ⟨#[]⟩, .string ⟨#[]⟩], .int .i64 3]) ∧ Below w.heap.size w w' := by
  have K0 := (Blk.new w #[.bool g, .slice a1 m1 c1, .slice a2 m2 c2] 66).alloc (.cells #[.string ⟨#[]⟩, .string ⟨#[]⟩] 23)
  have KR := Blk.new (w.alloc (.cells #[.bool g, .slice a1 m1 c1, .slice a2 m2 c2] 66)) #[.string ⟨#[]⟩, .string ⟨#[]⟩] 23
  simp only [World.size_alloc] at KR
  have pr : Below w.heap.size w ((w.alloc (.cells #[.bool g, .slice a1 m1 c1, .slice a2 m2 c2] 66)).alloc (.cells #[.string ⟨#[]⟩, .string ⟨#[]⟩] 23)) := ((Below.refl _ _).alloc (Nat.le_refl _) _).alloc (by simp) _
  go_enter Tryz.func29, Tryz.ntmps29
  go_wp2_with fail
  generalize (w.alloc (.cells #[.bool g, .slice a1 m1 c1, .slice a2 m2 c2] 66)).alloc (.cells #[.string ⟨#[]⟩, .string ⟨#[]⟩] 23) = W at *
  go_cut [4, 5] from 6 to 11 (fun x y wc => x = .string s ∧ y = .string t ∧ Below W.heap.size W wc)
  case first =>
    rename_i hm hJ
    refine wp_region_held (S := fun _ => True) (by kernel_rfl) (any_inv (fun listed a x => ∃ (y0 y1 y2 y3 y4 y5 : Bool) (t6 t7 t8 t9 t10 t11 : Value) (z4 z5 : Value), a = ⟨#[.agg #[.bool g, .slice a1 m1 c1, .slice a2 m2 c2], .pointer (some ⟨w.heap.size, 0, none⟩), .pointer (some ⟨w.heap.size + 1, 0, none⟩), .int .i64 0, z4, z5, t6, t7, t8, t9, t10, t11, undef, undef, undef, undef, undef, undef, undef, undef, undef, undef, undef, undef, undef, undef, undef, undef, undef], []⟩ ∧ ((listed = #[y0, y1, y2, y3, y4, y5, false, false] ∧ OQ1 W x (.pointer (some ⟨w.heap.size, 1, none⟩)) (.slice a1 m1 c1) (.string s) (.pointer (some ⟨w.heap.size, 2, none⟩)) (.slice a2 m2 c2) (.string t) y0 y1 y2 y3 y4 y5 t6 t7 t8 t9 t10 t11 ∧ z4 = undef ∧ z5 = undef) ∨ (listed = #[true, true, true, true, true, true, true, false] ∧ t8 = .string s ∧ t11 = .string t ∧ z4 = .string s ∧ z5 = undef ∧ Below W.heap.size W x) ∨ (listed = #[true, true, true, true, true, true, true, true] ∧ t8 = .string s ∧ t11 = .string t ∧ z4 = .string s ∧ z5 = .string t ∧ Below W.heap.size W x))) ?_ ?_ _ _ _ _ (by decide) ?_)
    · rintro listed a x i ⟨y0, y1, y2, y3, y4, y5, t6, t7, t8, t9, t10, t11, z4, z5, rfl, h⟩ hi
      have hr : i < 8 := List.mem_range.1 (List.mem_filter.1 hi).1
      have hc := (List.mem_filter.1 hi).2
      rcases h with ⟨rfl, h⟩ | ⟨rfl, h⟩ | ⟨rfl, h⟩
      · rcases (show i = 0 ∨ i = 1 ∨ i = 2 ∨ i = 3 ∨ i = 4 ∨ i = 5 ∨ i = 6 ∨ i = 7 by omega) with rfl | rfl | rfl | rfl | rfl | rfl | rfl | rfl
        · obtain ⟨h, rfl, rfl⟩ := h
          clear hc hi
          refine wpOp_step rfl (fun K hK0 => ?_)
          have hK : Hid _ := hK0
          clear hK0
          rw [if_pos (by rfl)]
          go_wp2_with fail
          exact hK.out _ _ ⟨true,_,_,_,_,_,.pointer (some ⟨w.heap.size, 1, none⟩),_,_,_,_,_,undef,undef,rfl,Or.inl ⟨rfl, ⟨{ h with o0 := fun _ => rfl }, rfl, rfl⟩⟩⟩
        · obtain ⟨h, rfl, rfl⟩ := h
          have e0 : y0 = true := by
            revert hc
            cases y0 <;> simp [Region.binds]
          have r0 := h.o0 e0
          subst r0
          clear hc hi
          have kd := ((K0.below h.bel K0.lt).at 1)
          simp at kd
          refine wpOp_step rfl (fun K hK0 => ?_)
          have hK : Hid _ := hK0
          clear hK0
          rw [if_pos (by rfl)]
          go_wp2_with fail
          exact hK.out _ _ ⟨_,true,_,_,_,_,_,.slice a1 m1 c1,_,_,_,_,undef,undef,rfl,Or.inl ⟨rfl, ⟨{ h with o1 := fun _ => rfl }, rfl, rfl⟩⟩⟩
        · obtain ⟨h, rfl, rfl⟩ := h
          have e1 : y1 = true := by
            revert hc
            cases y1 <;> simp [Region.binds]
          have r1 := h.o1 e1
          subst r1
          clear hc hi
          refine wpOp_step rfl (fun K hK0 => ?_)
          have hK : Hid _ := hK0
          clear hK0
          rw [if_pos (by rfl)]
          go_wp2_with (first | (go_at_call 70; go_must (refine (T1 x (bel' pr h.bel)).mono ?_; rintro e x2 ⟨rfl, bb⟩)) | fail)
          exact hK.out _ _ ⟨_,_,true,_,_,_,_,_,_,_,_,_,undef,undef,rfl,Or.inl ⟨rfl, ⟨{ h.grow bb with o2 := fun _ => rfl }, rfl, rfl⟩⟩⟩
        · obtain ⟨h, rfl, rfl⟩ := h
          clear hc hi
          refine wpOp_step rfl (fun K hK0 => ?_)
          have hK : Hid _ := hK0
          clear hK0
          rw [if_pos (by rfl)]
          go_wp2_with fail
          exact hK.out _ _ ⟨_,_,_,true,_,_,_,_,_,.pointer (some ⟨w.heap.size, 2, none⟩),_,_,undef,undef,rfl,Or.inl ⟨rfl, ⟨{ h with o3 := fun _ => rfl, d4_3 := fun _ => rfl }, rfl, rfl⟩⟩⟩
        · obtain ⟨h, rfl, rfl⟩ := h
          have e3 : y3 = true := by
            revert hc
            cases y3 <;> simp [Region.binds]
          have r3 := h.o3 e3
          subst r3
          clear hc hi
          have kd := ((K0.below h.bel K0.lt).at 2)
          simp at kd
          refine wpOp_step rfl (fun K hK0 => ?_)
          have hK : Hid _ := hK0
          clear hK0
          rw [if_pos (by rfl)]
          go_wp2_with fail
          exact hK.out _ _ ⟨_,_,_,_,true,_,_,_,_,_,.slice a2 m2 c2,_,undef,undef,rfl,Or.inl ⟨rfl, ⟨{ h with o4 := fun _ => rfl, d4_3 := fun _ => e3, d5_4 := fun _ => rfl }, rfl, rfl⟩⟩⟩
        · obtain ⟨h, rfl, rfl⟩ := h
          have e4 : y4 = true := by
            revert hc
            cases y4 <;> simp [Region.binds]
          have r4 := h.o4 e4
          subst r4
          clear hc hi
          refine wpOp_step rfl (fun K hK0 => ?_)
          have hK : Hid _ := hK0
          clear hK0
          rw [if_pos (by rfl)]
          go_wp2_with (first | (go_at_call 70; go_must (refine (T2 x (bel' pr h.bel)).mono ?_; rintro e x2 ⟨rfl, bb⟩)) | fail)
          exact hK.out _ _ ⟨_,_,_,_,_,true,_,_,_,_,_,_,undef,undef,rfl,Or.inl ⟨rfl, ⟨{ h.grow bb with o5 := fun _ => rfl, d5_4 := fun _ => e4 }, rfl, rfl⟩⟩⟩
        · obtain ⟨h, rfl, rfl⟩ := h
          have e0 : y0 = true := by
            revert hc
            cases y0 <;> simp [Region.binds]
          have e1 : y1 = true := by
            revert hc
            cases y1 <;> simp [Region.binds]
          have e2 : y2 = true := by
            revert hc
            cases y2 <;> simp [Region.binds]
          have e5 : y5 = true := by
            revert hc
            cases y5 <;> simp [Region.binds]
          have e4 := h.d5_4 e5
          have e3 := h.d4_3 e4
          have r2 := h.o2 e2
          subst r2
          have r5 := h.o5 e5
          subst r5
          clear hc hi
          subst e0 e1 e2 e3 e4 e5
          have bl := h.bel
          clear h
          refine wpOp_step rfl (fun K hK0 => ?_)
          have hK : Hid _ := hK0
          clear hK0
          rw [if_pos (by rfl)]
          go_wp2_with fail
          exact hK.out _ _ ⟨true,true,true,true,true,true,_,_,_,_,_,_,_,_,rfl,Or.inr (Or.inl ⟨rfl, rfl, rfl, rfl, rfl, bl⟩)⟩
        · simp [Region.binds] at hc
      · rcases (show i = 0 ∨ i = 1 ∨ i = 2 ∨ i = 3 ∨ i = 4 ∨ i = 5 ∨ i = 6 ∨ i = 7 by omega) with rfl | rfl | rfl | rfl | rfl | rfl | rfl | rfl
        · simp at hc
        · simp at hc
        · simp at hc
        · simp at hc
        · simp at hc
        · simp at hc
        · simp at hc
        · clear hc hi
          obtain ⟨rfl, rfl, rfl, rfl, bl⟩ := h
          refine wpOp_step rfl (fun K hK0 => ?_)
          have hK : Hid _ := hK0
          clear hK0
          rw [if_pos (by rfl)]
          go_wp2_with fail
          exact hK.out _ _ ⟨true,true,true,true,true,true,_,_,_,_,_,_,_,_,rfl,Or.inr (Or.inr (⟨rfl, rfl, rfl, rfl, rfl, bl⟩))⟩
      · rcases (show i = 0 ∨ i = 1 ∨ i = 2 ∨ i = 3 ∨ i = 4 ∨ i = 5 ∨ i = 6 ∨ i = 7 by omega) with rfl | rfl | rfl | rfl | rfl | rfl | rfl | rfl <;> simp at hc
    · rintro listed a x ⟨y0, y1, y2, y3, y4, y5, t6, t7, t8, t9, t10, t11, z4, z5, rfl, h⟩ hn
      have al := all_listed (by decide +kernel) hn
      rcases h with ⟨rfl, h⟩ | ⟨rfl, h⟩ | ⟨rfl, h⟩
      · have z := al 6 (by decide)
        simp at z
      · have z := al 7 (by decide)
        simp at z
      · obtain ⟨rfl, rfl, rfl, rfl, bl⟩ := h
        refine hJ _ _ ?_
        go_meet
        case rel => exact ⟨rfl, rfl, bl⟩
    · exact ⟨false, false, false, false, false, false, undef, undef, undef, undef, undef, undef, undef, undef, rfl, Or.inl ⟨rfl, ⟨{ bel := (Below.refl _ _).drew, o0 := (by intro q; cases q), o1 := (by intro q; cases q), o2 := (by intro q; cases q), o3 := (by intro q; cases q), o4 := (by intro q; cases q), o5 := (by intro q; cases q), d4_3 := (by intro q; cases q), d5_4 := (by intro q; cases q) }, rfl, rfl⟩⟩⟩
  case rest =>
    obtain ⟨rfl, rfl, b2⟩ := hcut
    have p2 := bel pr b2
    have KR2 := KR.below b2 KR.lt
    have z0 := KR2.at 0
    have z1 := KR2.at 1
    have y0 := KR2.free 0
    have y1 := KR2.free 1
    simp at z0 z1
    clear T1 T2 KR K0 pr b2
    rename World => w2
    rcases hl with s1 | ⟨s1, s2⟩
    all_goals
     go_wp2_with fail
     have KE := bput (bput KR2 0 (.string ⟨#[]⟩)) 1 (.string ⟨#[]⟩)
     have bE := (p2.setCell (p := ⟨w.heap.size + 1, 0, none⟩) (show w.heap.size ≤ w.heap.size + 1 by omega) (.string ⟨#[]⟩)).setCell (p := ⟨w.heap.size + 1, 1, none⟩) (show w.heap.size ≤ w.heap.size + 1 by omega) (.string ⟨#[]⟩)
     have q0 := KE.at 0
     have q1 := KE.at 1
     simp at q0 q1
     exact bodyPost_ret (v := .tuple #[.agg #[.string ⟨#[]⟩, .string ⟨#[]⟩], .int .i64 3]) (by simp [results, Tryz.results29, go_sem, q0, q1]) rfl ⟨rfl, bE⟩
/-- What Out tells, of whatever length. -/
theorem Out_any (v : Value) (r : Rat) (K : Nat) (w : World) (h : IsQ w v r) (hK : QS r K) (hK' : K ≤ 1000000000) :
    Calls Tryz.prog 29 #[v] w fun e w' => e = .returned (.tuple #[(Mo.wrA r).1, .int .i64 (Mo.wrA r).2]) ∧ Below w.heap.size w w' := by
  by_cases l : (decDigits r.num.natAbs).length ≤ 4096 ∧ (decDigits r.den).length ≤ 4096
  · rw [Mo.wrA_short l.1 l.2]
    exact Out_q v r K w h hK hK' l.1 l.2
  · rw [Mo.wrA_long l]
    obtain ⟨ns, ds, a1, a2, c1, c2, rfl, h1, n1, v1, h2, n2, v2⟩ := h
    have k1 : ns.length ≤ K := len_of_lt h1.1 n1 (by rw [v1]; exact hK.1)
    have k2 : ds.length ≤ K := len_of_lt h2.1 n2 (by rw [v2]; exact hK.2)
    have T1 := fun x (b : Below w.heap.size w x) => Text_any _ ns _ x (h1.grow b) n1 (by omega) v1
    have T2 := fun x (b : Below w.heap.size w x) => Text_any _ ds _ x (h2.grow b) n2 (by omega) v2
    by_cases l1 : (decDigits r.num.natAbs).length ≤ 4096
    · have l2 : ¬ (decDigits r.den).length ≤ 4096 := fun h => l ⟨l1, h⟩
      exact out_long _ a1 a2 _ c1 _ c2 (Mo.sB (decDigits r.num.natAbs)) (Mo.sB (decDigits r.den)) w (Or.inr ⟨by rw [Mo.sB_size]; omega, by rw [Mo.sB_size]; omega⟩) T1 T2
    · exact out_long _ a1 a2 _ c1 _ c2 (Mo.sB (decDigits r.num.natAbs)) (Mo.sB (decDigits r.den)) w (Or.inl (by rw [Mo.sB_size]; omega)) T1 T2
end Go.Proofs.YtfalncbcomlelaaGreatDoor.L

namespace Go.Proofs.YtfalncbcomlelaaGreatDoor.Mo
open Go.RowKit Fu Tn Go.Lib Wt

end Go.Proofs.YtfalncbcomlelaaGreatDoor.Mo

namespace Go.Proofs.YtfalncbcomlelaaGreatDoor.L
open Go.RowKit Tl

/-- What the reference's Pow keeps: out times a to the m is the power. -/
structure Pk (N A O : Int) (m : Nat) : Prop where
 eq : O * A ^ m = N
 alt : (A = 0 ∧ 0 ≤ O ∧ O ≤ 1) ∨ (1 ≤ A ∧ 1 ≤ O)
theorem one_le_pow {A : Int} (h : 1 ≤ A) : ∀ m : Nat, 1 ≤ A ^ m
 | 0 => by simp
 | m + 1 => by
  rw [Int.pow_succ]
  have := one_le_pow h m
  have := Int.mul_le_mul this h (by decide) (by omega)
  omega
theorem le_pow {A : Int} (h : 1 ≤ A) {m : Nat} (hm : 1 ≤ m) : A ≤ A ^ m := by
 obtain ⟨k, rfl⟩ : ∃ k, m = k + 1 := ⟨m - 1, by omega⟩
 rw [Int.pow_succ]
 have := one_le_pow h k
 have := Int.mul_le_mul_of_nonneg_right this (show 0 ≤ A by omega)
 omega
theorem Pk.o {N A O : Int} {m : Nat} (h : Pk N A O m) {B : Int} (b : N < B) (b1 : 1 < B) : O < B := by
 rcases h.alt with ⟨_, _, a⟩ | ⟨a, o⟩
 ·omega
 ·have := one_le_pow a m
  have := Int.mul_le_mul_of_nonneg_left this (show 0 ≤ O by omega)
  have := h.eq
  omega
theorem Pk.a {N A O : Int} {m : Nat} (h : Pk N A O m) (hm : 1 ≤ m) {B : Int} (b : N < B) (b1 : 1 < B) : A < B := by
 rcases h.alt with ⟨a, _, _⟩ | ⟨a, o⟩
 ·omega
 ·have p1 := le_pow a hm
  have := Int.mul_le_mul_of_nonneg_right o (show 0 ≤ A ^ m by omega)
  have := h.eq
  omega
theorem Pk.sq {N A O : Int} {m : Nat} (h : Pk N A O (2 * m)) : Pk N (A * A) O m := by
 refine ⟨by rw [← h.eq, Int.pow_mul]; congr 2; rw [Int.pow_succ, Int.pow_succ, Int.pow_zero, Int.one_mul], ?_⟩
 rcases h.alt with ⟨a, b⟩ | ⟨a, o⟩
 ·subst a; exact Or.inl ⟨rfl, b⟩
 ·have := Int.mul_le_mul a a (by decide) (by omega)
  exact Or.inr ⟨by omega, o⟩
theorem len_of {xs : List Int} {n : Nat} (h : Wd xs) (k : Nm xs) (v : val xs < pw n) : xs.length ≤ n := by
 by_cases e : xs = []
 ·subst e; simp
 ·have := val_low h k e
  by_cases c : xs.length ≤ n
  ·exact c
  ·have := pw_mono (show n ≤ xs.length - 1 by omega)
   omega
end Go.Proofs.YtfalncbcomlelaaGreatDoor.L
