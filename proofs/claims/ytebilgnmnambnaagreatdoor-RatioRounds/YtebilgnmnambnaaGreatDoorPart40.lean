import Derived.Test.YtebilgnmnambnaaGreatDoorPart34
import Derived.Test.YtebilgnmnambnaaGreatDoorPart39
import Derived.Deep.RegionHeld3

namespace Go.Proofs.YtebilgnmnambnaaGreatDoor.Mo
open Go.RowKit
def Fr2 (r s : Rat) (x : World) (e : Ending) (w' : World) : Prop := ∃ g a l c a' l' c' h b i j b' i' j', e = .returned (.tuple #[.agg #[.bool g, .slice a l c, .slice a' l' c'], .agg #[.bool h, .slice b i j, .slice b' i' j'], .int .i64 0]) ∧ PF w' (.agg #[.bool g, .slice a l c, .slice a' l' c']) r ∧ PF w' (.agg #[.bool h, .slice b i j, .slice b' i' j']) s ∧ Below x.heap.size x w'
theorem readTwo_f {r s : Rat} (hr : Rdy r) (hs : Rdy s) (x : World) : Calls Tryz.prog 57 #[wrt r, wrt s] x (Fr2 r s x) := by
  refine (readTwo_p r s x hr.1 hr.2 hs.1 hs.2).mono ?_
  rintro e w' ⟨a, l, c, rfl, ⟨⟨h1, h2⟩, h3, h4⟩, b⟩
  exact ⟨_, _, _, _, _, _, _, _, _, _, _, _, _, _, rfl, ⟨_, _, _, _, _, _, rfl, h1, h2⟩, ⟨_, _, _, _, _, _, rfl, h3, h4⟩, b⟩
set_option maxRecDepth 100000 in
set_option maxHeartbeats 3200000 in
theorem Round_err (n d m k : ByteArray) (way c : Int) (w : World) (hc : (c != 0) = true) (CT : ∀ x, Below w.heap.size w x → Calls Tryz.prog 57 #[.agg #[.string n, .string d], .agg #[.string m, .string k]] x fun e w' => e = .returned (.tuple #[.agg #[.bool false, .slice none 0 0, .slice none 0 0], .agg #[.bool false, .slice none 0 0, .slice none 0 0], .int .i64 c]) ∧ Below x.heap.size x w') : Calls Tryz.prog 13 #[.agg #[.string n, .string d], .agg #[.string m, .string k], .int .i64 way] w fun e w' => e = .returned (.tuple #[.agg #[.string ⟨#[]⟩, .string ⟨#[]⟩], .int .i64 c]) ∧ Below w.heap.size w w' := by
  have KA := (((Blk.new w #[.string n, .string d] 23).alloc (.cells #[.string m, .string k] 23)).alloc (.cells #[.string ⟨#[]⟩, .string ⟨#[]⟩] 23))
  have KB := ((Blk.new (w.alloc (.cells #[.string n, .string d] 23)) #[.string m, .string k] 23).alloc (.cells #[.string ⟨#[]⟩, .string ⟨#[]⟩] 23))
  have KR := (Blk.new ((w.alloc (.cells #[.string n, .string d] 23)).alloc (.cells #[.string m, .string k] 23)) #[.string ⟨#[]⟩, .string ⟨#[]⟩] 23)
  have pr : Below w.heap.size w (((w.alloc (.cells #[.string n, .string d] 23)).alloc (.cells #[.string m, .string k] 23)).alloc (.cells #[.string ⟨#[]⟩, .string ⟨#[]⟩] 23)) := ((((Below.refl _ _).alloc (by simp; try omega) _).alloc (by simp; try omega) _).alloc (by simp; try omega) _)
  simp only [World.size_alloc] at KB KR
  go_enter Tryz.func13, Tryz.ntmps13
  go_wp2_with (first
    | (go_at_call 57; (refine (CT _ pr).mono ?_); (rintro e w1 ⟨rfl, b1⟩); (have al1 := ((Below.refl w1.heap.size w1).alloc (Nat.le_refl _) (.cells #[.bool false, .slice none 0 0, .slice none 0 0] 67)).alloc (by simp) (.cells #[.bool false, .slice none 0 0, .slice none 0 0] 67)); (have bb1 := bel' b1 al1); (have p1 := bel' pr bb1); (have K1 := KR.below bb1 KR.lt); (have z0 := K1.at 0); (have z1 := K1.at 1); (have y0 := K1.free 0); (have y1 := K1.free 1); (simp at z0 z1))
    | fail)
  have KE := bput (bput K1 0 (.string ⟨#[]⟩)) 1 (.string ⟨#[]⟩)
  have bE := (p1.setCell (p := ⟨w.heap.size + 1 + 1, 0, none⟩) (show w.heap.size ≤ w.heap.size + 1 + 1 by omega) (.string ⟨#[]⟩)).setCell (p := ⟨w.heap.size + 1 + 1, 1, none⟩) (show w.heap.size ≤ w.heap.size + 1 + 1 by omega) (.string ⟨#[]⟩)
  have q0 := KE.at 0
  have q1 := KE.at 1
  simp at q0 q1
  exact bodyPost_ret (v := .tuple #[.agg #[.string ⟨#[]⟩, .string ⟨#[]⟩], .int .i64 c]) (by simp [results, Tryz.results13, go_sem, q0, q1]) rfl ⟨rfl, bE⟩
set_option maxRecDepth 100000 in
set_option maxHeartbeats 3200000 in
theorem Round_low (n d m k : ByteArray) (way z : Int) (r s : Rat) (w : World) (hz : decide (z ≤ 0) = true) (CT : ∀ x, Below w.heap.size w x → Calls Tryz.prog 57 #[.agg #[.string n, .string d], .agg #[.string m, .string k]] x (Fr2 r s x)) (SG : ∀ x v1, PF x v1 s → Calls Tryz.prog 58 #[v1] x fun e w' => e = .returned (.int .i64 z) ∧ Below x.heap.size x w') : Calls Tryz.prog 13 #[.agg #[.string n, .string d], .agg #[.string m, .string k], .int .i64 way] w fun e w' => e = .returned (.tuple #[.agg #[.string ⟨#[]⟩, .string ⟨#[]⟩], .int .i64 1]) ∧ Below w.heap.size w w' := by
  have KA := (((Blk.new w #[.string n, .string d] 23).alloc (.cells #[.string m, .string k] 23)).alloc (.cells #[.string ⟨#[]⟩, .string ⟨#[]⟩] 23))
  have KB := ((Blk.new (w.alloc (.cells #[.string n, .string d] 23)) #[.string m, .string k] 23).alloc (.cells #[.string ⟨#[]⟩, .string ⟨#[]⟩] 23))
  have KR := (Blk.new ((w.alloc (.cells #[.string n, .string d] 23)).alloc (.cells #[.string m, .string k] 23)) #[.string ⟨#[]⟩, .string ⟨#[]⟩] 23)
  have pr : Below w.heap.size w (((w.alloc (.cells #[.string n, .string d] 23)).alloc (.cells #[.string m, .string k] 23)).alloc (.cells #[.string ⟨#[]⟩, .string ⟨#[]⟩] 23)) := ((((Below.refl _ _).alloc (by simp; try omega) _).alloc (by simp; try omega) _).alloc (by simp; try omega) _)
  simp only [World.size_alloc] at KB KR
  go_enter Tryz.func13, Tryz.ntmps13
  go_wp2_with (first
    | (go_at_call 58; (have mk2 := q2); (refine (SG _ _ q2).mono ?_); (rintro e w2 ⟨rfl, b2⟩); (have p2 := bel' p1 b2); (have r1 := q1.grow b2); (have r2 := q2.grow b2); (have KF2 := KF.grow b2); (have KG2 := KG.grow b2); (have KR2 := KR1.below b2 KR1.lt); (have K1 := KR2); (have z0 := K1.at 0); (have z1 := K1.at 1); (have y0 := K1.free 0); (have y1 := K1.free 1); (simp at z0 z1))
    | (go_at_call 57; (refine (CT _ pr).mono ?_); (rintro e w1 ⟨g1, a1, l1, c1, a1', l1', c1', g2, a2, l2, c2, a2', l2', c2', rfl, t1, t2, b1⟩); (have al1 := ((Below.refl w1.heap.size w1).alloc (Nat.le_refl _) (.cells #[.bool g1, .slice a1 l1 c1, .slice a1' l1' c1'] 67)).alloc (by simp) (.cells #[.bool g2, .slice a2 l2 c2, .slice a2' l2' c2'] 67)); (have bb1 := bel' b1 al1); (have p1 := bel' pr bb1); (have q1 := t1.grow al1); (have q2 := t2.grow al1); (have KF := (Rb.new w1 (.bool g1) (.slice a1 l1 c1) (.slice a1' l1' c1') 67).alloc (.cells #[.bool g2, .slice a2 l2 c2, .slice a2' l2' c2'] 67)); (have KG := Rb.new (w1.alloc (.cells #[.bool g1, .slice a1 l1 c1, .slice a1' l1' c1'] 67)) (.bool g2) (.slice a2 l2 c2) (.slice a2' l2' c2') 67); (have sz : (w1.alloc (.cells #[.bool g1, .slice a1 l1 c1, .slice a1' l1' c1'] 67)).heap.size = w1.heap.size + 1 := World.size_alloc _ _); (rw [sz] at KG); (have kf0 := KF.c0); (have kg0 := KG.c0); (have kf1 := KF.c1); (have kg1 := KG.c1); (have kf2 := KF.c2); (have kg2 := KG.c2); (have KR1 := KR.below bb1 KR.lt))
    | fail)
  have KE := bput (bput K1 0 (.string ⟨#[]⟩)) 1 (.string ⟨#[]⟩)
  have bE := (p2.setCell (p := ⟨w.heap.size + 1 + 1, 0, none⟩) (show w.heap.size ≤ w.heap.size + 1 + 1 by omega) (.string ⟨#[]⟩)).setCell (p := ⟨w.heap.size + 1 + 1, 1, none⟩) (show w.heap.size ≤ w.heap.size + 1 + 1 by omega) (.string ⟨#[]⟩)
  have q0 := KE.at 0
  have q1 := KE.at 1
  simp at q0 q1
  exact bodyPost_ret (v := .tuple #[.agg #[.string ⟨#[]⟩, .string ⟨#[]⟩], .int .i64 1]) (by simp [results, Tryz.results13, go_sem, q0, q1]) rfl ⟨rfl, bE⟩
set_option maxRecDepth 100000 in
set_option maxHeartbeats 3200000 in
theorem Round_way (n d m k : ByteArray) (way z : Int) (r s : Rat) (w : World) (hz : decide (z ≤ 0) = false) (CT : ∀ x, Below w.heap.size w x → Calls Tryz.prog 57 #[.agg #[.string n, .string d], .agg #[.string m, .string k]] x (Fr2 r s x)) (SG : ∀ x v1, PF x v1 s → Calls Tryz.prog 58 #[v1] x fun e w' => e = .returned (.int .i64 z) ∧ Below x.heap.size x w') (IW : ∀ x, Calls Tryz.prog 59 #[.int .i64 way] x fun e w' => e = .returned (.bool false) ∧ w' = x) : Calls Tryz.prog 13 #[.agg #[.string n, .string d], .agg #[.string m, .string k], .int .i64 way] w fun e w' => e = .returned (.tuple #[.agg #[.string ⟨#[]⟩, .string ⟨#[]⟩], .int .i64 1]) ∧ Below w.heap.size w w' := by
  have KA := (((Blk.new w #[.string n, .string d] 23).alloc (.cells #[.string m, .string k] 23)).alloc (.cells #[.string ⟨#[]⟩, .string ⟨#[]⟩] 23))
  have KB := ((Blk.new (w.alloc (.cells #[.string n, .string d] 23)) #[.string m, .string k] 23).alloc (.cells #[.string ⟨#[]⟩, .string ⟨#[]⟩] 23))
  have KR := (Blk.new ((w.alloc (.cells #[.string n, .string d] 23)).alloc (.cells #[.string m, .string k] 23)) #[.string ⟨#[]⟩, .string ⟨#[]⟩] 23)
  have pr : Below w.heap.size w (((w.alloc (.cells #[.string n, .string d] 23)).alloc (.cells #[.string m, .string k] 23)).alloc (.cells #[.string ⟨#[]⟩, .string ⟨#[]⟩] 23)) := ((((Below.refl _ _).alloc (by simp; try omega) _).alloc (by simp; try omega) _).alloc (by simp; try omega) _)
  simp only [World.size_alloc] at KB KR
  go_enter Tryz.func13, Tryz.ntmps13
  go_wp2_with (first
    | (go_at_call 59; (have mk3 := p2); (refine (IW _).mono ?_); (rintro e x3 ⟨rfl, hx3⟩); (subst x3); (have K1 := KR2); (have z0 := K1.at 0); (have z1 := K1.at 1); (have y0 := K1.free 0); (have y1 := K1.free 1); (simp at z0 z1))
    | (go_at_call 58; (have mk2 := q2); (refine (SG _ _ q2).mono ?_); (rintro e w2 ⟨rfl, b2⟩); (have p2 := bel' p1 b2); (have r1 := q1.grow b2); (have r2 := q2.grow b2); (have KF2 := KF.grow b2); (have KG2 := KG.grow b2); (have KR2 := KR1.below b2 KR1.lt))
    | (go_at_call 57; (refine (CT _ pr).mono ?_); (rintro e w1 ⟨g1, a1, l1, c1, a1', l1', c1', g2, a2, l2, c2, a2', l2', c2', rfl, t1, t2, b1⟩); (have al1 := ((Below.refl w1.heap.size w1).alloc (Nat.le_refl _) (.cells #[.bool g1, .slice a1 l1 c1, .slice a1' l1' c1'] 67)).alloc (by simp) (.cells #[.bool g2, .slice a2 l2 c2, .slice a2' l2' c2'] 67)); (have bb1 := bel' b1 al1); (have p1 := bel' pr bb1); (have q1 := t1.grow al1); (have q2 := t2.grow al1); (have KF := (Rb.new w1 (.bool g1) (.slice a1 l1 c1) (.slice a1' l1' c1') 67).alloc (.cells #[.bool g2, .slice a2 l2 c2, .slice a2' l2' c2'] 67)); (have KG := Rb.new (w1.alloc (.cells #[.bool g1, .slice a1 l1 c1, .slice a1' l1' c1'] 67)) (.bool g2) (.slice a2 l2 c2) (.slice a2' l2' c2') 67); (have sz : (w1.alloc (.cells #[.bool g1, .slice a1 l1 c1, .slice a1' l1' c1'] 67)).heap.size = w1.heap.size + 1 := World.size_alloc _ _); (rw [sz] at KG); (have kf0 := KF.c0); (have kg0 := KG.c0); (have kf1 := KF.c1); (have kg1 := KG.c1); (have kf2 := KF.c2); (have kg2 := KG.c2); (have KR1 := KR.below bb1 KR.lt))
    | fail)
  have KE := bput (bput K1 0 (.string ⟨#[]⟩)) 1 (.string ⟨#[]⟩)
  have bE := (p2.setCell (p := ⟨w.heap.size + 1 + 1, 0, none⟩) (show w.heap.size ≤ w.heap.size + 1 + 1 by omega) (.string ⟨#[]⟩)).setCell (p := ⟨w.heap.size + 1 + 1, 1, none⟩) (show w.heap.size ≤ w.heap.size + 1 + 1 by omega) (.string ⟨#[]⟩)
  have q0 := KE.at 0
  have q1 := KE.at 1
  simp at q0 q1
  exact bodyPost_ret (v := .tuple #[.agg #[.string ⟨#[]⟩, .string ⟨#[]⟩], .int .i64 1]) (by simp [results, Tryz.results13, go_sem, q0, q1]) rfl ⟨rfl, bE⟩
set_option maxRecDepth 100000 in
set_option maxHeartbeats 3200000 in
theorem Round_ok (n d m k : ByteArray) (way z : Int) (r s i0 t1 t2 t3 : Rat) (u v : ByteArray) (er : Int) (w : World) (hz : decide (z ≤ 0) = false) (CT : ∀ x, Below w.heap.size w x → Calls Tryz.prog 57 #[.agg #[.string n, .string d], .agg #[.string m, .string k]] x (Fr2 r s x)) (SG : ∀ x v1, PF x v1 s → Calls Tryz.prog 58 #[v1] x fun e w' => e = .returned (.int .i64 z) ∧ Below x.heap.size x w') (IW : ∀ x, Calls Tryz.prog 59 #[.int .i64 way] x fun e w' => e = .returned (.bool true) ∧ w' = x)
    (IV : ∀ x v1, PF x v1 s → Calls Tryz.prog 43 #[v1] x (Fa i0 x))
    (TM : ∀ x v1 v2, PF x v1 r → PF x v2 i0 → Calls Tryz.prog 42 #[v1, v2] x (Fa t1 x))
    (RD : ∀ x v1, PF x v1 t1 → Calls Tryz.prog 60 #[v1, .int .i64 way] x (Fa t2 x))
    (TN : ∀ x v1 v2, PF x v1 t2 → PF x v2 s → Calls Tryz.prog 42 #[v1, v2] x (Fa t3 x))
    (RA : ∀ x v1, Below w.heap.size w x → PF x v1 t3 → Calls Tryz.prog 44 #[v1] x fun e w' => e = .returned (.tuple #[.agg #[.string u, .string v], .int .i64 er]) ∧ Below x.heap.size x w') : Calls Tryz.prog 13 #[.agg #[.string n, .string d], .agg #[.string m, .string k], .int .i64 way] w fun e w' => e = .returned (.tuple #[.agg #[.string u, .string v], .int .i64 er]) ∧ Below w.heap.size w w' := by
  have KA := (((Blk.new w #[.string n, .string d] 23).alloc (.cells #[.string m, .string k] 23)).alloc (.cells #[.string ⟨#[]⟩, .string ⟨#[]⟩] 23))
  have KB := ((Blk.new (w.alloc (.cells #[.string n, .string d] 23)) #[.string m, .string k] 23).alloc (.cells #[.string ⟨#[]⟩, .string ⟨#[]⟩] 23))
  have KR := (Blk.new ((w.alloc (.cells #[.string n, .string d] 23)).alloc (.cells #[.string m, .string k] 23)) #[.string ⟨#[]⟩, .string ⟨#[]⟩] 23)
  have pr : Below w.heap.size w (((w.alloc (.cells #[.string n, .string d] 23)).alloc (.cells #[.string m, .string k] 23)).alloc (.cells #[.string ⟨#[]⟩, .string ⟨#[]⟩] 23)) := ((((Below.refl _ _).alloc (by simp; try omega) _).alloc (by simp; try omega) _).alloc (by simp; try omega) _)
  simp only [World.size_alloc] at KB KR
  go_enter Tryz.func13, Tryz.ntmps13
  go_wp2_with (first
    | (go_at_call 59; (have mk3 := p2); (refine (IW _).mono ?_); (rintro e x3 ⟨rfl, hx3⟩); (subst x3))
    | (go_at_call 58; (have mk2 := q2); (refine (SG _ _ q2).mono ?_); (rintro e w2 ⟨rfl, b2⟩); (have p2 := bel' p1 b2); (have r1 := q1.grow b2); (have r2 := q2.grow b2); (have KF2 := KF.grow b2); (have KG2 := KG.grow b2); (have KR2 := KR1.below b2 KR1.lt))
    | (go_at_call 57; (refine (CT _ pr).mono ?_); (rintro e w1 ⟨g1, a1, l1, c1, a1', l1', c1', g2, a2, l2, c2, a2', l2', c2', rfl, t1, t2, b1⟩); (have al1 := ((Below.refl w1.heap.size w1).alloc (Nat.le_refl _) (.cells #[.bool g1, .slice a1 l1 c1, .slice a1' l1' c1'] 67)).alloc (by simp) (.cells #[.bool g2, .slice a2 l2 c2, .slice a2' l2' c2'] 67)); (have bb1 := bel' b1 al1); (have p1 := bel' pr bb1); (have q1 := t1.grow al1); (have q2 := t2.grow al1); (have KF := (Rb.new w1 (.bool g1) (.slice a1 l1 c1) (.slice a1' l1' c1') 67).alloc (.cells #[.bool g2, .slice a2 l2 c2, .slice a2' l2' c2'] 67)); (have KG := Rb.new (w1.alloc (.cells #[.bool g1, .slice a1 l1 c1, .slice a1' l1' c1'] 67)) (.bool g2) (.slice a2 l2 c2) (.slice a2' l2' c2') 67); (have sz : (w1.alloc (.cells #[.bool g1, .slice a1 l1 c1, .slice a1' l1' c1'] 67)).heap.size = w1.heap.size + 1 := World.size_alloc _ _); (rw [sz] at KG); (have kf0 := KF.c0); (have kg0 := KG.c0); (have kf1 := KF.c1); (have kg1 := KG.c1); (have kf2 := KF.c2); (have kg2 := KG.c2); (have KR1 := KR.below bb1 KR.lt))
    | fail)
  have hX : w.heap.size + 1 + 1 < w1.heap.size := by have := KR.lt; have := b1.size; omega
  clear al1 sz kf0 kf1 kf2 kg0 kg1 kg2 CT SG IW KA KB KF KG q1 q2 t1 t2 bb1 b1 p1
  generalize w1.heap.size = X at *
  have hX1 : X ≠ w.heap.size + 1 + 1 := by omega
  have hX2 : w.heap.size + 1 + 1 ≠ X := by omega
  have hX3 : X + 1 ≠ w.heap.size + 1 + 1 := by omega
  have hX4 : w.heap.size + 1 + 1 ≠ X + 1 := by omega
  have hX5 : X ≠ w.heap.size + 1 := by omega
  have hX6 : w.heap.size + 1 ≠ X := by omega
  have kf0 := KF2.c0
  have kf1 := KF2.c1
  have kf2 := KF2.c2
  have kg0 := KG2.c0
  have kg1 := KG2.c1
  have kg2 := KG2.c2
  go_region_held3 (fun x => x.cell? ⟨X, 0, none⟩ = some (.bool g1) ∧ x.cell? ⟨X, 1, none⟩ = some (.slice a1 l1 c1) ∧ x.cell? ⟨X, 2, none⟩ = some (.slice a1' l1' c1') ∧ x.cell? ⟨X + 1, 0, none⟩ = some (.bool g2) ∧ x.cell? ⟨X + 1, 1, none⟩ = some (.slice a2 l2 c2) ∧ x.cell? ⟨X + 1, 2, none⟩ = some (.slice a2' l2' c2')) (go_keep) (first
    | (go_at_call 44; refine (RA _ _ (bel' p2 b6) t6).mono ?_; rintro e w9 ⟨rfl, b9⟩; have b7 := bel' b6 b9; have n0 := (KF2.grow b7).c0; have n1 := (KF2.grow b7).c1; have n2 := (KF2.grow b7).c2; have n3 := (KG2.grow b7).c0; have n4 := (KG2.grow b7).c1; have n5 := (KG2.grow b7).c2; have K1 := KR2.below b7 KR2.lt; have z0 := K1.at 0; have z1 := K1.at 1; have y0 := K1.free 0; have y1 := K1.free 1; simp at z0 z1)
    | (go_at_call 42; refine (TN _ _ _ t5 (r2.grow b5)).mono ?_; rintro e w6 ⟨g6, a6, l6, c6, a6', l6', c6', rfl, t6, b6⟩; have b6 := bel' b5 b6; have m0 := (KF2.grow b6).c0; have m1 := (KF2.grow b6).c1; have m2 := (KF2.grow b6).c2; have m3 := (KG2.grow b6).c0; have m4 := (KG2.grow b6).c1; have m5 := (KG2.grow b6).c2)
    | (go_at_call 60; refine (RD _ _ t4).mono ?_; rintro e w5 ⟨g5, a5, l5, c5, a5', l5', c5', rfl, t5, b5⟩; have b5 := bel' b4 b5; have k0 := (KF2.grow b5).c0; have k1 := (KF2.grow b5).c1; have k2 := (KF2.grow b5).c2; have k3 := (KG2.grow b5).c0; have k4 := (KG2.grow b5).c1; have k5 := (KG2.grow b5).c2)
    | (go_at_call 42; refine (TM _ _ _ (r1.grow b3) t3).mono ?_; rintro e w4 ⟨g4, a4, l4, c4, a4', l4', c4', rfl, t4, b4⟩; have b4 := bel' b3 b4; have i0 := (KF2.grow b4).c0; have i1 := (KF2.grow b4).c1; have i2 := (KF2.grow b4).c2; have i3 := (KG2.grow b4).c0; have i4 := (KG2.grow b4).c1; have i5 := (KG2.grow b4).c2)
    | (go_at_call 43; refine (IV _ _ (r2.grow (Below.refl _ _).drew)).mono ?_; rintro e w3 ⟨g3, a3, l3, c3, a3', l3', c3', rfl, t3, b3⟩; have b3 := undrew b3; have h0 := (KF2.grow b3).c0; have h1 := (KF2.grow b3).c1; have h2 := (KF2.grow b3).c2; have h3 := (KG2.grow b3).c0; have h4 := (KG2.grow b3).c1; have h5 := (KG2.grow b3).c2)
    | fail)
  go_wp2_with fail
  have p9 := bel' p2 b7
  have KE := bput (bput K1 0 (.string u)) 1 (.string v)
  have bE := (p9.setCell (p := ⟨w.heap.size + 1 + 1, 0, none⟩) (show w.heap.size ≤ w.heap.size + 1 + 1 by omega) (.string u)).setCell (p := ⟨w.heap.size + 1 + 1, 1, none⟩) (show w.heap.size ≤ w.heap.size + 1 + 1 by omega) (.string v)
  have q0 := KE.at 0
  have q1 := KE.at 1
  simp at q0 q1
  exact bodyPost_ret (v := .tuple #[.agg #[.string u, .string v], .int .i64 er]) (by simp [results, Tryz.results13, go_sem, q0, q1]) rfl ⟨rfl, bE⟩
end Go.Proofs.YtebilgnmnambnaaGreatDoor.Mo
