import Derived.Test.YtpmgbmafibkgnaaGreatDoorPart33
import Derived.Test.YtpmgbmafibkgnaaGreatDoorPart30

namespace Go.Proofs.YtpmgbmafibkgnaaGreatDoor.Mo
open Go.RowKit Fu Tn Go.Lib Dc

/-- readTwo of two right numbers, as they are written. -/
theorem readTwo_p (r s : Rat) (w : World) (l1 : (decDigits r.num.natAbs).length ≤ 4096) (l2 : (decDigits r.den).length ≤ 4096) (l3 : (decDigits s.num.natAbs).length ≤ 4096) (l4 : (decDigits s.den).length ≤ 4096) :
    Calls Tryz.prog 13 #[wrt r, wrt s] w fun e w' => ∃ (a : (Option Addr × Option Addr) × (Option Addr × Option Addr)) (l c : (Nat × Nat) × (Nat × Nat)), e = .returned (.tuple #[.agg #[.bool (decide (r.num < 0)), .slice a.1.1 l.1.1 c.1.1, .slice a.1.2 l.1.2 c.1.2], .agg #[.bool (decide (s.num < 0)), .slice a.2.1 l.2.1 c.2.1, .slice a.2.2 l.2.2 c.2.2], .int .i64 0]) ∧ ((Nn w' a.1.1 l.1.1 c.1.1 (r.num.natAbs : Int) ∧ Nn w' a.1.2 l.1.2 c.1.2 (r.den : Int)) ∧ (Nn w' a.2.1 l.2.1 c.2.1 (s.num.natAbs : Int) ∧ Nn w' a.2.2 l.2.2 c.2.2 (s.den : Int))) ∧ Below w.heap.size w w' := by
  have C : ∀ (r : Rat), (decDigits r.num.natAbs).length ≤ 4096 → (decDigits r.den).length ≤ 4096 → ∀ x, Calls Tryz.prog 21 #[wrt r] x fun e w' => ∃ (a : Option Addr × Option Addr) (l c : Nat × Nat), e = .returned (.tuple #[.agg #[.bool (decide (r.num < 0)), .slice a.1 l.1 c.1, .slice a.2 l.2 c.2], .int .i64 0]) ∧ (Nn w' a.1 l.1 c.1 (r.num.natAbs : Int) ∧ Nn w' a.2 l.2 c.2 (r.den : Int)) ∧ Below x.heap.size x w' := fun r l1 l2 x => by
    refine (Read_p r x l1 l2).mono ?_
    rintro e w' ⟨v, rfl, ⟨a, l, c, a', l', c', rfl, k1, k2⟩, b⟩
    exact ⟨(a, a'), (l, l'), (c, c'), rfl, ⟨k1, k2⟩, b⟩
  refine (readTwo_raw _ _ _ _ _ _ _ _ _ _ w (fun x _ => C r l1 l2 x) (fun x _ => C s l3 l4 x)).mono ?_
  rintro e w' ⟨pa, pl, pc, qa, ql, qc, rfl, h1, h2, b⟩
  exact ⟨(pa, qa), (pl, ql), (pc, qc), rfl, ⟨h1, h2⟩, b⟩
set_option maxHeartbeats 3200000 in
set_option maxRecDepth 100000 in
theorem Add_raw (s1 t1 s2 t2 u v : ByteArray) (g1 g2 : Bool) (O1 D1 O2 D2 : Int) (er : Int) (w : World)
    (CR' : ∀ x, Below w.heap.size w x → Calls Tryz.prog 13 #[.agg #[.string s1, .string t1], .agg #[.string s2, .string t2]] x fun e w' => ∃ (a : (Option Addr × Option Addr) × (Option Addr × Option Addr)) (l c : (Nat × Nat) × (Nat × Nat)), e = .returned (.tuple #[.agg #[.bool g1, .slice a.1.1 l.1.1 c.1.1, .slice a.1.2 l.1.2 c.1.2], .agg #[.bool g2, .slice a.2.1 l.2.1 c.2.1, .slice a.2.2 l.2.2 c.2.2], .int .i64 0]) ∧ ((Nn w' a.1.1 l.1.1 c.1.1 O1 ∧ Nn w' a.1.2 l.1.2 c.1.2 D1) ∧ (Nn w' a.2.1 l.2.1 c.2.1 O2 ∧ Nn w' a.2.2 l.2.2 c.2.2 D2)) ∧ Below x.heap.size x w')
    (CP : ∀ x (a : (Option Addr × Option Addr) × (Option Addr × Option Addr)) (l c : (Nat × Nat) × (Nat × Nat)), Below w.heap.size w x → (Nn x a.1.1 l.1.1 c.1.1 O1 ∧ Nn x a.1.2 l.1.2 c.1.2 D1) → (Nn x a.2.1 l.2.1 c.2.1 O2 ∧ Nn x a.2.2 l.2.2 c.2.2 D2) → Calls Tryz.prog 20 #[.agg #[.bool g1, .slice a.1.1 l.1.1 c.1.1, .slice a.1.2 l.1.2 c.1.2], .agg #[.bool g2, .slice a.2.1 l.2.1 c.2.1, .slice a.2.2 l.2.2 c.2.2]] x fun e w' => ∃ y, e = .returned y ∧ (∀ z, Below w'.heap.size w' z → Calls Tryz.prog 16 #[y] z fun e w2 => e = .returned (.tuple #[.agg #[.string u, .string v], .int .i64 er]) ∧ Below z.heap.size z w2) ∧ Below x.heap.size x w') :
    Calls Tryz.prog 10 #[.agg #[.string s1, .string t1], .agg #[.string s2, .string t2]] w fun e w' => e = .returned (.tuple #[.agg #[.string u, .string v], .int .i64 er]) ∧ Below w.heap.size w w' := by
  have KA := ((Blk.new w #[.string s1, .string t1] 23).alloc (.cells #[.string s2, .string t2] 23)).alloc (.cells #[.string ⟨#[]⟩, .string ⟨#[]⟩] 23)
  have KB := (Blk.new (w.alloc (.cells #[.string s1, .string t1] 23)) #[.string s2, .string t2] 23).alloc (.cells #[.string ⟨#[]⟩, .string ⟨#[]⟩] 23)
  have KR := Blk.new ((w.alloc (.cells #[.string s1, .string t1] 23)).alloc (.cells #[.string s2, .string t2] 23)) #[.string ⟨#[]⟩, .string ⟨#[]⟩] 23
  simp only [World.size_alloc] at KB KR
  have pr : Below w.heap.size w (((w.alloc (.cells #[.string s1, .string t1] 23)).alloc (.cells #[.string s2, .string t2] 23)).alloc (.cells #[.string ⟨#[]⟩, .string ⟨#[]⟩] 23)) := (((Below.refl _ _).alloc (Nat.le_refl _) _).alloc (by simp) _).alloc (by simp; omega) _
  go_enter Tryz.func10, Tryz.ntmps10
  go_wp2_with fail
  have ka0 := KA.at 0
  have ka1 := KA.at 1
  have kb0 := KB.at 0
  have kb1 := KB.at 1
  simp at ka0 ka1 kb0 kb1
  generalize (((w.alloc (.cells #[.string s1, .string t1] 23)).alloc (.cells #[.string s2, .string t2] 23)).alloc (.cells #[.string ⟨#[]⟩, .string ⟨#[]⟩] 23)) = W at *
  go_wp2_with (first
    | (go_at_call 13; go_must (refine (CR' _ pr).mono ?_; rintro e w1 ⟨p, q, r, rfl, H, b1⟩; (have al := (((Below.refl w1.heap.size w1).alloc (Nat.le_refl _) (.cells #[.bool g1, .slice p.1.1 q.1.1 r.1.1, .slice p.1.2 q.1.2 r.1.2] 41)).alloc (by simp) (.cells #[.bool g2, .slice p.2.1 q.2.1 r.2.1, .slice p.2.2 q.2.2 r.2.2] 41))); (have b2 := bel' b1 al); (have pB := bel' pr b2); (have n1 := (⟨H.1.1.grow al, H.1.2.grow al⟩ : _ ∧ _)); (have n2 := (⟨H.2.1.grow al, H.2.2.grow al⟩ : _ ∧ _)); (have KR1 := KR.below b2 KR.lt)))
    | (go_at_call 20; go_must (refine (CP _ p q r pB n1 n2).mono ?_; rintro e w3 ⟨y, rfl, CY, b3⟩))
    | (go_at_call 16; go_must (refine (CY _ (Below.refl _ _)).mono ?_; rintro e w4 ⟨rfl, b4⟩; (have b5 := bel' b3 b4); (have KR2 := KR1.below b5 KR1.lt); (have m0 := KR2.at 0); (have m1 := KR2.at 1); (have m2 := KR2.free 0); (have m3 := KR2.free 1); (simp at m0 m1)))
    | fail)
  have kE : Blk ((w4.setCell ⟨w.heap.size + 1 + 1, 0, none⟩ (.string u)).setCell ⟨w.heap.size + 1 + 1, 1, none⟩ (.string v)) (w.heap.size + 1 + 1) #[.string u, .string v] 23 := bput (bput KR2 0 _) 1 _
  have bE : Below w.heap.size w ((w4.setCell ⟨w.heap.size + 1 + 1, 0, none⟩ (.string u)).setCell ⟨w.heap.size + 1 + 1, 1, none⟩ (.string v)) := ((bel' pB b5).setCell (p := ⟨w.heap.size + 1 + 1, 0, none⟩) (by show w.heap.size ≤ w.heap.size + 1 + 1; omega) _).setCell (p := ⟨w.heap.size + 1 + 1, 1, none⟩) (by show w.heap.size ≤ w.heap.size + 1 + 1; omega) _
  generalize (w4.setCell ⟨w.heap.size + 1 + 1, 0, none⟩ (.string u)).setCell ⟨w.heap.size + 1 + 1, 1, none⟩ (.string v) = WE at *
  have r0 := kE.at 0
  have r1 := kE.at 1
  simp at r0 r1
  exact bodyPost_ret (v := .tuple #[.agg #[.string u, .string v], .int .i64 er]) (by simp [results, Tryz.results10, go_sem, r0, r1]) rfl ⟨rfl, bE⟩
/-- ratio.Add of two numbers whose sum has words of 64 bits. -/
theorem Add_p (r s : Rat) (w : World) (h1 : PS r 1) (h2 : PS s 1) (h3 : PS (r + s) 1) (G : Gw w) :
    Calls Tryz.prog 10 #[wrt r, wrt s] w fun e w' => e = .returned (.tuple #[wrt (r + s), .int .i64 0]) ∧ Below w.heap.size w w' := by
  have L : ∀ n : Nat, (n : Int) < pw 1 → (decDigits n).length ≤ 4096 := fun n h => by
    have p1 : pw 1 = 18446744073709551616 := by decide
    have := dec20 (V := n) (by omega)
    omega
  refine Add_raw _ _ _ _ _ _ _ _ _ _ _ _ 0 w (fun x _ => readTwo_p r s x (L _ h1.1) (L _ h1.2) (L _ h2.1) (L _ h2.2)) ?_
  intro x a l c b n1 n2
  refine (Plus_p _ _ r s 1 1 x ⟨_, _, _, _, _, _, rfl, n1.1, n1.2⟩ ⟨_, _, _, _, _, _, rfl, n2.1, n2.2⟩ h1 h2 (by unfold MulOK; omega) (by omega)).mono ?_
  rintro e w' ⟨y, rfl, hy, b'⟩
  exact ⟨y, rfl, fun z bz => Ratio_one y (r + s) z (hy.grow bz) h3 (G.grow (bel' (bel' b b') bz)), b'⟩
end Go.Proofs.YtpmgbmafibkgnaaGreatDoor.Mo

namespace Go.Proofs.YtpmgbmafibkgnaaGreatDoor.Mo
open Go.RowKit Fu Tn Go.Lib

set_option maxHeartbeats 1600000 in
set_option maxRecDepth 100000 in
theorem Write_big1 (g : Bool) (P1 P2 : Option Addr) (M1 C1 M2 C2 : Nat) (L1 : Int) (w : World) (l1 : 13654 < L1)
    (B1 : ∀ x, Below w.heap.size w x → Calls Tryz.prog 71 #[.agg #[.slice P1 M1 C1]] x fun e w' => e = .returned (.int .i64 L1) ∧ Below x.heap.size x w') :
    Calls Tryz.prog 34 #[.bool g, .agg #[.slice P1 M1 C1], .agg #[.slice P2 M2 C2]] w fun e w' => e = .returned (.tuple #[.agg #[.string ⟨#[]⟩, .string ⟨#[]⟩], .int .i64 3]) ∧ Below w.heap.size w w' := by
  have KX := ((Bx.new w (.slice P1 M1 C1) 39).alloc (.cells #[.slice P2 M2 C2] 39)).alloc (.cells #[.string ⟨#[]⟩, .string ⟨#[]⟩] 23)
  have KY := (Bx.new (w.alloc (.cells #[.slice P1 M1 C1] 39)) (.slice P2 M2 C2) 39).alloc (.cells #[.string ⟨#[]⟩, .string ⟨#[]⟩] 23)
  have KR := Blk.new ((w.alloc (.cells #[.slice P1 M1 C1] 39)).alloc (.cells #[.slice P2 M2 C2] 39)) #[.string ⟨#[]⟩, .string ⟨#[]⟩] 23
  simp only [World.size_alloc] at KY KR
  have pr : Below w.heap.size w (((w.alloc (.cells #[.slice P1 M1 C1] 39)).alloc (.cells #[.slice P2 M2 C2] 39)).alloc (.cells #[.string ⟨#[]⟩, .string ⟨#[]⟩] 23)) := (((Below.refl _ _).alloc (Nat.le_refl _) _).alloc (by simp) _).alloc (by simp; omega) _
  go_enter Tryz.func34, Tryz.ntmps34
  go_wp2_with fail
  generalize ((w.alloc (.cells #[.slice P1 M1 C1] 39)).alloc (.cells #[.slice P2 M2 C2] 39)).alloc (.cells #[.string ⟨#[]⟩, .string ⟨#[]⟩] 23) = W0 at *
  have kx := KX.1
  have ky := KY.1
  go_wp2_with (first
    | (go_at_call 71; go_must (refine (B1 _ pr).mono ?_; rintro e w1 ⟨rfl, b1⟩; (have p1 := bel' pr b1); (have KR1 := KR.below b1 KR.lt); (have kr0 := KR1.at 0); (have kr1 := KR1.at 1); (have kf0 := KR1.free 0); (have kf1 := KR1.free 1); (simp at kr0 kr1)))
    | fail)
  have KE := bput (bput KR1 0 (.string ⟨#[]⟩)) 1 (.string ⟨#[]⟩)
  have bE := (p1.setCell (p := ⟨w.heap.size + 1 + 1, 0, none⟩) (show w.heap.size ≤ w.heap.size + 1 + 1 by omega) (.string ⟨#[]⟩)).setCell (p := ⟨w.heap.size + 1 + 1, 1, none⟩) (show w.heap.size ≤ w.heap.size + 1 + 1 by omega) (.string ⟨#[]⟩)
  generalize (w1.setCell ⟨w.heap.size + 1 + 1, 0, none⟩ (.string ⟨#[]⟩)).setCell ⟨w.heap.size + 1 + 1, 1, none⟩ (.string ⟨#[]⟩) = WE at *
  have z0 := KE.at 0
  have z1 := KE.at 1
  simp at z0 z1
  exact bodyPost_ret (v := .tuple #[.agg #[.string ⟨#[]⟩, .string ⟨#[]⟩], .int .i64 3]) (by simp [results, Tryz.results34, go_sem, z0, z1]) rfl ⟨rfl, bE⟩
set_option maxHeartbeats 1600000 in
set_option maxRecDepth 100000 in
theorem Write_big2 (g : Bool) (P1 P2 : Option Addr) (M1 C1 M2 C2 : Nat) (L1 L2 : Int) (w : World) (l1 : L1 ≤ 13654) (l2 : 13654 < L2)
    (B1 : ∀ x, Below w.heap.size w x → Calls Tryz.prog 71 #[.agg #[.slice P1 M1 C1]] x fun e w' => e = .returned (.int .i64 L1) ∧ Below x.heap.size x w')
    (B2 : ∀ x, Below w.heap.size w x → Calls Tryz.prog 71 #[.agg #[.slice P2 M2 C2]] x fun e w' => e = .returned (.int .i64 L2) ∧ Below x.heap.size x w') :
    Calls Tryz.prog 34 #[.bool g, .agg #[.slice P1 M1 C1], .agg #[.slice P2 M2 C2]] w fun e w' => e = .returned (.tuple #[.agg #[.string ⟨#[]⟩, .string ⟨#[]⟩], .int .i64 3]) ∧ Below w.heap.size w w' := by
  have KX := ((Bx.new w (.slice P1 M1 C1) 39).alloc (.cells #[.slice P2 M2 C2] 39)).alloc (.cells #[.string ⟨#[]⟩, .string ⟨#[]⟩] 23)
  have KY := (Bx.new (w.alloc (.cells #[.slice P1 M1 C1] 39)) (.slice P2 M2 C2) 39).alloc (.cells #[.string ⟨#[]⟩, .string ⟨#[]⟩] 23)
  have KR := Blk.new ((w.alloc (.cells #[.slice P1 M1 C1] 39)).alloc (.cells #[.slice P2 M2 C2] 39)) #[.string ⟨#[]⟩, .string ⟨#[]⟩] 23
  simp only [World.size_alloc] at KY KR
  have pr : Below w.heap.size w (((w.alloc (.cells #[.slice P1 M1 C1] 39)).alloc (.cells #[.slice P2 M2 C2] 39)).alloc (.cells #[.string ⟨#[]⟩, .string ⟨#[]⟩] 23)) := (((Below.refl _ _).alloc (Nat.le_refl _) _).alloc (by simp) _).alloc (by simp; omega) _
  go_enter Tryz.func34, Tryz.ntmps34
  go_wp2_with fail
  generalize ((w.alloc (.cells #[.slice P1 M1 C1] 39)).alloc (.cells #[.slice P2 M2 C2] 39)).alloc (.cells #[.string ⟨#[]⟩, .string ⟨#[]⟩] 23) = W0 at *
  have kx := KX.1
  have ky := KY.1
  go_wp2_with (first
    | (go_at_call 71; have q := b1; refine (B2 _ p1).mono ?_; rintro e w2 ⟨rfl, b2⟩; have p2 := bel' p1 b2; have KR2 := KR1.below b2 KR1.lt; (have kr0 := KR2.at 0); (have kr1 := KR2.at 1); (have kf0 := KR2.free 0); (have kf1 := KR2.free 1); (simp at kr0 kr1))
    | (go_at_call 71; refine (B1 _ pr).mono ?_; rintro e w1 ⟨rfl, b1⟩; have p1 := bel' pr b1; have KX1 := KX.below b1; have KY1 := KY.below b1; have ky1 := KY1.1; have KR1 := KR.below b1 KR.lt)
    | fail)
  have KE := bput (bput KR2 0 (.string ⟨#[]⟩)) 1 (.string ⟨#[]⟩)
  have bE := (p2.setCell (p := ⟨w.heap.size + 1 + 1, 0, none⟩) (show w.heap.size ≤ w.heap.size + 1 + 1 by omega) (.string ⟨#[]⟩)).setCell (p := ⟨w.heap.size + 1 + 1, 1, none⟩) (show w.heap.size ≤ w.heap.size + 1 + 1 by omega) (.string ⟨#[]⟩)
  generalize (w2.setCell ⟨w.heap.size + 1 + 1, 0, none⟩ (.string ⟨#[]⟩)).setCell ⟨w.heap.size + 1 + 1, 1, none⟩ (.string ⟨#[]⟩) = WE at *
  have z0 := KE.at 0
  have z1 := KE.at 1
  simp at z0 z1
  exact bodyPost_ret (v := .tuple #[.agg #[.string ⟨#[]⟩, .string ⟨#[]⟩], .int .i64 3]) (by simp [results, Tryz.results34, go_sem, z0, z1]) rfl ⟨rfl, bE⟩
set_option maxHeartbeats 1600000 in
set_option maxRecDepth 100000 in
theorem Write_many1 (g : Bool) (P1 P2 : Option Addr) (M1 C1 M2 C2 : Nat) (s t : ByteArray) (L1 L2 : Int) (w : World) (l1 : L1 ≤ 13654) (l2 : L2 ≤ 13654) (s1 : 4096 < s.size)
    (T1 : ∀ x, Below w.heap.size w x → Calls Tryz.prog 27 #[.agg #[.slice P1 M1 C1]] x fun e w' => e = .returned (.string s) ∧ Below x.heap.size x w')
    (T2 : ∀ x, Below w.heap.size w x → Calls Tryz.prog 27 #[.agg #[.slice P2 M2 C2]] x fun e w' => e = .returned (.string t) ∧ Below x.heap.size x w')
    (B1 : ∀ x, Below w.heap.size w x → Calls Tryz.prog 71 #[.agg #[.slice P1 M1 C1]] x fun e w' => e = .returned (.int .i64 L1) ∧ Below x.heap.size x w')
    (B2 : ∀ x, Below w.heap.size w x → Calls Tryz.prog 71 #[.agg #[.slice P2 M2 C2]] x fun e w' => e = .returned (.int .i64 L2) ∧ Below x.heap.size x w') :
    Calls Tryz.prog 34 #[.bool g, .agg #[.slice P1 M1 C1], .agg #[.slice P2 M2 C2]] w fun e w' => e = .returned (.tuple #[.agg #[.string ⟨#[]⟩, .string ⟨#[]⟩], .int .i64 3]) ∧ Below w.heap.size w w' := by
  have KX := ((Bx.new w (.slice P1 M1 C1) 39).alloc (.cells #[.slice P2 M2 C2] 39)).alloc (.cells #[.string ⟨#[]⟩, .string ⟨#[]⟩] 23)
  have KY := (Bx.new (w.alloc (.cells #[.slice P1 M1 C1] 39)) (.slice P2 M2 C2) 39).alloc (.cells #[.string ⟨#[]⟩, .string ⟨#[]⟩] 23)
  have KR := Blk.new ((w.alloc (.cells #[.slice P1 M1 C1] 39)).alloc (.cells #[.slice P2 M2 C2] 39)) #[.string ⟨#[]⟩, .string ⟨#[]⟩] 23
  simp only [World.size_alloc] at KY KR
  have pr : Below w.heap.size w (((w.alloc (.cells #[.slice P1 M1 C1] 39)).alloc (.cells #[.slice P2 M2 C2] 39)).alloc (.cells #[.string ⟨#[]⟩, .string ⟨#[]⟩] 23)) := (((Below.refl _ _).alloc (Nat.le_refl _) _).alloc (by simp) _).alloc (by simp; omega) _
  have s1' : (4096 : Int) < (s.size : Int) := by omega
  go_enter Tryz.func34, Tryz.ntmps34
  go_wp2_with fail
  generalize ((w.alloc (.cells #[.slice P1 M1 C1] 39)).alloc (.cells #[.slice P2 M2 C2] 39)).alloc (.cells #[.string ⟨#[]⟩, .string ⟨#[]⟩] 23) = W0 at *
  have kx := KX.1
  have ky := KY.1
  go_wp2_with (first
    | (go_at_call 71; have q := b1; refine (B2 _ p1).mono ?_; rintro e w2 ⟨rfl, b2⟩; have p2 := bel' p1 b2; have KX2 := KX1.below b2; have KY2 := KY1.below b2; have KR2 := KR1.below b2 KR1.lt)
    | (go_at_call 71; refine (B1 _ pr).mono ?_; rintro e w1 ⟨rfl, b1⟩; have p1 := bel' pr b1; have KX1 := KX.below b1; have KY1 := KY.below b1; have ky1 := KY1.1; have KR1 := KR.below b1 KR.lt)
    | fail)
  clear KX KY KR KX1 KY1 KR1 kx ky ky1 B1 B2 b1 b2 p1 pr
  go_cut [8, 9] from 19 to 22 (fun x y wc => x = .string s ∧ y = .string t ∧ Below w2.heap.size w2 wc)
  case first =>
    rename_i hm hJ
    refine wp_region_held (S := fun _ => True) (by kernel_rfl) (any_inv (fun listed a x => ∃ (y0 y1 y2 y3 : Bool) (t19 t20 t21 t22 : Value) (z8 z9 : Value), a = ⟨#[.bool g, .agg #[.slice P1 M1 C1], .agg #[.slice P2 M2 C2], undef, .pointer (some ⟨w.heap.size, 0, none⟩), .pointer (some ⟨w.heap.size + 1, 0, none⟩), .pointer (some ⟨w.heap.size + 1 + 1, 0, none⟩), .int .i64 0, z8, z9, .agg #[.slice P1 M1 C1], .int .i64 L1, .bool (decide (13654 < L1)), .bool (decide (13654 < L1)), .agg #[.slice P2 M2 C2], .int .i64 L2, .bool (decide (13654 < L2)), .bool (decide (13654 < L1) || decide (13654 < L2)), undef, t19, t20, t21, t22, undef, undef, undef, undef, undef, undef, undef, undef, undef, undef, undef, undef, undef, undef], []⟩ ∧ ((listed = #[y0, y1, y2, y3, false, false] ∧ WT3 w2 x (.agg #[.slice P1 M1 C1]) (.string s) (.agg #[.slice P2 M2 C2]) (.string t) y0 y1 y2 y3 t19 t20 t21 t22 ∧ z8 = undef ∧ z9 = undef) ∨ (listed = #[true, true, true, true, true, false] ∧ t20 = .string s ∧ t22 = .string t ∧ z8 = .string s ∧ z9 = undef ∧ Below w2.heap.size w2 x) ∨ (listed = #[true, true, true, true, true, true] ∧ t20 = .string s ∧ t22 = .string t ∧ z8 = .string s ∧ z9 = .string t ∧ Below w2.heap.size w2 x))) ?_ ?_ _ _ _ _ (by decide) ?_)
    · rintro listed a x i ⟨y0, y1, y2, y3, t19, t20, t21, t22, z8, z9, rfl, h⟩ hi
      have hr : i < 6 := List.mem_range.1 (List.mem_filter.1 hi).1
      have hc := (List.mem_filter.1 hi).2
      rcases h with ⟨rfl, h⟩ | ⟨rfl, h⟩ | ⟨rfl, h⟩
      · rcases (show i = 0 ∨ i = 1 ∨ i = 2 ∨ i = 3 ∨ i = 4 ∨ i = 5 by omega) with rfl | rfl | rfl | rfl | rfl | rfl
        · obtain ⟨h, rfl, rfl⟩ := h
          clear hc hi
          have kd := (KX2.below h.bel).1
          refine wpOp_step rfl (fun K hK0 => ?_)
          have hK : Hid _ := hK0
          clear hK0
          rw [if_pos (by rfl)]
          go_wp2_with fail
          exact hK.out _ _ ⟨true, y1, y2, y3, .agg #[.slice P1 M1 C1], t20, t21, t22, undef, undef, rfl, Or.inl ⟨rfl, ⟨{ h with o0 := fun _ => rfl }, rfl, rfl⟩⟩⟩
        · obtain ⟨h, rfl, rfl⟩ := h
          have e0 : y0 = true := by
            revert hc
            cases y0 <;> simp [Region.binds]
          have r0 := h.o0 e0
          subst r0
          clear hc hi
          refine wpOp_step rfl (fun K hK0 => ?_)
          have hK : Hid _ := hK0
          clear hK0
          rw [if_pos (by rfl)]
          go_wp2_with (first | (go_at_call 27; go_must (refine (T1 x (bel' p2 h.bel)).mono ?_; rintro e x2 ⟨rfl, bb⟩)) | fail)
          exact hK.out _ _ ⟨y0, true, y2, y3, _, _, t21, t22, undef, undef, rfl, Or.inl ⟨rfl, ⟨{ h.grow bb with o1 := fun _ => rfl }, rfl, rfl⟩⟩⟩
        · obtain ⟨h, rfl, rfl⟩ := h
          clear hc hi
          have kd := (KY2.below h.bel).1
          refine wpOp_step rfl (fun K hK0 => ?_)
          have hK : Hid _ := hK0
          clear hK0
          rw [if_pos (by rfl)]
          go_wp2_with fail
          exact hK.out _ _ ⟨y0, y1, true, y3, t19, t20, .agg #[.slice P2 M2 C2], t22, undef, undef, rfl, Or.inl ⟨rfl, ⟨{ h with o2 := fun _ => rfl, d3_2 := fun _ => rfl }, rfl, rfl⟩⟩⟩
        · obtain ⟨h, rfl, rfl⟩ := h
          have e2 : y2 = true := by
            revert hc
            cases y2 <;> simp [Region.binds]
          have r2 := h.o2 e2
          subst r2
          clear hc hi
          refine wpOp_step rfl (fun K hK0 => ?_)
          have hK : Hid _ := hK0
          clear hK0
          rw [if_pos (by rfl)]
          go_wp2_with (first | (go_at_call 27; go_must (refine (T2 x (bel' p2 h.bel)).mono ?_; rintro e x2 ⟨rfl, bb⟩)) | fail)
          exact hK.out _ _ ⟨y0, y1, y2, true, t19, t20, _, _, undef, undef, rfl, Or.inl ⟨rfl, ⟨{ h.grow bb with o3 := fun _ => rfl, d3_2 := fun _ => e2 }, rfl, rfl⟩⟩⟩
        · obtain ⟨h, rfl, rfl⟩ := h
          have e0 : y0 = true := by
            revert hc
            cases y0 <;> simp [Region.binds]
          have e1 : y1 = true := by
            revert hc
            cases y1 <;> simp [Region.binds]
          have e3 : y3 = true := by
            revert hc
            cases y3 <;> simp [Region.binds]
          have e2 := h.d3_2 e3
          have r1 := h.o1 e1
          subst r1
          have r3 := h.o3 e3
          subst r3
          clear hc hi
          subst e0 e1 e2 e3
          have bl := h.bel
          clear h
          refine wpOp_step rfl (fun K hK0 => ?_)
          have hK : Hid _ := hK0
          clear hK0
          rw [if_pos (by rfl)]
          go_wp2_with fail
          exact hK.out _ _ ⟨true, true, true, true, t19, _, t21, _, _, _, rfl, Or.inr (Or.inl ⟨rfl, rfl, rfl, rfl, rfl, bl⟩)⟩
        · simp [Region.binds] at hc
      · rcases (show i = 0 ∨ i = 1 ∨ i = 2 ∨ i = 3 ∨ i = 4 ∨ i = 5 by omega) with rfl | rfl | rfl | rfl | rfl | rfl
        · simp at hc
        · simp at hc
        · simp at hc
        · simp at hc
        · simp at hc
        · clear hc hi
          obtain ⟨rfl, rfl, rfl, rfl, bl⟩ := h
          refine wpOp_step rfl (fun K hK0 => ?_)
          have hK : Hid _ := hK0
          clear hK0
          rw [if_pos (by rfl)]
          go_wp2_with fail
          exact hK.out _ _ ⟨true, true, true, true, _, _, _, _, _, _, rfl, Or.inr (Or.inr (⟨rfl, rfl, rfl, rfl, rfl, bl⟩))⟩
      · rcases (show i = 0 ∨ i = 1 ∨ i = 2 ∨ i = 3 ∨ i = 4 ∨ i = 5 by omega) with rfl | rfl | rfl | rfl | rfl | rfl <;> simp at hc
    · rintro listed a x ⟨y0, y1, y2, y3, t19, t20, t21, t22, z8, z9, rfl, h⟩ hn
      have al := all_listed (by decide +kernel) hn
      rcases h with ⟨rfl, h⟩ | ⟨rfl, h⟩ | ⟨rfl, h⟩
      · have z := al 4 (by decide)
        simp at z
      · have z := al 5 (by decide)
        simp at z
      · obtain ⟨rfl, rfl, rfl, rfl, bl⟩ := h
        refine hJ _ _ ?_
        go_meet
        case rel => exact ⟨rfl, rfl, bl⟩
    · exact ⟨false, false, false, false, undef, undef, undef, undef, undef, undef, rfl, Or.inl ⟨rfl, ⟨{ bel := (Below.refl _ _).drew, o0 := (by intro q; cases q), o1 := (by intro q; cases q), o2 := (by intro q; cases q), o3 := (by intro q; cases q), d3_2 := (by intro q; cases q) }, rfl, rfl⟩⟩⟩
  case rest =>
    obtain ⟨rfl, rfl, b3⟩ := hcut
    have p3 := bel' p2 b3
    have KR3 := KR2.below b3 KR2.lt
    have kr0 := KR3.at 0
    have kr1 := KR3.at 1
    have kf0 := KR3.free 0
    have kf1 := KR3.free 1
    simp at kr0 kr1
    clear T1 T2 KX2 KY2 KR2 p2 b3
    go_wp2_with fail
    rename World => wc
    have KE := bput (bput KR3 0 (.string ⟨#[]⟩)) 1 (.string ⟨#[]⟩)
    have bE := (p3.setCell (p := ⟨w.heap.size + 1 + 1, 0, none⟩) (show w.heap.size ≤ w.heap.size + 1 + 1 by omega) (.string ⟨#[]⟩)).setCell (p := ⟨w.heap.size + 1 + 1, 1, none⟩) (show w.heap.size ≤ w.heap.size + 1 + 1 by omega) (.string ⟨#[]⟩)
    generalize (wc.setCell ⟨w.heap.size + 1 + 1, 0, none⟩ (.string ⟨#[]⟩)).setCell ⟨w.heap.size + 1 + 1, 1, none⟩ (.string ⟨#[]⟩) = WE at *
    have z0 := KE.at 0
    have z1 := KE.at 1
    simp at z0 z1
    exact bodyPost_ret (v := .tuple #[.agg #[.string ⟨#[]⟩, .string ⟨#[]⟩], .int .i64 3]) (by simp [results, Tryz.results34, go_sem, z0, z1]) rfl ⟨rfl, bE⟩
set_option maxHeartbeats 1600000 in
set_option maxRecDepth 100000 in
theorem Write_many2 (g : Bool) (P1 P2 : Option Addr) (M1 C1 M2 C2 : Nat) (s t : ByteArray) (L1 L2 : Int) (w : World) (l1 : L1 ≤ 13654) (l2 : L2 ≤ 13654) (s1 : s.size ≤ 4096) (s2 : 4096 < t.size)
    (T1 : ∀ x, Below w.heap.size w x → Calls Tryz.prog 27 #[.agg #[.slice P1 M1 C1]] x fun e w' => e = .returned (.string s) ∧ Below x.heap.size x w')
    (T2 : ∀ x, Below w.heap.size w x → Calls Tryz.prog 27 #[.agg #[.slice P2 M2 C2]] x fun e w' => e = .returned (.string t) ∧ Below x.heap.size x w')
    (B1 : ∀ x, Below w.heap.size w x → Calls Tryz.prog 71 #[.agg #[.slice P1 M1 C1]] x fun e w' => e = .returned (.int .i64 L1) ∧ Below x.heap.size x w')
    (B2 : ∀ x, Below w.heap.size w x → Calls Tryz.prog 71 #[.agg #[.slice P2 M2 C2]] x fun e w' => e = .returned (.int .i64 L2) ∧ Below x.heap.size x w') :
    Calls Tryz.prog 34 #[.bool g, .agg #[.slice P1 M1 C1], .agg #[.slice P2 M2 C2]] w fun e w' => e = .returned (.tuple #[.agg #[.string ⟨#[]⟩, .string ⟨#[]⟩], .int .i64 3]) ∧ Below w.heap.size w w' := by
  have KX := ((Bx.new w (.slice P1 M1 C1) 39).alloc (.cells #[.slice P2 M2 C2] 39)).alloc (.cells #[.string ⟨#[]⟩, .string ⟨#[]⟩] 23)
  have KY := (Bx.new (w.alloc (.cells #[.slice P1 M1 C1] 39)) (.slice P2 M2 C2) 39).alloc (.cells #[.string ⟨#[]⟩, .string ⟨#[]⟩] 23)
  have KR := Blk.new ((w.alloc (.cells #[.slice P1 M1 C1] 39)).alloc (.cells #[.slice P2 M2 C2] 39)) #[.string ⟨#[]⟩, .string ⟨#[]⟩] 23
  simp only [World.size_alloc] at KY KR
  have pr : Below w.heap.size w (((w.alloc (.cells #[.slice P1 M1 C1] 39)).alloc (.cells #[.slice P2 M2 C2] 39)).alloc (.cells #[.string ⟨#[]⟩, .string ⟨#[]⟩] 23)) := (((Below.refl _ _).alloc (Nat.le_refl _) _).alloc (by simp) _).alloc (by simp; omega) _
  have s1' : (s.size : Int) ≤ 4096 := by omega
  have s2' : (4096 : Int) < (t.size : Int) := by omega
  go_enter Tryz.func34, Tryz.ntmps34
  go_wp2_with fail
  generalize ((w.alloc (.cells #[.slice P1 M1 C1] 39)).alloc (.cells #[.slice P2 M2 C2] 39)).alloc (.cells #[.string ⟨#[]⟩, .string ⟨#[]⟩] 23) = W0 at *
  have kx := KX.1
  have ky := KY.1
  go_wp2_with (first
    | (go_at_call 71; have q := b1; refine (B2 _ p1).mono ?_; rintro e w2 ⟨rfl, b2⟩; have p2 := bel' p1 b2; have KX2 := KX1.below b2; have KY2 := KY1.below b2; have KR2 := KR1.below b2 KR1.lt)
    | (go_at_call 71; refine (B1 _ pr).mono ?_; rintro e w1 ⟨rfl, b1⟩; have p1 := bel' pr b1; have KX1 := KX.below b1; have KY1 := KY.below b1; have ky1 := KY1.1; have KR1 := KR.below b1 KR.lt)
    | fail)
  clear KX KY KR KX1 KY1 KR1 kx ky ky1 B1 B2 b1 b2 p1 pr
  go_cut [8, 9] from 19 to 22 (fun x y wc => x = .string s ∧ y = .string t ∧ Below w2.heap.size w2 wc)
  case first =>
    rename_i hm hJ
    refine wp_region_held (S := fun _ => True) (by kernel_rfl) (any_inv (fun listed a x => ∃ (y0 y1 y2 y3 : Bool) (t19 t20 t21 t22 : Value) (z8 z9 : Value), a = ⟨#[.bool g, .agg #[.slice P1 M1 C1], .agg #[.slice P2 M2 C2], undef, .pointer (some ⟨w.heap.size, 0, none⟩), .pointer (some ⟨w.heap.size + 1, 0, none⟩), .pointer (some ⟨w.heap.size + 1 + 1, 0, none⟩), .int .i64 0, z8, z9, .agg #[.slice P1 M1 C1], .int .i64 L1, .bool (decide (13654 < L1)), .bool (decide (13654 < L1)), .agg #[.slice P2 M2 C2], .int .i64 L2, .bool (decide (13654 < L2)), .bool (decide (13654 < L1) || decide (13654 < L2)), undef, t19, t20, t21, t22, undef, undef, undef, undef, undef, undef, undef, undef, undef, undef, undef, undef, undef, undef], []⟩ ∧ ((listed = #[y0, y1, y2, y3, false, false] ∧ WT3 w2 x (.agg #[.slice P1 M1 C1]) (.string s) (.agg #[.slice P2 M2 C2]) (.string t) y0 y1 y2 y3 t19 t20 t21 t22 ∧ z8 = undef ∧ z9 = undef) ∨ (listed = #[true, true, true, true, true, false] ∧ t20 = .string s ∧ t22 = .string t ∧ z8 = .string s ∧ z9 = undef ∧ Below w2.heap.size w2 x) ∨ (listed = #[true, true, true, true, true, true] ∧ t20 = .string s ∧ t22 = .string t ∧ z8 = .string s ∧ z9 = .string t ∧ Below w2.heap.size w2 x))) ?_ ?_ _ _ _ _ (by decide) ?_)
    · rintro listed a x i ⟨y0, y1, y2, y3, t19, t20, t21, t22, z8, z9, rfl, h⟩ hi
      have hr : i < 6 := List.mem_range.1 (List.mem_filter.1 hi).1
      have hc := (List.mem_filter.1 hi).2
      rcases h with ⟨rfl, h⟩ | ⟨rfl, h⟩ | ⟨rfl, h⟩
      · rcases (show i = 0 ∨ i = 1 ∨ i = 2 ∨ i = 3 ∨ i = 4 ∨ i = 5 by omega) with rfl | rfl | rfl | rfl | rfl | rfl
        · obtain ⟨h, rfl, rfl⟩ := h
          clear hc hi
          have kd := (KX2.below h.bel).1
          refine wpOp_step rfl (fun K hK0 => ?_)
          have hK : Hid _ := hK0
          clear hK0
          rw [if_pos (by rfl)]
          go_wp2_with fail
          exact hK.out _ _ ⟨true, y1, y2, y3, .agg #[.slice P1 M1 C1], t20, t21, t22, undef, undef, rfl, Or.inl ⟨rfl, ⟨{ h with o0 := fun _ => rfl }, rfl, rfl⟩⟩⟩
        · obtain ⟨h, rfl, rfl⟩ := h
          have e0 : y0 = true := by
            revert hc
            cases y0 <;> simp [Region.binds]
          have r0 := h.o0 e0
          subst r0
          clear hc hi
          refine wpOp_step rfl (fun K hK0 => ?_)
          have hK : Hid _ := hK0
          clear hK0
          rw [if_pos (by rfl)]
          go_wp2_with (first | (go_at_call 27; go_must (refine (T1 x (bel' p2 h.bel)).mono ?_; rintro e x2 ⟨rfl, bb⟩)) | fail)
          exact hK.out _ _ ⟨y0, true, y2, y3, _, _, t21, t22, undef, undef, rfl, Or.inl ⟨rfl, ⟨{ h.grow bb with o1 := fun _ => rfl }, rfl, rfl⟩⟩⟩
        · obtain ⟨h, rfl, rfl⟩ := h
          clear hc hi
          have kd := (KY2.below h.bel).1
          refine wpOp_step rfl (fun K hK0 => ?_)
          have hK : Hid _ := hK0
          clear hK0
          rw [if_pos (by rfl)]
          go_wp2_with fail
          exact hK.out _ _ ⟨y0, y1, true, y3, t19, t20, .agg #[.slice P2 M2 C2], t22, undef, undef, rfl, Or.inl ⟨rfl, ⟨{ h with o2 := fun _ => rfl, d3_2 := fun _ => rfl }, rfl, rfl⟩⟩⟩
        · obtain ⟨h, rfl, rfl⟩ := h
          have e2 : y2 = true := by
            revert hc
            cases y2 <;> simp [Region.binds]
          have r2 := h.o2 e2
          subst r2
          clear hc hi
          refine wpOp_step rfl (fun K hK0 => ?_)
          have hK : Hid _ := hK0
          clear hK0
          rw [if_pos (by rfl)]
          go_wp2_with (first | (go_at_call 27; go_must (refine (T2 x (bel' p2 h.bel)).mono ?_; rintro e x2 ⟨rfl, bb⟩)) | fail)
          exact hK.out _ _ ⟨y0, y1, y2, true, t19, t20, _, _, undef, undef, rfl, Or.inl ⟨rfl, ⟨{ h.grow bb with o3 := fun _ => rfl, d3_2 := fun _ => e2 }, rfl, rfl⟩⟩⟩
        · obtain ⟨h, rfl, rfl⟩ := h
          have e0 : y0 = true := by
            revert hc
            cases y0 <;> simp [Region.binds]
          have e1 : y1 = true := by
            revert hc
            cases y1 <;> simp [Region.binds]
          have e3 : y3 = true := by
            revert hc
            cases y3 <;> simp [Region.binds]
          have e2 := h.d3_2 e3
          have r1 := h.o1 e1
          subst r1
          have r3 := h.o3 e3
          subst r3
          clear hc hi
          subst e0 e1 e2 e3
          have bl := h.bel
          clear h
          refine wpOp_step rfl (fun K hK0 => ?_)
          have hK : Hid _ := hK0
          clear hK0
          rw [if_pos (by rfl)]
          go_wp2_with fail
          exact hK.out _ _ ⟨true, true, true, true, t19, _, t21, _, _, _, rfl, Or.inr (Or.inl ⟨rfl, rfl, rfl, rfl, rfl, bl⟩)⟩
        · simp [Region.binds] at hc
      · rcases (show i = 0 ∨ i = 1 ∨ i = 2 ∨ i = 3 ∨ i = 4 ∨ i = 5 by omega) with rfl | rfl | rfl | rfl | rfl | rfl
        · simp at hc
        · simp at hc
        · simp at hc
        · simp at hc
        · simp at hc
        · clear hc hi
          obtain ⟨rfl, rfl, rfl, rfl, bl⟩ := h
          refine wpOp_step rfl (fun K hK0 => ?_)
          have hK : Hid _ := hK0
          clear hK0
          rw [if_pos (by rfl)]
          go_wp2_with fail
          exact hK.out _ _ ⟨true, true, true, true, _, _, _, _, _, _, rfl, Or.inr (Or.inr (⟨rfl, rfl, rfl, rfl, rfl, bl⟩))⟩
      · rcases (show i = 0 ∨ i = 1 ∨ i = 2 ∨ i = 3 ∨ i = 4 ∨ i = 5 by omega) with rfl | rfl | rfl | rfl | rfl | rfl <;> simp at hc
    · rintro listed a x ⟨y0, y1, y2, y3, t19, t20, t21, t22, z8, z9, rfl, h⟩ hn
      have al := all_listed (by decide +kernel) hn
      rcases h with ⟨rfl, h⟩ | ⟨rfl, h⟩ | ⟨rfl, h⟩
      · have z := al 4 (by decide)
        simp at z
      · have z := al 5 (by decide)
        simp at z
      · obtain ⟨rfl, rfl, rfl, rfl, bl⟩ := h
        refine hJ _ _ ?_
        go_meet
        case rel => exact ⟨rfl, rfl, bl⟩
    · exact ⟨false, false, false, false, undef, undef, undef, undef, undef, undef, rfl, Or.inl ⟨rfl, ⟨{ bel := (Below.refl _ _).drew, o0 := (by intro q; cases q), o1 := (by intro q; cases q), o2 := (by intro q; cases q), o3 := (by intro q; cases q), d3_2 := (by intro q; cases q) }, rfl, rfl⟩⟩⟩
  case rest =>
    obtain ⟨rfl, rfl, b3⟩ := hcut
    have p3 := bel' p2 b3
    have KR3 := KR2.below b3 KR2.lt
    have kr0 := KR3.at 0
    have kr1 := KR3.at 1
    have kf0 := KR3.free 0
    have kf1 := KR3.free 1
    simp at kr0 kr1
    clear T1 T2 KX2 KY2 KR2 p2 b3
    go_wp2_with fail
    rename World => wc
    have KE := bput (bput KR3 0 (.string ⟨#[]⟩)) 1 (.string ⟨#[]⟩)
    have bE := (p3.setCell (p := ⟨w.heap.size + 1 + 1, 0, none⟩) (show w.heap.size ≤ w.heap.size + 1 + 1 by omega) (.string ⟨#[]⟩)).setCell (p := ⟨w.heap.size + 1 + 1, 1, none⟩) (show w.heap.size ≤ w.heap.size + 1 + 1 by omega) (.string ⟨#[]⟩)
    generalize (wc.setCell ⟨w.heap.size + 1 + 1, 0, none⟩ (.string ⟨#[]⟩)).setCell ⟨w.heap.size + 1 + 1, 1, none⟩ (.string ⟨#[]⟩) = WE at *
    have z0 := KE.at 0
    have z1 := KE.at 1
    simp at z0 z1
    exact bodyPost_ret (v := .tuple #[.agg #[.string ⟨#[]⟩, .string ⟨#[]⟩], .int .i64 3]) (by simp [results, Tryz.results34, go_sem, z0, z1]) rfl ⟨rfl, bE⟩
end Go.Proofs.YtpmgbmafibkgnaaGreatDoor.Mo
