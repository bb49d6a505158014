import Derived.Test.YtfalncbcomlelaaGreatDoorRt1
namespace Go.Proofs.YtfalncbcomlelaaGreatDoor.Mo
open Go.RowKit Fu Tn Go.Lib Dc

/-- readTwo of two right numbers, as they are written. -/
theorem readTwo_p (r s : Rat) (w : World) (l1 : (decDigits r.num.natAbs).length ≤ 4096) (l2 : (decDigits r.den).length ≤ 4096) (l3 : (decDigits s.num.natAbs).length ≤ 4096) (l4 : (decDigits s.den).length ≤ 4096) :
    Calls Tryz.prog 39 #[wrt r, wrt s] w fun e w' => ∃ (a : (Option Addr × Option Addr) × (Option Addr × Option Addr)) (l c : (Nat × Nat) × (Nat × Nat)), e = .returned (.tuple #[.agg #[.bool (decide (r.num < 0)), .slice a.1.1 l.1.1 c.1.1, .slice a.1.2 l.1.2 c.1.2], .agg #[.bool (decide (s.num < 0)), .slice a.2.1 l.2.1 c.2.1, .slice a.2.2 l.2.2 c.2.2], .int .i64 0]) ∧ ((Nn w' a.1.1 l.1.1 c.1.1 (r.num.natAbs : Int) ∧ Nn w' a.1.2 l.1.2 c.1.2 (r.den : Int)) ∧ (Nn w' a.2.1 l.2.1 c.2.1 (s.num.natAbs : Int) ∧ Nn w' a.2.2 l.2.2 c.2.2 (s.den : Int))) ∧ Below w.heap.size w w' := by
  have C : ∀ (r : Rat), (decDigits r.num.natAbs).length ≤ 4096 → (decDigits r.den).length ≤ 4096 → ∀ x, Calls Tryz.prog 23 #[wrt r] x fun e w' => ∃ (a : Option Addr × Option Addr) (l c : Nat × Nat), e = .returned (.tuple #[.agg #[.bool (decide (r.num < 0)), .slice a.1 l.1 c.1, .slice a.2 l.2 c.2], .int .i64 0]) ∧ (Nn w' a.1 l.1 c.1 (r.num.natAbs : Int) ∧ Nn w' a.2 l.2 c.2 (r.den : Int)) ∧ Below x.heap.size x w' := fun r l1 l2 x => by
    refine (Read_p r x l1 l2).mono ?_
    rintro e w' ⟨v, rfl, ⟨a, l, c, a', l', c', rfl, k1, k2⟩, b⟩
    exact ⟨(a, a'), (l, l'), (c, c'), rfl, ⟨k1, k2⟩, b⟩
  refine (readTwo_raw _ _ _ _ _ _ _ _ _ _ w (fun x _ => C r l1 l2 x) (fun x _ => C s l3 l4 x)).mono ?_
  rintro e w' ⟨pa, pl, pc, qa, ql, qc, rfl, h1, h2, b⟩
  exact ⟨(pa, qa), (pl, ql), (pc, qc), rfl, ⟨h1, h2⟩, b⟩
set_option maxHeartbeats 3200000 in
set_option maxRecDepth 100000 in
theorem Add_raw (s1 t1 s2 t2 u v : ByteArray) (g1 g2 : Bool) (O1 D1 O2 D2 : Int) (er : Int) (w : World)
    (CR' : ∀ x, Below w.heap.size w x → Calls Tryz.prog 39 #[.agg #[.string s1, .string t1], .agg #[.string s2, .string t2]] x fun e w' => ∃ (a : (Option Addr × Option Addr) × (Option Addr × Option Addr)) (l c : (Nat × Nat) × (Nat × Nat)), e = .returned (.tuple #[.agg #[.bool g1, .slice a.1.1 l.1.1 c.1.1, .slice a.1.2 l.1.2 c.1.2], .agg #[.bool g2, .slice a.2.1 l.2.1 c.2.1, .slice a.2.2 l.2.2 c.2.2], .int .i64 0]) ∧ ((Nn w' a.1.1 l.1.1 c.1.1 O1 ∧ Nn w' a.1.2 l.1.2 c.1.2 D1) ∧ (Nn w' a.2.1 l.2.1 c.2.1 O2 ∧ Nn w' a.2.2 l.2.2 c.2.2 D2)) ∧ Below x.heap.size x w')
    (CP : ∀ x (a : (Option Addr × Option Addr) × (Option Addr × Option Addr)) (l c : (Nat × Nat) × (Nat × Nat)), Below w.heap.size w x → (Nn x a.1.1 l.1.1 c.1.1 O1 ∧ Nn x a.1.2 l.1.2 c.1.2 D1) → (Nn x a.2.1 l.2.1 c.2.1 O2 ∧ Nn x a.2.2 l.2.2 c.2.2 D2) → Calls Tryz.prog 40 #[.agg #[.bool g1, .slice a.1.1 l.1.1 c.1.1, .slice a.1.2 l.1.2 c.1.2], .agg #[.bool g2, .slice a.2.1 l.2.1 c.2.1, .slice a.2.2 l.2.2 c.2.2]] x fun e w' => ∃ y, e = .returned y ∧ (∀ z, Below w'.heap.size w' z → Calls Tryz.prog 25 #[y] z fun e w2 => e = .returned (.tuple #[.agg #[.string u, .string v], .int .i64 er]) ∧ Below z.heap.size z w2) ∧ Below x.heap.size x w') :
    Calls Tryz.prog 11 #[.agg #[.string s1, .string t1], .agg #[.string s2, .string t2]] w fun e w' => e = .returned (.tuple #[.agg #[.string u, .string v], .int .i64 er]) ∧ Below w.heap.size w w' := by
  have KA := ((Blk.new w #[.string s1, .string t1] 23).alloc (.cells #[.string s2, .string t2] 23)).alloc (.cells #[.string ⟨#[]⟩, .string ⟨#[]⟩] 23)
  have KB := (Blk.new (w.alloc (.cells #[.string s1, .string t1] 23)) #[.string s2, .string t2] 23).alloc (.cells #[.string ⟨#[]⟩, .string ⟨#[]⟩] 23)
  have KR := Blk.new ((w.alloc (.cells #[.string s1, .string t1] 23)).alloc (.cells #[.string s2, .string t2] 23)) #[.string ⟨#[]⟩, .string ⟨#[]⟩] 23
  simp only [World.size_alloc] at KB KR
  have pr : Below w.heap.size w (((w.alloc (.cells #[.string s1, .string t1] 23)).alloc (.cells #[.string s2, .string t2] 23)).alloc (.cells #[.string ⟨#[]⟩, .string ⟨#[]⟩] 23)) := (((Below.refl _ _).alloc (Nat.le_refl _) _).alloc (by simp) _).alloc (by simp; omega) _
  go_enter Tryz.func11, Tryz.ntmps11
  go_wp2_with fail
  have ka0 := KA.at 0
  have ka1 := KA.at 1
  have kb0 := KB.at 0
  have kb1 := KB.at 1
  simp at ka0 ka1 kb0 kb1
  generalize (((w.alloc (.cells #[.string s1, .string t1] 23)).alloc (.cells #[.string s2, .string t2] 23)).alloc (.cells #[.string ⟨#[]⟩, .string ⟨#[]⟩] 23)) = W at *
  go_wp2_with (first
    | (go_at_call 39; go_must (refine (CR' _ pr).mono ?_; rintro e w1 ⟨p, q, r, rfl, H, b1⟩; (have al := (((Below.refl w1.heap.size w1).alloc (Nat.le_refl _) (.cells #[.bool g1, .slice p.1.1 q.1.1 r.1.1, .slice p.1.2 q.1.2 r.1.2] 58)).alloc (by simp) (.cells #[.bool g2, .slice p.2.1 q.2.1 r.2.1, .slice p.2.2 q.2.2 r.2.2] 58))); (have b2 := bel' b1 al); (have pB := bel' pr b2); (have n1 := (⟨H.1.1.grow al, H.1.2.grow al⟩ : _ ∧ _)); (have n2 := (⟨H.2.1.grow al, H.2.2.grow al⟩ : _ ∧ _)); (have KR1 := KR.below b2 KR.lt)))
    | (go_at_call 40; go_must (refine (CP _ p q r pB n1 n2).mono ?_; rintro e w3 ⟨y, rfl, CY, b3⟩))
    | (go_at_call 25; go_must (refine (CY _ (Below.refl _ _)).mono ?_; rintro e w4 ⟨rfl, b4⟩; (have b5 := bel' b3 b4); (have KR2 := KR1.below b5 KR1.lt); (have m0 := KR2.at 0); (have m1 := KR2.at 1); (have m2 := KR2.free 0); (have m3 := KR2.free 1); (simp at m0 m1)))
    | fail)
  have kE : Blk ((w4.setCell ⟨w.heap.size + 1 + 1, 0, none⟩ (.string u)).setCell ⟨w.heap.size + 1 + 1, 1, none⟩ (.string v)) (w.heap.size + 1 + 1) #[.string u, .string v] 23 := bput (bput KR2 0 _) 1 _
  have bE : Below w.heap.size w ((w4.setCell ⟨w.heap.size + 1 + 1, 0, none⟩ (.string u)).setCell ⟨w.heap.size + 1 + 1, 1, none⟩ (.string v)) := ((bel' pB b5).setCell (p := ⟨w.heap.size + 1 + 1, 0, none⟩) (by show w.heap.size ≤ w.heap.size + 1 + 1; omega) _).setCell (p := ⟨w.heap.size + 1 + 1, 1, none⟩) (by show w.heap.size ≤ w.heap.size + 1 + 1; omega) _
  generalize (w4.setCell ⟨w.heap.size + 1 + 1, 0, none⟩ (.string u)).setCell ⟨w.heap.size + 1 + 1, 1, none⟩ (.string v) = WE at *
  have r0 := kE.at 0
  have r1 := kE.at 1
  simp at r0 r1
  exact bodyPost_ret (v := .tuple #[.agg #[.string u, .string v], .int .i64 er]) (by simp [results, Tryz.results11, go_sem, r0, r1]) rfl ⟨rfl, bE⟩
end Go.Proofs.YtfalncbcomlelaaGreatDoor.Mo
