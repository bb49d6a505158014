import Derived.Test.YtbfamafajefapaaGreatDoorPart44
import Derived.Test.YtbfamafajefapaaGreatDoorPart38
import Derived.Test.YtbfamafajefapaaGreatDoorPart39
import Derived.Test.YtbfamafajefapaaGreatDoorPart35
import Derived.Lib.SmallJoins

namespace Go.Proofs.YtbfamafajefapaaGreatDoor.Mo
open Go.RowKit Fu Tn Go.Lib Dc

/-- readTwo of two right numbers, as they are written. -/
theorem readTwo_p (r s : Rat) (w : World) (l1 : (decDigits r.num.natAbs).length ≤ 4096) (l2 : (decDigits r.den).length ≤ 4096) (l3 : (decDigits s.num.natAbs).length ≤ 4096) (l4 : (decDigits s.den).length ≤ 4096) :
    Calls Tryz.prog 52 #[wrt r, wrt s] w fun e w' => ∃ (a : (Option Addr × Option Addr) × (Option Addr × Option Addr)) (l c : (Nat × Nat) × (Nat × Nat)), e = .returned (.tuple #[.agg #[.bool (decide (r.num < 0)), .slice a.1.1 l.1.1 c.1.1, .slice a.1.2 l.1.2 c.1.2], .agg #[.bool (decide (s.num < 0)), .slice a.2.1 l.2.1 c.2.1, .slice a.2.2 l.2.2 c.2.2], .int .i64 0]) ∧ ((Nn w' a.1.1 l.1.1 c.1.1 (r.num.natAbs : Int) ∧ Nn w' a.1.2 l.1.2 c.1.2 (r.den : Int)) ∧ (Nn w' a.2.1 l.2.1 c.2.1 (s.num.natAbs : Int) ∧ Nn w' a.2.2 l.2.2 c.2.2 (s.den : Int))) ∧ Below w.heap.size w w' := by
  have C : ∀ (r : Rat), (decDigits r.num.natAbs).length ≤ 4096 → (decDigits r.den).length ≤ 4096 → ∀ x, Calls Tryz.prog 32 #[wrt r] x fun e w' => ∃ (a : Option Addr × Option Addr) (l c : Nat × Nat), e = .returned (.tuple #[.agg #[.bool (decide (r.num < 0)), .slice a.1 l.1 c.1, .slice a.2 l.2 c.2], .int .i64 0]) ∧ (Nn w' a.1 l.1 c.1 (r.num.natAbs : Int) ∧ Nn w' a.2 l.2 c.2 (r.den : Int)) ∧ Below x.heap.size x w' := fun r l1 l2 x => by
    refine (Read_p r x l1 l2).mono ?_
    rintro e w' ⟨v, rfl, ⟨a, l, c, a', l', c', rfl, k1, k2⟩, b⟩
    exact ⟨(a, a'), (l, l'), (c, c'), rfl, ⟨k1, k2⟩, b⟩
  refine (readTwo_raw _ _ _ _ _ _ _ _ _ _ w (fun x _ => C r l1 l2 x) (fun x _ => C s l3 l4 x)).mono ?_
  rintro e w' ⟨pa, pl, pc, qa, ql, qc, rfl, h1, h2, b⟩
  exact ⟨(pa, qa), (pl, ql), (pc, qc), rfl, ⟨h1, h2⟩, b⟩
set_option maxHeartbeats 3200000 in
set_option maxRecDepth 100000 in
theorem Add_raw (s1 t1 s2 t2 u v : ByteArray) (g1 g2 : Bool) (O1 D1 O2 D2 : Int) (er : Int) (w : World)
    (CR' : ∀ x, Below w.heap.size w x → Calls Tryz.prog 52 #[.agg #[.string s1, .string t1], .agg #[.string s2, .string t2]] x fun e w' => ∃ (a : (Option Addr × Option Addr) × (Option Addr × Option Addr)) (l c : (Nat × Nat) × (Nat × Nat)), e = .returned (.tuple #[.agg #[.bool g1, .slice a.1.1 l.1.1 c.1.1, .slice a.1.2 l.1.2 c.1.2], .agg #[.bool g2, .slice a.2.1 l.2.1 c.2.1, .slice a.2.2 l.2.2 c.2.2], .int .i64 0]) ∧ ((Nn w' a.1.1 l.1.1 c.1.1 O1 ∧ Nn w' a.1.2 l.1.2 c.1.2 D1) ∧ (Nn w' a.2.1 l.2.1 c.2.1 O2 ∧ Nn w' a.2.2 l.2.2 c.2.2 D2)) ∧ Below x.heap.size x w')
    (CP : ∀ x (a : (Option Addr × Option Addr) × (Option Addr × Option Addr)) (l c : (Nat × Nat) × (Nat × Nat)), Below w.heap.size w x → (Nn x a.1.1 l.1.1 c.1.1 O1 ∧ Nn x a.1.2 l.1.2 c.1.2 D1) → (Nn x a.2.1 l.2.1 c.2.1 O2 ∧ Nn x a.2.2 l.2.2 c.2.2 D2) → Calls Tryz.prog 53 #[.agg #[.bool g1, .slice a.1.1 l.1.1 c.1.1, .slice a.1.2 l.1.2 c.1.2], .agg #[.bool g2, .slice a.2.1 l.2.1 c.2.1, .slice a.2.2 l.2.2 c.2.2]] x fun e w' => ∃ y, e = .returned y ∧ (∀ z, Below w'.heap.size w' z → Calls Tryz.prog 54 #[y] z fun e w2 => e = .returned (.tuple #[.agg #[.string u, .string v], .int .i64 er]) ∧ Below z.heap.size z w2) ∧ Below x.heap.size x w') :
    Calls Tryz.prog 17 #[.agg #[.string s1, .string t1], .agg #[.string s2, .string t2]] w fun e w' => e = .returned (.tuple #[.agg #[.string u, .string v], .int .i64 er]) ∧ Below w.heap.size w w' := by
  have KA := ((Blk.new w #[.string s1, .string t1] 23).alloc (.cells #[.string s2, .string t2] 23)).alloc (.cells #[.string ⟨#[]⟩, .string ⟨#[]⟩] 23)
  have KB := (Blk.new (w.alloc (.cells #[.string s1, .string t1] 23)) #[.string s2, .string t2] 23).alloc (.cells #[.string ⟨#[]⟩, .string ⟨#[]⟩] 23)
  have KR := Blk.new ((w.alloc (.cells #[.string s1, .string t1] 23)).alloc (.cells #[.string s2, .string t2] 23)) #[.string ⟨#[]⟩, .string ⟨#[]⟩] 23
  simp only [World.size_alloc] at KB KR
  have pr : Below w.heap.size w (((w.alloc (.cells #[.string s1, .string t1] 23)).alloc (.cells #[.string s2, .string t2] 23)).alloc (.cells #[.string ⟨#[]⟩, .string ⟨#[]⟩] 23)) := (((Below.refl _ _).alloc (Nat.le_refl _) _).alloc (by simp) _).alloc (by simp; omega) _
  go_enter Tryz.func17, Tryz.ntmps17
  go_wp2_with fail
  have ka0 := KA.at 0
  have ka1 := KA.at 1
  have kb0 := KB.at 0
  have kb1 := KB.at 1
  simp at ka0 ka1 kb0 kb1
  generalize (((w.alloc (.cells #[.string s1, .string t1] 23)).alloc (.cells #[.string s2, .string t2] 23)).alloc (.cells #[.string ⟨#[]⟩, .string ⟨#[]⟩] 23)) = W at *
  go_wp2_with (first
    | (go_at_call 52; go_must (refine (CR' _ pr).mono ?_; rintro e w1 ⟨p, q, r, rfl, H, b1⟩; (have al := (((Below.refl w1.heap.size w1).alloc (Nat.le_refl _) (.cells #[.bool g1, .slice p.1.1 q.1.1 r.1.1, .slice p.1.2 q.1.2 r.1.2] 73)).alloc (by simp) (.cells #[.bool g2, .slice p.2.1 q.2.1 r.2.1, .slice p.2.2 q.2.2 r.2.2] 73))); (have b2 := bel' b1 al); (have pB := bel' pr b2); (have n1 := (⟨H.1.1.grow al, H.1.2.grow al⟩ : _ ∧ _)); (have n2 := (⟨H.2.1.grow al, H.2.2.grow al⟩ : _ ∧ _)); (have KR1 := KR.below b2 KR.lt)))
    | (go_at_call 53; go_must (refine (CP _ p q r pB n1 n2).mono ?_; rintro e w3 ⟨y, rfl, CY, b3⟩))
    | (go_at_call 54; go_must (refine (CY _ (Below.refl _ _)).mono ?_; rintro e w4 ⟨rfl, b4⟩; (have b5 := bel' b3 b4); (have KR2 := KR1.below b5 KR1.lt); (have m0 := KR2.at 0); (have m1 := KR2.at 1); (have m2 := KR2.free 0); (have m3 := KR2.free 1); (simp at m0 m1)))
    | fail)
  have kE : Blk ((w4.setCell ⟨w.heap.size + 1 + 1, 0, none⟩ (.string u)).setCell ⟨w.heap.size + 1 + 1, 1, none⟩ (.string v)) (w.heap.size + 1 + 1) #[.string u, .string v] 23 := bput (bput KR2 0 _) 1 _
  have bE : Below w.heap.size w ((w4.setCell ⟨w.heap.size + 1 + 1, 0, none⟩ (.string u)).setCell ⟨w.heap.size + 1 + 1, 1, none⟩ (.string v)) := ((bel' pB b5).setCell (p := ⟨w.heap.size + 1 + 1, 0, none⟩) (by show w.heap.size ≤ w.heap.size + 1 + 1; omega) _).setCell (p := ⟨w.heap.size + 1 + 1, 1, none⟩) (by show w.heap.size ≤ w.heap.size + 1 + 1; omega) _
  generalize (w4.setCell ⟨w.heap.size + 1 + 1, 0, none⟩ (.string u)).setCell ⟨w.heap.size + 1 + 1, 1, none⟩ (.string v) = WE at *
  have r0 := kE.at 0
  have r1 := kE.at 1
  simp at r0 r1
  exact bodyPost_ret (v := .tuple #[.agg #[.string u, .string v], .int .i64 er]) (by simp [results, Tryz.results17, go_sem, r0, r1]) rfl ⟨rfl, bE⟩
/-- ratio.Add of two numbers whose sum has words of 64 bits. -/
theorem Add_p (r s : Rat) (w : World) (h1 : PS r 1) (h2 : PS s 1) (h3 : PS (r + s) 1) (G : Gw w) :
    Calls Tryz.prog 17 #[wrt r, wrt s] w fun e w' => e = .returned (.tuple #[wrt (r + s), .int .i64 0]) ∧ Below w.heap.size w w' := by
  have L : ∀ n : Nat, (n : Int) < pw 1 → (decDigits n).length ≤ 4096 := fun n h => by
    have p1 : pw 1 = 18446744073709551616 := by decide
    have := dec20 (V := n) (by omega)
    omega
  refine Add_raw _ _ _ _ _ _ _ _ _ _ _ _ 0 w (fun x _ => readTwo_p r s x (L _ h1.1) (L _ h1.2) (L _ h2.1) (L _ h2.2)) ?_
  intro x a l c b n1 n2
  refine (Plus_p _ _ r s 1 1 x ⟨_, _, _, _, _, _, rfl, n1.1, n1.2⟩ ⟨_, _, _, _, _, _, rfl, n2.1, n2.2⟩ h1 h2 (by unfold MulOK; omega) (by omega)).mono ?_
  rintro e w' ⟨y, rfl, hy, b'⟩
  exact ⟨y, rfl, fun z bz => Ratio_one y (r + s) z (hy.grow bz) h3 (G.grow (bel' (bel' b b') bz)), b'⟩
end Go.Proofs.YtbfamafajefapaaGreatDoor.Mo

namespace Go.Proofs.YtbfamafajefapaaGreatDoor.Dy
open Go.RowKit Tn Mo Go.Lib

theorem pq_add (how D D' L L' B B' : Int) (h : how = 1 ∨ how = 2 ∨ how = 3) : pq how D L B + pq how D' L' B' = pq how (D + D') (L + L') (B + B') := by
  rcases h with rfl | rfl | rfl
  · unfold pq
    simp only [if_true]
    rw [Rat.intCast_add]
    grind
  · unfold pq
    rw [if_neg (by decide), if_pos rfl, if_neg (by decide), if_pos rfl, if_neg (by decide), if_pos rfl, Rat.intCast_add]
    grind
  · unfold pq
    rw [if_neg (by decide), if_neg (by decide), if_pos rfl, if_neg (by decide), if_neg (by decide), if_pos rfl, if_neg (by decide), if_neg (by decide), if_pos rfl]
    rw [show D + D' - (L + L') = (D - L) + (D' - L') by omega, Rat.intCast_add, Rat.intCast_add]
    grind
theorem pq_small (how D L B : Int) (h : how = 1 ∨ how = 2 ∨ how = 3) (hD : D.natAbs ≤ 100000000) (hL : L.natAbs ≤ 100000000) : PS (pq how D L B) 1 := by
  have Q : ∀ p q : Int, q ≠ 0 → p.natAbs < 18446744073709551616 → q.natAbs < 18446744073709551616 → PS ((p : Rat) / (q : Rat)) 1 := fun p q a b c => by
    rw [Rat.div_def]
    exact quot_small p q a b c
  rcases h with rfl | rfl | rfl
  · unfold pq
    rw [if_pos rfl]
    exact Q D 365 (by decide) (by omega) (by decide)
  · unfold pq
    rw [if_neg (by decide), if_pos rfl]
    exact Q D 360 (by decide) (by omega) (by decide)
  · unfold pq
    rw [if_neg (by decide), if_neg (by decide), if_pos rfl]
    have e := qyears L (D - L)
    have := Q (L * 365 + (D - L) * 366) 133590 (by decide) (by omega) (by decide)
    rw [e] at this
    exact this
theorem lv_next (y : Int) : lv (y + 1) = lv y + (if lp y then 1 else 0) ∧ hd (y + 1) = hd y + (if lp y then 366 else 365) := by
  unfold lv hd
  cases c : lp y
  · have c' : ¬ ((y % 4 = 0 ∧ ¬ y % 100 = 0) ∨ y % 400 = 0) := by
      intro q
      have : lp y = true := by unfold lp; simpa using q
      rw [this] at c; cases c
    simp only [Bool.false_eq_true, if_false]
    omega
  · have c' : (y % 4 = 0 ∧ ¬ y % 100 = 0) ∨ y % 400 = 0 := by unfold lp at c; simpa using c
    simp only [if_true]
    omega
theorem cu_1 (l : Bool) : cu l 1 = 0 := by cases l <;> decide
theorem one_year (y : Int) : pq 3 (num (y + 1) 1 1 - num y 1 1) (la (y + 1) 1 1 - la y 1 1) (ba (y + 1) 1 1 - ba y 1 1) = 1 := by
  obtain ⟨e1, e2⟩ := lv_next y
  have eD : num (y + 1) 1 1 - num y 1 1 = if lp y then 366 else 365 := by
    unfold num
    rw [cu_1, cu_1, e2]
    omega
  have eL : la (y + 1) 1 1 - la y 1 1 = if lp y then 366 else 0 := by
    unfold la
    rw [cu_1, cu_1, e1]
    split <;> split <;> omega
  rw [eD, eL]
  unfold pq
  rw [if_neg (by decide), if_neg (by decide), if_pos rfl]
  cases lp y
  · simp only [Bool.false_eq_true, if_false]
    show ((0 : Int) : Rat) / 366 + ((365 : Int) : Rat) / 365 = 1
    have a : ((365 : Int) : Rat) = 365 := rfl
    have b : ((0 : Int) : Rat) = 0 := rfl
    rw [a, b]
    grind
  · simp only [if_true]
    show ((366 : Int) : Rat) / 366 + ((366 - 366 : Int) : Rat) / 365 = 1
    have a : ((366 : Int) : Rat) = 366 := rfl
    have b : ((366 - 366 : Int) : Rat) = 0 := rfl
    rw [a, b]
    grind
theorem wrt_one : wrt 1 = .agg #[.string ⟨#[49]⟩, .string ⟨#[49]⟩] := by
  unfold wrt
  have h1 : (1 : Rat).num = 1 := rfl
  have h2 : (1 : Rat).den = 1 := rfl
  rw [h1, h2]
  have d : decDigits 1 = [49] := by
    obtain ⟨c, t, e, h, _⟩ := dec_cons 1
    obtain ⟨rfl, hc⟩ := h (by decide)
    rw [e]
    congr 1
    apply UInt8.toNat_inj.1
    rw [hc]; rfl
  have e : decDigits (1 : Int).natAbs = [49] := d
  rw [d, e]
  rfl
end Go.Proofs.YtbfamafajefapaaGreatDoor.Dy

namespace Go.Proofs.YtbfamafajefapaaGreatDoor.Dy
open Go.RowKit Tn Mo

/-- Three dates in their boxes. -/
def Th (w W : World) (y m d u v e p q r : Int) : Prop := Blk W w.heap.size #[.int .i64 y, .int .i64 m, .int .i64 d] 38 ∧ Blk W (w.heap.size + 1) #[.int .i64 u, .int .i64 v, .int .i64 e] 38 ∧ Blk W (w.heap.size + 2) #[.int .i64 p, .int .i64 q, .int .i64 r] 38 ∧ Gl W ∧ Gw W ∧ Below w.heap.size w W
theorem Th.grow {w W W' : World} {y m d u v e p q r : Int} (h : Th w W y m d u v e p q r) (b : Below W.heap.size W W') : Th w W' y m d u v e p q r :=
  ⟨h.1.below b h.1.lt, h.2.1.below b h.2.1.lt, h.2.2.1.below b h.2.2.1.lt, h.2.2.2.1.grow b, h.2.2.2.2.1.grow b, bel' h.2.2.2.2.2 b⟩
theorem Th.cells {w W : World} {y m d u v e p q r : Int} (h : Th w W y m d u v e p q r) : W.cell? ⟨w.heap.size, 0, none⟩ = some (.int .i64 y) ∧ W.cell? ⟨w.heap.size, 1, none⟩ = some (.int .i64 m) ∧ W.cell? ⟨w.heap.size, 2, none⟩ = some (.int .i64 d) ∧ W.cell? ⟨(w.heap.size + 1), 0, none⟩ = some (.int .i64 u) ∧ W.cell? ⟨(w.heap.size + 1), 1, none⟩ = some (.int .i64 v) ∧ W.cell? ⟨(w.heap.size + 1), 2, none⟩ = some (.int .i64 e) ∧ W.cell? ⟨(w.heap.size + 2), 0, none⟩ = some (.int .i64 p) ∧ W.cell? ⟨(w.heap.size + 2), 1, none⟩ = some (.int .i64 q) ∧ W.cell? ⟨(w.heap.size + 2), 2, none⟩ = some (.int .i64 r) := by
  obtain ⟨h0, h1, h2, _⟩ := h
  refine ⟨?_, ?_, ?_, ?_, ?_, ?_, ?_, ?_, ?_⟩
  · simpa using h0.at 0
  · simpa using h0.at 1
  · simpa using h0.at 2
  · simpa using h1.at 0
  · simpa using h1.at 1
  · simpa using h1.at 2
  · simpa using h2.at 0
  · simpa using h2.at 1
  · simpa using h2.at 2
theorem Th.new (w : World) (y m d u v e p q r : Int) (G : Gl w) (H : Gw w) : Th w (((w.alloc (.cells #[.int .i64 y, .int .i64 m, .int .i64 d] 38)).alloc (.cells #[.int .i64 u, .int .i64 v, .int .i64 e] 38)).alloc (.cells #[.int .i64 p, .int .i64 q, .int .i64 r] 38)) y m d u v e p q r := by
  have K1 := Blk.new (w.alloc (.cells #[.int .i64 y, .int .i64 m, .int .i64 d] 38)) #[.int .i64 u, .int .i64 v, .int .i64 e] 38
  have K2 := Blk.new ((w.alloc (.cells #[.int .i64 y, .int .i64 m, .int .i64 d] 38)).alloc (.cells #[.int .i64 u, .int .i64 v, .int .i64 e] 38)) #[.int .i64 p, .int .i64 q, .int .i64 r] 38
  simp only [World.size_alloc] at K1 K2
  exact ⟨((Blk.new w _ _).alloc _).alloc _, K1.alloc _, K2, ((G.alloc _).alloc _).alloc _, ((H.alloc _).alloc _).alloc _, (((Below.refl _ _).alloc (Nat.le_refl _) _).alloc (by simp) _).alloc (by simp; omega) _⟩
set_option maxHeartbeats 6400000 in
set_option maxRecDepth 100000 in
theorem goes_walk (y m d u v e p q r E1 E2 E3 : Int) (s1 t1 s2 t2 s3 t3 : Nat → ByteArray) (w : World) (G : Gl w) (H : Gw w)
    (RA : ∀ W, Gl W → Calls Tryz.prog 15 #[.agg #[.int .i64 y, .int .i64 m, .int .i64 d]] W fun x w' => x = .returned (.bool true) ∧ Below W.heap.size W w')
    (RB : ∀ W, Gl W → Calls Tryz.prog 15 #[.agg #[.int .i64 u, .int .i64 v, .int .i64 e]] W fun x w' => x = .returned (.bool true) ∧ Below W.heap.size W w')
    (RC : ∀ W, Gl W → Calls Tryz.prog 15 #[.agg #[.int .i64 p, .int .i64 q, .int .i64 r]] W fun x w' => x = .returned (.bool true) ∧ Below W.heap.size W w')
    (PA : ∀ k : Nat, 1 ≤ k → k ≤ 3 → ∀ W, Gl W → Gw W → Calls Tryz.prog 16 #[.agg #[.int .i64 y, .int .i64 m, .int .i64 d], .agg #[.int .i64 u, .int .i64 v, .int .i64 e], .int .i64 k] W fun x w' => x = .returned (.tuple #[.agg #[.string (s1 k), .string (t1 k)], .int .i64 E1]) ∧ Below W.heap.size W w')
    (PB : ∀ k : Nat, 1 ≤ k → k ≤ 3 → ∀ W, Gl W → Gw W → Calls Tryz.prog 16 #[.agg #[.int .i64 u, .int .i64 v, .int .i64 e], .agg #[.int .i64 p, .int .i64 q, .int .i64 r], .int .i64 k] W fun x w' => x = .returned (.tuple #[.agg #[.string (s2 k), .string (t2 k)], .int .i64 E2]) ∧ Below W.heap.size W w')
    (PC : ∀ k : Nat, 1 ≤ k → k ≤ 3 → ∀ W, Gl W → Gw W → Calls Tryz.prog 16 #[.agg #[.int .i64 y, .int .i64 m, .int .i64 d], .agg #[.int .i64 p, .int .i64 q, .int .i64 r], .int .i64 k] W fun x w' => x = .returned (.tuple #[.agg #[.string (s3 k), .string (t3 k)], .int .i64 E3]) ∧ Below W.heap.size W w')
    (hE : (E1 = 1 ∧ (E2 = 0 ∨ E2 = 1)) ∨ (E1 = 0 ∧ E2 = 1) ∨ (E1 = 0 ∧ E2 = 0 ∧ E3 = 0 ∧ ∀ k : Nat, 1 ≤ k → k ≤ 3 → ∀ W, Gw W → Calls Tryz.prog 17 #[.agg #[.string (s1 k), .string (t1 k)], .agg #[.string (s2 k), .string (t2 k)]] W fun x w' => x = .returned (.tuple #[.agg #[.string (s3 k), .string (t3 k)], .int .i64 0]) ∧ Below W.heap.size W w'))
    (hy : 1 ≤ y) (hy9 : y ≤ 9999)
    (PO : y ≠ 9999 → ∀ W, Gl W → Gw W → Calls Tryz.prog 16 #[.agg #[.int .i64 y, .int .i64 1, .int .i64 1], .agg #[.int .i64 (y + 1), .int .i64 1, .int .i64 1], .int .i64 3] W fun x w' => x = .returned (.tuple #[.agg #[.string ⟨#[49]⟩, .string ⟨#[49]⟩], .int .i64 0]) ∧ Below W.heap.size W w') :
    Calls Tryz.prog 4 #[.agg #[.int .i64 y, .int .i64 m, .int .i64 d], .agg #[.int .i64 u, .int .i64 v, .int .i64 e], .agg #[.int .i64 p, .int .i64 q, .int .i64 r]] w fun x w' => x = .returned (.bool true) ∧ Below w.heap.size w w' := by
  have T0 := Th.new w y m d u v e p q r G H
  have WK := works_any
  have ⟨fz0, fz1, fz2, fz3, fz4, fz5, fz6, fz7, fz8⟩ := T0.cells
  clear G H
  go_enter Tryz.func4, Tryz.ntmps4
  go_wp2_with (first
    | (go_at_call 14; go_must (refine (WK _ T0.2.2.2.1).mono ?_; rintro x wa ⟨rfl, ba⟩; (have Ta := T0.grow ba); (have ⟨fa0, fa1, fa2, fa3, fa4, fa5, fa6, fa7, fa8⟩ := Ta.cells)))
    | (go_at_call 15; refine (RC _ Tc.2.2.2.1).mono ?_; rintro x wd ⟨rfl, bd⟩; go_must ((have Td := Tc.grow bd); (have ⟨fd0, fd1, fd2, fd3, fd4, fd5, fd6, fd7, fd8⟩ := Td.cells)))
    | (go_at_call 15; refine (RB _ Tb'.2.2.2.1).mono ?_; rintro x wc ⟨rfl, bc⟩; go_must ((have Tc := Tb'.grow bc); (have ⟨fc0, fc1, fc2, fc3, fc4, fc5, fc6, fc7, fc8⟩ := Tc.cells)))
    | (go_at_call 15; go_must (refine (RA _ Ta.2.2.2.1).mono ?_; rintro x wb ⟨rfl, bb⟩; (have Tb' := Ta.grow bb); (have ⟨fb0, fb1, fb2, fb3, fb4, fb5, fb6, fb7, fb8⟩ := Tb'.cells)))
    | fail)
  clear T0 Ta Tb' Tc RA RB RC WK fz0 fz1 fz2 fz3 fz4 fz5 fz6 fz7 fz8 fa0 fa1 fa2 fa3 fa4 fa5 fa6 fa7 fa8 fb0 fb1 fb2 fb3 fb4 fb5 fb6 fb7 fb8 fc0 fc1 fc2 fc3 fc4 fc5 fc6 fc7 fc8 fd0 fd1 fd2 fd3 fd4 fd5 fd6 fd7 fd8 ba bb bc bd
  go_loopw [7] (fun i wr => ∃ k : Nat, 1 ≤ k ∧ k ≤ 4 ∧ i = .int .i64 k ∧ Th w wr y m d u v e p q r) (fun i _ => 4 - (intOf i).toNat)
  case atStart => exact ⟨1, by omega, by omega, rfl, Td⟩
  case round =>
    clear Td
    obtain ⟨k, hk0, hk, rfl, T0⟩ := hrel
    have ⟨fz0, fz1, fz2, fz3, fz4, fz5, fz6, fz7, fz8⟩ := T0.cells
    by_cases hlt : k ≤ 3
    · have hlt' : (k : Int) ≤ 3 := by omega
      have P1 := PA k hk0 hlt
      have P2 := PB k hk0 hlt
      have P3 := PC k hk0 hlt
      clear PA PB PC PO
      rcases hE with ⟨rfl, hE2⟩ | ⟨rfl, rfl⟩ | ⟨rfl, rfl, rfl, AD⟩
      · rcases hE2 with rfl | rfl
        all_goals
          go_wp2_with (first
            | (go_at_call 16; refine (P3 _ T2.2.2.2.1 T2.2.2.2.2.1).mono ?_; rintro x w3 ⟨rfl, b3⟩; go_must ((have a3 := (b3.trans ((Below.refl _ _).alloc b3.size (.cells #[.string (s3 k), .string (t3 k)] 23)))); (have T3 := T2.grow a3); (have ⟨f30, f31, f32, f33, f34, f35, f36, f37, f38⟩ := T3.cells); (have X13 := X12.below a3 X12.lt); (have X23 := X22.below a3 X22.lt); (have X33 := Blk.new w3 #[.string (s3 k), .string (t3 k)] 23)))
            | (go_at_call 16; refine (P2 _ T1.2.2.2.1 T1.2.2.2.2.1).mono ?_; rintro x w2 ⟨rfl, b2⟩; go_must ((have a2 := (b2.trans ((Below.refl _ _).alloc b2.size (.cells #[.string (s2 k), .string (t2 k)] 23)))); (have T2 := T1.grow a2); (have ⟨f20, f21, f22, f23, f24, f25, f26, f27, f28⟩ := T2.cells); (have X12 := X11.below a2 X11.lt); (have X22 := Blk.new w2 #[.string (s2 k), .string (t2 k)] 23)))
            | (go_at_call 16; refine (P1 _ T0.2.2.2.1 T0.2.2.2.2.1).mono ?_; rintro x w1 ⟨rfl, b1⟩; go_must ((have a1 := (b1.trans ((Below.refl _ _).alloc b1.size (.cells #[.string (s1 k), .string (t1 k)] 23)))); (have T1 := T0.grow a1); (have ⟨f10, f11, f12, f13, f14, f15, f16, f17, f18⟩ := T1.cells); (have X11 := Blk.new w1 #[.string (s1 k), .string (t1 k)] 23)))
            | fail)
          go_ret
          exact ⟨rfl, T3.2.2.2.2.2⟩
      · go_wp2_with (first
          | (go_at_call 16; refine (P3 _ T2.2.2.2.1 T2.2.2.2.2.1).mono ?_; rintro x w3 ⟨rfl, b3⟩; go_must ((have a3 := (b3.trans ((Below.refl _ _).alloc b3.size (.cells #[.string (s3 k), .string (t3 k)] 23)))); (have T3 := T2.grow a3); (have ⟨f30, f31, f32, f33, f34, f35, f36, f37, f38⟩ := T3.cells); (have X13 := X12.below a3 X12.lt); (have X23 := X22.below a3 X22.lt); (have X33 := Blk.new w3 #[.string (s3 k), .string (t3 k)] 23)))
          | (go_at_call 16; refine (P2 _ T1.2.2.2.1 T1.2.2.2.2.1).mono ?_; rintro x w2 ⟨rfl, b2⟩; go_must ((have a2 := (b2.trans ((Below.refl _ _).alloc b2.size (.cells #[.string (s2 k), .string (t2 k)] 23)))); (have T2 := T1.grow a2); (have ⟨f20, f21, f22, f23, f24, f25, f26, f27, f28⟩ := T2.cells); (have X12 := X11.below a2 X11.lt); (have X22 := Blk.new w2 #[.string (s2 k), .string (t2 k)] 23)))
          | (go_at_call 16; refine (P1 _ T0.2.2.2.1 T0.2.2.2.2.1).mono ?_; rintro x w1 ⟨rfl, b1⟩; go_must ((have a1 := (b1.trans ((Below.refl _ _).alloc b1.size (.cells #[.string (s1 k), .string (t1 k)] 23)))); (have T1 := T0.grow a1); (have ⟨f10, f11, f12, f13, f14, f15, f16, f17, f18⟩ := T1.cells); (have X11 := Blk.new w1 #[.string (s1 k), .string (t1 k)] 23)))
          | fail)
        go_ret
        exact ⟨rfl, T3.2.2.2.2.2⟩
      · have AD := AD k hk0 hlt
        go_wp2_with (first
          | (go_at_call 16; refine (P3 _ T2.2.2.2.1 T2.2.2.2.2.1).mono ?_; rintro x w3 ⟨rfl, b3⟩; go_must ((have a3 := (b3.trans ((Below.refl _ _).alloc b3.size (.cells #[.string (s3 k), .string (t3 k)] 23)))); (have T3 := T2.grow a3); (have ⟨f30, f31, f32, f33, f34, f35, f36, f37, f38⟩ := T3.cells); (have X13 := X12.below a3 X12.lt); (have X23 := X22.below a3 X22.lt); (have X33 := Blk.new w3 #[.string (s3 k), .string (t3 k)] 23); (have c103 := X13.at 0); (have c113 := X13.at 1); (have l13 := X13.lt); (have c203 := X23.at 0); (have c213 := X23.at 1); (have l23 := X23.lt); (have c303 := X33.at 0); (have c313 := X33.at 1); (have l33 := X33.lt); (simp at c103 c113 c203 c213 c303 c313)))
          | (go_at_call 16; refine (P2 _ T1.2.2.2.1 T1.2.2.2.2.1).mono ?_; rintro x w2 ⟨rfl, b2⟩; go_must ((have a2 := (b2.trans ((Below.refl _ _).alloc b2.size (.cells #[.string (s2 k), .string (t2 k)] 23)))); (have T2 := T1.grow a2); (have ⟨f20, f21, f22, f23, f24, f25, f26, f27, f28⟩ := T2.cells); (have X12 := X11.below a2 X11.lt); (have X22 := Blk.new w2 #[.string (s2 k), .string (t2 k)] 23)))
          | (go_at_call 16; refine (P1 _ T0.2.2.2.1 T0.2.2.2.2.1).mono ?_; rintro x w1 ⟨rfl, b1⟩; go_must ((have a1 := (b1.trans ((Below.refl _ _).alloc b1.size (.cells #[.string (s1 k), .string (t1 k)] 23)))); (have T1 := T0.grow a1); (have ⟨f10, f11, f12, f13, f14, f15, f16, f17, f18⟩ := T1.cells); (have X11 := Blk.new w1 #[.string (s1 k), .string (t1 k)] 23)))
          | (go_at_call 17; go_must (refine (AD _ T3.2.2.2.2.1).mono ?_; rintro x w4 ⟨rfl, b4⟩; (have a4 := (b4.trans ((Below.refl _ _).alloc b4.size (.cells #[.string (s3 k), .string (t3 k)] 23)))); (have T4 := T3.grow a4); (have X34 := X33.below a4 X33.lt); (have c304 := X34.at 0); (have c314 := X34.at 1); (simp at c304 c314); (have l34 := X34.lt)))
          | fail)
        go_roundw
        case rel => exact ⟨k + 1, by omega, by omega, by go_num, T4⟩
        case measure => simp [intOf]; omega
    · have hlt' : ¬ (k : Int) ≤ 3 := by omega
      clear PA PB PC hE
      by_cases h9 : y = 9999
      · have h9' : (y == 9999) = true := by rw [beq_iff_eq]; exact h9
        clear h9 PO
        go_wp2
        go_ret
        exact ⟨rfl, T0.2.2.2.2.2⟩
      · have PO := PO h9
        have h9' : (y == 9999) = false := by rw [beq_eq_false_iff_ne]; exact h9
        have xw : IntKind.i64.wrap (y + 1) = y + 1 := by simp [IntKind.wrap, IntKind.bits, IntKind.signed]; omega
        clear h9
        go_wp2_with (first
          | (go_at_call 16; go_must (refine (PO _ T0.2.2.2.1 T0.2.2.2.2.1).mono ?_; rintro x w1 ⟨rfl, b1⟩))
          | fail)
        go_ret
        exact ⟨rfl, (T0.grow (b1.trans ((Below.refl _ _).alloc b1.size (.cells #[.string ⟨#[49]⟩, .string ⟨#[49]⟩] 23)))).2.2.2.2.2⟩
end Go.Proofs.YtbfamafajefapaaGreatDoor.Dy

namespace Go.Proofs.YtbfamafajefapaaGreatDoor.Dy
open Mo
theorem gPow : Tryz.prog.globalNamed "internal/strconv.uint64pow10" = some 5 := by kernel_rfl
theorem gw_of {w : World} (h : Go.Lib.TabIs Tryz.prog w "internal/strconv.uint64pow10" .u64 Go.Lib.pow10Tab) : Gw w := fun _ b => Go.Joins.var_stays gPow h b (Nat.le_refl _)
end Go.Proofs.YtbfamafajefapaaGreatDoor.Dy
