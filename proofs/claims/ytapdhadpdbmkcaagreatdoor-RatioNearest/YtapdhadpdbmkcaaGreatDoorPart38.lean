import Derived.Test.YtapdhadpdbmkcaaGreatDoorPart37
import Derived.Test.YtapdhadpdbmkcaaGreatDoorPart14
import Derived.Deep.RegionHeld3

namespace Go.Proofs.YtapdhadpdbmkcaaGreatDoor.Mo
open Go.RowKit Tn

/-- Three cells are written. -/
theorem putF3 {w1 : World} {b : Nat} {u0 u1 u2 : Value} (x y z : Value) (g0 : w1.cell? ⟨b, 0, none⟩ = some u0) (g1 : w1.cell? ⟨b, 1, none⟩ = some u1) (g2 : w1.cell? ⟨b, 2, none⟩ = some u2) :
  (((w1.setCell ⟨b, 0, none⟩ x).setCell ⟨b, 1, none⟩ y).setCell ⟨b, 2, none⟩ z).cell? ⟨b, 0, none⟩ = some x ∧ (((w1.setCell ⟨b, 0, none⟩ x).setCell ⟨b, 1, none⟩ y).setCell ⟨b, 2, none⟩ z).cell? ⟨b, 1, none⟩ = some y ∧ (((w1.setCell ⟨b, 0, none⟩ x).setCell ⟨b, 1, none⟩ y).setCell ⟨b, 2, none⟩ z).cell? ⟨b, 2, none⟩ = some z ∧ (∀ B w, B ≤ b → Below B w w1 → Below B w (((w1.setCell ⟨b, 0, none⟩ x).setCell ⟨b, 1, none⟩ y).setCell ⟨b, 2, none⟩ z)) := by
 have h1 : (w1.setCell ⟨b, 0, none⟩ x).cell? ⟨b, 1, none⟩ = some u1 := (World.cell?_setCell_other _ _ _ _ (by simp)).trans g1
 have h2 : ((w1.setCell ⟨b, 0, none⟩ x).setCell ⟨b, 1, none⟩ y).cell? ⟨b, 2, none⟩ = some u2 := (World.cell?_setCell_other _ _ _ _ (by simp)).trans ((World.cell?_setCell_other _ _ _ _ (by simp)).trans g2)
 refine ⟨?_, ?_, World.cell?_setCell_same _ _ _ h2, fun B w hB h => ((h.setCell (p := ⟨b, 0, none⟩) hB x).setCell (p := ⟨b, 1, none⟩) hB y).setCell (p := ⟨b, 2, none⟩) hB z⟩
 ·rw [World.cell?_setCell_other _ _ _ _ (by simp), World.cell?_setCell_other _ _ _ _ (by simp), World.cell?_setCell_same _ _ _ g0]
 ·rw [World.cell?_setCell_other _ _ _ _ (by simp), World.cell?_setCell_same _ _ _ h1]

set_option maxRecDepth 100000 in
set_option maxHeartbeats 800000 in
theorem FNeg_low (a1 a2 : Option Addr) (m1 c1 m2 c2 : Nat) (w : World) :
  Calls Tryz.prog 27 #[.agg #[.bool true, .slice a1 m1 c1, .slice a2 m2 c2]] w fun e w' => e = .returned (.agg #[.bool false, .slice a1 m1 c1, .slice a2 m2 c2]) ∧ Below w.heap.size w w' := by
 go_enter Tryz.func27, Tryz.ntmps27
 go_wp2_with fail
 go_region
 all_goals
  go_wp2
  refine bodyPost_ret (v := .agg #[.bool false, .slice a1 m1 c1, .slice a2 m2 c2]) (by simp [results, Tryz.results27, go_sem]) rfl ⟨rfl, ?_⟩
  exact (((Below.refl _ _).alloc (Nat.le_refl _) _).alloc (by simp) _).drew

set_option maxRecDepth 100000 in
set_option maxHeartbeats 800000 in
theorem FNeg_high (a1 a2 : Option Addr) (m1 c1 m2 c2 : Nat) (w : World) :
  Calls Tryz.prog 27 #[.agg #[.bool false, .slice a1 m1 c1, .slice a2 m2 c2]] w fun e w' => e = .returned (.agg #[.bool (!(m1 == 0)), .slice a1 m1 c1, .slice a2 m2 c2]) ∧ Below w.heap.size w w' := by
 go_enter Tryz.func27, Tryz.ntmps27
 go_wp2_with fail
 have pr : Below w.heap.size w ((w.alloc (.cells #[.bool false, .slice a1 m1 c1, .slice a2 m2 c2] 44)).alloc (.cells #[.bool false, .slice none 0 0, .slice none 0 0] 44)) := ((Below.refl _ _).alloc (Nat.le_refl _) _).alloc (by simp) _
 have K0 : Blk ((w.alloc (.cells #[.bool false, .slice a1 m1 c1, .slice a2 m2 c2] 44)).alloc (.cells #[.bool false, .slice none 0 0, .slice none 0 0] 44)) w.heap.size #[.bool false, .slice a1 m1 c1, .slice a2 m2 c2] 44 := (Blk.new _ _ _).alloc _
 have K1 := Blk.new (w.alloc (.cells #[.bool false, .slice a1 m1 c1, .slice a2 m2 c2] 44)) #[.bool false, .slice none 0 0, .slice none 0 0] 44
 simp only [World.size_alloc] at K1
 generalize (w.alloc (.cells #[.bool false, .slice a1 m1 c1, .slice a2 m2 c2] 44)).alloc (.cells #[.bool false, .slice none 0 0, .slice none 0 0] 44) = W at *
 have e0 : W.cell? ⟨w.heap.size, 0, none⟩ = some (.bool false) := K0.at 0
 have e1 : W.cell? ⟨w.heap.size, 1, none⟩ = some (.slice a1 m1 c1) := K0.at 1
 have e2 : W.cell? ⟨w.heap.size, 2, none⟩ = some (.slice a2 m2 c2) := K0.at 2
 have L0 := K0.lt; have L1 := K1.lt
 go_region_held3 (fun x => x.cell? ⟨w.heap.size, 0, none⟩ = some (.bool false) ∧ x.cell? ⟨w.heap.size, 1, none⟩ = some (.slice a1 m1 c1) ∧ x.cell? ⟨w.heap.size, 2, none⟩ = some (.slice a2 m2 c2)) (go_keep) (first
  | (go_at_call 45; refine (iszero_len a1 m1 c1 _).mono ?_; rintro e w1 ⟨rfl, b1⟩; have f0 := (b1.cell (p := ⟨w.heap.size, 0, none⟩) L0).trans e0; have f1 := (b1.cell (p := ⟨w.heap.size, 1, none⟩) L0).trans e1; have f2 := (b1.cell (p := ⟨w.heap.size, 2, none⟩) L0).trans e2; have Q1 : Blk w1 _ _ _ := Blk.below K1 (below_undrew b1) L1; have g0 : w1.cell? ⟨w.heap.size + 1, 0, none⟩ = some (.bool false) := Q1.at 0; have g1 : w1.cell? ⟨w.heap.size + 1, 1, none⟩ = some (.slice none 0 0) := Q1.at 1; have g2 : w1.cell? ⟨w.heap.size + 1, 2, none⟩ = some (.slice none 0 0) := Q1.at 2; have z0 := Q1.free 0; have z1 := Q1.free 1; have z2 := Q1.free 2)
  | fail)
 obtain ⟨F0, F1, F2, FB⟩ := putF3 (.bool (!(m1 == 0))) (.slice a1 m1 c1) (.slice a2 m2 c2) g0 g1 g2
 have ds : W.drew.heap.size = W.heap.size := rfl
 have p1 := pr.drew.trans (b1.mono (by have := pr.size; omega))
 go_wp2
 exact bodyPost_ret (v := .agg #[.bool (!(m1 == 0)), .slice a1 m1 c1, .slice a2 m2 c2]) (by simp [results, Tryz.results27, go_sem, F0, F1, F2]) rfl ⟨rfl, FB _ _ (by omega) p1⟩

theorem Nn.len {x : World} {a : Option Addr} {l c : Nat} {N : Int} (h : Nn x a l c N) : (l == 0) = decide (N = 0) := by
 obtain ⟨xs, ⟨h1, a', c', e, _⟩, n, rfl⟩ := h
 obtain ⟨rfl, rfl, rfl⟩ : a = a' ∧ l = xs.length ∧ c = c' := by injection e with e1 e2 e3; exact ⟨e1, e2, e3⟩
 rw [Bool.eq_iff_iff]; simp [val_eq_zero h1 n, List.length_eq_zero_iff]
theorem Negated_p (v : Value) (r : Rat) (w : World) (h : PF w v r) :
  Calls Tryz.prog 27 #[v] w fun e w' => ∃ v', e = .returned v' ∧ PF w' v' (-r) ∧ Below w.heap.size w w' := by
 obtain ⟨a, l, c, a', l', c', rfl, k1, k2⟩ := h
 have e1 : (-r).num = -r.num := Rat.neg_num r
 have e2 : (-r).den = r.den := Rat.neg_den r
 by_cases g : r.num < 0
 ·rw [decide_eq_true g]
  refine (FNeg_low a a' l c l' c' w).mono ?_
  rintro e w' ⟨rfl, b⟩
  refine ⟨_, rfl, ⟨a, l, c, a', l', c', ?_, by rw [e1, Int.natAbs_neg]; exact k1.grow b, by rw [e2]; exact k2.grow b⟩, b⟩
  rw [e1, decide_eq_false (by omega)]
 ·rw [decide_eq_false g]
  refine (FNeg_high a a' l c l' c' w).mono ?_
  rintro e w' ⟨rfl, b⟩
  refine ⟨_, rfl, ⟨a, l, c, a', l', c', ?_, by rw [e1, Int.natAbs_neg]; exact k1.grow b, by rw [e2]; exact k2.grow b⟩, b⟩
  rw [k1.len, e1]
  have : (!decide ((r.num.natAbs : Int) = 0)) = decide (-r.num < 0) := by
   clear k1 e1
   generalize r.num = x at *
   rw [Bool.eq_iff_iff]
   simp only [Bool.not_eq_true', decide_eq_false_iff_not, decide_eq_true_eq]
   omega
  rw [this]
/-- The sign of an exact number. -/
def psg (r : Rat) : Int := if r.num < 0 then -1 else if r.num = 0 then 0 else 1
theorem Sign_p (v : Value) (r : Rat) (w : World) (h : PF w v r) :
  Calls Tryz.prog 76 #[v] w fun e w' => e = .returned (.int .i64 (psg r)) ∧ Below w.heap.size w w' := by
 obtain ⟨a, l, c, a', l', c', rfl, ⟨xs, r1, n1, v1⟩, k2⟩ := h
 refine (sign_any _ _ _ xs w r1 n1 ⟨_, _, _, rfl⟩).mono ?_
 rintro e w' ⟨rfl, b⟩
 refine ⟨?_, b⟩
 rw [v1]
 unfold psg
 by_cases g : r.num < 0
 ·simp [g]
 ·by_cases z : r.num = 0
  ·simp [z]
  ·simp [g, z]
/-- Which one is the lesser. -/
def pcm (r s : Rat) : Int := if r < s then -1 else if s < r then 1 else 0
theorem pcm_eq (r s : Rat) : cmpF (decide (r.num < 0)) r.num.natAbs r.den (decide (s.num < 0)) s.num.natAbs s.den = pcm r s := by
 have d1 := den_p r
 have d2 := den_p s
 unfold pcm cmpF
 simp only [Rat.lt_iff]
 have S : ∀ {x d : Int}, 0 < d → x < 0 → x * d < 0 := fun h1 h2 => Int.mul_neg_of_neg_of_pos h2 h1
 have P : ∀ {x d : Int}, 0 < d → 0 ≤ x → 0 ≤ x * d := fun h1 h2 => Int.mul_nonneg h2 (Int.le_of_lt h1)
 by_cases g1 : r.num < 0 <;> by_cases g2 : s.num < 0
 ·simp only [g1, g2, decide_true, if_true]
  unfold cmp3
  rw [show (r.num.natAbs : Int) = -r.num by omega, show (s.num.natAbs : Int) = -s.num by omega, Int.neg_mul, Int.neg_mul]
  generalize r.num * (s.den : Int) = x
  generalize s.num * (r.den : Int) = y
  split <;> split <;> (try split) <;> (try split) <;> first | rfl | omega
 ·simp only [g1, g2, decide_true, decide_false, if_true, Bool.false_eq_true, if_false]
  have a1 := S d2 g1
  have a2 := P d1 (show 0 ≤ s.num by omega)
  rw [if_pos (by omega)]
 ·simp only [g1, g2, decide_true, decide_false, if_true, Bool.false_eq_true, if_false]
  have a1 := S d1 g2
  have a2 := P d2 (show 0 ≤ r.num by omega)
  rw [if_neg (by omega), if_pos (by omega)]
 ·simp only [g1, g2, decide_false, Bool.false_eq_true, if_false]
  unfold cmp3
  rw [show (r.num.natAbs : Int) = r.num by omega, show (s.num.natAbs : Int) = s.num by omega]
theorem Cmp_p (v1 v2 : Value) (r s : Rat) (m n : Nat) (w : World) (h1 : PF w v1 r) (h2 : PF w v2 s) (s1 : PS r m) (s2 : PS s n) (hm : m < 80) (hn : n < 80) :
  Calls Tryz.prog 28 #[v1, v2] w fun e w' => e = .returned (.int .i64 (pcm r s)) ∧ Below w.heap.size w w' := by
 obtain ⟨a1, l1, c1, a2, l2, c2, rfl, ⟨A, r1, n1, q1⟩, ⟨B, r2, n2, q2⟩⟩ := h1
 obtain ⟨a3, l3, c3, a4, l4, c4, rfl, ⟨C, r3, n3, q3⟩, ⟨D, r4, n4, q4⟩⟩ := h2
 have k1 := len_of r1.1 n1 (by rw [q1]; exact s1.1)
 have k2 := len_of r2.1 n2 (by rw [q2]; exact s1.2)
 have k3 := len_of r3.1 n3 (by rw [q3]; exact s2.1)
 have k4 := len_of r4.1 n4 (by rw [q4]; exact s2.2)
 refine (compare_any _ _ _ _ _ _ A B C D w r1 r2 r3 r4 (by omega) (by omega) (by omega) (by omega)).mono ?_
 rintro e w' ⟨rfl, b⟩
 rw [q1, q2, q3, q4, pcm_eq]
 exact ⟨rfl, b⟩
end Go.Proofs.YtapdhadpdbmkcaaGreatDoor.Mo

namespace Go.Proofs.YtapdhadpdbmkcaaGreatDoor.Mo
open Go.RowKit Fu Tn Go.Lib Dc

set_option maxHeartbeats 3200000 in
set_option maxRecDepth 100000 in
theorem Sub_raw (s1 t1 s2 t2 u v : ByteArray) (g1 g2 : Bool) (O1 D1 O2 D2 : Int) (er : Int) (s t : Rat) (w : World)
  (CR' : ∀ x, Below w.heap.size w x → Calls Tryz.prog 26 #[.agg #[.string s1, .string t1], .agg #[.string s2, .string t2]] x fun e w' => ∃ (a : (Option Addr × Option Addr) × (Option Addr × Option Addr)) (l c : (Nat × Nat) × (Nat × Nat)), e = .returned (.tuple #[.agg #[.bool g1, .slice a.1.1 l.1.1 c.1.1, .slice a.1.2 l.1.2 c.1.2], .agg #[.bool g2, .slice a.2.1 l.2.1 c.2.1, .slice a.2.2 l.2.2 c.2.2], .int .i64 0]) ∧ ((Nn w' a.1.1 l.1.1 c.1.1 O1 ∧ Nn w' a.1.2 l.1.2 c.1.2 D1) ∧ (Nn w' a.2.1 l.2.1 c.2.1 O2 ∧ Nn w' a.2.2 l.2.2 c.2.2 D2)) ∧ Below x.heap.size x w')
  (CN : ∀ x (a : Option Addr × Option Addr) (l c : Nat × Nat), Nn x a.1 l.1 c.1 O2 → Nn x a.2 l.2 c.2 D2 → Calls Tryz.prog 27 #[.agg #[.bool g2, .slice a.1 l.1 c.1, .slice a.2 l.2 c.2]] x fun e w' => ∃ y, e = .returned y ∧ PF w' y s ∧ Below x.heap.size x w')
  (CP : ∀ x (a : Option Addr × Option Addr) (l c : Nat × Nat) y, Nn x a.1 l.1 c.1 O1 → Nn x a.2 l.2 c.2 D1 → PF x y s → Calls Tryz.prog 21 #[.agg #[.bool g1, .slice a.1 l.1 c.1, .slice a.2 l.2 c.2], y] x fun e w' => ∃ z, e = .returned z ∧ PF w' z t ∧ Below x.heap.size x w')
  (CT : ∀ x y, PF x y t → Below w.heap.size w x → Calls Tryz.prog 22 #[y] x fun e w' => e = .returned (.tuple #[.agg #[.string u, .string v], .int .i64 er]) ∧ Below x.heap.size x w') :
  Calls Tryz.prog 8 #[.agg #[.string s1, .string t1], .agg #[.string s2, .string t2]] w fun e w' => e = .returned (.tuple #[.agg #[.string u, .string v], .int .i64 er]) ∧ Below w.heap.size w w' := by
 have KA := ((Blk.new w #[.string s1, .string t1] 23).alloc (.cells #[.string s2, .string t2] 23)).alloc (.cells #[.string ⟨#[]⟩, .string ⟨#[]⟩] 23)
 have KB := (Blk.new (w.alloc (.cells #[.string s1, .string t1] 23)) #[.string s2, .string t2] 23).alloc (.cells #[.string ⟨#[]⟩, .string ⟨#[]⟩] 23)
 have KR := Blk.new ((w.alloc (.cells #[.string s1, .string t1] 23)).alloc (.cells #[.string s2, .string t2] 23)) #[.string ⟨#[]⟩, .string ⟨#[]⟩] 23
 simp only [World.size_alloc] at KB KR
 have pr : Below w.heap.size w (((w.alloc (.cells #[.string s1, .string t1] 23)).alloc (.cells #[.string s2, .string t2] 23)).alloc (.cells #[.string ⟨#[]⟩, .string ⟨#[]⟩] 23)) := (((Below.refl _ _).alloc (Nat.le_refl _) _).alloc (by simp) _).alloc (by simp; omega) _
 go_enter Tryz.func8, Tryz.ntmps8
 go_wp2_with fail
 have ka0 := KA.at 0
 have ka1 := KA.at 1
 have kb0 := KB.at 0
 have kb1 := KB.at 1
 simp at ka0 ka1 kb0 kb1
 generalize (((w.alloc (.cells #[.string s1, .string t1] 23)).alloc (.cells #[.string s2, .string t2] 23)).alloc (.cells #[.string ⟨#[]⟩, .string ⟨#[]⟩] 23)) = W at *
 go_wp2_with (first
  | (go_at_call 26; go_must (refine (CR' _ pr).mono ?_; rintro e w1 ⟨p, q, r, rfl, H, b1⟩; (have al := (((Below.refl w1.heap.size w1).alloc (Nat.le_refl _) (.cells #[.bool g1, .slice p.1.1 q.1.1 r.1.1, .slice p.1.2 q.1.2 r.1.2] 44)).alloc (by simp) (.cells #[.bool g2, .slice p.2.1 q.2.1 r.2.1, .slice p.2.2 q.2.2 r.2.2] 44))); (have b2 := bel' b1 al); (have pB := bel' pr b2); (have n1 := (⟨H.1.1.grow al, H.1.2.grow al⟩ : _ ∧ _)); (have n2 := (⟨H.2.1.grow al, H.2.2.grow al⟩ : _ ∧ _)); (have KR1 := KR.below b2 KR.lt); (have KF := Rb.new w1 (.bool g1) (.slice p.1.1 q.1.1 r.1.1) (.slice p.1.2 q.1.2 r.1.2) 44); (have KF := KF.alloc (.cells #[.bool g2, .slice p.2.1 q.2.1 r.2.1, .slice p.2.2 q.2.2 r.2.2] 44)); (have KG := Rb.new (w1.alloc (.cells #[.bool g1, .slice p.1.1 q.1.1 r.1.1, .slice p.1.2 q.1.2 r.1.2] 44)) (.bool g2) (.slice p.2.1 q.2.1 r.2.1) (.slice p.2.2 q.2.2 r.2.2) 44); (have sz : (w1.alloc (.cells #[.bool g1, .slice p.1.1 q.1.1 r.1.1, .slice p.1.2 q.1.2 r.1.2] 44)).heap.size = w1.heap.size + 1 := World.size_alloc _ _); (rw [sz] at KG); (have kf0 := KF.c0); (have kf1 := KF.c1); (have kf2 := KF.c2); (have kg0 := KG.c0); (have kg1 := KG.c1); (have kg2 := KG.c2)))
  | fail)
 have hX : w.heap.size + 1 + 1 < w1.heap.size := by have := KR.lt; have := b1.size; omega
 generalize (w1.alloc (.cells #[.bool g1, .slice p.1.1 q.1.1 r.1.1, .slice p.1.2 q.1.2 r.1.2] 44)).alloc (.cells #[.bool g2, .slice p.2.1 q.2.1 r.2.1, .slice p.2.2 q.2.2 r.2.2] 44) = WA at *
 generalize w1.heap.size = X at *
 have hX1 : X ≠ w.heap.size + 1 + 1 := by omega
 have hX2 : w.heap.size + 1 + 1 ≠ X := by omega
 have hX3 : X + 1 ≠ w.heap.size + 1 + 1 := by omega
 have hX4 : w.heap.size + 1 + 1 ≠ X + 1 := by omega
 have hX5 : X ≠ w.heap.size + 1 := by omega
 have hX6 : w.heap.size + 1 ≠ X := by omega
 clear CR' H al sz kf0 kf1 kf2 kg0 kg1 kg2
 have kf0 := KF.c0
 have kf1 := KF.c1
 have kf2 := KF.c2
 have kg0 := KG.c0
 have kg1 := KG.c1
 have kg2 := KG.c2
 go_region_held3 (fun x => x.cell? ⟨X, 0, none⟩ = some (.bool g1) ∧ x.cell? ⟨X, 1, none⟩ = some (.slice p.1.1 q.1.1 r.1.1) ∧ x.cell? ⟨X, 2, none⟩ = some (.slice p.1.2 q.1.2 r.1.2) ∧ x.cell? ⟨X + 1, 0, none⟩ = some (.bool g2) ∧ x.cell? ⟨X + 1, 1, none⟩ = some (.slice p.2.1 q.2.1 r.2.1) ∧ x.cell? ⟨X + 1, 2, none⟩ = some (.slice p.2.2 q.2.2 r.2.2)) (go_keep) (first
  | (go_at_call 27; refine (CN _ p.2 q.2 r.2 n2.1.drew n2.2.drew).mono ?_; rintro e w3 ⟨y, rfl, hy, b3⟩; have b3 := undrew b3; have h0 := (KF.grow b3).c0; have h1 := (KF.grow b3).c1; have h2 := (KF.grow b3).c2; have h3 := (KG.grow b3).c0; have h4 := (KG.grow b3).c1; have h5 := (KG.grow b3).c2)
  | (go_at_call 21; refine (CP _ p.1 q.1 r.1 y (n1.1.grow b3) (n1.2.grow b3) hy).mono ?_; rintro e w4 ⟨z, rfl, hz, b4⟩; have b4 := bel' b3 b4; have i0 := (KF.grow b4).c0; have i1 := (KF.grow b4).c1; have i2 := (KF.grow b4).c2; have i3 := (KG.grow b4).c0; have i4 := (KG.grow b4).c1; have i5 := (KG.grow b4).c2)
  | (go_at_call 22; refine (CT _ _ hz (bel' pB b4)).mono ?_; rintro e w9 ⟨rfl, b9⟩; have b5 := bel' b4 b9; have j0 := (KF.grow b5).c0; have j1 := (KF.grow b5).c1; have j2 := (KF.grow b5).c2; have j3 := (KG.grow b5).c0; have j4 := (KG.grow b5).c1; have j5 := (KG.grow b5).c2; have KR2 := KR1.below b5 KR1.lt; have m0 := KR2.at 0; have m1 := KR2.at 1; have m2 := KR2.free 0; have m3 := KR2.free 1; simp at m0 m1)
  | fail)
 go_wp2_with fail
 have kE : Blk ((w9.setCell ⟨w.heap.size + 1 + 1, 0, none⟩ (.string u)).setCell ⟨w.heap.size + 1 + 1, 1, none⟩ (.string v)) (w.heap.size + 1 + 1) #[.string u, .string v] 23 := bput (bput KR2 0 _) 1 _
 have bE : Below w.heap.size w ((w9.setCell ⟨w.heap.size + 1 + 1, 0, none⟩ (.string u)).setCell ⟨w.heap.size + 1 + 1, 1, none⟩ (.string v)) := ((bel' pB b5).setCell (p := ⟨w.heap.size + 1 + 1, 0, none⟩) (by show w.heap.size ≤ w.heap.size + 1 + 1; omega) _).setCell (p := ⟨w.heap.size + 1 + 1, 1, none⟩) (by show w.heap.size ≤ w.heap.size + 1 + 1; omega) _
 generalize (w9.setCell ⟨w.heap.size + 1 + 1, 0, none⟩ (.string u)).setCell ⟨w.heap.size + 1 + 1, 1, none⟩ (.string v) = WE at *
 have r0 := kE.at 0
 have r1 := kE.at 1
 simp at r0 r1
 exact bodyPost_ret (v := .tuple #[.agg #[.string u, .string v], .int .i64 er]) (by simp [results, Tryz.results8, go_sem, r0, r1]) rfl ⟨rfl, bE⟩
end Go.Proofs.YtapdhadpdbmkcaaGreatDoor.Mo

namespace Go.Proofs.YtapdhadpdbmkcaaGreatDoor.Mo
open Go.RowKit Fu Tn Go.Lib Dc

theorem c4 {W : World} {n : Nat} {a b c d : Value} {t : TypeId} (h : Blk W n #[a, b, c, d] t) : W.cell? ⟨n, 0, none⟩ = some a ∧ W.cell? ⟨n, 1, none⟩ = some b ∧ W.cell? ⟨n, 2, none⟩ = some c ∧ W.cell? ⟨n, 3, none⟩ = some d ∧ n < W.heap.size := ⟨by simpa using h.at 0, by simpa using h.at 1, by simpa using h.at 2, by simpa using h.at 3, h.lt⟩
theorem sl4 {a0 a1 a2 a3 : Option Addr} {l0 c0 l1 c1 l2 c2 l3 c3 : Nat} (i : Nat) (k : IntKind) (z : Int) : (#[.slice a0 l0 c0, .slice a1 l1 c1, .slice a2 l2 c2, .slice a3 l3 c3] : Array Value)[i]? ≠ some (.int k z) := by
 rcases (show i = 0 ∨ i = 1 ∨ i = 2 ∨ i = 3 ∨ 4 ≤ i by omega) with rfl | rfl | rfl | rfl | h
 ·simp
 ·simp
 ·simp
 ·simp
 ·rw [Array.getElem?_eq_none (by simpa using h)]; simp
theorem fr3 {g : Bool} {a0 a1 : Option Addr} {l0 c0 l1 c1 : Nat} (i : Nat) (k : IntKind) (z : Int) : (#[.bool g, .slice a0 l0 c0, .slice a1 l1 c1] : Array Value)[i]? ≠ some (.int k z) := by
 rcases (show i = 0 ∨ i = 1 ∨ i = 2 ∨ 3 ≤ i by omega) with rfl | rfl | rfl | h
 ·simp
 ·simp
 ·simp
 ·rw [Array.getElem?_eq_none (by simpa using h)]; simp
set_option maxHeartbeats 3200000 in
set_option maxRecDepth 100000 in
theorem Next_n {a0 a1 a2 a3 aT : Option Addr} {l0 c0 l1 c1 l2 c2 l3 c3 lT cT : Nat} {X Y X' Y' T : Int} {w : World} (h0 : Nn w a0 l0 c0 X) (h1 : Nn w a1 l1 c1 Y) (h2 : Nn w a2 l2 c2 X') (h3 : Nn w a3 l3 c3 Y') (hT : Nn w aT lT cT T) {m : Nat} (b0 : X < pw m) (b1 : Y < pw m) (b2 : X' < pw m) (b3 : Y' < pw m) (bT : T < pw m) (hm : m < 80) :
  Calls Tryz.prog 108 #[.agg #[.slice a0 l0 c0, .slice a1 l1 c1, .slice a2 l2 c2, .slice a3 l3 c3], .agg #[.slice aT lT cT]] w fun e w' => ∃ (a : Option Addr × Option Addr) (l c : Nat × Nat), e = .returned (.agg #[.slice a.1 l.1 c.1, .slice a.2 l.2 c.2, .slice a0 l0 c0, .slice a1 l1 c1]) ∧ (Nn w' a.1 l.1 c.1 (T * X + X') ∧ Nn w' a.2 l.2 c.2 (T * Y + Y')) ∧ Below w.heap.size w w' := by
 have hk : MulOK m m := by unfold MulOK; omega
 have U1 : ∀ x, Below w.heap.size w x → Calls Tryz.prog 31 #[.agg #[.slice aT lT cT], .agg #[.slice a0 l0 c0]] x fun e w' => ∃ a l c, e = .returned (.agg #[.slice a l c]) ∧ Nn w' a l c (T * X) ∧ Below x.heap.size x w' := fun x b => Mul_n (hT.grow b) (h0.grow b) bT b0 hk
 have U3 : ∀ x, Below w.heap.size w x → Calls Tryz.prog 31 #[.agg #[.slice aT lT cT], .agg #[.slice a1 l1 c1]] x fun e w' => ∃ a l c, e = .returned (.agg #[.slice a l c]) ∧ Nn w' a l c (T * Y) ∧ Below x.heap.size x w' := fun x b => Mul_n (hT.grow b) (h1.grow b) bT b1 hk
 have tp := hT.nonneg
 have e2 : ∀ {V : Int}, V < pw m → V < pw (m + m) := fun h => by have := pw_mono (show m ≤ m + m by omega); omega
 have e3 : ∀ {V : Int}, 0 ≤ V → V < pw m → T * V < pw (m + m) := fun h0 h => by rw [pw_add]; exact Int.mul_lt_mul' (Int.le_of_lt bT) h h0 (pw_pos m)
 have U2 : ∀ x a l c, Below w.heap.size w x → Nn x a l c (T * X) → Calls Tryz.prog 46 #[.agg #[.slice a l c], .agg #[.slice a2 l2 c2]] x fun e w' => ∃ a l c, e = .returned (.agg #[.slice a l c]) ∧ Nn w' a l c (T * X + X') ∧ Below x.heap.size x w' := fun x a l c b h => Add_n h (h2.grow b) (e3 h0.nonneg b0) (e2 b2) (by omega)
 have U4 : ∀ x a l c, Below w.heap.size w x → Nn x a l c (T * Y) → Calls Tryz.prog 46 #[.agg #[.slice a l c], .agg #[.slice a3 l3 c3]] x fun e w' => ∃ a l c, e = .returned (.agg #[.slice a l c]) ∧ Nn w' a l c (T * Y + Y') ∧ Below x.heap.size x w' := fun x a l c b h => Add_n h (h3.grow b) (e3 h1.nonneg b1) (e2 b3) (by omega)
 generalize T * X + X' = R1 at *
 generalize T * Y + Y' = R2 at *
 generalize T * X = Q1 at *
 generalize T * Y = Q2 at *
 clear h0 h1 h2 h3 hT b0 b1 b2 b3 bT hm hk tp e2 e3
 have K0 := ((Blk.new w #[.slice a0 l0 c0, .slice a1 l1 c1, .slice a2 l2 c2, .slice a3 l3 c3] 142).alloc (.cells #[.slice aT lT cT] 42)).alloc (.cells #[.slice none 0 0, .slice none 0 0, .slice none 0 0, .slice none 0 0] 142)
 have KT := (Bx.new (w.alloc (.cells #[.slice a0 l0 c0, .slice a1 l1 c1, .slice a2 l2 c2, .slice a3 l3 c3] 142)) (.slice aT lT cT) 42).alloc (.cells #[.slice none 0 0, .slice none 0 0, .slice none 0 0, .slice none 0 0] 142)
 have KR := Blk.new ((w.alloc (.cells #[.slice a0 l0 c0, .slice a1 l1 c1, .slice a2 l2 c2, .slice a3 l3 c3] 142)).alloc (.cells #[.slice aT lT cT] 42)) #[.slice none 0 0, .slice none 0 0, .slice none 0 0, .slice none 0 0] 142
 have pr : Below w.heap.size w (((w.alloc (.cells #[.slice a0 l0 c0, .slice a1 l1 c1, .slice a2 l2 c2, .slice a3 l3 c3] 142)).alloc (.cells #[.slice aT lT cT] 42)).alloc (.cells #[.slice none 0 0, .slice none 0 0, .slice none 0 0, .slice none 0 0] 142)) := (((Below.refl _ _).alloc (Nat.le_refl _) _).alloc (by simp) _).alloc (by simp; omega) _
 simp only [World.size_alloc] at KT KR
 go_enter Tryz.func108, Tryz.ntmps108
 go_wp2_with fail
 generalize ((w.alloc (.cells #[.slice a0 l0 c0, .slice a1 l1 c1, .slice a2 l2 c2, .slice a3 l3 c3] 142)).alloc (.cells #[.slice aT lT cT] 42)).alloc (.cells #[.slice none 0 0, .slice none 0 0, .slice none 0 0, .slice none 0 0] 142) = W at *
 obtain ⟨k0, k1, k2, k3, kl⟩ := c4 K0
 have hne1 : w.heap.size ≠ w.heap.size + 1 + 1 := by omega
 have hne2 : w.heap.size + 1 + 1 ≠ w.heap.size := by omega
 have kt := KT.1
 go_region_held3 (fun x => x.cell? ⟨w.heap.size, 0, none⟩ = some (.slice a0 l0 c0) ∧ x.cell? ⟨w.heap.size, 1, none⟩ = some (.slice a1 l1 c1) ∧ x.cell? ⟨w.heap.size, 2, none⟩ = some (.slice a2 l2 c2) ∧ x.cell? ⟨w.heap.size, 3, none⟩ = some (.slice a3 l3 c3) ∧ x.cell? ⟨w.heap.size + 1, 0, none⟩ = some (.slice aT lT cT)) (go_keep) (first
  | (go_at_call 46; (have z := d3); refine (U4 _ p3 m3 q3 (bel' pr d3) n3).mono ?_; rintro e w4 ⟨p4, m4, q4, rfl, n4, d4'⟩; have d4 := bel' d3 d4'; obtain ⟨y0, y1, y2, y3, yl⟩ := c4 (K0.below d4 K0.lt); have yt := (KT.below d4).1; have KR4 := KR.below d4 KR.lt; obtain ⟨r0, r1, r2, r3, rl⟩ := c4 KR4; have s0 := KR4.free 0; have s1 := KR4.free 1; have s2 := KR4.free 2; have s3 := KR4.free 3; have n2 := n2.grow d4'; clear d4')
  | (go_at_call 31; (have z := d2); refine (U3 _ (bel' pr d2)).mono ?_; rintro e w3 ⟨p3, m3, q3, rfl, n3, d3⟩; have n2 := n2.grow d3; have d3 := bel' d2 d3; obtain ⟨x0, x1, x2, x3, xl⟩ := c4 (K0.below d3 K0.lt); have xt := (KT.below d3).1)
  | (go_at_call 46; (have z := d1); refine (U2 _ p1 m1 q1 (bel' pr d1) n1).mono ?_; rintro e w2 ⟨p2, m2, q2, rfl, n2, d2⟩; have d2 := bel' d1 d2; obtain ⟨v0, v1, v2, v3, vl⟩ := c4 (K0.below d2 K0.lt); have vt := (KT.below d2).1)
  | (go_at_call 31; refine (U1 _ pr.drew).mono ?_; rintro e w1 ⟨p1, m1, q1, rfl, n1, d1⟩; have d1 := undrew d1; obtain ⟨u0, u1, u2, u3, ul⟩ := c4 (K0.below d1 K0.lt); have ut := (KT.below d1).1)
  | fail)
 have f2 := n2.off KR4 sl4
 have f4 := n4.off KR4 sl4
 have N2 := (((n2.set f2 0 (.slice p2 m2 q2)).set f2 1 (.slice p4 m4 q4)).set f2 2 (.slice a0 l0 c0)).set f2 3 (.slice a1 l1 c1)
 have N4 := (((n4.set f4 0 (.slice p2 m2 q2)).set f4 1 (.slice p4 m4 q4)).set f4 2 (.slice a0 l0 c0)).set f4 3 (.slice a1 l1 c1)
 have KE : Blk ((((w4.setCell ⟨w.heap.size + 1 + 1, 0, none⟩ (.slice p2 m2 q2)).setCell ⟨w.heap.size + 1 + 1, 1, none⟩ (.slice p4 m4 q4)).setCell ⟨w.heap.size + 1 + 1, 2, none⟩ (.slice a0 l0 c0)).setCell ⟨w.heap.size + 1 + 1, 3, none⟩ (.slice a1 l1 c1)) (w.heap.size + 1 + 1) #[.slice p2 m2 q2, .slice p4 m4 q4, .slice a0 l0 c0, .slice a1 l1 c1] 142 := bput (bput (bput (bput KR4 0 _) 1 _) 2 _) 3 _
 have BE := ((((bel' pr d4).setCell (p := ⟨w.heap.size + 1 + 1, 0, none⟩) (show w.heap.size ≤ w.heap.size + 1 + 1 by omega) (.slice p2 m2 q2)).setCell (p := ⟨w.heap.size + 1 + 1, 1, none⟩) (show w.heap.size ≤ w.heap.size + 1 + 1 by omega) (.slice p4 m4 q4)).setCell (p := ⟨w.heap.size + 1 + 1, 2, none⟩) (show w.heap.size ≤ w.heap.size + 1 + 1 by omega) (.slice a0 l0 c0)).setCell (p := ⟨w.heap.size + 1 + 1, 3, none⟩) (show w.heap.size ≤ w.heap.size + 1 + 1 by omega) (.slice a1 l1 c1)
 go_wp2_with fail
 generalize (((w4.setCell ⟨w.heap.size + 1 + 1, 0, none⟩ (.slice p2 m2 q2)).setCell ⟨w.heap.size + 1 + 1, 1, none⟩ (.slice p4 m4 q4)).setCell ⟨w.heap.size + 1 + 1, 2, none⟩ (.slice a0 l0 c0)).setCell ⟨w.heap.size + 1 + 1, 3, none⟩ (.slice a1 l1 c1) = WE at *
 obtain ⟨g0, g1, g2, g3, gl⟩ := c4 KE
 exact bodyPost_ret (v := .agg #[.slice p2 m2 q2, .slice p4 m4 q4, .slice a0 l0 c0, .slice a1 l1 c1]) (by simp [results, Tryz.results108, go_sem, g0, g1, g2, g3]) rfl ⟨(p2, p4), (m2, m4), (q2, q4), rfl, ⟨N2, N4⟩, BE⟩
set_option maxRecDepth 100000 in
theorem CFrac_n (a0 a1 a2 a3 : Option Addr) (l0 c0 l1 c1 l2 c2 l3 c3 : Nat) (w : World) :
  Calls Tryz.prog 109 #[.agg #[.slice a0 l0 c0, .slice a1 l1 c1, .slice a2 l2 c2, .slice a3 l3 c3]] w fun e w' => e = .returned (.agg #[.bool false, .slice a0 l0 c0, .slice a1 l1 c1]) ∧ Below w.heap.size w w' := by
 go_enter Tryz.func109, Tryz.ntmps109
 go_wp2
 refine bodyPost_ret (v := .agg #[.bool false, .slice a0 l0 c0, .slice a1 l1 c1]) (by simp [results, Tryz.results109, go_sem]) rfl ⟨rfl, ?_⟩
 exact ((Below.refl _ _).alloc (Nat.le_refl _) _).alloc (by simp) _
theorem Of_n (X : Int) (w : World) (h0 : 0 ≤ X) (h1 : X < 18446744073709551616) :
  Calls Tryz.prog 19 #[.int .u64 X] w fun e w' => ∃ a l c, e = .returned (.agg #[.slice a l c]) ∧ Nn w' a l c X ∧ Below w.heap.size w w' := by
 refine (Of_any X w h0 h1).mono ?_
 rintro e w' ⟨r, zs, rfl, hr, hn, hv, b⟩
 obtain ⟨a, l, c, rfl⟩ := hr.shape
 exact ⟨a, l, c, rfl, ⟨zs, hr, hn, hv⟩, b⟩
theorem Nn.nil (w : World) : Nn w none 0 0 0 := ⟨[], Rd.nil w, Or.inl rfl, rfl⟩
set_option maxHeartbeats 1600000 in
set_option maxRecDepth 100000 in
theorem NewC_n (w : World) :
  Calls Tryz.prog 107 #[] w fun e w' => ∃ (a : Option Addr × Option Addr) (l c : Nat × Nat), e = .returned (.agg #[.slice a.1 l.1 c.1, .slice none 0 0, .slice none 0 0, .slice a.2 l.2 c.2]) ∧ (Nn w' a.1 l.1 c.1 1 ∧ Nn w' a.2 l.2 c.2 1) ∧ Below w.heap.size w w' := by
 have O := fun x => Of_n 1 x (by decide) (by decide)
 have KR := Blk.new w #[.slice none 0 0, .slice none 0 0, .slice none 0 0, .slice none 0 0] 142
 have pr : Below w.heap.size w (w.alloc (.cells #[.slice none 0 0, .slice none 0 0, .slice none 0 0, .slice none 0 0] 142)) := (Below.refl _ _).alloc (Nat.le_refl _) _
 go_enter Tryz.func107, Tryz.ntmps107
 go_wp2_with (first
  | (go_at_call 19; (have z := b1); refine (O _).mono ?_; rintro e w2 ⟨p2, m2, q2, rfl, n2, b2⟩; have n1 := n1.grow b2; have b2 := bel' b1 b2; have KR2 := KR.below b2 KR.lt; obtain ⟨r0, r1, r2, r3, rl⟩ := c4 KR2; have s0 := KR2.free 0; have s1 := KR2.free 1; have s2 := KR2.free 2; have s3 := KR2.free 3)
  | (go_at_call 19; refine (O _).mono ?_; rintro e w1 ⟨p1, m1, q1, rfl, n1, b1⟩)
  | fail)
 have f1 := n1.off KR2 sl4
 have f2 := n2.off KR2 sl4
 have N1 := (((n1.set f1 0 (.slice p1 m1 q1)).set f1 1 (.slice none 0 0)).set f1 2 (.slice none 0 0)).set f1 3 (.slice p2 m2 q2)
 have N2 := (((n2.set f2 0 (.slice p1 m1 q1)).set f2 1 (.slice none 0 0)).set f2 2 (.slice none 0 0)).set f2 3 (.slice p2 m2 q2)
 have KE : Blk ((((w2.setCell ⟨w.heap.size, 0, none⟩ (.slice p1 m1 q1)).setCell ⟨w.heap.size, 1, none⟩ (.slice none 0 0)).setCell ⟨w.heap.size, 2, none⟩ (.slice none 0 0)).setCell ⟨w.heap.size, 3, none⟩ (.slice p2 m2 q2)) (w.heap.size) #[.slice p1 m1 q1, .slice none 0 0, .slice none 0 0, .slice p2 m2 q2] 142 := bput (bput (bput (bput KR2 0 _) 1 _) 2 _) 3 _
 have BE := ((((bel' pr b2).setCell (p := ⟨w.heap.size, 0, none⟩) (Nat.le_refl _) (.slice p1 m1 q1)).setCell (p := ⟨w.heap.size, 1, none⟩) (Nat.le_refl _) (.slice none 0 0)).setCell (p := ⟨w.heap.size, 2, none⟩) (Nat.le_refl _) (.slice none 0 0)).setCell (p := ⟨w.heap.size, 3, none⟩) (Nat.le_refl _) (.slice p2 m2 q2)
 generalize (((w2.setCell ⟨w.heap.size, 0, none⟩ (.slice p1 m1 q1)).setCell ⟨w.heap.size, 1, none⟩ (.slice none 0 0)).setCell ⟨w.heap.size, 2, none⟩ (.slice none 0 0)).setCell ⟨w.heap.size, 3, none⟩ (.slice p2 m2 q2) = WE at *
 obtain ⟨g0, g1, g2, g3, gl⟩ := c4 KE
 exact bodyPost_ret (v := .agg #[.slice p1 m1 q1, .slice none 0 0, .slice none 0 0, .slice p2 m2 q2]) (by simp [results, Tryz.results107, go_sem, g0, g1, g2, g3]) rfl ⟨(p1, p2), (m1, m2), (q1, q2), rfl, ⟨N1, N2⟩, BE⟩
end Go.Proofs.YtapdhadpdbmkcaaGreatDoor.Mo
