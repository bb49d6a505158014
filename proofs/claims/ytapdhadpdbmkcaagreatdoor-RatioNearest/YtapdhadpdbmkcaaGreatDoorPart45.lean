import Derived.Test.YtapdhadpdbmkcaaGreatDoorPart38
import Derived.Test.YtapdhadpdbmkcaaGreatDoorPart39

namespace Go.Proofs.YtapdhadpdbmkcaaGreatDoor.Mo
open Go.RowKit Fu Tn Go.Lib Dc

set_option maxHeartbeats 3200000 in
set_option maxRecDepth 100000 in
theorem Cmp_raw (s1 t1 s2 t2 : ByteArray) (g1 g2 : Bool) (O1 D1 O2 D2 : Int) (k : Int) (w : World)
  (CR' : ∀ x, Below w.heap.size w x → Calls Tryz.prog 26 #[.agg #[.string s1, .string t1], .agg #[.string s2, .string t2]] x fun e w' => ∃ (a : (Option Addr × Option Addr) × (Option Addr × Option Addr)) (l c : (Nat × Nat) × (Nat × Nat)), e = .returned (.tuple #[.agg #[.bool g1, .slice a.1.1 l.1.1 c.1.1, .slice a.1.2 l.1.2 c.1.2], .agg #[.bool g2, .slice a.2.1 l.2.1 c.2.1, .slice a.2.2 l.2.2 c.2.2], .int .i64 0]) ∧ ((Nn w' a.1.1 l.1.1 c.1.1 O1 ∧ Nn w' a.1.2 l.1.2 c.1.2 D1) ∧ (Nn w' a.2.1 l.2.1 c.2.1 O2 ∧ Nn w' a.2.2 l.2.2 c.2.2 D2)) ∧ Below x.heap.size x w')
  (CC : ∀ x (a : Option Addr × Option Addr) (l c : Nat × Nat) (a' : Option Addr × Option Addr) (l' c' : Nat × Nat), Nn x a.1 l.1 c.1 O1 → Nn x a.2 l.2 c.2 D1 → Nn x a'.1 l'.1 c'.1 O2 → Nn x a'.2 l'.2 c'.2 D2 → Calls Tryz.prog 28 #[.agg #[.bool g1, .slice a.1 l.1 c.1, .slice a.2 l.2 c.2], .agg #[.bool g2, .slice a'.1 l'.1 c'.1, .slice a'.2 l'.2 c'.2]] x fun e w' => e = .returned (.int .i64 k) ∧ Below x.heap.size x w') :
  Calls Tryz.prog 10 #[.agg #[.string s1, .string t1], .agg #[.string s2, .string t2]] w fun e w' => e = .returned (.tuple #[.int .i64 k, .int .i64 0]) ∧ Below w.heap.size w w' := by
 have KA := (Blk.new w #[.string s1, .string t1] 23).alloc (.cells #[.string s2, .string t2] 23)
 have KB := Blk.new (w.alloc (.cells #[.string s1, .string t1] 23)) #[.string s2, .string t2] 23
 simp only [World.size_alloc] at KB
 have pr : Below w.heap.size w ((w.alloc (.cells #[.string s1, .string t1] 23)).alloc (.cells #[.string s2, .string t2] 23)) := ((Below.refl _ _).alloc (Nat.le_refl _) _).alloc (by simp) _
 go_enter Tryz.func10, Tryz.ntmps10
 go_wp2_with fail
 have ka0 := KA.at 0
 have ka1 := KA.at 1
 have kb0 := KB.at 0
 have kb1 := KB.at 1
 simp at ka0 ka1 kb0 kb1
 generalize ((w.alloc (.cells #[.string s1, .string t1] 23)).alloc (.cells #[.string s2, .string t2] 23)) = W at *
 go_wp2_with (first
  | (go_at_call 26; go_must (refine (CR' _ pr).mono ?_; rintro e w1 ⟨p, q, r, rfl, H, b1⟩; (have al := (((Below.refl w1.heap.size w1).alloc (Nat.le_refl _) (.cells #[.bool g1, .slice p.1.1 q.1.1 r.1.1, .slice p.1.2 q.1.2 r.1.2] 44)).alloc (by simp) (.cells #[.bool g2, .slice p.2.1 q.2.1 r.2.1, .slice p.2.2 q.2.2 r.2.2] 44))); (have b2 := bel' b1 al); (have pB := bel' pr b2); (have n1 := (⟨H.1.1.grow al, H.1.2.grow al⟩ : _ ∧ _)); (have n2 := (⟨H.2.1.grow al, H.2.2.grow al⟩ : _ ∧ _)); (have KF := Rb.new w1 (.bool g1) (.slice p.1.1 q.1.1 r.1.1) (.slice p.1.2 q.1.2 r.1.2) 44); (have KF := KF.alloc (.cells #[.bool g2, .slice p.2.1 q.2.1 r.2.1, .slice p.2.2 q.2.2 r.2.2] 44)); (have KG := Rb.new (w1.alloc (.cells #[.bool g1, .slice p.1.1 q.1.1 r.1.1, .slice p.1.2 q.1.2 r.1.2] 44)) (.bool g2) (.slice p.2.1 q.2.1 r.2.1) (.slice p.2.2 q.2.2 r.2.2) 44); (have sz : (w1.alloc (.cells #[.bool g1, .slice p.1.1 q.1.1 r.1.1, .slice p.1.2 q.1.2 r.1.2] 44)).heap.size = w1.heap.size + 1 := World.size_alloc _ _); (rw [sz] at KG); (have kf0 := KF.c0); (have kf1 := KF.c1); (have kf2 := KF.c2); (have kg0 := KG.c0); (have kg1 := KG.c1); (have kg2 := KG.c2)))
  | (go_at_call 28; go_must (refine (CC _ p.1 q.1 r.1 p.2 q.2 r.2 n1.1 n1.2 n2.1 n2.2).mono ?_; rintro e w9 ⟨rfl, b9⟩; (have pE := bel' pB b9)))
  | fail)
 exact bodyPost_ret (v := .tuple #[.int .i64 k, .int .i64 0]) (by simp [results, Tryz.results10, go_sem]) rfl ⟨rfl, pE⟩
set_option maxHeartbeats 3200000 in
set_option maxRecDepth 100000 in
theorem Neg_raw (s1 t1 u v : ByteArray) (g1 : Bool) (O1 D1 : Int) (er : Int) (t : Rat) (w : World)
  (CR' : ∀ x, Below w.heap.size w x → Calls Tryz.prog 16 #[.agg #[.string s1, .string t1]] x fun e w' => ∃ (a : Option Addr × Option Addr) (l c : Nat × Nat), e = .returned (.tuple #[.agg #[.bool g1, .slice a.1 l.1 c.1, .slice a.2 l.2 c.2], .int .i64 0]) ∧ (Nn w' a.1 l.1 c.1 O1 ∧ Nn w' a.2 l.2 c.2 D1) ∧ Below x.heap.size x w')
  (CN : ∀ x (a : Option Addr × Option Addr) (l c : Nat × Nat), Nn x a.1 l.1 c.1 O1 → Nn x a.2 l.2 c.2 D1 → Calls Tryz.prog 27 #[.agg #[.bool g1, .slice a.1 l.1 c.1, .slice a.2 l.2 c.2]] x fun e w' => ∃ y, e = .returned y ∧ PF w' y t ∧ Below x.heap.size x w')
  (CT : ∀ x y, PF x y t → Below w.heap.size w x → Calls Tryz.prog 22 #[y] x fun e w' => e = .returned (.tuple #[.agg #[.string u, .string v], .int .i64 er]) ∧ Below x.heap.size x w') :
  Calls Tryz.prog 9 #[.agg #[.string s1, .string t1]] w fun e w' => e = .returned (.tuple #[.agg #[.string u, .string v], .int .i64 er]) ∧ Below w.heap.size w w' := by
 have KA := (Blk.new w #[.string s1, .string t1] 23).alloc (.cells #[.string ⟨#[]⟩, .string ⟨#[]⟩] 23)
 have KR := Blk.new (w.alloc (.cells #[.string s1, .string t1] 23)) #[.string ⟨#[]⟩, .string ⟨#[]⟩] 23
 simp only [World.size_alloc] at KR
 have pr : Below w.heap.size w ((w.alloc (.cells #[.string s1, .string t1] 23)).alloc (.cells #[.string ⟨#[]⟩, .string ⟨#[]⟩] 23)) := ((Below.refl _ _).alloc (Nat.le_refl _) _).alloc (by simp) _
 go_enter Tryz.func9, Tryz.ntmps9
 go_wp2_with fail
 have ka0 := KA.at 0
 have ka1 := KA.at 1
 simp at ka0 ka1
 generalize ((w.alloc (.cells #[.string s1, .string t1] 23)).alloc (.cells #[.string ⟨#[]⟩, .string ⟨#[]⟩] 23)) = W at *
 go_wp2_with (first
  | (go_at_call 16; go_must (refine (CR' _ pr).mono ?_; rintro e w1 ⟨p, q, r, rfl, H, b1⟩; (have al := ((Below.refl w1.heap.size w1).alloc (Nat.le_refl _) (.cells #[.bool g1, .slice p.1 q.1 r.1, .slice p.2 q.2 r.2] 44))); (have b2 := bel' b1 al); (have pB := bel' pr b2); (have n1 := (⟨H.1.grow al, H.2.grow al⟩ : _ ∧ _)); (have KR1 := KR.below b2 KR.lt); (have KF := Rb.new w1 (.bool g1) (.slice p.1 q.1 r.1) (.slice p.2 q.2 r.2) 44); (have kf0 := KF.c0); (have kf1 := KF.c1); (have kf2 := KF.c2)))
  | (go_at_call 27; go_must (refine (CN _ p q r n1.1 n1.2).mono ?_; rintro e w3 ⟨y, rfl, hy, b3⟩))
  | (go_at_call 22; go_must (refine (CT _ _ hy (bel' pB b3)).mono ?_; rintro e w9 ⟨rfl, b9⟩; (have b5 := bel' b3 b9); (have KR2 := KR1.below b5 KR1.lt); (have m0 := KR2.at 0); (have m1 := KR2.at 1); (have m2 := KR2.free 0); (have m3 := KR2.free 1); (simp at m0 m1)))
  | fail)
 have kE : Blk ((w9.setCell ⟨w.heap.size + 1, 0, none⟩ (.string u)).setCell ⟨w.heap.size + 1, 1, none⟩ (.string v)) (w.heap.size + 1) #[.string u, .string v] 23 := bput (bput KR2 0 _) 1 _
 have bE : Below w.heap.size w ((w9.setCell ⟨w.heap.size + 1, 0, none⟩ (.string u)).setCell ⟨w.heap.size + 1, 1, none⟩ (.string v)) := ((bel' pB b5).setCell (p := ⟨w.heap.size + 1, 0, none⟩) (by show w.heap.size ≤ w.heap.size + 1; omega) _).setCell (p := ⟨w.heap.size + 1, 1, none⟩) (by show w.heap.size ≤ w.heap.size + 1; omega) _
 generalize (w9.setCell ⟨w.heap.size + 1, 0, none⟩ (.string u)).setCell ⟨w.heap.size + 1, 1, none⟩ (.string v) = WE at *
 have r0 := kE.at 0
 have r1 := kE.at 1
 simp at r0 r1
 exact bodyPost_ret (v := .tuple #[.agg #[.string u, .string v], .int .i64 er]) (by simp [results, Tryz.results9, go_sem, r0, r1]) rfl ⟨rfl, bE⟩
set_option maxHeartbeats 3200000 in
set_option maxRecDepth 100000 in
theorem Check_raw (s1 t1 : ByteArray) (k : Int) (w : World)
  (CR' : ∀ x, Below w.heap.size w x → Calls Tryz.prog 16 #[.agg #[.string s1, .string t1]] x fun e w' => ∃ (g : Bool) (a : Option Addr × Option Addr) (l c : Nat × Nat), e = .returned (.tuple #[.agg #[.bool g, .slice a.1 l.1 c.1, .slice a.2 l.2 c.2], .int .i64 k]) ∧ Below x.heap.size x w') :
  Calls Tryz.prog 15 #[.agg #[.string s1, .string t1]] w fun e w' => e = .returned (.int .i64 k) ∧ Below w.heap.size w w' := by
 have KA := Blk.new w #[.string s1, .string t1] 23
 have pr : Below w.heap.size w (w.alloc (.cells #[.string s1, .string t1] 23)) := (Below.refl _ _).alloc (Nat.le_refl _) _
 have ka0 := KA.at 0
 have ka1 := KA.at 1
 simp at ka0 ka1
 go_enter Tryz.func15, Tryz.ntmps15
 go_wp2_with (first
  | (go_at_call 16; go_must (refine (CR' _ pr).mono ?_; rintro e w1 ⟨g, a, l, c, rfl, b1⟩))
  | fail)
 exact bodyPost_ret (v := .int .i64 k) (by simp [results, Tryz.results15, go_sem]) rfl ⟨rfl, bel' (bel' pr b1) ((Below.refl _ _).alloc (Nat.le_refl _) _)⟩
end Go.Proofs.YtapdhadpdbmkcaaGreatDoor.Mo

namespace Go.Proofs.YtapdhadpdbmkcaaGreatDoor.Mo
open Go.RowKit Fu Tn Go.Lib Dc

/-- What is written. -/
def wn (r : Rat) : ByteArray := (wA (decide (r.num < 0)) r.num.natAbs r.den).1.1
def wd (r : Rat) : ByteArray := (wA (decide (r.num < 0)) r.num.natAbs r.den).1.2
theorem wrA_eq (r : Rat) : (wrA r).1 = .agg #[.string (wn r), .string (wd r)] := rfl
/-- A number that is read: neither part has more than 4096 digits. -/
def Rdy (r : Rat) : Prop := (decDigits r.num.natAbs).length ≤ 4096 ∧ (decDigits r.den).length ≤ 4096
theorem PS.rdy {r : Rat} {m : Nat} (h : PS r m) (hm : m ≤ 200) : Rdy r := ⟨short_words h.1 hm, short_words h.2 hm⟩
theorem Read_r {r : Rat} (h : Rdy r) (x : World) : Calls Tryz.prog 16 #[wrt r] x fun e w' => ∃ (a : Option Addr × Option Addr) (l c : Nat × Nat), e = .returned (.tuple #[.agg #[.bool (decide (r.num < 0)), .slice a.1 l.1 c.1, .slice a.2 l.2 c.2], .int .i64 0]) ∧ (Nn w' a.1 l.1 c.1 (r.num.natAbs : Int) ∧ Nn w' a.2 l.2 c.2 (r.den : Int)) ∧ Below x.heap.size x w' := by
 refine (Read_p r x h.1 h.2).mono ?_
 rintro e w' ⟨v, rfl, ⟨a, l, c, a', l', c', rfl, k1, k2⟩, b⟩
 exact ⟨(a, a'), (l, l'), (c, c'), rfl, ⟨k1, k2⟩, b⟩
theorem Add_r {r s : Rat} {m n : Nat} (hr : Rdy r) (hs : Rdy s) (h1 : PS r m) (h2 : PS s n) (hk : MulOK m n) (hb : m + n + 1 ≤ 1000000) (w : World) (G : Gw w) :
  Calls Tryz.prog 12 #[wrt r, wrt s] w fun e w' => e = .returned (.tuple #[(wrA (r + s)).1, .int .i64 (wrA (r + s)).2]) ∧ Below w.heap.size w w' := by
 refine Add_raw _ _ _ _ _ _ _ _ _ _ _ _ _ w (fun x _ => readTwo_p r s x hr.1 hr.2 hs.1 hs.2) ?_
 intro x a l c b n1 n2
 refine (Plus_p _ _ r s m n x ⟨_, _, _, _, _, _, rfl, n1.1, n1.2⟩ ⟨_, _, _, _, _, _, rfl, n2.1, n2.2⟩ h1 h2 hk hb).mono ?_
 rintro e w' ⟨y, rfl, hy, b'⟩
 exact ⟨y, rfl, fun z bz => Ratio_any y (r + s) z (hy.grow bz) ((h1.add h2).mono hb) (G.grow (bel' (bel' b b') bz)), b'⟩
theorem Sub_r {r s : Rat} {m n : Nat} (hr : Rdy r) (hs : Rdy s) (h1 : PS r m) (h2 : PS s n) (hk : MulOK m n) (hb : m + n + 1 ≤ 1000000) (w : World) (G : Gw w) :
  Calls Tryz.prog 8 #[wrt r, wrt s] w fun e w' => e = .returned (.tuple #[(wrA (r - s)).1, .int .i64 (wrA (r - s)).2]) ∧ Below w.heap.size w w' := by
 rw [Rat.sub_eq_add_neg]
 refine Sub_raw _ _ _ _ _ _ _ _ _ _ _ _ _ (-s) (r + -s) w (fun x _ => readTwo_p r s x hr.1 hr.2 hs.1 hs.2) ?_ ?_ ?_
 ·intro x a l c k1 k2
  exact Negated_p _ s x ⟨_, _, _, _, _, _, rfl, k1, k2⟩
 ·intro x a l c y k1 k2 hy
  exact Plus_p _ y r (-s) m n x ⟨_, _, _, _, _, _, rfl, k1, k2⟩ hy h1 h2.neg hk hb
 ·intro x y hy b
  exact Ratio_any y (r + -s) x hy ((h1.add h2.neg).mono hb) (G.grow b)
theorem Neg_r {r : Rat} {m : Nat} (hr : Rdy r) (h1 : PS r m) (hm : m ≤ 1000000) (w : World) (G : Gw w) :
  Calls Tryz.prog 9 #[wrt r] w fun e w' => e = .returned (.tuple #[(wrA (-r)).1, .int .i64 (wrA (-r)).2]) ∧ Below w.heap.size w w' := by
 refine Neg_raw _ _ _ _ _ _ _ _ (-r) w (fun x _ => Read_r hr x) ?_ ?_
 ·intro x a l c k1 k2
  exact Negated_p _ r x ⟨_, _, _, _, _, _, rfl, k1, k2⟩
 ·intro x y hy b
  exact Ratio_any y (-r) x hy (h1.neg.mono hm) (G.grow b)
theorem Cmp_r {r s : Rat} {m n : Nat} (hr : Rdy r) (hs : Rdy s) (h1 : PS r m) (h2 : PS s n) (hm : m < 80) (hn : n < 80) (w : World) :
  Calls Tryz.prog 10 #[wrt r, wrt s] w fun e w' => e = .returned (.tuple #[.int .i64 (pcm r s), .int .i64 0]) ∧ Below w.heap.size w w' := by
 refine Cmp_raw _ _ _ _ _ _ _ _ _ _ _ w (fun x _ => readTwo_p r s x hr.1 hr.2 hs.1 hs.2) ?_
 intro x a l c a' l' c' k1 k2 k3 k4
 exact Cmp_p _ _ r s m n x ⟨_, _, _, _, _, _, rfl, k1, k2⟩ ⟨_, _, _, _, _, _, rfl, k3, k4⟩ h1 h2 hm hn
theorem Check_any (n d : ByteArray) (w : World) (hn : n.size ≤ 1099511627776) (hd : d.size ≤ 1099511627776) :
  Calls Tryz.prog 15 #[.agg #[.string n, .string d]] w fun e w' => e = .returned (.int .i64 (goodE n d)) ∧ Below w.heap.size w w' := by
 refine Check_raw _ _ _ w (fun x _ => ?_)
 refine (Read_any n d x hn hd).mono ?_
 rintro e w' ⟨b, h | h⟩
 ·exact ⟨false, (none, none), (0, 0), (0, 0), h.2, b⟩
 ·obtain ⟨h0, v1, v2, xs, ys, rfl, r1, _, _, _, r2, _⟩ := h
  obtain ⟨a, l, c, rfl⟩ := r1.shape
  obtain ⟨a', l', c', rfl⟩ := r2.shape
  rw [h0]
  exact ⟨_, (a, a'), (l, l'), (c, c'), rfl, b⟩
theorem Check_r {r : Rat} (hr : Rdy r) (w : World) :
  Calls Tryz.prog 15 #[wrt r] w fun e w' => e = .returned (.int .i64 0) ∧ Below w.heap.size w w' := by
 have g := wrt_good r hr.1 hr.2
 have hs : (sB (sg (decide (r.num < 0)) (decDigits r.num.natAbs))).size ≤ 1099511627776 := by
  rw [sB_size]; unfold sg; have := hr.1; split <;> simp <;> omega
 have := Check_any (sB (sg (decide (r.num < 0)) (decDigits r.num.natAbs))) (sB (decDigits r.den)) w hs (by rw [sB_size]; have := hr.2; omega)
 rw [g] at this
 exact this
end Go.Proofs.YtapdhadpdbmkcaaGreatDoor.Mo

namespace Go.Proofs.YtapdhadpdbmkcaaGreatDoor.Mo
open Go.RowKit Fu Tn Go.Lib Dc

set_option maxHeartbeats 3200000 in
set_option maxRecDepth 100000 in
theorem Simplest_walk (L0 M00 H0 I0 : Wl) (A B : Int) (w : World)
  (CS : ∀ x, Below w.heap.size w x → Calls Tryz.prog 76 #[.agg #[.bool false, .slice L0.a L0.l L0.c, .slice M00.a M00.l M00.c]] x fun e w' => e = .returned (.int .i64 1) ∧ Below x.heap.size x w')
  (CA : ∀ x, Below w.heap.size w x → Calls Tryz.prog 77 #[.agg #[.bool false, .slice L0.a L0.l L0.c, .slice M00.a M00.l M00.c], .agg #[.bool false, .slice H0.a H0.l H0.c, .slice I0.a I0.l I0.c]] x fun e w' => ∃ (a : Option Addr × Option Addr) (l c : Nat × Nat), e = .returned (.agg #[.bool false, .slice a.1 l.1 c.1, .slice a.2 l.2 c.2]) ∧ (Nn w' a.1 l.1 c.1 (A : Int) ∧ Nn w' a.2 l.2 c.2 (B : Int)) ∧ Below x.heap.size x w') :
  Calls Tryz.prog 37 #[.agg #[.bool false, .slice L0.a L0.l L0.c, .slice M00.a M00.l M00.c], .agg #[.bool false, .slice H0.a H0.l H0.c, .slice I0.a I0.l I0.c]] w fun e w' => ∃ (a : Option Addr × Option Addr) (l c : Nat × Nat), e = .returned (.agg #[.bool false, .slice a.1 l.1 c.1, .slice a.2 l.2 c.2]) ∧ (Nn w' a.1 l.1 c.1 (A : Int) ∧ Nn w' a.2 l.2 c.2 (B : Int)) ∧ Below w.heap.size w w' := by
 have K0 := ((Rb.new w (.bool false) (.slice L0.a L0.l L0.c) (.slice M00.a M00.l M00.c) 44).alloc (.cells #[.bool false, .slice H0.a H0.l H0.c, .slice I0.a I0.l I0.c] 44)).alloc (.cells #[.bool false, .slice none 0 0, .slice none 0 0] 44)
 have K1 := (Rb.new (w.alloc (.cells #[.bool false, .slice L0.a L0.l L0.c, .slice M00.a M00.l M00.c] 44)) (.bool false) (.slice H0.a H0.l H0.c) (.slice I0.a I0.l I0.c) 44).alloc (.cells #[.bool false, .slice none 0 0, .slice none 0 0] 44)
 have K2 := Rb.new ((w.alloc (.cells #[.bool false, .slice L0.a L0.l L0.c, .slice M00.a M00.l M00.c] 44)).alloc (.cells #[.bool false, .slice H0.a H0.l H0.c, .slice I0.a I0.l I0.c] 44)) (.bool false) (.slice none 0 0) (.slice none 0 0) 44
 have pr : Below w.heap.size w (((w.alloc (.cells #[.bool false, .slice L0.a L0.l L0.c, .slice M00.a M00.l M00.c] 44)).alloc (.cells #[.bool false, .slice H0.a H0.l H0.c, .slice I0.a I0.l I0.c] 44)).alloc (.cells #[.bool false, .slice none 0 0, .slice none 0 0] 44)) := (((Below.refl _ _).alloc (Nat.le_refl _) _).alloc (by simp) _).alloc (by simp; omega) _
 simp only [World.size_alloc] at K1 K2
 go_enter Tryz.func37, Tryz.ntmps37
 go_wp2_with fail
 generalize ((w.alloc (.cells #[.bool false, .slice L0.a L0.l L0.c, .slice M00.a M00.l M00.c] 44)).alloc (.cells #[.bool false, .slice H0.a H0.l H0.c, .slice I0.a I0.l I0.c] 44)).alloc (.cells #[.bool false, .slice none 0 0, .slice none 0 0] 44) = W at *
 have k0 := K0.c0
 have k1 := K0.c1
 have k2 := K0.c2
 go_wp2_with (first
  | (go_at_call 76; refine (CS _ pr).mono ?_; rintro e w1 ⟨rfl, d1⟩; have p1 := bel' pr d1; have K01 := K0.grow d1; have K11 := K1.grow d1; have K21 := K2.grow d1; have q0 := K01.c0; have q1 := K01.c1; have q2 := K01.c2; have q3 := K11.c0; have q4 := K11.c1; have q5 := K11.c2)
  | (go_at_call 77; refine (CA _ p1).mono ?_; rintro e w2 ⟨a, l, c, rfl, ⟨n1, n2⟩, d2⟩; have p2 := bel' p1 d2; have K22 := K21.grow d2; have r0 := K22.c0; have r1 := K22.c1; have r2 := K22.c2; have s0 := K22.f0; have s1 := K22.f1; have s2 := K22.f2)
  | fail)
 have N1 := n1.putF (x := .bool false) (y := .slice a.1 l.1 c.1) (z := .slice a.2 l.2 c.2) K22
 have N2 := n2.putF (x := .bool false) (y := .slice a.1 l.1 c.1) (z := .slice a.2 l.2 c.2) K22
 obtain ⟨z0, z1, z2⟩ := K22.put (.bool false) (.slice a.1 l.1 c.1) (.slice a.2 l.2 c.2)
 have BE := bset3 (n := w.heap.size + 1 + 1) (x := .bool false) (y := .slice a.1 l.1 c.1) (z := .slice a.2 l.2 c.2) p2 (by omega)
 generalize ((w2.setCell ⟨w.heap.size + 1 + 1, 0, none⟩ (.bool false)).setCell ⟨w.heap.size + 1 + 1, 1, none⟩ (.slice a.1 l.1 c.1)).setCell ⟨w.heap.size + 1 + 1, 2, none⟩ (.slice a.2 l.2 c.2) = WE at *
 exact bodyPost_ret (v := .agg #[.bool false, .slice a.1 l.1 c.1, .slice a.2 l.2 c.2]) (by simp [results, Tryz.results37, go_sem, z0, z1, z2]) rfl ⟨a, l, c, rfl, ⟨N1, N2⟩, BE⟩
set_option maxHeartbeats 3200000 in
set_option maxRecDepth 100000 in
theorem Between_raw (s1 t1 s2 t2 u v : ByteArray) (g1 g2 : Bool) (O1 D1 O2 D2 : Int) (er k : Int) (t : Rat) (w : World) (hk : ¬ k > 0)
  (CR' : ∀ x, Below w.heap.size w x → Calls Tryz.prog 26 #[.agg #[.string s1, .string t1], .agg #[.string s2, .string t2]] x fun e w' => ∃ (a : (Option Addr × Option Addr) × (Option Addr × Option Addr)) (l c : (Nat × Nat) × (Nat × Nat)), e = .returned (.tuple #[.agg #[.bool g1, .slice a.1.1 l.1.1 c.1.1, .slice a.1.2 l.1.2 c.1.2], .agg #[.bool g2, .slice a.2.1 l.2.1 c.2.1, .slice a.2.2 l.2.2 c.2.2], .int .i64 0]) ∧ ((Nn w' a.1.1 l.1.1 c.1.1 O1 ∧ Nn w' a.1.2 l.1.2 c.1.2 D1) ∧ (Nn w' a.2.1 l.2.1 c.2.1 O2 ∧ Nn w' a.2.2 l.2.2 c.2.2 D2)) ∧ Below x.heap.size x w')
  (CC : ∀ x (a : Option Addr × Option Addr) (l c : Nat × Nat) (a' : Option Addr × Option Addr) (l' c' : Nat × Nat), Nn x a.1 l.1 c.1 O1 → Nn x a.2 l.2 c.2 D1 → Nn x a'.1 l'.1 c'.1 O2 → Nn x a'.2 l'.2 c'.2 D2 → Calls Tryz.prog 28 #[.agg #[.bool g1, .slice a.1 l.1 c.1, .slice a.2 l.2 c.2], .agg #[.bool g2, .slice a'.1 l'.1 c'.1, .slice a'.2 l'.2 c'.2]] x fun e w' => e = .returned (.int .i64 k) ∧ Below x.heap.size x w')
  (CS : ∀ x (a : Option Addr × Option Addr) (l c : Nat × Nat) (a' : Option Addr × Option Addr) (l' c' : Nat × Nat), Nn x a.1 l.1 c.1 O1 → Nn x a.2 l.2 c.2 D1 → Nn x a'.1 l'.1 c'.1 O2 → Nn x a'.2 l'.2 c'.2 D2 → Calls Tryz.prog 37 #[.agg #[.bool g1, .slice a.1 l.1 c.1, .slice a.2 l.2 c.2], .agg #[.bool g2, .slice a'.1 l'.1 c'.1, .slice a'.2 l'.2 c'.2]] x fun e w' => ∃ y, e = .returned y ∧ PF w' y t ∧ Below x.heap.size x w')
  (CT : ∀ x y, PF x y t → Below w.heap.size w x → Calls Tryz.prog 22 #[y] x fun e w' => e = .returned (.tuple #[.agg #[.string u, .string v], .int .i64 er]) ∧ Below x.heap.size x w') :
  Calls Tryz.prog 14 #[.agg #[.string s1, .string t1], .agg #[.string s2, .string t2]] w fun e w' => e = .returned (.tuple #[.agg #[.string u, .string v], .int .i64 er]) ∧ Below w.heap.size w w' := by
 have KA := ((Blk.new w #[.string s1, .string t1] 23).alloc (.cells #[.string s2, .string t2] 23)).alloc (.cells #[.string ⟨#[]⟩, .string ⟨#[]⟩] 23)
 have KB := (Blk.new (w.alloc (.cells #[.string s1, .string t1] 23)) #[.string s2, .string t2] 23).alloc (.cells #[.string ⟨#[]⟩, .string ⟨#[]⟩] 23)
 have KR := Blk.new ((w.alloc (.cells #[.string s1, .string t1] 23)).alloc (.cells #[.string s2, .string t2] 23)) #[.string ⟨#[]⟩, .string ⟨#[]⟩] 23
 simp only [World.size_alloc] at KB KR
 have pr : Below w.heap.size w (((w.alloc (.cells #[.string s1, .string t1] 23)).alloc (.cells #[.string s2, .string t2] 23)).alloc (.cells #[.string ⟨#[]⟩, .string ⟨#[]⟩] 23)) := (((Below.refl _ _).alloc (Nat.le_refl _) _).alloc (by simp) _).alloc (by simp; omega) _
 go_enter Tryz.func14, Tryz.ntmps14
 go_wp2_with fail
 have ka0 := KA.at 0
 have ka1 := KA.at 1
 have kb0 := KB.at 0
 have kb1 := KB.at 1
 simp at ka0 ka1 kb0 kb1
 generalize (((w.alloc (.cells #[.string s1, .string t1] 23)).alloc (.cells #[.string s2, .string t2] 23)).alloc (.cells #[.string ⟨#[]⟩, .string ⟨#[]⟩] 23)) = W at *
 go_wp2_with (first
  | (go_at_call 26; go_must (refine (CR' _ pr).mono ?_; rintro e w1 ⟨p, q, r, rfl, H, b1⟩; (have al := (((Below.refl w1.heap.size w1).alloc (Nat.le_refl _) (.cells #[.bool g1, .slice p.1.1 q.1.1 r.1.1, .slice p.1.2 q.1.2 r.1.2] 44)).alloc (by simp) (.cells #[.bool g2, .slice p.2.1 q.2.1 r.2.1, .slice p.2.2 q.2.2 r.2.2] 44))); (have b2 := bel' b1 al); (have pB := bel' pr b2); (have n1 := (⟨H.1.1.grow al, H.1.2.grow al⟩ : _ ∧ _)); (have n2 := (⟨H.2.1.grow al, H.2.2.grow al⟩ : _ ∧ _)); (have KR1 := KR.below b2 KR.lt); (have KF := Rb.new w1 (.bool g1) (.slice p.1.1 q.1.1 r.1.1) (.slice p.1.2 q.1.2 r.1.2) 44); (have KF := KF.alloc (.cells #[.bool g2, .slice p.2.1 q.2.1 r.2.1, .slice p.2.2 q.2.2 r.2.2] 44)); (have KG := Rb.new (w1.alloc (.cells #[.bool g1, .slice p.1.1 q.1.1 r.1.1, .slice p.1.2 q.1.2 r.1.2] 44)) (.bool g2) (.slice p.2.1 q.2.1 r.2.1) (.slice p.2.2 q.2.2 r.2.2) 44); (have sz : (w1.alloc (.cells #[.bool g1, .slice p.1.1 q.1.1 r.1.1, .slice p.1.2 q.1.2 r.1.2] 44)).heap.size = w1.heap.size + 1 := World.size_alloc _ _); (rw [sz] at KG); (have kf0 := KF.c0); (have kf1 := KF.c1); (have kf2 := KF.c2); (have kg0 := KG.c0); (have kg1 := KG.c1); (have kg2 := KG.c2)))
  | (go_at_call 28; go_must (refine (CC _ p.1 q.1 r.1 p.2 q.2 r.2 n1.1 n1.2 n2.1 n2.2).mono ?_; rintro e w2 ⟨rfl, d2⟩; (have kh0 := (KF.grow d2).c0); (have kh1 := (KF.grow d2).c1); (have kh2 := (KF.grow d2).c2); (have kj0 := (KG.grow d2).c0); (have kj1 := (KG.grow d2).c1); (have kj2 := (KG.grow d2).c2)))
  | (go_at_call 37; go_must (refine (CS _ p.1 q.1 r.1 p.2 q.2 r.2 (n1.1.grow d2) (n1.2.grow d2) (n2.1.grow d2) (n2.2.grow d2)).mono ?_; rintro e w3 ⟨y, rfl, hy, d3⟩; (have d3 := bel' d2 d3)))
  | (go_at_call 22; go_must (refine (CT _ _ hy (bel' pB d3)).mono ?_; rintro e w9 ⟨rfl, b9⟩; (have b5 := bel' d3 b9); (have KR2 := KR1.below b5 KR1.lt); (have m0 := KR2.at 0); (have m1 := KR2.at 1); (have m2 := KR2.free 0); (have m3 := KR2.free 1); (simp at m0 m1)))
  | fail)
 have kE : Blk ((w9.setCell ⟨w.heap.size + 1 + 1, 0, none⟩ (.string u)).setCell ⟨w.heap.size + 1 + 1, 1, none⟩ (.string v)) (w.heap.size + 1 + 1) #[.string u, .string v] 23 := bput (bput KR2 0 _) 1 _
 have bE : Below w.heap.size w ((w9.setCell ⟨w.heap.size + 1 + 1, 0, none⟩ (.string u)).setCell ⟨w.heap.size + 1 + 1, 1, none⟩ (.string v)) := ((bel' pB b5).setCell (p := ⟨w.heap.size + 1 + 1, 0, none⟩) (by show w.heap.size ≤ w.heap.size + 1 + 1; omega) _).setCell (p := ⟨w.heap.size + 1 + 1, 1, none⟩) (by show w.heap.size ≤ w.heap.size + 1 + 1; omega) _
 generalize (w9.setCell ⟨w.heap.size + 1 + 1, 0, none⟩ (.string u)).setCell ⟨w.heap.size + 1 + 1, 1, none⟩ (.string v) = WE at *
 have r0 := kE.at 0
 have r1 := kE.at 1
 simp at r0 r1
 exact bodyPost_ret (v := .tuple #[.agg #[.string u, .string v], .int .i64 er]) (by simp [results, Tryz.results14, go_sem, r0, r1]) rfl ⟨rfl, bE⟩
theorem Sign_one {a a' : Option Addr} {l c l' c' : Nat} {N : Nat} {w : World} (h : Nn w a l c (N : Int)) (h0 : 0 < N) :
  Calls Tryz.prog 76 #[.agg #[.bool false, .slice a l c, .slice a' l' c']] w fun e w' => e = .returned (.int .i64 1) ∧ Below w.heap.size w w' := by
 obtain ⟨xs, r, n, v⟩ := h
 refine (sign_any false _ _ xs w r n ⟨_, _, _, rfl⟩).mono ?_
 rintro e w' ⟨rfl, b⟩
 refine ⟨?_, b⟩
 rw [v]
 rw [if_neg (by simp), if_neg (by omega)]
/-- Between of two numbers above nought. -/
theorem Between_pos {r s t : Rat} {m : Nat} (M0 A B : Nat) (hr : Rdy r) (hs : Rdy s) (h1 : PS r m) (h2 : PS s m) (hm : m < 80) (hM : (M0 : Int) < pw m) (r0 : 0 < r.num) (s0 : 0 < s.num) (le : pcm r s ≤ 0)
  (inv : SI M0 r.num.natAbs r.den s.num.natAbs s.den 1 0 0 1) (fu : smp (r.den + s.den) r.num.natAbs r.den s.num.natAbs s.den 1 0 0 1 = (A, B)) (ht : t.num = A ∧ t.den = B) (w : World) (G : Gw w) :
  Calls Tryz.prog 14 #[wrt r, wrt s] w fun e w' => e = .returned (.tuple #[(wrA t).1, .int .i64 (wrA t).2]) ∧ Below w.heap.size w w' := by
 refine Between_raw _ _ _ _ _ _ _ _ _ _ _ _ _ (pcm r s) t w (by omega) (fun x _ => readTwo_p r s x hr.1 hr.2 hs.1 hs.2) ?_ ?_ ?_
 ·intro x a l c a' l' c' k1 k2 k3 k4
  exact Cmp_p _ _ r s m m x ⟨_, _, _, _, _, _, rfl, k1, k2⟩ ⟨_, _, _, _, _, _, rfl, k3, k4⟩ h1 h2 hm hm
 ·intro x a l c a' l' c' k1 k2 k3 k4
  rw [decide_eq_false (show ¬ r.num < 0 by omega), decide_eq_false (show ¬ s.num < 0 by omega)]
  refine (Simplest_walk ⟨a.1, l.1, c.1⟩ ⟨a.2, l.2, c.2⟩ ⟨a'.1, l'.1, c'.1⟩ ⟨a'.2, l'.2, c'.2⟩ A B x (fun y b => Sign_one (k1.grow b) (by omega)) (fun y b => simplestAbove_n ⟨a.1, l.1, c.1⟩ ⟨a.2, l.2, c.2⟩ ⟨a'.1, l'.1, c'.1⟩ ⟨a'.2, l'.2, c'.2⟩ _ _ _ _ A B M0 m y (k1.grow b) (k2.grow b) (k3.grow b) (k4.grow b) hM hm inv fu)).mono ?_
  rintro e w' ⟨p, q, z, rfl, ⟨n1, n2⟩, b⟩
  refine ⟨_, rfl, ⟨p.1, q.1, z.1, p.2, q.2, z.2, ?_, ?_, ?_⟩, b⟩
  ·rw [ht.1, decide_eq_false (by omega)]
  ·rw [ht.1]; exact n1
  ·rw [ht.2]; exact n2
 ·intro x y hy b
  have L := smp_le (r.den + s.den) _ _ _ _ _ _ _ _ inv (Nat.le_refl _)
  rw [fu] at L
  have P : PS t m := ⟨by rw [ht.1]; simp only [Int.natAbs_natCast]; have := L.1; omega, by rw [ht.2]; have := L.2; omega⟩
  exact Ratio_any y t x hy (P.mono (by omega)) (G.grow b)
end Go.Proofs.YtapdhadpdbmkcaaGreatDoor.Mo
