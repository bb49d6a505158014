import Derived.Test.YtapdhadpdbmkcaaGreatDoorPart38
import Derived.Test.YtapdhadpdbmkcaaGreatDoorPart35
import Derived.Test.YtapdhadpdbmkcaaGreatDoorPart18
import Derived.Deep.LoopGhost
import Derived.Deep.DeepCutAuto

namespace Go.Proofs.YtapdhadpdbmkcaaGreatDoor.Mo
open Go.RowKit Fu Tn Go.Lib Dc Wt

/-- The simplest fraction between two: what is left of the lower and the upper one, and the convergents so far. -/
def smp : Nat → Nat → Nat → Nat → Nat → Nat → Nat → Nat → Nat → Nat × Nat
 | 0, _, _, _, _, _, _, _, _ => (0, 0)
 | f + 1, ln, ld, hn, hd, cn, cd, pn, pd =>
  if ln % ld = 0 then (ln / ld * cn + pn, ln / ld * cd + pd)
  else if ln / ld * hd + hd ≤ hn then ((ln / ld + 1) * cn + pn, (ln / ld + 1) * cd + pd)
  else smp f hd (hn - ln / ld * hd) ld (ln % ld) (ln / ld * cn + pn) (ln / ld * cd + pd) cn cd
/-- What holds on the way. -/
structure SI (M ln ld hn hd cn cd pn pd : Nat) : Prop where
 a1 : 0 < ln
 a2 : 0 < ld
 a3 : 0 < hn
 a4 : 0 < hd
 le : ln * hd ≤ hn * ld
 b1 : ln ≤ M
 b2 : ld ≤ M
 b3 : hn ≤ M
 b4 : hd ≤ M
 s1 : cn * ln + pn * ld ≤ M
 s2 : cn * hn + pn * hd ≤ M
 s3 : cd * ln + pd * ld ≤ M
 s4 : cd * hn + pd * hd ≤ M
theorem le_of_sum {c n p d M : Nat} (h : c * n + p * d ≤ M) (hn : 0 < n) (hd : 0 < d) : c ≤ M ∧ p ≤ M := by
 have h1 := Nat.le_mul_of_pos_right c hn
 have h2 := Nat.le_mul_of_pos_right p hd
 omega
theorem SI.next {M ln ld hn hd cn cd pn pd : Nat} (h : SI M ln ld hn hd cn cd pn pd) (t r : Nat) (e : ln = t * ld + r) (r0 : 0 < r) (rl : r < ld) (c : hn < t * hd + hd) :
  t * hd < hn ∧ SI M hd (hn - t * hd) ld r (t * cn + pn) (t * cd + pd) cn cd ∧ (hn - t * hd) + r < ld + hd := by
 obtain ⟨a1, a2, a3, a4, le, b1, b2, b3, b4, s1, s2, s3, s4⟩ := h
 subst e
 have q1 : (t * ld + r) * hd = t * hd * ld + r * hd := by grind
 have q2 := Nat.mul_pos r0 a4
 have lt : t * hd < hn := by
  have : t * hd * ld < hn * ld := by omega
  exact Nat.lt_of_mul_lt_mul_right this
 obtain ⟨d, rfl⟩ : ∃ d, hn = t * hd + d := ⟨hn - t * hd, by omega⟩
 have e1 : t * hd + d - t * hd = d := by omega
 rw [e1]
 refine ⟨lt, ⟨a4, by omega, a2, r0, ?_, b4, by omega, b2, by omega, ?_, ?_, ?_, ?_⟩, by omega⟩
 ·have q3 : (t * hd + d) * ld = t * hd * ld + ld * d := by grind
  rw [q1, q3] at le
  rw [Nat.mul_comm hd r]
  omega
 ·rw [show (t * cn + pn) * hd + cn * d = cn * (t * hd + d) + pn * hd by grind]; exact s2
 ·rw [show (t * cn + pn) * ld + cn * r = cn * (t * ld + r) + pn * ld by grind]; exact s1
 ·rw [show (t * cd + pd) * hd + cd * d = cd * (t * hd + d) + pd * hd by grind]; exact s4
 ·rw [show (t * cd + pd) * ld + cd * r = cd * (t * ld + r) + pd * ld by grind]; exact s3
/-- The answer is not greater. -/
theorem smp_le {M : Nat} (f : Nat) : ∀ ln ld hn hd cn cd pn pd, SI M ln ld hn hd cn cd pn pd → ld + hd ≤ f → (smp f ln ld hn hd cn cd pn pd).1 ≤ M ∧ (smp f ln ld hn hd cn cd pn pd).2 ≤ M := by
 induction f with
 | zero => intro ln ld hn hd cn cd pn pd h hf; have := h.a2; omega
 | succ f ih =>
  intro ln ld hn hd cn cd pn pd h hf
  obtain ⟨t, ht⟩ : ∃ t, ln / ld = t := ⟨_, rfl⟩
  obtain ⟨r, hr⟩ : ∃ r, ln % ld = r := ⟨_, rfl⟩
  have e : ln = t * ld + r := by
   have := Nat.div_add_mod ln ld
   rw [ht, hr, Nat.mul_comm] at this
   omega
  have rl : r < ld := hr ▸ Nat.mod_lt _ h.a2
  unfold smp
  rw [ht, hr]
  by_cases c1 : r = 0
  ·rw [if_pos c1]
   have q1 : cn * ln + pn * ld = (t * cn + pn) * ld := by rw [e, c1]; grind
   have q2 : cd * ln + pd * ld = (t * cd + pd) * ld := by rw [e, c1]; grind
   have z1 := h.s1
   have z2 := h.s3
   rw [q1] at z1
   rw [q2] at z2
   have y1 := Nat.le_mul_of_pos_right (t * cn + pn) h.a2
   have y2 := Nat.le_mul_of_pos_right (t * cd + pd) h.a2
   exact ⟨by omega, by omega⟩
  ·rw [if_neg c1]
   by_cases c2 : t * hd + hd ≤ hn
   ·rw [if_pos c2]
    have z1 := h.s2
    have z2 := h.s4
    have w1 : (t + 1) * hd ≤ hn := by rw [Nat.add_mul]; omega
    have x1 := Nat.mul_le_mul_left cn w1
    have x2 := Nat.mul_le_mul_left cd w1
    have y1 := Nat.le_mul_of_pos_right ((t + 1) * cn + pn) h.a4
    have y2 := Nat.le_mul_of_pos_right ((t + 1) * cd + pd) h.a4
    have q1 : ((t + 1) * cn + pn) * hd = cn * ((t + 1) * hd) + pn * hd := by grind
    have q2 : ((t + 1) * cd + pd) * hd = cd * ((t + 1) * hd) + pd * hd := by grind
    exact ⟨by omega, by omega⟩
   ·rw [if_neg c2]
    obtain ⟨_, n2, n3⟩ := h.next t r e (by omega) rl (by omega)
    exact ih _ _ _ _ _ _ _ _ n2 (by omega)
/-- A row of words: where it lies. -/
structure Wl where
 a : Option Addr
 l : Nat
 c : Nat
/-- The loop's variables. -/
structure SL (w x : World) (X : Nat) (L M H I C D E F : Wl) (ln ld hn hd cn cd pn pd : Nat) : Prop where
 kL : Rb x w.heap.size (.bool false) (.slice L.a L.l L.c) (.slice M.a M.l M.c)
 kH : Rb x (w.heap.size + 1) (.bool false) (.slice H.a H.l H.c) (.slice I.a I.l I.c)
 kR : Rb x (w.heap.size + 1 + 1) (.bool false) (.slice none 0 0) (.slice none 0 0)
 kC : Blk x X #[.slice C.a C.l C.c, .slice D.a D.l D.c, .slice E.a E.l E.c, .slice F.a F.l F.c] 142
 nL : Nn x L.a L.l L.c (ln : Int)
 nM : Nn x M.a M.l M.c (ld : Int)
 nH : Nn x H.a H.l H.c (hn : Int)
 nI : Nn x I.a I.l I.c (hd : Int)
 nC : Nn x C.a C.l C.c (cn : Int)
 nD : Nn x D.a D.l D.c (cd : Int)
 nE : Nn x E.a E.l E.c (pn : Int)
 nF : Nn x F.a F.l F.c (pd : Int)
 lo : w.heap.size ≤ X
 bel : Below w.heap.size w x
theorem SL.grow {w x x' : World} {X : Nat} {L M H I C D E F : Wl} {ln ld hn hd cn cd pn pd : Nat} (h : SL w x X L M H I C D E F ln ld hn hd cn cd pn pd) (b : Below x.heap.size x x') : SL w x' X L M H I C D E F ln ld hn hd cn cd pn pd :=
 ⟨h.kL.grow b, h.kH.grow b, h.kR.grow b, h.kC.below b h.kC.lt, h.nL.grow b, h.nM.grow b, h.nH.grow b, h.nI.grow b, h.nC.grow b, h.nD.grow b, h.nE.grow b, h.nF.grow b, h.lo, bel' h.bel b⟩
theorem SL.cells {w x : World} {X : Nat} {L M H I C D E F : Wl} {ln ld hn hd cn cd pn pd : Nat} (h : SL w x X L M H I C D E F ln ld hn hd cn cd pn pd) : x.cell? ⟨w.heap.size, 1, none⟩ = some (.slice L.a L.l L.c) ∧ x.cell? ⟨w.heap.size, 2, none⟩ = some (.slice M.a M.l M.c) ∧ x.cell? ⟨w.heap.size + 1, 1, none⟩ = some (.slice H.a H.l H.c) ∧ x.cell? ⟨w.heap.size + 1, 2, none⟩ = some (.slice I.a I.l I.c) ∧ x.cell? ⟨X, 0, none⟩ = some (.slice C.a C.l C.c) ∧ x.cell? ⟨X, 1, none⟩ = some (.slice D.a D.l D.c) ∧ x.cell? ⟨X, 2, none⟩ = some (.slice E.a E.l E.c) ∧ x.cell? ⟨X, 3, none⟩ = some (.slice F.a F.l F.c) := by
 obtain ⟨c0, c1, c2, c3, _⟩ := c4 h.kC
 exact ⟨h.kL.c1, h.kL.c2, h.kH.c1, h.kH.c2, c0, c1, c2, c3⟩
theorem blk_ne {x : World} {m n : Nat} {a b : Array Value} {s t : TypeId} (h : Blk x m a s) (k : Blk x n b t) (hs : a.size ≠ b.size) : m ≠ n := by
 rintro rfl
 have h' : x.heap[m]? = some (.cells a s (0, 0)) := h
 have k' : x.heap[m]? = some (.cells b t (0, 0)) := k
 rw [h'] at k'
 injection k' with k'
 injection k' with e1
 exact hs (by rw [e1])
theorem cell_skip3 {x : World} {n b : Nat} {v a e c : Value} (h : x.cell? ⟨b, 0, none⟩ = some v) (ne : b ≠ n) : (((x.setCell ⟨n, 0, none⟩ a).setCell ⟨n, 1, none⟩ e).setCell ⟨n, 2, none⟩ c).cell? ⟨b, 0, none⟩ = some v := by
 rw [World.cell?_setCell_other _ _ _ _ (by simp; try omega), World.cell?_setCell_other _ _ _ _ (by simp; try omega), World.cell?_setCell_other _ _ _ _ (by simp; try omega)]
 exact h
/-- A fraction not below nought whose denominator has the number N. -/
def FV (I : Wl) (N : Int) (t : Value) (x : World) : Prop := ∃ a l c, t = .agg #[.bool false, .slice I.a I.l I.c, .slice a l c] ∧ Nn x a l c N
theorem FV.grow {I : Wl} {N : Int} {t : Value} {x x' : World} (h : FV I N t x) (b : Below x.heap.size x x') : FV I N t x' := by
 obtain ⟨a, l, c, e, h⟩ := h
 exact ⟨a, l, c, e, h.grow b⟩
theorem bx_ne {x : World} {m n : Nat} {v : Value} {b : Array Value} {t : TypeId} (h : Bx x m v) (k : Blk x n b t) (hs : b.size ≠ 1) : m ≠ n := by
 obtain ⟨s, e⟩ := h.3
 exact blk_ne (a := #[v]) (s := s) e k (by simpa using Ne.symm hs)
theorem wr4 (x : World) (X : Nat) (a b c d : Value) : Wr X 0 4 x ((((x.setCell ⟨X, 0, none⟩ a).setCell ⟨X, 1, none⟩ b).setCell ⟨X, 2, none⟩ c).setCell ⟨X, 3, none⟩ d) := ((((Wr.refl X 0 4 x).setCell 0 (by omega) a).setCell 1 (by omega) b).setCell 2 (by omega) c).setCell 3 (by omega) d
theorem wr3 (x : World) (X : Nat) (a b c : Value) : Wr X 0 3 x (((x.setCell ⟨X, 0, none⟩ a).setCell ⟨X, 1, none⟩ b).setCell ⟨X, 2, none⟩ c) := (((Wr.refl X 0 3 x).setCell 0 (by omega) a).setCell 1 (by omega) b).setCell 2 (by omega) c
theorem Rb.wr {x x' : World} {n X o k : Nat} {a b c : Value} (h : Rb x n a b c) (q : Wr X o k x x') (ne : n ≠ X) : Rb x' n a b c := by
 obtain ⟨t, K⟩ := h.bk
 exact Rb.ofB (K.wr q ne)
theorem rb_ne {x : World} {n X : Nat} {a b c : Value} {v : Array Value} {t : TypeId} (h : Rb x n a b c) (k : Blk x X v t) (hs : v.size ≠ 3) : n ≠ X := by
 obtain ⟨s, K⟩ := h.bk
 exact blk_ne K k (by simpa using Ne.symm hs)
/-- The convergents go on. -/
theorem SL.nextC {w x : World} {X : Nat} {L M H I C D E F : Wl} {ln ld hn hd cn cd pn pd : Nat} (h : SL w x X L M H I C D E F ln ld hn hd cn cd pn pd) (P Q : Wl) (A B : Nat) (n1 : Nn x P.a P.l P.c (A : Int)) (n2 : Nn x Q.a Q.l Q.c (B : Int)) :
  SL w ((((x.setCell ⟨X, 0, none⟩ (.slice P.a P.l P.c)).setCell ⟨X, 1, none⟩ (.slice Q.a Q.l Q.c)).setCell ⟨X, 2, none⟩ (.slice C.a C.l C.c)).setCell ⟨X, 3, none⟩ (.slice D.a D.l D.c)) X L M H I P Q C D ln ld hn hd A B cn cd := by
 have q := wr4 x X (.slice P.a P.l P.c) (.slice Q.a Q.l Q.c) (.slice C.a C.l C.c) (.slice D.a D.l D.c)
 have N : ∀ {a : Option Addr} {l c : Nat} {V : Int}, Nn x a l c V → Nn ((((x.setCell ⟨X, 0, none⟩ (.slice P.a P.l P.c)).setCell ⟨X, 1, none⟩ (.slice Q.a Q.l Q.c)).setCell ⟨X, 2, none⟩ (.slice C.a C.l C.c)).setCell ⟨X, 3, none⟩ (.slice D.a D.l D.c)) a l c V := fun k => by
  have f := k.off h.kC sl4
  exact (((k.set f 0 _).set f 1 _).set f 2 _).set f 3 _
 exact ⟨h.kL.wr q (rb_ne h.kL h.kC (by simp)), h.kH.wr q (rb_ne h.kH h.kC (by simp)), h.kR.wr q (rb_ne h.kR h.kC (by simp)), bput (bput (bput (bput h.kC 0 _) 1 _) 2 _) 3 _, N h.nL, N h.nM, N h.nH, N h.nI, N n1, N n2, N h.nC, N h.nD, h.lo,
  (((h.bel.setCell (p := ⟨X, 0, none⟩) h.lo _).setCell (p := ⟨X, 1, none⟩) h.lo _).setCell (p := ⟨X, 2, none⟩) h.lo _).setCell (p := ⟨X, 3, none⟩) h.lo _⟩
/-- Both numbers go on. -/
theorem SL.nextR {w x : World} {X : Nat} {L M H I C D E F : Wl} {ln ld hn hd cn cd pn pd : Nat} (h : SL w x X L M H I C D E F ln ld hn hd cn cd pn pd) (P Q : Wl) (A B : Nat) (n1 : Nn x P.a P.l P.c (A : Int)) (n2 : Nn x Q.a Q.l Q.c (B : Int)) :
  SL w ((((((x.setCell ⟨w.heap.size, 0, none⟩ (.bool false)).setCell ⟨w.heap.size, 1, none⟩ (.slice I.a I.l I.c)).setCell ⟨w.heap.size, 2, none⟩ (.slice P.a P.l P.c)).setCell ⟨w.heap.size + 1, 0, none⟩ (.bool false)).setCell ⟨w.heap.size + 1, 1, none⟩ (.slice M.a M.l M.c)).setCell ⟨w.heap.size + 1, 2, none⟩ (.slice Q.a Q.l Q.c)) X I P M Q C D E F hd A ld B cn cd pn pd := by
 have q1 := wr3 x (w.heap.size) (.bool false) (.slice I.a I.l I.c) (.slice P.a P.l P.c)
 have q2 := wr3 (((x.setCell ⟨w.heap.size, 0, none⟩ (.bool false)).setCell ⟨w.heap.size, 1, none⟩ (.slice I.a I.l I.c)).setCell ⟨w.heap.size, 2, none⟩ (.slice P.a P.l P.c)) (w.heap.size + 1) (.bool false) (.slice M.a M.l M.c) (.slice Q.a Q.l Q.c)
 have KH := h.kH.wr q1 (by omega)
 have N : ∀ {a : Option Addr} {l c : Nat} {V : Int}, Nn x a l c V → Nn ((((((x.setCell ⟨w.heap.size, 0, none⟩ (.bool false)).setCell ⟨w.heap.size, 1, none⟩ (.slice I.a I.l I.c)).setCell ⟨w.heap.size, 2, none⟩ (.slice P.a P.l P.c)).setCell ⟨w.heap.size + 1, 0, none⟩ (.bool false)).setCell ⟨w.heap.size + 1, 1, none⟩ (.slice M.a M.l M.c)).setCell ⟨w.heap.size + 1, 2, none⟩ (.slice Q.a Q.l Q.c)) a l c V := fun k => (k.putF h.kL).putF KH
 have e1 := rb_ne h.kL h.kC (by simp)
 have e2 := rb_ne h.kH h.kC (by simp)
 exact ⟨(h.kL.sets _ _ _).wr q2 (by omega), KH.sets _ _ _, (h.kR.wr q1 (by omega)).wr q2 (by omega), (h.kC.wr q1 (Ne.symm e1)).wr q2 (Ne.symm e2), N h.nI, N n1, N h.nM, N n2, N h.nC, N h.nD, N h.nE, N h.nF, h.lo, bset3 (bset3 h.bel (Nat.le_refl _)) (by omega)⟩
structure SA9 (W x : World) (I : Wl) (V0 : Value) (V1 : Value) (V2 : Value) (V3 : Value) (V4 : Value) (V7 : Value) (V8 : Value) (V9 : Value) (V10 : Value) (N5 : Int) (N6 : Int) (y0 y1 y2 y3 y4 y5 y6 y7 y8 y9 y10 : Bool) (t45 t46 t47 t48 t49 t50 t51 t52 t53 t54 t55 : Value) : Prop where
 bel : Below W.heap.size W x
 o0 : y0 = true → t45 = V0
 o1 : y1 = true → t46 = V1
 o2 : y2 = true → t47 = V2
 o3 : y3 = true → t48 = V3
 o4 : y4 = true → t49 = V4
 o7 : y7 = true → t52 = V7
 o8 : y8 = true → t53 = V8
 o9 : y9 = true → t54 = V9
 o10 : y10 = true → t55 = V10
 o5 : y5 = true → NV N5 t50 x
 o6 : y6 = true → FV I N6 t51 x
theorem SA9.grow {W x x' : World} {I : Wl} {V0 : Value} {V1 : Value} {V2 : Value} {V3 : Value} {V4 : Value} {V7 : Value} {V8 : Value} {V9 : Value} {V10 : Value} {N5 : Int} {N6 : Int} {y0 y1 y2 y3 y4 y5 y6 y7 y8 y9 y10 : Bool} {t45 t46 t47 t48 t49 t50 t51 t52 t53 t54 t55 : Value} (h : SA9 W x I V0 V1 V2 V3 V4 V7 V8 V9 V10 N5 N6 y0 y1 y2 y3 y4 y5 y6 y7 y8 y9 y10 t45 t46 t47 t48 t49 t50 t51 t52 t53 t54 t55) (b : Below x.heap.size x x') : SA9 W x' I V0 V1 V2 V3 V4 V7 V8 V9 V10 N5 N6 y0 y1 y2 y3 y4 y5 y6 y7 y8 y9 y10 t45 t46 t47 t48 t49 t50 t51 t52 t53 t54 t55 where
 bel := bel' h.bel b
 o0 := h.o0
 o1 := h.o1
 o2 := h.o2
 o3 := h.o3
 o4 := h.o4
 o7 := h.o7
 o8 := h.o8
 o9 := h.o9
 o10 := h.o10
 o5 := fun u => (h.o5 u).grow b
 o6 := fun u => (h.o6 u).grow b
set_option maxHeartbeats 12800000 in
set_option maxRecDepth 100000 in
theorem simplestAbove_n (L0 M00 H0 I0 : Wl) (ln0 ld0 hn0 hd0 A B M0 m : Nat) (w : World) (k1 : Nn w L0.a L0.l L0.c (ln0 : Int)) (k2 : Nn w M00.a M00.l M00.c (ld0 : Int)) (k3 : Nn w H0.a H0.l H0.c (hn0 : Int)) (k4 : Nn w I0.a I0.l I0.c (hd0 : Int)) (hM : (M0 : Int) < pw m) (hm : m < 80) (inv0 : SI M0 ln0 ld0 hn0 hd0 1 0 0 1) (fu0 : smp (ld0 + hd0) ln0 ld0 hn0 hd0 1 0 0 1 = (A, B)) :
  Calls Tryz.prog 77 #[.agg #[.bool false, .slice L0.a L0.l L0.c, .slice M00.a M00.l M00.c], .agg #[.bool false, .slice H0.a H0.l H0.c, .slice I0.a I0.l I0.c]] w fun e w' => ∃ (a : Option Addr × Option Addr) (l c : Nat × Nat), e = .returned (.agg #[.bool false, .slice a.1 l.1 c.1, .slice a.2 l.2 c.2]) ∧ (Nn w' a.1 l.1 c.1 (A : Int) ∧ Nn w' a.2 l.2 c.2 (B : Int)) ∧ Below w.heap.size w w' := by
 have K0 := ((Rb.new w (.bool false) (.slice L0.a L0.l L0.c) (.slice M00.a M00.l M00.c) 44).alloc (.cells #[.bool false, .slice H0.a H0.l H0.c, .slice I0.a I0.l I0.c] 44)).alloc (.cells #[.bool false, .slice none 0 0, .slice none 0 0] 44)
 have K1 := (Rb.new (w.alloc (.cells #[.bool false, .slice L0.a L0.l L0.c, .slice M00.a M00.l M00.c] 44)) (.bool false) (.slice H0.a H0.l H0.c) (.slice I0.a I0.l I0.c) 44).alloc (.cells #[.bool false, .slice none 0 0, .slice none 0 0] 44)
 have K2 := Rb.new ((w.alloc (.cells #[.bool false, .slice L0.a L0.l L0.c, .slice M00.a M00.l M00.c] 44)).alloc (.cells #[.bool false, .slice H0.a H0.l H0.c, .slice I0.a I0.l I0.c] 44)) (.bool false) (.slice none 0 0) (.slice none 0 0) 44
 have pr : Below w.heap.size w (((w.alloc (.cells #[.bool false, .slice L0.a L0.l L0.c, .slice M00.a M00.l M00.c] 44)).alloc (.cells #[.bool false, .slice H0.a H0.l H0.c, .slice I0.a I0.l I0.c] 44)).alloc (.cells #[.bool false, .slice none 0 0, .slice none 0 0] 44)) := (((Below.refl _ _).alloc (Nat.le_refl _) _).alloc (by simp) _).alloc (by simp; omega) _
 simp only [World.size_alloc] at K1 K2
 have m1 : 1 ≤ m := by
  by_cases c : 1 ≤ m
  ·exact c
  ·obtain rfl : m = 0 := by omega
   have := inv0.a1
   have := inv0.b1
   have e0 : pw 0 = 1 := rfl
   omega
 go_enter Tryz.func77, Tryz.ntmps77
 go_wp2_with fail
 generalize ((w.alloc (.cells #[.bool false, .slice L0.a L0.l L0.c, .slice M00.a M00.l M00.c] 44)).alloc (.cells #[.bool false, .slice H0.a H0.l H0.c, .slice I0.a I0.l I0.c] 44)).alloc (.cells #[.bool false, .slice none 0 0, .slice none 0 0] 44) = W at *
 have NC := NewC_n
 go_wp2_with (first
  | (go_at_call 107; refine (NC _).mono ?_; rintro e w1 ⟨na, nl, nc, rfl, ⟨h1, h2⟩, d1⟩; have al := (Below.refl w1.heap.size w1).alloc (Nat.le_refl _) (.cells #[.slice na.1 nl.1 nc.1, .slice none 0 0, .slice none 0 0, .slice na.2 nl.2 nc.2] 142); have d2 := bel' d1 al; have p2 := bel' pr d2; have KC := Blk.new w1 #[.slice na.1 nl.1 nc.1, .slice none 0 0, .slice none 0 0, .slice na.2 nl.2 nc.2] 142)
  | fail)
 have ST : SL w (w1.alloc (.cells #[.slice na.1 nl.1 nc.1, .slice none 0 0, .slice none 0 0, .slice na.2 nl.2 nc.2] 142)) w1.heap.size L0 M00 H0 I0 ⟨na.1, nl.1, nc.1⟩ ⟨none, 0, 0⟩ ⟨none, 0, 0⟩ ⟨na.2, nl.2, nc.2⟩ ln0 ld0 hn0 hd0 1 0 0 1 :=
  ⟨K0.grow d2, K1.grow d2, K2.grow d2, KC, k1.grow p2, k2.grow p2, k3.grow p2, k4.grow p2, h1.grow al, Nn.nil _, Nn.nil _, h2.grow al, (bel' pr d1).size, p2⟩
 generalize w1.alloc (.cells #[.slice na.1 nl.1 nc.1, .slice none 0 0, .slice none 0 0, .slice na.2 nl.2 nc.2] 142) = W1 at *
 generalize w1.heap.size = X at *
 clear K0 K1 K2 KC pr NC d1 d2 p2 al h1 h2 k1 k2 k3 k4
 go_loopg [6, 7, 8] (ld0 + hd0) (fun k _ _ _ wr => ∃ (L M H I C D E F : Wl) (ln ld hn hd cn cd pn pd f : Nat), ld + hd = k ∧ ld + hd ≤ f ∧ SL w wr X L M H I C D E F ln ld hn hd cn cd pn pd ∧ SI M0 ln ld hn hd cn cd pn pd ∧ smp f ln ld hn hd cn cd pn pd = (A, B))
 case atStart => exact ⟨L0, M00, H0, I0, _, _, _, _, ln0, ld0, hn0, hd0, 1, 0, 0, 1, _, rfl, Nat.le_refl _, ST, inv0, fu0⟩
 case round =>
  clear ST inv0 fu0
  obtain ⟨L, M, H, I, C, D, E, F, ln, ld, hn, hd, cn, cd, pn, pd, f1, hgk, hf, S0, inv, fu⟩ := hrel
  obtain ⟨t, ht⟩ : ∃ t, ln / ld = t := ⟨_, rfl⟩
  obtain ⟨r, hr⟩ : ∃ r, ln % ld = r := ⟨_, rfl⟩
  obtain ⟨f, rfl⟩ : ∃ f, f1 = f + 1 := ⟨f1 - 1, by have := inv.a2; omega⟩
  unfold smp at fu
  rw [ht, hr] at fu
  have he : ln = t * ld + r := by
   have := Nat.div_add_mod ln ld
   rw [ht, hr, Nat.mul_comm] at this
   omega
  have rl : r < ld := hr ▸ Nat.mod_lt _ inv.a2
  have M1 : ∀ {V : Nat}, V ≤ M0 → (V : Int) < pw m := fun h => by omega
  have CD : ∀ x, Below wr.heap.size wr x → Calls Tryz.prog 44 #[.agg #[.slice L.a L.l L.c], .agg #[.slice M.a M.l M.c]] x fun e w' => ∃ (a : Option Addr × Option Addr) (l c : Nat × Nat), e = .returned (.tuple #[.agg #[.slice a.1 l.1 c.1], .agg #[.slice a.2 l.2 c.2]]) ∧ (Nn w' a.1 l.1 c.1 (t : Int) ∧ Nn w' a.2 l.2 c.2 (r : Int)) ∧ Below x.heap.size x w' := fun x b => by
   have := DivMod_n (S0.nL.grow b) (S0.nM.grow b) (M1 inv.b1) (by have := inv.a2; omega) (show m ≤ 1000000 by omega)
   rw [show ((ln : Int) / (ld : Int)) = (t : Int) by rw [← ht]; exact (Int.natCast_ediv _ _).symm, show ((ln : Int) % (ld : Int)) = (r : Int) by rw [← hr]; exact (Int.natCast_emod _ _).symm] at this
   exact this
  have CZ : ∀ x a l c, Nn x a l c (r : Int) → Calls Tryz.prog 45 #[.agg #[.slice a l c]] x fun e w' => e = .returned (.bool (decide (r = 0))) ∧ Below x.heap.size x w' := fun x a l c h => by
   have := IsZero_n h
   rwa [show decide ((r : Int) = 0) = decide (r = 0) by rw [decide_eq_decide]; omega] at this
  have tM : t ≤ M0 := by
   have := Nat.div_le_self ln ld
   have := inv.b1
   omega
  obtain ⟨cM, pM⟩ := le_of_sum inv.s1 inv.a1 inv.a2
  obtain ⟨dM, qM⟩ := le_of_sum inv.s3 inv.a1 inv.a2
  have CN : ∀ x a l c (k : Nat), k ≤ M0 → Below wr.heap.size wr x → Nn x a l c (k : Int) → Calls Tryz.prog 108 #[.agg #[.slice C.a C.l C.c, .slice D.a D.l D.c, .slice E.a E.l E.c, .slice F.a F.l F.c], .agg #[.slice a l c]] x fun e w' => ∃ (a : Option Addr × Option Addr) (l c : Nat × Nat), e = .returned (.agg #[.slice a.1 l.1 c.1, .slice a.2 l.2 c.2, .slice C.a C.l C.c, .slice D.a D.l D.c]) ∧ (Nn w' a.1 l.1 c.1 ((k * cn + pn : Nat) : Int) ∧ Nn w' a.2 l.2 c.2 ((k * cd + pd : Nat) : Int)) ∧ Below x.heap.size x w' := fun x a l c k hk b h => by
   have := Next_n (S0.nC.grow b) (S0.nD.grow b) (S0.nE.grow b) (S0.nF.grow b) h (M1 cM) (M1 dM) (M1 pM) (M1 qM) (M1 hk) hm
   rw [show ((k : Int) * (cn : Int) + (pn : Int)) = ((k * cn + pn : Nat) : Int) by push_cast; first | done | rfl, show ((k : Int) * (cd : Int) + (pd : Int)) = ((k * cd + pd : Nat) : Int) by push_cast; first | done | rfl] at this
   exact this
  have CF := CFrac_n
  have ⟨f0a, f0b, f0c, f0d, f0e, f0f, f0g, f0h⟩ := S0.cells
  clear hr
  by_cases r0 : r = 0
  ·rw [if_pos r0] at fu
   obtain ⟨rfl, rfl⟩ : t * cn + pn = A ∧ t * cd + pd = B := by injection fu with a b; exact ⟨a, b⟩
   have hz : decide (r = 0) = true := decide_eq_true r0
   clear ht he rl r0 hf hgk
   go_wp2_with (first
    | (go_at_call 44; refine (CD _ (Below.refl _ _)).mono ?_; rintro e w1 ⟨ta, tl, tc, rfl, ⟨n1, n2⟩, d1⟩; have al := ((Below.refl w1.heap.size w1).alloc (Nat.le_refl _) (.cells #[.slice ta.1 tl.1 tc.1] 42)).alloc (by simp) (.cells #[.slice ta.2 tl.2 tc.2] 42); have b2 := bel' d1 al; have S2 := S0.grow b2; have ⟨f2a, f2b, f2c, f2d, f2e, f2f, f2g, f2h⟩ := S2.cells; have n1 := n1.grow al; have n2 := n2.grow al; have KT := (Bx.new w1 (.slice ta.1 tl.1 tc.1) 42).alloc (.cells #[.slice ta.2 tl.2 tc.2] 42); have KR := Bx.new (w1.alloc (.cells #[.slice ta.1 tl.1 tc.1] 42)) (.slice ta.2 tl.2 tc.2) 42; have sz : (w1.alloc (.cells #[.slice ta.1 tl.1 tc.1] 42)).heap.size = w1.heap.size + 1 := World.size_alloc _ _; rw [sz] at KR; have kt := KT.1; have kr := KR.1)
    | (go_at_call 45; refine (CZ _ _ _ _ n2).mono ?_; rw [hz]; rintro e w3 ⟨rfl, d3⟩; have b3 := bel' b2 d3; have S3 := S2.grow d3; have ⟨f3a, f3b, f3c, f3d, f3e, f3f, f3g, f3h⟩ := S3.cells; have n1 := n1.grow d3; have n2 := n2.grow d3; have KT := KT.below d3; have KR := KR.below d3; have kt := KT.1; have kr := KR.1)
    | (go_at_call 108; refine (CN _ _ _ _ t tM b3 n1).mono ?_; rintro e w5 ⟨pa, pl, pc, rfl, ⟨n5, n6⟩, d5⟩; have b5 := bel' b3 d5)
    | (go_at_call 109; refine (CF _ _ _ _ _ _ _ _ _ _ _ _ _).mono ?_; rintro e w9 ⟨rfl, d9⟩; have n5 := n5.grow d9; have n6 := n6.grow d9; have S9 := S0.grow (bel' b5 d9); have r0 := S9.kR.c0; have r1 := S9.kR.c1; have r2 := S9.kR.c2; have s0 := S9.kR.f0; have s1 := S9.kR.f1; have s2 := S9.kR.f2)
    | fail)
   have f1 := n5.off (S9.kR.bk.choose_spec) fr3
   have f2 := n6.off (S9.kR.bk.choose_spec) fr3
   have N1 := ((n5.set f1 0 (.bool false)).set f1 1 (.slice pa.1 pl.1 pc.1)).set f1 2 (.slice pa.2 pl.2 pc.2)
   have N2 := ((n6.set f2 0 (.bool false)).set f2 1 (.slice pa.1 pl.1 pc.1)).set f2 2 (.slice pa.2 pl.2 pc.2)
   obtain ⟨z0, z1, z2⟩ := S9.kR.put (.bool false) (.slice pa.1 pl.1 pc.1) (.slice pa.2 pl.2 pc.2)
   have BE := bset3 (n := w.heap.size + 1 + 1) (x := .bool false) (y := .slice pa.1 pl.1 pc.1) (z := .slice pa.2 pl.2 pc.2) S9.bel (by omega)
   go_wp2_with fail
   generalize ((w9.setCell ⟨w.heap.size + 1 + 1, 0, none⟩ (.bool false)).setCell ⟨w.heap.size + 1 + 1, 1, none⟩ (.slice pa.1 pl.1 pc.1)).setCell ⟨w.heap.size + 1 + 1, 2, none⟩ (.slice pa.2 pl.2 pc.2) = WE at *
   exact bodyPost_ret (v := .agg #[.bool false, .slice pa.1 pl.1 pc.1, .slice pa.2 pl.2 pc.2]) (by simp [results, Tryz.results77, go_sem, z0, z1, z2]) rfl ⟨pa, pl, pc, rfl, ⟨N1, N2⟩, BE⟩
  ·rw [if_neg r0] at fu
   have hz : decide (r = 0) = false := decide_eq_false r0
   obtain ⟨k, hk⟩ : ∃ k, cmp3 ((t * hd + hd : Nat) : Int) (hn : Int) = k := ⟨_, rfl⟩
   by_cases hc : t * hd + hd ≤ hn
   ·rw [if_pos hc] at fu
    obtain ⟨rfl, rfl⟩ : (t + 1) * cn + pn = A ∧ (t + 1) * cd + pd = B := by injection fu with a b; exact ⟨a, b⟩
    have k0 : k ≤ 0 := by rw [← hk]; unfold cmp3; split <;> (try split) <;> omega
    have t1M : t + 1 ≤ M0 := by
     have := Nat.le_mul_of_pos_right (t + 1) inv.a4
     rw [Nat.add_mul] at this
     have := inv.b3
     omega
    clear ht he rl r0 hf hgk
    have CM : ∀ x a l c, Below wr.heap.size wr x → Nn x a l c (t : Int) → Calls Tryz.prog 31 #[.agg #[.slice a l c], .agg #[.slice I.a I.l I.c]] x fun e w' => ∃ a l c, e = .returned (.agg #[.slice a l c]) ∧ Nn w' a l c ((t * hd : Nat) : Int) ∧ Below x.heap.size x w' := fun x a l c b h => by
     have := Mul_n h (S0.nI.grow b) (M1 tM) (M1 inv.b4) (by unfold MulOK; omega)
     rwa [show ((t : Int) * (hd : Int)) = ((t * hd : Nat) : Int) by push_cast; first | done | rfl] at this
    have q1 : ((t * hd : Nat) : Int) < pw (m + m) := by
     rw [pw_add]; push_cast
     exact Int.mul_lt_mul' (Int.le_of_lt (M1 tM)) (M1 inv.b4) (by omega) (pw_pos m)
    have q2 : (hd : Int) < pw (m + m) := by have := pw_mono (show m ≤ m + m by omega); have := M1 inv.b4; omega
    have q3 : ((t * hd + hd : Nat) : Int) < pw (m + m + 1) := by
     have e : pw (m + m + 1) = pw (m + m) * pw 1 := pw_add _ _
     have e1 : pw 1 = 18446744073709551616 := by decide
     rw [e, e1]; push_cast at q1 ⊢; omega
    have CA : ∀ x a l c, Below wr.heap.size wr x → Nn x a l c ((t * hd : Nat) : Int) → Calls Tryz.prog 46 #[.agg #[.slice a l c], .agg #[.slice I.a I.l I.c]] x fun e w' => ∃ a l c, e = .returned (.agg #[.slice a l c]) ∧ Nn w' a l c ((t * hd + hd : Nat) : Int) ∧ Below x.heap.size x w' := fun x a l c b h => by
     have := Add_n h (S0.nI.grow b) q1 q2 (by omega)
     rwa [show (((t * hd : Nat) : Int) + (hd : Int)) = ((t * hd + hd : Nat) : Int) by push_cast; first | done | rfl] at this
    have CC : ∀ x a l c, Below wr.heap.size wr x → Nn x a l c ((t * hd + hd : Nat) : Int) → Calls Tryz.prog 18 #[.agg #[.slice a l c], .agg #[.slice H.a H.l H.c]] x fun e w' => e = .returned (.int .i64 k) ∧ Below x.heap.size x w' := fun x a l c b h => by
     have := Cmp_n h (S0.nH.grow b) q3 (by omega)
     rwa [hk] at this
    have CB : ∀ x a l c, Below wr.heap.size wr x → Nn x a l c (1 : Int) → ∀ a' l' c', Nn x a' l' c' (t : Int) → Calls Tryz.prog 46 #[.agg #[.slice a' l' c'], .agg #[.slice a l c]] x fun e w' => ∃ a l c, e = .returned (.agg #[.slice a l c]) ∧ Nn w' a l c ((t + 1 : Nat) : Int) ∧ Below x.heap.size x w' := fun x a l c b h a' l' c' h' => by
     have := Add_n h' h (M1 tM) (by have := pw_mono (show 1 ≤ m by omega); have e1 : pw 1 = 18446744073709551616 := (by decide); omega) (show m ≤ 1000000 by omega)
     rwa [show ((t : Int) + 1) = ((t + 1 : Nat) : Int) by push_cast; first | done | rfl] at this
    have CO := fun x => Of_n 1 x (by decide) (by decide)
    go_wp2_with (first
     | (go_at_call 44; refine (CD _ (Below.refl _ _)).mono ?_; rintro e w1 ⟨ta, tl, tc, rfl, ⟨n1, n2⟩, d1⟩; have al := ((Below.refl w1.heap.size w1).alloc (Nat.le_refl _) (.cells #[.slice ta.1 tl.1 tc.1] 42)).alloc (by simp) (.cells #[.slice ta.2 tl.2 tc.2] 42); have b2 := bel' d1 al; have S2 := S0.grow b2; have ⟨f2a, f2b, f2c, f2d, f2e, f2f, f2g, f2h⟩ := S2.cells; have n1 := n1.grow al; have n2 := n2.grow al; have KT := (Bx.new w1 (.slice ta.1 tl.1 tc.1) 42).alloc (.cells #[.slice ta.2 tl.2 tc.2] 42); have KR := Bx.new (w1.alloc (.cells #[.slice ta.1 tl.1 tc.1] 42)) (.slice ta.2 tl.2 tc.2) 42; have sz : (w1.alloc (.cells #[.slice ta.1 tl.1 tc.1] 42)).heap.size = w1.heap.size + 1 := World.size_alloc _ _; rw [sz] at KR; have kt := KT.1; have kr := KR.1)
     | (go_at_call 45; refine (CZ _ _ _ _ n2).mono ?_; rw [hz]; rintro e w3 ⟨rfl, d3⟩; have b3 := bel' b2 d3; have S3 := S2.grow d3; have ⟨f3a, f3b, f3c, f3d, f3e, f3f, f3g, f3h⟩ := S3.cells; have n1 := n1.grow d3; have n2 := n2.grow d3; have KT := KT.below d3; have KR := KR.below d3; have kt := KT.1; have kr := KR.1)
     | (go_at_call 31; refine (CM _ _ _ _ b3 n1).mono ?_; rintro e w5 ⟨ma, ml, mc, rfl, n5, d5⟩; have al5 := (Below.refl w5.heap.size w5).alloc (Nat.le_refl _) (.cells #[.slice ma ml mc] 42); have d5' := bel' d5 al5; have b5 := bel' b3 d5'; have n5 := n5.grow al5; have KP := Bx.new w5 (.slice ma ml mc) 42; have kp := KP.1; have S5 := S3.grow d5'; have ⟨f5a, f5b, f5c, f5d, f5e, f5f, f5g, f5h⟩ := S5.cells; have n1 := n1.grow d5'; have n2 := n2.grow d5'; have KT := KT.below d5'; have KR := KR.below d5'; have kt := KT.1; have kr := KR.1)
     | fail)
    clear CD CZ S0 S2 S3 f2a f2b f2c f2d f2e f2f f2g f2h f3a f3b f3c f3d f3e f3f f3g f3h
    go_region_held3 (fun x => x.cell? ⟨w5.heap.size, 0, none⟩ = some (.slice ma ml mc) ∧ x.cell? ⟨w.heap.size + 1, 1, none⟩ = some (.slice H.a H.l H.c) ∧ x.cell? ⟨w.heap.size + 1, 2, none⟩ = some (.slice I.a I.l I.c)) (go_keep) (first
     | (go_at_call 18; refine (CC _ _ _ _ (bel' b5 d6) n6).mono ?_; rintro e w7 ⟨rfl, d7⟩; have d7 := bel' d6 d7; have j0 := (KP.below d7).1; have j1 := (S5.kH.grow d7).c1; have j2 := (S5.kH.grow d7).c2)
     | (go_at_call 46; refine (CA _ _ _ _ b5.drew n5.drew).mono ?_; rintro e w6 ⟨aa, al6, ac, rfl, n6, d6⟩; have d6 := undrew d6; have i0 := (KP.below d6).1; have i1 := (S5.kH.grow d6).c1; have i2 := (S5.kH.grow d6).c2)
     | fail)
    have S7 := S5.grow d7
    have ⟨f7a, f7b, f7c, f7d, f7e, f7f, f7g, f7h⟩ := S7.cells
    replace n1 := n1.grow d7
    replace n2 := n2.grow d7
    replace n5 := n5.grow d7
    replace KT := KT.below d7
    replace KR := KR.below d7
    replace KP := KP.below d7
    replace b5 := bel' b5 d7
    clear S5 f5a f5b f5c f5d f5e f5f f5g f5h kt kr kp i0 i1 i2 j0 j1 j2 d6 d7 n6 CA CC CM
    have kt := KT.1
    have kr := KR.1
    have kp := KP.1
    go_wp2_with fail
    have hn1 : w.heap.size + 1 + 1 ≠ X := rb_ne S7.kR S7.kC (by simp)
    have hn2 : X ≠ w.heap.size + 1 + 1 := Ne.symm hn1
    have hn3 : w1.heap.size ≠ w.heap.size + 1 + 1 := by
     obtain ⟨s, K⟩ := S7.kR.bk
     exact bx_ne KT K (by simp)
    have hn4 : w.heap.size + 1 + 1 ≠ w1.heap.size := Ne.symm hn3
    go_region_held3 (fun x => x.cell? ⟨X, 0, none⟩ = some (.slice C.a C.l C.c) ∧ x.cell? ⟨X, 1, none⟩ = some (.slice D.a D.l D.c) ∧ x.cell? ⟨X, 2, none⟩ = some (.slice E.a E.l E.c) ∧ x.cell? ⟨X, 3, none⟩ = some (.slice F.a F.l F.c) ∧ x.cell? ⟨w1.heap.size, 0, none⟩ = some (.slice ta.1 tl.1 tc.1)) (go_keep) (first
     | (go_at_call 109; refine (CF _ _ _ _ _ _ _ _ _ _ _ _ _).mono ?_; rintro e w9 ⟨rfl, d9⟩; have n10 := n10.grow d9; have n11 := n11.grow d9; have d9 := bel' d8 d9; have S9 := S7.grow d9; have r0 := S9.kR.c0; have r1 := S9.kR.c1; have r2 := S9.kR.c2; have s0 := S9.kR.f0; have s1 := S9.kR.f1; have s2 := S9.kR.f2; have o0 := (S7.grow d9).cells.2.2.2.2.1; have o1 := (S7.grow d9).cells.2.2.2.2.2.1; have o2 := (S7.grow d9).cells.2.2.2.2.2.2.1; have o3 := (S7.grow d9).cells.2.2.2.2.2.2.2; have o4 := (KT.below d9).1)
     | (go_at_call 108; refine (CN _ _ _ _ (t + 1) t1M (bel' b5 d4) n4).mono ?_; rintro e w8 ⟨pa, pl, pc, rfl, ⟨n10, n11⟩, d8⟩; have d8 := bel' d4 d8; have n0 := (S7.grow d8).cells.2.2.2.2.1; have n1 := (S7.grow d8).cells.2.2.2.2.2.1; have n2 := (S7.grow d8).cells.2.2.2.2.2.2.1; have n3 := (S7.grow d8).cells.2.2.2.2.2.2.2; have n4 := (KT.below d8).1)
     | (go_at_call 46; refine (CB _ _ _ _ (bel' b5 dO) nO _ _ _ (n1.grow dO)).mono ?_; rintro e w4 ⟨ba, bl', bc, rfl, n4, d4⟩; have d4 := bel' dO d4; have m0 := (S7.grow d4).cells.2.2.2.2.1; have m1 := (S7.grow d4).cells.2.2.2.2.2.1; have m2 := (S7.grow d4).cells.2.2.2.2.2.2.1; have m3 := (S7.grow d4).cells.2.2.2.2.2.2.2; have m4 := (KT.below d4).1)
     | (go_at_call 19; refine (CO _).mono ?_; rintro e wO ⟨oa, ol, oc, rfl, nO, dO⟩; have dO := undrew dO; have l0 := (S7.grow dO).cells.2.2.2.2.1; have l1 := (S7.grow dO).cells.2.2.2.2.2.1; have l2 := (S7.grow dO).cells.2.2.2.2.2.2.1; have l3 := (S7.grow dO).cells.2.2.2.2.2.2.2; have l4 := (KT.below dO).1)
     | fail)
    have f1 := n10.off (S9.kR.bk.choose_spec) fr3
    have f2 := n11.off (S9.kR.bk.choose_spec) fr3
    have N1 := ((n10.set f1 0 (.bool false)).set f1 1 (.slice pa.1 pl.1 pc.1)).set f1 2 (.slice pa.2 pl.2 pc.2)
    have N2 := ((n11.set f2 0 (.bool false)).set f2 1 (.slice pa.1 pl.1 pc.1)).set f2 2 (.slice pa.2 pl.2 pc.2)
    obtain ⟨z0, z1, z2⟩ := S9.kR.put (.bool false) (.slice pa.1 pl.1 pc.1) (.slice pa.2 pl.2 pc.2)
    have BE := bset3 (n := w.heap.size + 1 + 1) (x := .bool false) (y := .slice pa.1 pl.1 pc.1) (z := .slice pa.2 pl.2 pc.2) S9.bel (by omega)
    go_wp2_with fail
    generalize ((w9.setCell ⟨w.heap.size + 1 + 1, 0, none⟩ (.bool false)).setCell ⟨w.heap.size + 1 + 1, 1, none⟩ (.slice pa.1 pl.1 pc.1)).setCell ⟨w.heap.size + 1 + 1, 2, none⟩ (.slice pa.2 pl.2 pc.2) = WE at *
    exact bodyPost_ret (v := .agg #[.bool false, .slice pa.1 pl.1 pc.1, .slice pa.2 pl.2 pc.2]) (by simp [results, Tryz.results77, go_sem, z0, z1, z2]) rfl ⟨pa, pl, pc, rfl, ⟨N1, N2⟩, BE⟩
   ·rw [if_neg hc] at fu
    have k0 : ¬ k ≤ 0 := by rw [← hk]; unfold cmp3; split <;> (try split) <;> omega
    obtain ⟨lt, NS, mm⟩ := inv.next t r he (by omega) rl (by omega)
    obtain ⟨d, hd'⟩ : ∃ d, hn - t * hd = d := ⟨_, rfl⟩
    rw [hd'] at NS mm fu
    have FU : Hid (smp f hd d ld r (t * cn + pn) (t * cd + pd) cn cd = (A, B)) := fu
    clear fu ht he rl r0 hc
    have CM : ∀ x a l c, Below wr.heap.size wr x → Nn x a l c (t : Int) → Calls Tryz.prog 31 #[.agg #[.slice a l c], .agg #[.slice I.a I.l I.c]] x fun e w' => ∃ a l c, e = .returned (.agg #[.slice a l c]) ∧ Nn w' a l c ((t * hd : Nat) : Int) ∧ Below x.heap.size x w' := fun x a l c b h => by
     have := Mul_n h (S0.nI.grow b) (M1 tM) (M1 inv.b4) (by unfold MulOK; omega)
     rwa [show ((t : Int) * (hd : Int)) = ((t * hd : Nat) : Int) by push_cast; first | done | rfl] at this
    have q1 : ((t * hd : Nat) : Int) < pw (m + m) := by
     rw [pw_add]; push_cast
     exact Int.mul_lt_mul' (Int.le_of_lt (M1 tM)) (M1 inv.b4) (by omega) (pw_pos m)
    have q2 : (hd : Int) < pw (m + m) := by have := pw_mono (show m ≤ m + m by omega); have := M1 inv.b4; omega
    have q3 : ((t * hd + hd : Nat) : Int) < pw (m + m + 1) := by
     have e : pw (m + m + 1) = pw (m + m) * pw 1 := pw_add _ _
     have e1 : pw 1 = 18446744073709551616 := by decide
     rw [e, e1]; push_cast at q1 ⊢; omega
    have CA : ∀ x a l c, Below wr.heap.size wr x → Nn x a l c ((t * hd : Nat) : Int) → Calls Tryz.prog 46 #[.agg #[.slice a l c], .agg #[.slice I.a I.l I.c]] x fun e w' => ∃ a l c, e = .returned (.agg #[.slice a l c]) ∧ Nn w' a l c ((t * hd + hd : Nat) : Int) ∧ Below x.heap.size x w' := fun x a l c b h => by
     have := Add_n h (S0.nI.grow b) q1 q2 (by omega)
     rwa [show (((t * hd : Nat) : Int) + (hd : Int)) = ((t * hd + hd : Nat) : Int) by push_cast; first | done | rfl] at this
    have CC : ∀ x a l c, Below wr.heap.size wr x → Nn x a l c ((t * hd + hd : Nat) : Int) → Calls Tryz.prog 18 #[.agg #[.slice a l c], .agg #[.slice H.a H.l H.c]] x fun e w' => e = .returned (.int .i64 k) ∧ Below x.heap.size x w' := fun x a l c b h => by
     have := Cmp_n h (S0.nH.grow b) q3 (by omega)
     rwa [hk] at this
    go_wp2_with (first
     | (go_at_call 44; refine (CD _ (Below.refl _ _)).mono ?_; rintro e w1 ⟨ta, tl, tc, rfl, ⟨n1, n2⟩, d1⟩; have al := ((Below.refl w1.heap.size w1).alloc (Nat.le_refl _) (.cells #[.slice ta.1 tl.1 tc.1] 42)).alloc (by simp) (.cells #[.slice ta.2 tl.2 tc.2] 42); have b2 := bel' d1 al; have S2 := S0.grow b2; have ⟨f2a, f2b, f2c, f2d, f2e, f2f, f2g, f2h⟩ := S2.cells; have n1 := n1.grow al; have n2 := n2.grow al; have KT := (Bx.new w1 (.slice ta.1 tl.1 tc.1) 42).alloc (.cells #[.slice ta.2 tl.2 tc.2] 42); have KR := Bx.new (w1.alloc (.cells #[.slice ta.1 tl.1 tc.1] 42)) (.slice ta.2 tl.2 tc.2) 42; have sz : (w1.alloc (.cells #[.slice ta.1 tl.1 tc.1] 42)).heap.size = w1.heap.size + 1 := World.size_alloc _ _; rw [sz] at KR; have kt := KT.1; have kr := KR.1)
     | (go_at_call 45; refine (CZ _ _ _ _ n2).mono ?_; rw [hz]; rintro e w3 ⟨rfl, d3⟩; have b3 := bel' b2 d3; have S3 := S2.grow d3; have ⟨f3a, f3b, f3c, f3d, f3e, f3f, f3g, f3h⟩ := S3.cells; have n1 := n1.grow d3; have n2 := n2.grow d3; have KT := KT.below d3; have KR := KR.below d3; have kt := KT.1; have kr := KR.1)
     | (go_at_call 31; refine (CM _ _ _ _ b3 n1).mono ?_; rintro e w5 ⟨ma, ml, mc, rfl, n5, d5⟩; have al5 := (Below.refl w5.heap.size w5).alloc (Nat.le_refl _) (.cells #[.slice ma ml mc] 42); have d5' := bel' d5 al5; have b5 := bel' b3 d5'; have n5 := n5.grow al5; have KP := Bx.new w5 (.slice ma ml mc) 42; have kp := KP.1; have S5 := S3.grow d5'; have ⟨f5a, f5b, f5c, f5d, f5e, f5f, f5g, f5h⟩ := S5.cells; have n1 := n1.grow d5'; have n2 := n2.grow d5'; have KT := KT.below d5'; have KR := KR.below d5'; have kt := KT.1; have kr := KR.1)
     | fail)
    clear CD CZ S0 S2 S3 f2a f2b f2c f2d f2e f2f f2g f2h f3a f3b f3c f3d f3e f3f f3g f3h
    go_region_held3 (fun x => x.cell? ⟨w5.heap.size, 0, none⟩ = some (.slice ma ml mc) ∧ x.cell? ⟨w.heap.size + 1, 1, none⟩ = some (.slice H.a H.l H.c) ∧ x.cell? ⟨w.heap.size + 1, 2, none⟩ = some (.slice I.a I.l I.c)) (go_keep) (first
     | (go_at_call 18; refine (CC _ _ _ _ (bel' b5 d6) n6).mono ?_; rintro e w7 ⟨rfl, d7⟩; have d7 := bel' d6 d7; have j0 := (KP.below d7).1; have j1 := (S5.kH.grow d7).c1; have j2 := (S5.kH.grow d7).c2)
     | (go_at_call 46; refine (CA _ _ _ _ b5.drew n5.drew).mono ?_; rintro e w6 ⟨aa, al6, ac, rfl, n6, d6⟩; have d6 := undrew d6; have i0 := (KP.below d6).1; have i1 := (S5.kH.grow d6).c1; have i2 := (S5.kH.grow d6).c2)
     | fail)
    have S7 := S5.grow d7
    have ⟨f7a, f7b, f7c, f7d, f7e, f7f, f7g, f7h⟩ := S7.cells
    replace n1 := n1.grow d7
    replace n2 := n2.grow d7
    replace n5 := n5.grow d7
    replace KT := KT.below d7
    replace KR := KR.below d7
    replace KP := KP.below d7
    replace b5 := bel' b5 d7
    clear S5 f5a f5b f5c f5d f5e f5f f5g f5h kt kr kp i0 i1 i2 j0 j1 j2 d6 d7 n6 CA CC CM
    have kt := KT.1
    have kr := KR.1
    have kp := KP.1
    generalize w1.heap.size = T1 at *
    generalize w5.heap.size = T2 at *
    have HQ : Hid ((t * hd : Nat) ≤ hn ∧ ((t * hd : Nat) : Int) < pw (m + m)) := ⟨by omega, q1⟩
    clear q1 q2 q3
    go_upto_region 8 with fail
    go_cut [] from 10 to 55 (fun wc => ∃ P1 P2 : Wl, SL w wc X L M H I P1 P2 C D ln ld hn hd (t * cn + pn) (t * cd + pd) cn cd ∧ Bx wc (T1 + 1) (.slice ta.2 tl.2 tc.2) ∧ Bx wc T2 (.slice ma ml mc) ∧ Nn wc ma ml mc ((t * hd : Nat) : Int) ∧ Nn wc ta.2 tl.2 tc.2 (r : Int))
    case first =>
     go_wp2_with (first
      | (go_at_call 108; refine (CN _ _ _ _ t tM b5 n1).mono ?_; rintro e w8 ⟨pa, pl, pc, rfl, ⟨n10, n11⟩, d8⟩; have S8 := S7.grow d8; obtain ⟨v0, v1, v2, v3, vl⟩ := c4 S8.kC; have s0 := S8.kC.free 0; have s1 := S8.kC.free 1; have s2 := S8.kC.free 2; have s3 := S8.kC.free 3; have KR8 := KR.below d8; have KP8 := KP.below d8; have n28 := n2.grow d8; have n58 := n5.grow d8)
      | fail)
     go_meet
     case rel =>
      have q := wr4 w8 X (.slice pa.1 pl.1 pc.1) (.slice pa.2 pl.2 pc.2) (.slice C.a C.l C.c) (.slice D.a D.l D.c)
      have g1 := n58.off S8.kC sl4
      have g2 := n28.off S8.kC sl4
      exact ⟨⟨pa.1, pl.1, pc.1⟩, ⟨pa.2, pl.2, pc.2⟩, S8.nextC ⟨pa.1, pl.1, pc.1⟩ ⟨pa.2, pl.2, pc.2⟩ _ _ n10 n11, KR8.wr q (bx_ne KR8 S8.kC (by simp)), KP8.wr q (bx_ne KP8 S8.kC (by simp)), (((n58.set g1 0 _).set g1 1 _).set g1 2 _).set g1 3 _, (((n28.set g2 0 _).set g2 1 _).set g2 2 _).set g2 3 _⟩
    case rest =>
     rename World => wC
     clear S7 f7a f7b f7c f7d f7e f7f f7g f7h KT KR KP kt kr kp n1 n2 n5 b5 CN CF
     obtain ⟨P1, P2, S8, KR, KP, n5, n2⟩ := hcut
     have CS : ∀ x, Below wC.heap.size wC x → Calls Tryz.prog 47 #[.agg #[.slice H.a H.l H.c], .agg #[.slice ma ml mc]] x fun e w' => ∃ a l c, e = .returned (.agg #[.slice a l c]) ∧ Nn w' a l c (d : Int) ∧ Below x.heap.size x w' := fun x b => by
      have := Sub_n (S8.nH.grow b) (n5.grow b) (by have := pw_mono (show m ≤ m + m by omega); have := M1 inv.b3; omega) HQ.out.2 (by omega) (by have := HQ.out.1; omega)
      rwa [show ((hn : Int) - ((t * hd : Nat) : Int)) = (d : Int) by have := HQ.out.1; omega] at this
     have KH := S8.kH
     have KL := S8.kL
     have hT : T1 + 1 ≠ w.heap.size := by
      obtain ⟨s, K⟩ := KL.bk
      exact bx_ne KR K (by simp)
     have AS : Hid (SL w wC X L M H I P1 P2 C D ln ld hn hd (t * cn + pn) (t * cd + pd) cn cd ∧ Nn wC ta.2 tl.2 tc.2 (r : Int)) := ⟨S8, n2⟩
     have AV : Hid (SI M0 ln ld hn hd cn cd pn pd) := inv
     clear S8 n2 n5 inv HQ M1 tM cM pM dM qM
     obtain ⟨dI, hdI⟩ : ∃ dI : Int, (d : Int) = dI := ⟨_, rfl⟩
     rw [hdI] at CS
     have HdI : Hid ((d : Int) = dI) := hdI
     clear hdI
     go_wp2_with fail
     refine Code.wp_mono (Q := fun ex a x => ex = .normal ∧ (fun a x => ∃ t45 t46 t47 t48 t49 t50 t51 t52 t53 t54 t55, a = ⟨#[.agg #[.bool false, .slice L0.a L0.l L0.c, .slice M00.a M00.l M00.c], .agg #[.bool false, .slice H0.a H0.l H0.c, .slice I0.a I0.l I0.c], .pointer (some ⟨w.heap.size, 0, none⟩), .pointer (some ⟨w.heap.size + 1, 0, none⟩), .pointer (some ⟨w.heap.size + 1 + 1, 0, none⟩), .pointer (some ⟨X, 0, none⟩), .pointer (some ⟨T1, 0, none⟩), .pointer (some ⟨T1 + 1, 0, none⟩), .pointer (some ⟨T2, 0, none⟩), .agg #[.slice na.1 nl.1 nc.1, .slice none 0 0, .slice none 0 0, .slice na.2 nl.2 nc.2], u10, u11, u12, u13, u14, u15, u16, u17, u18, u19, u20, u21, u22, u23, u24, u25, u26, u27, u28, u29, u30, u31, u32, u33, u34, u35, u36, u37, u38, u39, u40, u41, u42, u43, u44, t45, t46, t47, t48, t49, t50, t51, t52, t53, t54, t55], []⟩ ∧ (∃ xa xl xc x0, Below wC.heap.size wC x0 ∧ Nn x0 xa xl xc dI ∧ x = (((((x0.setCell ⟨w.heap.size, 0, none⟩ (.bool false)).setCell ⟨w.heap.size, 1, none⟩ (.slice I.a I.l I.c)).setCell ⟨w.heap.size, 2, none⟩ (.slice xa xl xc)).setCell ⟨w.heap.size + 1, 0, none⟩ (.bool false)).setCell ⟨w.heap.size + 1, 1, none⟩ (.slice M.a M.l M.c)).setCell ⟨w.heap.size + 1, 2, none⟩ (.slice ta.2 tl.2 tc.2))) a x) ?_ ?_
     rotate_left
     ·refine wp_region_held (S := fun _ => True) (by kernel_rfl) (any_inv (fun listed a x => ∃ (y0 y1 y2 y3 y4 y5 y6 y7 y8 y9 y10 : Bool) (t45 t46 t47 t48 t49 t50 t51 t52 t53 t54 t55 : Value), a = ⟨#[.agg #[.bool false, .slice L0.a L0.l L0.c, .slice M00.a M00.l M00.c], .agg #[.bool false, .slice H0.a H0.l H0.c, .slice I0.a I0.l I0.c], .pointer (some ⟨w.heap.size, 0, none⟩), .pointer (some ⟨w.heap.size + 1, 0, none⟩), .pointer (some ⟨w.heap.size + 1 + 1, 0, none⟩), .pointer (some ⟨X, 0, none⟩), .pointer (some ⟨T1, 0, none⟩), .pointer (some ⟨T1 + 1, 0, none⟩), .pointer (some ⟨T2, 0, none⟩), .agg #[.slice na.1 nl.1 nc.1, .slice none 0 0, .slice none 0 0, .slice na.2 nl.2 nc.2], u10, u11, u12, u13, u14, u15, u16, u17, u18, u19, u20, u21, u22, u23, u24, u25, u26, u27, u28, u29, u30, u31, u32, u33, u34, u35, u36, u37, u38, u39, u40, u41, u42, u43, u44, t45, t46, t47, t48, t49, t50, t51, t52, t53, t54, t55], []⟩ ∧ ((listed = #[y0, y1, y2, y3, y4, y5, y6, y7, y8, y9, y10, false, false] ∧ SA9 wC x I (.pointer (some ⟨w.heap.size + 1, 2, none⟩)) (.agg #[.slice I.a I.l I.c]) (.pointer (some ⟨w.heap.size + 1, 1, none⟩)) (.agg #[.slice H.a H.l H.c]) (.agg #[.slice ma ml mc]) (.pointer (some ⟨w.heap.size, 2, none⟩)) (.agg #[.slice M.a M.l M.c]) (.agg #[.slice ta.2 tl.2 tc.2]) (.agg #[.bool false, .slice M.a M.l M.c, .slice ta.2 tl.2 tc.2]) (dI) (dI) y0 y1 y2 y3 y4 y5 y6 y7 y8 y9 y10 t45 t46 t47 t48 t49 t50 t51 t52 t53 t54 t55) ∨ (listed = #[true, true, true, true, true, true, true, true, true, y9, y10, true, false] ∧ (y9 = true → t54 = .agg #[.slice ta.2 tl.2 tc.2]) ∧ (y10 = true → t55 = .agg #[.bool false, .slice M.a M.l M.c, .slice ta.2 tl.2 tc.2]) ∧ ∃ xa xl xc x0, Below wC.heap.size wC x0 ∧ Nn x0 xa xl xc dI ∧ x = ((x0.setCell ⟨w.heap.size, 0, none⟩ (.bool false)).setCell ⟨w.heap.size, 1, none⟩ (.slice I.a I.l I.c)).setCell ⟨w.heap.size, 2, none⟩ (.slice xa xl xc) ∧ t53 = .agg #[.slice M.a M.l M.c]) ∨ (listed = #[true, true, true, true, true, true, true, true, true, true, true, true, true] ∧ ∃ xa xl xc x0, Below wC.heap.size wC x0 ∧ Nn x0 xa xl xc dI ∧ x = (((((x0.setCell ⟨w.heap.size, 0, none⟩ (.bool false)).setCell ⟨w.heap.size, 1, none⟩ (.slice I.a I.l I.c)).setCell ⟨w.heap.size, 2, none⟩ (.slice xa xl xc)).setCell ⟨w.heap.size + 1, 0, none⟩ (.bool false)).setCell ⟨w.heap.size + 1, 1, none⟩ (.slice M.a M.l M.c)).setCell ⟨w.heap.size + 1, 2, none⟩ (.slice ta.2 tl.2 tc.2)))) ?_ ?_ _ _ _ _ (by decide) ?_)
      ·rintro listed a x i ⟨y0, y1, y2, y3, y4, y5, y6, y7, y8, y9, y10, t45, t46, t47, t48, t49, t50, t51, t52, t53, t54, t55, rfl, h⟩ hi
       have hr : i < 13 := List.mem_range.1 (List.mem_filter.1 hi).1
       have hc := (List.mem_filter.1 hi).2
       rcases h with ⟨rfl, h⟩ | ⟨rfl, h⟩ | ⟨rfl, h⟩
       ·rcases (show i = 0 ∨ i = 1 ∨ i = 2 ∨ i = 3 ∨ i = 4 ∨ i = 5 ∨ i = 6 ∨ i = 7 ∨ i = 8 ∨ i = 9 ∨ i = 10 ∨ i = 11 ∨ i = 12 by omega) with rfl | rfl | rfl | rfl | rfl | rfl | rfl | rfl | rfl | rfl | rfl | rfl | rfl
        ·clear hc hi
         refine wpOp_step rfl (fun K hK0 => ?_)
         have hK : Hid _ := hK0
         clear hK0
         rw [if_pos (by rfl)]
         go_wp2_with fail
         exact hK.out _ _ ⟨true, y1, y2, y3, y4, y5, y6, y7, y8, y9, y10, .pointer (some ⟨w.heap.size + 1, 2, none⟩), t46, t47, t48, t49, t50, t51, t52, t53, t54, t55, rfl, Or.inl ⟨rfl, { h with o0 := fun _ => rfl }⟩⟩
        ·have e0 : y0 = true := by
          revert hc
          cases y0 <;> simp [Region.binds]
         have r0 := h.o0 e0
         subst r0
         clear hc hi
         have kd := (KH.grow h.bel).c2
         refine wpOp_step rfl (fun K hK0 => ?_)
         have hK : Hid _ := hK0
         clear hK0
         rw [if_pos (by rfl)]
         go_wp2_with fail
         exact hK.out _ _ ⟨y0, true, y2, y3, y4, y5, y6, y7, y8, y9, y10, _, .agg #[.slice I.a I.l I.c], t47, t48, t49, t50, t51, t52, t53, t54, t55, rfl, Or.inl ⟨rfl, { h with o1 := fun _ => rfl }⟩⟩
        ·clear hc hi
         refine wpOp_step rfl (fun K hK0 => ?_)
         have hK : Hid _ := hK0
         clear hK0
         rw [if_pos (by rfl)]
         go_wp2_with fail
         exact hK.out _ _ ⟨y0, y1, true, y3, y4, y5, y6, y7, y8, y9, y10, t45, t46, .pointer (some ⟨w.heap.size + 1, 1, none⟩), t48, t49, t50, t51, t52, t53, t54, t55, rfl, Or.inl ⟨rfl, { h with o2 := fun _ => rfl }⟩⟩
        ·have e2 : y2 = true := by
          revert hc
          cases y2 <;> simp [Region.binds]
         have r2 := h.o2 e2
         subst r2
         clear hc hi
         have kd := (KH.grow h.bel).c1
         refine wpOp_step rfl (fun K hK0 => ?_)
         have hK : Hid _ := hK0
         clear hK0
         rw [if_pos (by rfl)]
         go_wp2_with fail
         exact hK.out _ _ ⟨y0, y1, y2, true, y4, y5, y6, y7, y8, y9, y10, t45, t46, _, .agg #[.slice H.a H.l H.c], t49, t50, t51, t52, t53, t54, t55, rfl, Or.inl ⟨rfl, { h with o3 := fun _ => rfl }⟩⟩
        ·clear hc hi
         have kd := (KP.below h.bel).1
         refine wpOp_step rfl (fun K hK0 => ?_)
         have hK : Hid _ := hK0
         clear hK0
         rw [if_pos (by rfl)]
         go_wp2_with fail
         exact hK.out _ _ ⟨y0, y1, y2, y3, true, y5, y6, y7, y8, y9, y10, t45, t46, t47, t48, .agg #[.slice ma ml mc], t50, t51, t52, t53, t54, t55, rfl, Or.inl ⟨rfl, { h with o4 := fun _ => rfl }⟩⟩
        ·have e3 : y3 = true := by
          revert hc
          cases y3 <;> simp [Region.binds]
         have e4 : y4 = true := by
          revert hc
          cases y4 <;> simp [Region.binds]
         have r3 := h.o3 e3
         subst r3
         have r4 := h.o4 e4
         subst r4
         clear hc hi
         refine wpOp_step rfl (fun K hK0 => ?_)
         have hK : Hid _ := hK0
         clear hK0
         rw [if_pos (by rfl)]
         go_wp2_with (first | (go_at_call 47; go_must (refine (CS x h.bel).mono ?_; rintro e x2 ⟨a9, l9, c9, rfl, H9, bb⟩)) | fail)
         exact hK.out _ _ ⟨y0, y1, y2, y3, y4, true, y6, y7, y8, y9, y10, t45, t46, t47, _, _, _, t51, t52, t53, t54, t55, rfl, Or.inl ⟨rfl, { h.grow bb with o5 := fun _ => ⟨a9, l9, c9, rfl, H9⟩ }⟩⟩
        ·have e1 : y1 = true := by
          revert hc
          cases y1 <;> simp [Region.binds]
         have e5 : y5 = true := by
          revert hc
          cases y5 <;> simp [Region.binds]
         have r1 := h.o1 e1
         subst r1
         obtain ⟨a5, l5, c5, rfl, H5⟩ := h.o5 e5
         clear hc hi
         refine wpOp_step rfl (fun K hK0 => ?_)
         have hK : Hid _ := hK0
         clear hK0
         rw [if_pos (by rfl)]
         go_wp2_with fail
         exact hK.out _ _ ⟨y0, y1, y2, y3, y4, y5, true, y7, y8, y9, y10, t45, _, t47, t48, t49, _, _, t52, t53, t54, t55, rfl, Or.inl ⟨rfl, { h with o6 := fun _ => ⟨a5, l5, c5, rfl, H5⟩ }⟩⟩
        ·clear hc hi
         refine wpOp_step rfl (fun K hK0 => ?_)
         have hK : Hid _ := hK0
         clear hK0
         rw [if_pos (by rfl)]
         go_wp2_with fail
         exact hK.out _ _ ⟨y0, y1, y2, y3, y4, y5, y6, true, y8, y9, y10, t45, t46, t47, t48, t49, t50, t51, .pointer (some ⟨w.heap.size, 2, none⟩), t53, t54, t55, rfl, Or.inl ⟨rfl, { h with o7 := fun _ => rfl }⟩⟩
        ·have e7 : y7 = true := by
          revert hc
          cases y7 <;> simp [Region.binds]
         have r7 := h.o7 e7
         subst r7
         clear hc hi
         have kd := (KL.grow h.bel).c2
         refine wpOp_step rfl (fun K hK0 => ?_)
         have hK : Hid _ := hK0
         clear hK0
         rw [if_pos (by rfl)]
         go_wp2_with fail
         exact hK.out _ _ ⟨y0, y1, y2, y3, y4, y5, y6, y7, true, y9, y10, t45, t46, t47, t48, t49, t50, t51, _, .agg #[.slice M.a M.l M.c], t54, t55, rfl, Or.inl ⟨rfl, { h with o8 := fun _ => rfl }⟩⟩
        ·clear hc hi
         have kd := (KR.below h.bel).1
         refine wpOp_step rfl (fun K hK0 => ?_)
         have hK : Hid _ := hK0
         clear hK0
         rw [if_pos (by rfl)]
         go_wp2_with fail
         exact hK.out _ _ ⟨y0, y1, y2, y3, y4, y5, y6, y7, y8, true, y10, t45, t46, t47, t48, t49, t50, t51, t52, t53, .agg #[.slice ta.2 tl.2 tc.2], t55, rfl, Or.inl ⟨rfl, { h with o9 := fun _ => rfl }⟩⟩
        ·have e8 : y8 = true := by
          revert hc
          cases y8 <;> simp [Region.binds]
         have e9 : y9 = true := by
          revert hc
          cases y9 <;> simp [Region.binds]
         have r8 := h.o8 e8
         subst r8
         have r9 := h.o9 e9
         subst r9
         clear hc hi
         refine wpOp_step rfl (fun K hK0 => ?_)
         have hK : Hid _ := hK0
         clear hK0
         rw [if_pos (by rfl)]
         go_wp2_with fail
         exact hK.out _ _ ⟨y0, y1, y2, y3, y4, y5, y6, y7, y8, y9, true, t45, t46, t47, t48, t49, t50, t51, t52, _, _, .agg #[.bool false, .slice M.a M.l M.c, .slice ta.2 tl.2 tc.2], rfl, Or.inl ⟨rfl, { h with o10 := fun _ => rfl }⟩⟩
        ·have e0 : y0 = true := by
          revert hc
          cases y0 <;> simp [Region.binds]
         have e1 : y1 = true := by
          revert hc
          cases y1 <;> simp [Region.binds]
         have e2 : y2 = true := by
          revert hc
          cases y2 <;> simp [Region.binds]
         have e3 : y3 = true := by
          revert hc
          cases y3 <;> simp [Region.binds]
         have e4 : y4 = true := by
          revert hc
          cases y4 <;> simp [Region.binds]
         have e5 : y5 = true := by
          revert hc
          cases y5 <;> simp [Region.binds]
         have e6 : y6 = true := by
          revert hc
          cases y6 <;> simp [Region.binds]
         have e7 : y7 = true := by
          revert hc
          cases y7 <;> simp [Region.binds]
         have e8 : y8 = true := by
          revert hc
          cases y8 <;> simp [Region.binds]
         obtain ⟨a6, l6, c6, rfl, H6⟩ := h.o6 e6
         have r8 := h.o8 e8
         subst r8
         have hl9 := h.o9
         have hl10 := h.o10
         clear hc hi
         subst e0 e1 e2 e3 e4 e5 e6 e7 e8
         have bl := h.bel
         have kk := KL.grow h.bel
         have k0 := kk.c0
         have k1 := kk.c1
         have k2 := kk.c2
         have q0 := kk.f0
         have q1 := kk.f1
         have q2 := kk.f2
         clear kk h
         refine wpOp_step rfl (fun K hK0 => ?_)
         have hK : Hid _ := hK0
         clear hK0
         rw [if_pos (by rfl)]
         go_wp2_with fail
         exact hK.out _ _ ⟨true, true, true, true, true, true, true, true, true, y9, y10, t45, t46, t47, t48, t49, t50, _, t52, _, t54, t55, rfl, Or.inr (Or.inl ⟨rfl, hl9, hl10, a6, l6, c6, x, bl, H6, rfl, rfl⟩)⟩
        ·simp [Region.binds] at hc
       ·rcases (show i = 0 ∨ i = 1 ∨ i = 2 ∨ i = 3 ∨ i = 4 ∨ i = 5 ∨ i = 6 ∨ i = 7 ∨ i = 8 ∨ i = 9 ∨ i = 10 ∨ i = 11 ∨ i = 12 by omega) with rfl | rfl | rfl | rfl | rfl | rfl | rfl | rfl | rfl | rfl | rfl | rfl | rfl
        ·simp at hc
        ·simp at hc
        ·simp at hc
        ·simp at hc
        ·simp at hc
        ·simp at hc
        ·simp at hc
        ·simp at hc
        ·simp at hc
        ·clear hc hi
         obtain ⟨hl9, h⟩ := h
         obtain ⟨hl10, h⟩ := h
         obtain ⟨xa, xl, xc, x0, bl, hn, rfl, rfl⟩ := h
         have kd := cell_skip3 (n := w.heap.size) (a := .bool false) (e := .slice I.a I.l I.c) (c := .slice xa xl xc) (KR.below bl).1 hT
         refine wpOp_step rfl (fun K hK0 => ?_)
         have hK : Hid _ := hK0
         clear hK0
         rw [if_pos (by rfl)]
         go_wp2_with fail
         exact hK.out _ _ ⟨true, true, true, true, true, true, true, true, true, true, y10, _, _, _, _, _, _, _, _, _, _, _, rfl, Or.inr (Or.inl ⟨rfl, fun _ => rfl, hl10, xa, xl, xc, x0, bl, hn, rfl, rfl⟩)⟩
        ·have e9 : y9 = true := by
          revert hc
          cases y9 <;> simp [Region.binds]
         clear hc hi
         obtain ⟨hl9, h⟩ := h
         obtain ⟨hl10, h⟩ := h
         have r9 := hl9 e9
         subst r9
         obtain ⟨xa, xl, xc, x0, bl, hn, rfl, rfl⟩ := h
         have kd := cell_skip3 (n := w.heap.size) (a := .bool false) (e := .slice I.a I.l I.c) (c := .slice xa xl xc) (KR.below bl).1 hT
         refine wpOp_step rfl (fun K hK0 => ?_)
         have hK : Hid _ := hK0
         clear hK0
         rw [if_pos (by rfl)]
         go_wp2_with fail
         exact hK.out _ _ ⟨true, true, true, true, true, true, true, true, true, y9, true, _, _, _, _, _, _, _, _, _, _, _, rfl, Or.inr (Or.inl ⟨rfl, fun _ => rfl, fun _ => rfl, xa, xl, xc, x0, bl, hn, rfl, rfl⟩)⟩
        ·simp at hc
        ·have e9 : y9 = true := by
          revert hc
          cases y9 <;> simp [Region.binds]
         have e10 : y10 = true := by
          revert hc
          cases y10 <;> simp [Region.binds]
         obtain ⟨hl9, h⟩ := h
         obtain ⟨hl10, h⟩ := h
         have r9 := hl9 e9
         have r10 := hl10 e10
         clear hl9
         clear hl10
         subst e9 r9
         subst e10 r10
         clear hc hi
         obtain ⟨xa, xl, xc, x0, bl, hn, rfl, rfl⟩ := h
         have kk := (KH.grow bl).skip3 (m := w.heap.size) (by omega) (.bool false) (.slice I.a I.l I.c) (.slice xa xl xc)
         have k0 := kk.c0
         have k1 := kk.c1
         have k2 := kk.c2
         have q0 := kk.f0
         have q1 := kk.f1
         have q2 := kk.f2
         clear kk
         refine wpOp_step rfl (fun K hK0 => ?_)
         have hK : Hid _ := hK0
         clear hK0
         rw [if_pos (by rfl)]
         go_wp2_with fail
         exact hK.out _ _ ⟨true, true, true, true, true, true, true, true, true, true, true, _, _, _, _, _, _, _, _, _, _, _, rfl, Or.inr (Or.inr (⟨rfl, xa, xl, xc, x0, bl, hn, rfl⟩))⟩
       ·rcases (show i = 0 ∨ i = 1 ∨ i = 2 ∨ i = 3 ∨ i = 4 ∨ i = 5 ∨ i = 6 ∨ i = 7 ∨ i = 8 ∨ i = 9 ∨ i = 10 ∨ i = 11 ∨ i = 12 by omega) with rfl | rfl | rfl | rfl | rfl | rfl | rfl | rfl | rfl | rfl | rfl | rfl | rfl <;> simp at hc
      ·rintro listed a x ⟨y0, y1, y2, y3, y4, y5, y6, y7, y8, y9, y10, t45, t46, t47, t48, t49, t50, t51, t52, t53, t54, t55, rfl, h⟩ hn
       have al := all_listed2 (by decide +kernel) hn
       rcases h with ⟨rfl, h⟩ | ⟨rfl, h⟩ | ⟨rfl, h⟩
       ·have z := al 11 (by decide)
        simp at z
       ·have z := al 12 (by decide)
        simp at z
       ·obtain ⟨xa, xl, xc, x0, bl, hn, rfl⟩ := h
        refine ⟨rfl, ?_⟩
        exact ⟨_, _, _, _, _, _, _, _, _, _, _, rfl, xa, xl, xc, x0, bl, hn, rfl⟩
      ·exact ⟨false, false, false, false, false, false, false, false, false, false, false, u45, u46, u47, u48, u49, u50, u51, u52, u53, u54, u55, rfl, Or.inl ⟨rfl, { bel := (Below.refl _ _).drew, o0 := (by intro q; cases q), o1 := (by intro q; cases q), o2 := (by intro q; cases q), o3 := (by intro q; cases q), o4 := (by intro q; cases q), o5 := (by intro q; cases q), o6 := (by intro q; cases q), o7 := (by intro q; cases q), o8 := (by intro q; cases q), o9 := (by intro q; cases q), o10 := (by intro q; cases q) }⟩⟩
     ·rintro _ a x ⟨rfl, t45, t46, t47, t48, t49, t50, t51, t52, t53, t54, t55, rfl, xa, xl, xc, x0, bl, hn', rfl⟩
      have NX := (AS.out.1.grow bl).nextR ⟨xa, xl, xc⟩ ⟨ta.2, tl.2, tc.2⟩ d r (by rw [HdI.out]; exact hn') (AS.out.2.grow bl)
      have NV := AV.out
      generalize (((((x0.setCell ⟨w.heap.size, 0, none⟩ (.bool false)).setCell ⟨w.heap.size, 1, none⟩ (.slice I.a I.l I.c)).setCell ⟨w.heap.size, 2, none⟩ (.slice xa xl xc)).setCell ⟨w.heap.size + 1, 0, none⟩ (.bool false)).setCell ⟨w.heap.size + 1, 1, none⟩ (.slice M.a M.l M.c)).setCell ⟨w.heap.size + 1, 2, none⟩ (.slice ta.2 tl.2 tc.2) = wN at *
      clear AS AV CS KH KL KP KR bl hn'
      go_wp2
      go_roundg (d + r)
      case measure => omega
      case rel => exact ⟨I, ⟨xa, xl, xc⟩, M, ⟨ta.2, tl.2, tc.2⟩, P1, P2, C, D, hd, d, ld, r, t * cn + pn, t * cd + pd, cn, cd, f, rfl, by omega, NX, NS, FU⟩
end Go.Proofs.YtapdhadpdbmkcaaGreatDoor.Mo
