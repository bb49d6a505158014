import Derived.Test.YtebilgnmnambnaaGreatDoorPart41
import Derived.Test.YtebilgnmnambnaaGreatDoorPart42
import Derived.Test.YtebilgnmnambnaaGreatDoorPart14
import Derived.Test.YtebilgnmnambnaaGreatDoorPart06
import Derived.Deep.RegionHeld3
import Derived.Test.YtebilgnmnambnaaGreatDoorPart44
import Derived.Test.YtebilgnmnambnaaGreatDoorPart45
import Derived.Test.YtebilgnmnambnaaGreatDoorPart11
import Derived.Test.YtebilgnmnambnaaGreatDoorPart34
import Derived.Lib.SmallJoins

namespace Go.Proofs.YtebilgnmnambnaaGreatDoor.Mo
open Go.RowKit Fu Tn Go.Lib Dc
set_option maxRecDepth 100000 in
set_option maxHeartbeats 6400000 in
theorem RDecimal_err (n d : ByteArray) (p k c : Int) (w : World) (hc : (c != 0) = true) (GD : ∀ x, Below w.heap.size w x → Calls Tryz.prog 51 #[.agg #[.string n, .string d]] x fun e w' => e = .returned (.int .i64 c) ∧ Below x.heap.size x w') : Calls Tryz.prog 16 #[.agg #[.string n, .string d], .int .i64 p, .int .i64 k] w fun e w' => e = .returned (.tuple #[.string ⟨#[]⟩, .int .i64 c]) ∧ Below w.heap.size w w' := by
  have KA := Blk.new w #[.string n, .string d] 23
  have pr : Below w.heap.size w (w.alloc (.cells #[.string n, .string d] 23)) := (Below.refl _ _).alloc (Nat.le_refl _) _
  go_enter Tryz.func16, Tryz.ntmps16
  go_wp2_with (first
    | (go_at_call 51; (refine (GD _ pr).mono ?_); (rintro e w1 ⟨rfl, b1⟩); (have p1 := bel' pr b1); (have KA1 := KA.below b1 KA.lt); (have ha0 := KA1.at 0); (have ha1 := KA1.at 1); (simp at ha0 ha1))
    | fail)
  go_ret2
  exact ⟨rfl, p1⟩
set_option maxRecDepth 100000 in
set_option maxHeartbeats 6400000 in
theorem RDecimal_neg (n d : ByteArray) (p k : Int) (w : World) (h : p < 0) (GD : ∀ x, Below w.heap.size w x → Calls Tryz.prog 51 #[.agg #[.string n, .string d]] x fun e w' => e = .returned (.int .i64 0) ∧ Below x.heap.size x w') : Calls Tryz.prog 16 #[.agg #[.string n, .string d], .int .i64 p, .int .i64 k] w fun e w' => e = .returned (.tuple #[.string ⟨#[]⟩, .int .i64 1]) ∧ Below w.heap.size w w' := by
  have KA := Blk.new w #[.string n, .string d] 23
  have pr : Below w.heap.size w (w.alloc (.cells #[.string n, .string d] 23)) := (Below.refl _ _).alloc (Nat.le_refl _) _
  go_enter Tryz.func16, Tryz.ntmps16
  go_wp2_with (first
    | (go_at_call 51; (refine (GD _ pr).mono ?_); (rintro e w1 ⟨rfl, b1⟩); (have p1 := bel' pr b1); (have KA1 := KA.below b1 KA.lt); (have ha0 := KA1.at 0); (have ha1 := KA1.at 1); (simp at ha0 ha1))
    | fail)
  go_ret2
  exact ⟨rfl, p1⟩
set_option maxRecDepth 100000 in
set_option maxHeartbeats 6400000 in
theorem RDecimal_far (n d : ByteArray) (p k : Int) (w : World) (h : 1024 < p) (GD : ∀ x, Below w.heap.size w x → Calls Tryz.prog 51 #[.agg #[.string n, .string d]] x fun e w' => e = .returned (.int .i64 0) ∧ Below x.heap.size x w') : Calls Tryz.prog 16 #[.agg #[.string n, .string d], .int .i64 p, .int .i64 k] w fun e w' => e = .returned (.tuple #[.string ⟨#[]⟩, .int .i64 1]) ∧ Below w.heap.size w w' := by
  have KA := Blk.new w #[.string n, .string d] 23
  have pr : Below w.heap.size w (w.alloc (.cells #[.string n, .string d] 23)) := (Below.refl _ _).alloc (Nat.le_refl _) _
  have q0 : ¬ p < 0 := by omega
  go_enter Tryz.func16, Tryz.ntmps16
  go_wp2_with (first
    | (go_at_call 51; (refine (GD _ pr).mono ?_); (rintro e w1 ⟨rfl, b1⟩); (have p1 := bel' pr b1); (have KA1 := KA.below b1 KA.lt); (have ha0 := KA1.at 0); (have ha1 := KA1.at 1); (simp at ha0 ha1))
    | fail)
  go_ret2
  exact ⟨rfl, p1⟩
set_option maxRecDepth 100000 in
set_option maxHeartbeats 6400000 in
theorem RDecimal_nway (n d : ByteArray) (p k : Int) (w : World) (h0 : 0 ≤ p) (h1 : p ≤ 1024) (GD : ∀ x, Below w.heap.size w x → Calls Tryz.prog 51 #[.agg #[.string n, .string d]] x fun e w' => e = .returned (.int .i64 0) ∧ Below x.heap.size x w') (MO : ∀ x, Calls Tryz.prog 62 #[.int .i64 k] x fun e w' => e = .returned (.bool false) ∧ Below x.heap.size x w') : Calls Tryz.prog 16 #[.agg #[.string n, .string d], .int .i64 p, .int .i64 k] w fun e w' => e = .returned (.tuple #[.string ⟨#[]⟩, .int .i64 1]) ∧ Below w.heap.size w w' := by
  have KA := Blk.new w #[.string n, .string d] 23
  have pr : Below w.heap.size w (w.alloc (.cells #[.string n, .string d] 23)) := (Below.refl _ _).alloc (Nat.le_refl _) _
  have q0 : ¬ p < 0 := by omega
  have q1 : ¬ p > 1024 := by omega
  go_enter Tryz.func16, Tryz.ntmps16
  go_wp2_with (first
    | (go_at_call 62; (have mk2 := p1); (refine (MO _).mono ?_); (rintro e w2 ⟨rfl, b2⟩); (have p2 := bel' p1 b2); (have KA2 := KA1.below b2 KA1.lt); (have hb0 := KA2.at 0); (have hb1 := KA2.at 1); (simp at hb0 hb1))
    | (go_at_call 51; (refine (GD _ pr).mono ?_); (rintro e w1 ⟨rfl, b1⟩); (have p1 := bel' pr b1); (have KA1 := KA.below b1 KA.lt); (have ha0 := KA1.at 0); (have ha1 := KA1.at 1); (simp at ha0 ha1))
    | fail)
  go_ret2
  exact ⟨rfl, p2⟩
theorem rd_ten {w : World} {n : Nat} (h : w.cell? ⟨n, 0, none⟩ = some (.int .i64 10)) : L.Rd w (.slice (some ⟨n, 0, none⟩) 1 1) [10] := by
  refine ⟨Tl.Wd.cons (by decide) (by decide) Tl.Wd.nil, _, 1, rfl, by decide, by decide, fun _ => ⟨n, 0, rfl, ?_⟩⟩
  intro i hi
  have : i = 0 := by simp at hi; omega
  subst this
  simpa [L.nth] using h
theorem Ten_n (p : Nat) (K : Nat) (w : World) (hn : p < 9223372036854775808) (hp : ((10 ^ p : Nat) : Int) < Tl.pw K) (hk : 1 < Tl.pw K) (hK : K ≤ 274877906944) :
    Calls Tryz.prog 70 #[.int .i64 (p : Int)] w fun e w' => ∃ a l c, e = .returned (.slice a l c) ∧ Nl w' a l c ((10 ^ p : Nat) : Int) ∧ Below w.heap.size w w' := by
  have al := (Below.refl w.heap.size w).alloc (Nat.le_refl _) (.cells #[.int .i64 10] 3)
  have r1 : L.Rd (w.alloc (.cells #[.int .i64 10] 3)) (.slice (some ⟨w.heap.size, 0, none⟩) 1 1) [10] := rd_ten (by simp)
  have v10 : Tl.val [10] = 10 := by decide
  go_enter Tryz.func70, Tryz.ntmps70
  go_wp2_with (first
    | (go_at_call 114; (refine (L.Pow_any _ [10] p K _ r1 (Or.inr (by simp)) hn (by rw [v10]; exact_mod_cast hp) hk hK).mono ?_); (rintro e w1 ⟨u, zs, rfl, q1, n1, v1, b1⟩); (obtain ⟨a, l, c, hu⟩ : ∃ a l c, u = .slice a l c := by (obtain ⟨_, a, c, e, _⟩ := q1; exact ⟨a, _, c, e⟩)); (subst hu))
    | fail)
  go_ret
  exact ⟨a, l, c, rfl, ⟨zs, q1, n1, by rw [v1, v10]; norm_cast⟩, bel' al b1⟩
def QV (r : Rat) (_ : Int) (t : Value) (x : World) : Prop := ∃ (a : Bool × Option Addr × Option Addr) (l c : Nat × Nat), t = .agg #[.bool a.1, .slice a.2.1 l.1 c.1, .slice a.2.2 l.2 c.2] ∧ L.IsQ x (.agg #[.bool a.1, .slice a.2.1 l.1 c.1, .slice a.2.2 l.2 c.2]) r
theorem QV.grow {r : Rat} {n : Int} {t : Value} {x x' : World} (h : QV r n t x) (b : Below x.heap.size x x') : QV r n t x' := by
  obtain ⟨a, l, c, e, h⟩ := h
  exact ⟨a, l, c, e, h.grow b⟩
def QP (r : Rat) (x : World) (e : Ending) (w' : World) : Prop := ∃ (a : Bool × Option Addr × Option Addr) (l c : Nat × Nat), e = .returned (.agg #[.bool a.1, .slice a.2.1 l.1 c.1, .slice a.2.2 l.2 c.2]) ∧ L.IsQ w' (.agg #[.bool a.1, .slice a.2.1 l.1 c.1, .slice a.2.2 l.2 c.2]) r ∧ Below x.heap.size x w'
theorem qp_of {r : Rat} {x w' : World} {e : Ending} (h : Qf r x e w') : QP r x e w' := by
  obtain ⟨g, a, l, c, a', l', c', h1, h2, h3⟩ := h
  exact ⟨(g, a, a'), (l, l'), (c, c'), h1, h2, h3⟩
theorem isq_num {x : World} {g : Bool} {a a' : Option Addr} {l c l' c' : Nat} {r : Rat} (h : L.IsQ x (.agg #[.bool g, .slice a l c, .slice a' l' c']) r) : Nl x a l c (r.num.natAbs : Int) := by
  obtain ⟨b, k, e, b', k', e', h1, h2, h3, _⟩ := nl_isq h
  injection h1 with h1
  injection h1 with h1
  simp only [List.cons.injEq, Value.bool.injEq, Value.slice.injEq, and_true] at h1
  obtain ⟨_, ⟨rfl, rfl, rfl⟩, _⟩ := h1
  exact h2
def szV : Value → Nat | .string b => b.size | _ => 0
def dTl (g : Bool) (p : Nat) (l : List UInt8) : ByteArray × Int := if 4096 < (padl p l).length then (⟨#[]⟩, 3) else (sB (sg g (dott p (padl p l))), 0)
theorem rep_cons (t : Nat) (l : List UInt8) : (⟨#[48]⟩ : ByteArray) ++ sB (List.replicate t 48 ++ l) = sB (List.replicate (t + 1) 48 ++ l) := by
  rw [sB_cons]
  rfl
structure DR7 (W x : World) (r : Rat) (t1 : Rat) (t2 : Rat) (V0 V2 V4 : Value) (N1 N3 N5 : Int) (y0 y1 y2 y3 y4 y5 y6 : Bool) (t32 t33 t34 t35 t36 t37 t10 : Value) : Prop where
  bel : Below W.heap.size W x
  o0 : y0 = true → t32 = V0
  o2 : y2 = true → t34 = V2
  o4 : y4 = true → t36 = V4
  o1 : y1 = true → QV r N1 t33 x
  o3 : y3 = true → QV t1 N3 t35 x
  o5 : y5 = true → QV t2 N5 t37 x
  o6 : y6 = true → ∃ X, t10 = .pointer (some ⟨X, 0, none⟩) ∧ W.heap.size ≤ X ∧ Blk x X #[.bool false, .slice none 0 0, .slice none 0 0] 56
theorem DR7.grow {W x x' : World} {r : Rat} {t1 : Rat} {t2 : Rat} {V0 V2 V4 : Value} {N1 N3 N5 : Int} {y0 y1 y2 y3 y4 y5 y6 : Bool} {t32 t33 t34 t35 t36 t37 t10 : Value} (h : DR7 W x r t1 t2 V0 V2 V4 N1 N3 N5 y0 y1 y2 y3 y4 y5 y6 t32 t33 t34 t35 t36 t37 t10) (b : Below x.heap.size x x') : DR7 W x' r t1 t2 V0 V2 V4 N1 N3 N5 y0 y1 y2 y3 y4 y5 y6 t32 t33 t34 t35 t36 t37 t10 where
  bel := bel' h.bel b
  o0 := h.o0
  o2 := h.o2
  o4 := h.o4
  o1 := fun u => (h.o1 u).grow b
  o3 := fun u => (h.o3 u).grow b
  o5 := fun u => (h.o5 u).grow b
  o6 := fun u => by obtain ⟨k, e, l, K⟩ := h.o6 u; exact ⟨k, e, l, K.below b K.lt⟩
set_option maxRecDepth 100000 in
set_option maxHeartbeats 6400000 in
theorem RDec_walk (n d : ByteArray) (P : Nat) (k z : Int) (T : Nat) (ds : List UInt8) (r t1 t2 : Rat) (g : Bool) (w : World) (h1 : P ≤ 1024) (hz : decide (z < 0) = g) (GD : ∀ x, Below w.heap.size w x → Calls Tryz.prog 51 #[.agg #[.string n, .string d]] x fun e w' => e = .returned (.int .i64 0) ∧ Below x.heap.size x w') (MO : ∀ x, Calls Tryz.prog 62 #[.int .i64 k] x fun e w' => e = .returned (.bool true) ∧ Below x.heap.size x w')
    (TE : ∀ x, Calls Tryz.prog 70 #[.int .i64 (P : Int)] x fun e w' => ∃ a l c, e = .returned (.slice a l c) ∧ Nl w' a l c (T : Int) ∧ Below x.heap.size x w')
    (IN : ∀ x, Calls Tryz.prog 52 #[.agg #[.string n, .string d]] x (Qf r x))
    (MU : ∀ x v1 v2, L.IsQ x v1 r → L.IsQ x v2 ((T : Int) : Rat) → Calls Tryz.prog 34 #[v1, v2] x (Qf t1 x))
    (RD : ∀ x v, L.IsQ x v t1 → Calls Tryz.prog 71 #[v, .int .i64 k] x (Qf t2 x))
    (TX : ∀ x a l c, Nl x a l c (t2.num.natAbs : Int) → Calls Tryz.prog 55 #[.slice a l c] x fun e w' => e = .returned (.string (sB ds)) ∧ Below x.heap.size x w')
    (SG : ∀ x v, L.IsQ x v t2 → Calls Tryz.prog 53 #[v] x fun e w' => e = .returned (.int .i64 z) ∧ Below x.heap.size x w') :
    Calls Tryz.prog 16 #[.agg #[.string n, .string d], .int .i64 (P : Int), .int .i64 k] w fun e w' => e = .returned (.tuple #[.string (dTl g P ds).1, .int .i64 (dTl g P ds).2]) ∧ Below w.heap.size w w' := by
  have hd0 : IntKind.i64.wrap ((P : Int) + 1) = (P : Int) + 1 := Wt.wrapI _ (by omega) (by omega)
  have KA := Blk.new w #[.string n, .string d] 23
  have pr : Below w.heap.size w (w.alloc (.cells #[.string n, .string d] 23)) := (Below.refl _ _).alloc (Nat.le_refl _) _
  have d1 : decide ((P : Int) < 0) = false := decide_eq_false (by omega)
  have d2 : decide (1024 < (P : Int)) = false := decide_eq_false (by omega)
  go_enter Tryz.func16, Tryz.ntmps16
  go_wp2_with (first
    | (go_at_call 70; (have mk3 := p2); (refine (TE _).mono ?_); (rintro e w3 ⟨ta, tl, tc, rfl, n3, b3⟩); (have p3 := bel' p2 b3); (have KA3 := KA2.below b3 KA2.lt))
    | (go_at_call 62; (have mk2 := p1); (refine (MO _).mono ?_); (rintro e w2 ⟨rfl, b2⟩); (have p2 := bel' p1 b2); (have KA2 := KA1.below b2 KA1.lt); (have hb0 := KA2.at 0); (have hb1 := KA2.at 1); (simp at hb0 hb1))
    | (go_at_call 51; (refine (GD _ pr).mono ?_); (rintro e w1 ⟨rfl, b1⟩); (have p1 := bel' pr b1); (have KA1 := KA.below b1 KA.lt); (have ha0 := KA1.at 0); (have ha1 := KA1.at 1); (simp at ha0 ha1))
    | fail)
  have al3 := ((Below.refl w3.heap.size w3).alloc (Nat.le_refl _) (.cells #[.int .i64 1] 3)).alloc (by simp) (.cells #[.bool false, .slice ta tl tc, .slice (some ⟨w3.heap.size, 0, none⟩) 1 1] 56)
  have KU := Rb.new (w3.alloc (.cells #[.int .i64 1] 3)) (.bool false) (.slice ta tl tc) (.slice (some ⟨w3.heap.size, 0, none⟩) 1 1) 56
  simp only [World.size_alloc] at KU
  have N1 : Nl (w3.alloc (.cells #[.int .i64 1] 3)) (some ⟨w3.heap.size, 0, none⟩) 1 1 1 := ⟨[1], L.rd_one (by simp) (by decide) (by decide), L.nm_one, L.val_one⟩
  have TU : L.IsQ ((w3.alloc (.cells #[.int .i64 1] 3)).alloc (.cells #[.bool false, .slice ta tl tc, .slice (some ⟨w3.heap.size, 0, none⟩) 1 1] 56)) (.agg #[.bool false, .slice ta tl tc, .slice (some ⟨w3.heap.size, 0, none⟩) 1 1]) ((T : Int) : Rat) := by
    have := isq_nl (r := ((T : Int) : Rat)) (n3.grow al3) (N1.grow ((Below.refl _ _).alloc (Nat.le_refl _) _))
    rwa [show decide ((((T : Int) : Rat) : Rat).num < 0) = false from decide_eq_false (by show ¬ (T : Int) < 0; omega)] at this
  replace KA3 := KA3.below al3 KA3.lt
  have p4 := bel' p3 al3
  obtain ⟨ua, hua⟩ : ∃ u : Option Addr, some ⟨w3.heap.size, 0, none⟩ = u := ⟨_, rfl⟩
  obtain ⟨U, hU⟩ : ∃ U, w3.heap.size + 1 = U := ⟨_, rfl⟩
  simp only [hua, hU] at KU TU KA3 p4 ⊢
  clear N1 al3
  generalize ((w3.alloc (.cells #[.int .i64 1] 3)).alloc (.cells #[.bool false, .slice ta tl tc, .slice ua 1 1] 56)) = W at *
  go_cut [10] (fun p wc => ∃ (x0 : World) (X : Nat) (xa : Bool × Option Addr × Option Addr) (xl xc : Nat × Nat), Below W.heap.size W x0 ∧ (W.heap.size ≤ X ∧ Rb x0 X (.bool false) (.slice none 0 0) (.slice none 0 0)) ∧ L.IsQ x0 (.agg #[.bool xa.1, .slice xa.2.1 xl.1 xc.1, .slice xa.2.2 xl.2 xc.2]) t2 ∧ p = .pointer (some ⟨X, 0, none⟩) ∧ wc = (((x0.setCell ⟨X, 0, none⟩ (.bool xa.1)).setCell ⟨X, 1, none⟩ (.slice xa.2.1 xl.1 xc.1)).setCell ⟨X, 2, none⟩ (.slice xa.2.2 xl.2 xc.2)))
  case first =>
    rename_i hm hJ
    refine wp_region_held (S := fun _ => True) (by kernel_rfl) (any_inv (fun listed a x => ∃ (y0 y1 y2 y3 y4 y5 y6 : Bool) (t32 t33 t34 t35 t36 t37 t10 : Value), a = ⟨#[.agg #[.string n, .string d], .int .i64 (P : Int), .int .i64 k, .pointer (some ⟨w.heap.size, 0, none⟩), undef, undef, .string ⟨#[]⟩, .int .i64 0, .int .i64 0, .pointer (some ⟨U, 0, none⟩), t10, undef, .agg #[.string n, .string d], .int .i64 0, .int .i64 0, .bool false, undef, .int .i64 (P : Int), .bool false, .bool false, .int .i64 (P : Int), .bool false, .bool false, .bool false, .int .i64 k, .bool true, .bool false, .bool false, .int .i64 (P : Int), .slice ta tl tc, .slice ua 1 1, .agg #[.bool false, .slice ta tl tc, .slice ua 1 1], t32, t33, t34, t35, t36, t37, undef, undef, undef, undef, undef, undef, undef, undef, undef, undef, undef, undef, undef, undef, undef, undef, undef, undef, undef, undef, undef, undef, undef, undef, undef, undef, undef, undef, undef, undef, undef, undef, undef, undef, undef], []⟩ ∧ ((listed = #[y0, y1, y2, y3, y4, y5, y6, false] ∧ DR7 W x r t1 t2 (.agg #[.string n, .string d]) (.agg #[.bool false, .slice ta tl tc, .slice ua 1 1]) (.int .i64 k) (0) (0) (0) y0 y1 y2 y3 y4 y5 y6 t32 t33 t34 t35 t36 t37 t10) ∨ (listed = #[true, true, true, true, true, true, true, true] ∧ ∃ (x0 : World) (X : Nat) (xa : Bool × Option Addr × Option Addr) (xl xc : Nat × Nat), Below W.heap.size W x0 ∧ (W.heap.size ≤ X ∧ Rb x0 X (.bool false) (.slice none 0 0) (.slice none 0 0)) ∧ L.IsQ x0 (.agg #[.bool xa.1, .slice xa.2.1 xl.1 xc.1, .slice xa.2.2 xl.2 xc.2]) t2 ∧ t10 = .pointer (some ⟨X, 0, none⟩) ∧ x = (((x0.setCell ⟨X, 0, none⟩ (.bool xa.1)).setCell ⟨X, 1, none⟩ (.slice xa.2.1 xl.1 xc.1)).setCell ⟨X, 2, none⟩ (.slice xa.2.2 xl.2 xc.2))))) ?_ ?_ _ _ _ _ (by decide) ?_)
    · rintro listed a x i ⟨y0, y1, y2, y3, y4, y5, y6, t32, t33, t34, t35, t36, t37, t10, rfl, h⟩ hi
      have hr : i < 8 := List.mem_range.1 (List.mem_filter.1 hi).1
      have hc := (List.mem_filter.1 hi).2
      rcases h with ⟨rfl, h⟩ | ⟨rfl, h⟩
      · rcases (show i = 0 ∨ i = 1 ∨ i = 2 ∨ i = 3 ∨ i = 4 ∨ i = 5 ∨ i = 6 ∨ i = 7 by omega) with rfl | rfl | rfl | rfl | rfl | rfl | rfl | rfl
        · clear hc hi
          have ha := KA3.below h.bel KA3.lt
          have ha0 := ha.at 0
          have ha1 := ha.at 1
          simp at ha0 ha1
          refine wpOp_go rfl rfl (fun K hK => ?_)
          go_wp2_with fail
          exact hK.out _ _ ⟨true,_,_,_,_,_,_,.agg #[.string n, .string d],_,_,_,_,_,_,rfl,Or.inl ⟨rfl, { h with o0 := fun _ => rfl }⟩⟩
        · have e0 : y0 = true := by revert hc; cases y0 <;> simp [Region.binds]
          have r0 := h.o0 e0; subst r0
          clear hc hi
          refine wpOp_go rfl rfl (fun K hK => ?_)
          go_wp2_with (first | (go_at_call 52; go_must (refine ((IN _).mono (fun _ _ g => qp_of g)).mono ?_; rintro e x2 ⟨a9, l9, c9, rfl, H9, bb⟩)) | fail)
          exact hK.out _ _ ⟨_,true,_,_,_,_,_,_,_,_,_,_,_,_,rfl,Or.inl ⟨rfl, { h.grow bb with o1 := fun _ => ⟨a9, l9, c9, rfl, H9⟩ }⟩⟩
        · clear hc hi
          have hu := KU.grow h.bel
          have hu0 := hu.c0
          have hu1 := hu.c1
          have hu2 := hu.c2
          refine wpOp_go rfl rfl (fun K hK => ?_)
          go_wp2_with fail
          exact hK.out _ _ ⟨_,_,true,_,_,_,_,_,_,.agg #[.bool false, .slice ta tl tc, .slice ua 1 1],_,_,_,_,rfl,Or.inl ⟨rfl, { h with o2 := fun _ => rfl }⟩⟩
        · have e1 : y1 = true := by revert hc; cases y1 <;> simp [Region.binds]
          have e2 : y2 = true := by revert hc; cases y2 <;> simp [Region.binds]
          obtain ⟨a1, l1, c1, rfl, H1⟩ := h.o1 e1
          have r2 := h.o2 e2; subst r2
          clear hc hi
          refine wpOp_go rfl rfl (fun K hK => ?_)
          go_wp2_with (first | (go_at_call 34; go_must (refine ((MU _ _ _ H1 (TU.grow h.bel)).mono (fun _ _ g => qp_of g)).mono ?_; rintro e x2 ⟨a9, l9, c9, rfl, H9, bb⟩)) | fail)
          exact hK.out _ _ ⟨_,_,_,true,_,_,_,_,_,_,_,_,_,_,rfl,Or.inl ⟨rfl, { h.grow bb with o3 := fun _ => ⟨a9, l9, c9, rfl, H9⟩ }⟩⟩
        · clear hc hi
          refine wpOp_go rfl rfl (fun K hK => ?_)
          go_wp2_with fail
          exact hK.out _ _ ⟨_,_,_,_,true,_,_,_,_,_,_,.int .i64 k,_,_,rfl,Or.inl ⟨rfl, { h with o4 := fun _ => rfl }⟩⟩
        · have e3 : y3 = true := by revert hc; cases y3 <;> simp [Region.binds]
          have e4 : y4 = true := by revert hc; cases y4 <;> simp [Region.binds]
          obtain ⟨a3, l3, c3, rfl, H3⟩ := h.o3 e3
          have r4 := h.o4 e4; subst r4
          clear hc hi
          refine wpOp_go rfl rfl (fun K hK => ?_)
          go_wp2_with (first | (go_at_call 71; go_must (refine ((RD _ _ H3).mono (fun _ _ g => qp_of g)).mono ?_; rintro e x2 ⟨a9, l9, c9, rfl, H9, bb⟩)) | fail)
          exact hK.out _ _ ⟨_,_,_,_,_,true,_,_,_,_,_,_,_,_,rfl,Or.inl ⟨rfl, { h.grow bb with o5 := fun _ => ⟨a9, l9, c9, rfl, H9⟩ }⟩⟩
        · clear hc hi
          refine wpOp_go rfl rfl (fun K hK => ?_)
          go_wp2_with fail
          exact hK.out _ _ ⟨_,_,_,_,_,_,true,_,_,_,_,_,_,_,rfl,Or.inl ⟨rfl, { h.grow ((Below.refl _ _).alloc (Nat.le_refl _) _) with o6 := fun _ => ⟨_, rfl, h.bel.size, Blk.new _ _ _⟩ }⟩⟩
        · have e0 : y0 = true := by revert hc; cases y0 <;> simp [Region.binds]
          have e1 : y1 = true := by revert hc; cases y1 <;> simp [Region.binds]
          have e2 : y2 = true := by revert hc; cases y2 <;> simp [Region.binds]
          have e3 : y3 = true := by revert hc; cases y3 <;> simp [Region.binds]
          have e4 : y4 = true := by revert hc; cases y4 <;> simp [Region.binds]
          have e5 : y5 = true := by revert hc; cases y5 <;> simp [Region.binds]
          have e6 : y6 = true := by revert hc; cases y6 <;> simp [Region.binds]
          obtain ⟨a5, l5, c5, rfl, H5⟩ := h.o5 e5
          obtain ⟨X6, rfl, lX6, K6⟩ := h.o6 e6
          clear hc hi
          subst e0 e1 e2 e3 e4 e5 e6
          have bl := h.bel
          have KQ := Rb.ofB K6
          have z0 := KQ.c0
          have z1 := KQ.c1
          have z2 := KQ.c2
          have z3 := KQ.f0
          have z4 := KQ.f1
          have z5 := KQ.f2
          clear h
          refine wpOp_go rfl rfl (fun K hK => ?_)
          go_wp2_with fail
          exact hK.out _ _ ⟨true,true,true,true,true,true,true,_,_,_,_,_,_,_,rfl,Or.inr (⟨rfl, x, X6, a5, l5, c5, bl, ⟨lX6, KQ⟩, H5, rfl, rfl⟩)⟩
      · rcases (show i = 0 ∨ i = 1 ∨ i = 2 ∨ i = 3 ∨ i = 4 ∨ i = 5 ∨ i = 6 ∨ i = 7 by omega) with rfl | rfl | rfl | rfl | rfl | rfl | rfl | rfl <;> simp at hc
    · rintro listed a x ⟨y0, y1, y2, y3, y4, y5, y6, t32, t33, t34, t35, t36, t37, t10, rfl, h⟩ hn
      have al := all_listed2 (by decide +kernel) hn
      rcases h with ⟨rfl, h⟩ | ⟨rfl, h⟩
      · have z := al 7 (by decide)
        simp at z
      · obtain ⟨x0, X, xa, xl, xc, bl, ⟨lX, KX⟩, HH, rfl, rfl⟩ := h
        refine hJ _ _ ?_
        go_meet
        case rel => exact ⟨x0, X, xa, xl, xc, bl, ⟨lX, KX⟩, HH, rfl, rfl⟩
    · exact ⟨false, false, false, false, false, false, false, undef, undef, undef, undef, undef, undef, undef, rfl, Or.inl ⟨rfl, { bel := (Below.refl _ _).drew, o0 := (by intro q; cases q), o1 := (by intro q; cases q), o2 := (by intro q; cases q), o3 := (by intro q; cases q), o4 := (by intro q; cases q), o5 := (by intro q; cases q), o6 := (by intro q; cases q) }⟩⟩
  case rest =>
    obtain ⟨x0, X, xa, xl, xc, bl, ⟨lX, KX⟩, HH, rfl, rfl⟩ := hcut
    have KX1 := KX.sets (.bool xa.1) (.slice xa.2.1 xl.1 xc.1) (.slice xa.2.2 xl.2 xc.2)
    have T9 := qput (x := .bool xa.1) (y := .slice xa.2.1 xl.1 xc.1) (z := .slice xa.2.2 xl.2 xc.2) HH KX
    have pC := bset3 (n := X) (x := .bool xa.1) (y := .slice xa.2.1 xl.1 xc.1) (z := .slice xa.2.2 xl.2 xc.2) (bel' p4 bl) (by have := p4.size; omega)
    generalize (((x0.setCell ⟨X, 0, none⟩ (.bool xa.1)).setCell ⟨X, 1, none⟩ (.slice xa.2.1 xl.1 xc.1)).setCell ⟨X, 2, none⟩ (.slice xa.2.2 xl.2 xc.2)) = wc at *
    have kx1 := KX1.c1
    go_wp2_with (first
      | (go_at_call 55; (refine (TX _ _ _ _ (isq_num T9)).mono ?_); (rintro e w8 ⟨rfl, b8⟩); (have p8 := bel' pC b8))
      | fail)
    have KX8 := KX1.grow b8
    have T8 := T9.grow b8
    go_loop [11] (fun s => ∃ t : Nat, t ≤ P + 1 - ds.length ∧ s = .string (sB (List.replicate t 48 ++ ds))) (fun s => P + 1 - szV s)
    case atStart => exact ⟨0, Nat.zero_le _, rfl⟩
    case round =>
      obtain ⟨t, ht, rfl⟩ := hrel
      have zs : (sB (List.replicate t 48 ++ ds)).size = t + ds.length := by rw [sB_size, List.length_append, List.length_replicate]
      by_cases hlt : t < P + 1 - ds.length
      · have hc : ((sB (List.replicate t 48 ++ ds)).size : Int) < (P : Int) + 1 := by omega
        have ra := run_string_add_sum (P := Tryz.prog) w8 ⟨#[48]⟩ (sB (List.replicate t 48 ++ ds)) (by rw [zs]; simp [ByteArray.size]; omega)
        rw [rep_cons] at ra
        have zn : (sB (List.replicate (t + 1) 48 ++ ds)).size = t + 1 + ds.length := by rw [sB_size, List.length_append, List.length_replicate]
        go_wp2
        go_round
        case rel => exact ⟨t + 1, by omega, rfl⟩
        case measure => simp only [szV]; omega
      · have hc : ¬ ((sB (List.replicate t 48 ++ ds)).size : Int) < (P : Int) + 1 := by omega
        obtain rfl : t = P + 1 - ds.length := by omega
        have pl : (padl P ds).length = P + 1 - ds.length + ds.length := padl_len P ds
        have zp : (sB (padl P ds)).size = (padl P ds).length := sB_size _
        have hlong : 4096 < (padl P ds).length → dTl g P ds = (⟨#[]⟩, 3) := fun h => by unfold dTl; rw [if_pos h]
        have hshort : ¬ 4096 < (padl P ds).length → dTl g P ds = (sB (sg g (dott P (padl P ds))), 0) := fun h => by unfold dTl; rw [if_neg h]
        rw [show List.replicate (P + 1 - ds.length) 48 ++ ds = padl P ds from rfl] at zs hc ⊢
        by_cases lo : 4096 < (padl P ds).length
        · have hd := hlong lo
          have lc : ((sB (padl P ds)).size : Int) > 4096 := by omega
          clear hlong hshort
          go_wp2
          go_ret2
          first | exact ⟨rfl, p8⟩ | exact ⟨by rw [hd]; rfl, p8⟩
        · have hd := hshort lo
          have lc : ¬ ((sB (padl P ds)).size : Int) > 4096 := by omega
          have kz0 := KX8.c0
          have kz1 := KX8.c1
          have kz2 := KX8.c2
          clear hlong hshort
          obtain ⟨L0, hL0⟩ : ∃ L0, padl P ds = L0 := ⟨_, rfl⟩
          rw [hL0] at zp lc hc lo pl hd zs ⊢
          by_cases p0 : 0 < P
          · have p0' : (P : Int) > 0 := by omega
            obtain ⟨pt, hpt⟩ : ∃ pt : Nat, L0.length - P = pt := ⟨_, rfl⟩
            have hd2 : IntKind.i64.wrap (((sB L0).size : Int) - (P : Int)) = (pt : Int) := by rw [show ((sB L0).size : Int) - (P : Int) = (pt : Int) by omega]; exact Wt.wrapI _ (by omega) (by omega)
            have hH := ext_take L0 pt
            have hE := ext_drop L0 pt _ zp
            have hF : sB (L0.take pt) ++ ⟨#[46]⟩ = sB (L0.take pt ++ [46]) := sB_add _ [46]
            have hG : sB (L0.take pt ++ [46]) ++ sB (L0.drop pt) = sB (dott P L0) := by
              rw [sB_add]
              unfold dott
              rw [if_pos p0, hpt, List.append_assoc]
              rfl
            have zH : (sB (L0.take pt)).size ≤ 4096 := by rw [sB_size, List.length_take]; omega
            have zE : (sB (L0.drop pt)).size ≤ 4096 := by rw [sB_size, List.length_drop]; omega
            have zF : (sB (L0.take pt ++ [46])).size ≤ 4097 := by rw [sB_size, List.length_append, List.length_take]; simp; omega
            have zG : (sB (dott P L0)).size ≤ 8200 := by rw [← hG, ByteArray.size_append]; omega
            have hle : pt ≤ (sB L0).size := by omega
            have y0 : (0 : Int) ≤ (pt : Int) := by omega
            have y2 : (pt : Int) ≤ ((sB L0).size : Int) := by omega
            have zl : (sB L0).size ≤ 4096 := by omega
            clear zp pl zs hpt hL0 hlt ht d1 d2
            generalize sB L0 = S0 at *
            have hN : (⟨#[45]⟩ : ByteArray) ++ sB (dott P L0) = sB ([45] ++ dott P L0) := sB_add [45] _
            cases g with
            | false =>
              replace hd : dTl false P ds = (sB (dott P L0), 0) := hd
              clear hN
              generalize sB (L0.take pt) = SH at *
              generalize sB (L0.drop pt) = SE at *
              generalize sB (L0.take pt ++ [46]) = SF at *
              generalize sB (dott P L0) = SD at *
              have ra1 := fun W => run_string_add_sum (P := Tryz.prog) W SH ⟨#[46]⟩ (by have : (⟨#[46]⟩ : ByteArray).size = 1 := rfl; omega)
              have ra2 := fun W => run_string_add_sum (P := Tryz.prog) W SF SE (by omega)
              rw [hF] at ra1
              rw [hG] at ra2
              go_wp2_with fail
              go_region_held3 (fun _ => True) (go_keep) (fail)
              have hz' : ¬ z < 0 := of_decide_eq_false hz
              go_wp2_with (first
                | (go_at_call 53; (refine (SG _ _ (T8.grow (Below.refl _ _).drew)).mono ?_); (rintro e w9 ⟨rfl, b9⟩); (have p9 := bel' p8 (undrew b9)))
                | fail)
              go_ret2
              first | exact ⟨rfl, p9⟩ | exact ⟨by rw [hd]; rfl, p9⟩
            | true =>
              replace hd : dTl true P ds = (sB ([45] ++ dott P L0), 0) := hd
              generalize sB (L0.take pt) = SH at *
              generalize sB (L0.drop pt) = SE at *
              generalize sB (L0.take pt ++ [46]) = SF at *
              generalize sB (dott P L0) = SD at *
              generalize sB ([45] ++ dott P L0) = SN at *
              have ra1 := fun W => run_string_add_sum (P := Tryz.prog) W SH ⟨#[46]⟩ (by have : (⟨#[46]⟩ : ByteArray).size = 1 := rfl; omega)
              have ra2 := fun W => run_string_add_sum (P := Tryz.prog) W SF SE (by omega)
              rw [hF] at ra1
              rw [hG] at ra2
              go_wp2_with fail
              go_region_held3 (fun _ => True) (go_keep) (fail)
              have hz' : z < 0 := of_decide_eq_true hz
              go_wp2_with (first
                | (go_at_call 53; (refine (SG _ _ (T8.grow (Below.refl _ _).drew)).mono ?_); (rintro e w9 ⟨rfl, b9⟩); (have p9 := bel' p8 (undrew b9)))
                | fail)
              go_ret2
              first | exact ⟨rfl, p9⟩ | exact ⟨by rw [hd]; rfl, p9⟩
          · have p0' : ¬ (P : Int) > 0 := by omega
            have hdt : dott P L0 = L0 := by unfold dott; rw [if_neg p0]
            rw [hdt] at hd
            have hN : (⟨#[45]⟩ : ByteArray) ++ sB L0 = sB ([45] ++ L0) := sB_add [45] _
            have zl : (sB L0).size ≤ 4096 := by omega
            clear zp pl zs hL0 hlt ht d1 d2
            cases g with
            | false =>
              replace hd : dTl false P ds = (sB L0, 0) := hd
              clear hN
              have hz' : ¬ z < 0 := of_decide_eq_false hz
              go_wp2_with (first
                | (go_at_call 53; (refine (SG _ _ T8).mono ?_); (rintro e w9 ⟨rfl, b9⟩); (have p9 := bel' p8 b9))
                | fail)
              go_ret2
              first | exact ⟨rfl, p9⟩ | exact ⟨by rw [hd]; rfl, p9⟩
            | true =>
              replace hd : dTl true P ds = (sB ([45] ++ L0), 0) := hd
              have hz' : z < 0 := of_decide_eq_true hz
              go_wp2_with (first
                | (go_at_call 53; (refine (SG _ _ T8).mono ?_); (rintro e w9 ⟨rfl, b9⟩); (have p9 := bel' p8 b9))
                | fail)
              go_ret2
              first | exact ⟨rfl, p9⟩ | exact ⟨by rw [hd]; rfl, p9⟩
end Go.Proofs.YtebilgnmnambnaaGreatDoor.Mo

namespace Go.Proofs.YtebilgnmnambnaaGreatDoor.Mo
open Go.RowKit Fu Tn Go.Lib Dc
set_option maxRecDepth 100000 in
set_option maxHeartbeats 6400000 in
theorem isSameP (u v : ByteArray) (e : Int) (w : World) : Calls Tryz.prog 12 #[.agg #[.string u, .string v], .int .i64 e, .agg #[.string u, .string v], .int .i64 e] w fun e' w' => e' = .returned (.bool true) ∧ Below w.heap.size w w' := by
  have pr : Below w.heap.size w ((w.alloc (.cells #[.string u, .string v] 23)).alloc (.cells #[.string u, .string v] 23)) := ((Below.refl _ _).alloc (Nat.le_refl _) _).alloc (by simp) _
  go_enter Tryz.func12, Tryz.ntmps12
  go_wp2
  go_ret
  exact ⟨rfl, pr⟩
set_option maxRecDepth 100000 in
set_option maxHeartbeats 6400000 in
theorem rounds01_walk (way p : Int) (n d m k u v s : ByteArray) (e1 e2 : Int) (w : World) (O1 : ∀ x, Below w.heap.size w x → Calls Tryz.prog 13 #[.agg #[.string n, .string d], .agg #[.string m, .string k], .int .i64 way] x fun e' w' => e' = .returned (.tuple #[.agg #[.string u, .string v], .int .i64 e1]) ∧ Below x.heap.size x w') (O2 : ∀ x, Below w.heap.size w x → Calls Tryz.prog 14 #[.agg #[.string n, .string d], .agg #[.string m, .string k], .int .i64 way] x fun e' w' => e' = .returned (.tuple #[.agg #[.string u, .string v], .int .i64 e1]) ∧ Below x.heap.size x w') (P1 : ∀ x, Below w.heap.size w x → Calls Tryz.prog 15 #[.agg #[.string n, .string d], .int .i64 p, .int .i64 way] x fun e' w' => e' = .returned (.tuple #[.string s, .int .i64 e2]) ∧ Below x.heap.size x w') (P2 : ∀ x, Below w.heap.size w x → Calls Tryz.prog 16 #[.agg #[.string n, .string d], .int .i64 p, .int .i64 way] x fun e' w' => e' = .returned (.tuple #[.string s, .int .i64 e2]) ∧ Below x.heap.size x w') : Calls Tryz.prog 4 #[.agg #[.string n, .string d], .agg #[.string m, .string k], .int .i64 way, .int .i64 p] w fun e' w' => e' = .returned (.bool true) ∧ Below w.heap.size w w' := by
  have KA := (Blk.new w #[.string n, .string d] 23).alloc (.cells #[.string m, .string k] 23)
  have KB := Blk.new (w.alloc (.cells #[.string n, .string d] 23)) #[.string m, .string k] 23
  have pr : Below w.heap.size w ((w.alloc (.cells #[.string n, .string d] 23)).alloc (.cells #[.string m, .string k] 23)) := ((Below.refl _ _).alloc (Nat.le_refl _) _).alloc (by simp) _
  simp only [World.size_alloc] at KB
  go_enter Tryz.func4, Tryz.ntmps4
  go_wp2_with (first
    | (go_at_call 12; (have mk5 := p4); (refine (isSameP u v e1 _).mono ?_); (rintro e w5 ⟨rfl, b5⟩); (have p5 := bel' p4 b5))
    | (go_at_call 16; (have mk4 := p3); (refine (P2 _ p3).mono ?_); (rintro e w4 ⟨rfl, b4⟩); (have p4 := bel' p3 b4); (have KX4 := KX3.below b4 KX3.lt); (have hKX40 := KX4.at 0); (have hKX41 := KX4.at 1); (simp at hKX40 hKX41); (have KY4 := KY3.below b4 KY3.lt); (have hKY40 := KY4.at 0); (have hKY41 := KY4.at 1); (simp at hKY40 hKY41))
    | (go_at_call 15; (have mk3 := p2); (refine (P1 _ p2).mono ?_); (rintro e w3 ⟨rfl, b3⟩); (have p3 := bel' p2 b3); (have KA3 := KA2.below b3 KA2.lt); (have hKA30 := KA3.at 0); (have hKA31 := KA3.at 1); (simp at hKA30 hKA31); (have KX3 := KX2.below b3 KX2.lt); (have hKX30 := KX3.at 0); (have hKX31 := KX3.at 1); (simp at hKX30 hKX31); (have KY3 := KY.below b3 KY.lt); (have hKY30 := KY3.at 0); (have hKY31 := KY3.at 1); (simp at hKY30 hKY31))
    | (go_at_call 14; (have mk2 := p1); (refine (O2 _ p1).mono ?_); (rintro e w2 ⟨rfl, b2⟩); (have al2 := (Below.refl w2.heap.size w2).alloc (Nat.le_refl _) (.cells #[.string u, .string v] 23)); (have bb2 := bel' b2 al2); (have KY := Blk.new w2 #[.string u, .string v] 23); (have p2 := bel' p1 bb2); (have KA2 := KA1.below bb2 KA1.lt); (have hKA20 := KA2.at 0); (have hKA21 := KA2.at 1); (simp at hKA20 hKA21); (have KB2 := KB1.below bb2 KB1.lt); (have hKB20 := KB2.at 0); (have hKB21 := KB2.at 1); (simp at hKB20 hKB21); (have KX2 := KX.below bb2 KX.lt); (have hKX20 := KX2.at 0); (have hKX21 := KX2.at 1); (simp at hKX20 hKX21))
    | (go_at_call 13; (refine (O1 _ pr).mono ?_); (rintro e w1 ⟨rfl, b1⟩); (have al1 := (Below.refl w1.heap.size w1).alloc (Nat.le_refl _) (.cells #[.string u, .string v] 23)); (have bb1 := bel' b1 al1); (have KX := Blk.new w1 #[.string u, .string v] 23); (have p1 := bel' pr bb1); (have KA1 := KA.below bb1 KA.lt); (have hKA10 := KA1.at 0); (have hKA11 := KA1.at 1); (simp at hKA10 hKA11); (have KB1 := KB.below bb1 KB.lt); (have hKB10 := KB1.at 0); (have hKB11 := KB1.at 1); (simp at hKB10 hKB11))
    | fail)
  go_ret
  exact ⟨by simp, p5⟩
theorem pl_pos {K : Nat} (h : 0 < K) : 1 < Tl.pw K := Tl.pw_lt h
theorem sgn_int (M : Int) : decide (L.sgn ((M : Int) : Rat) < 0) = decide (M < 0) := by
  have nM : ((M : Int) : Rat).num = M := rfl
  unfold L.sgn
  rw [nM]
  apply decide_eq_decide.2
  split <;> (try split) <;> omega
set_option maxRecDepth 100000 in
theorem dM_lim {r : Rat} {p : Nat} {k : Int} (h : PS r 256) (hp : p ≤ 1024) (k1 : 1 ≤ k) (k6 : k ≤ 6) : ((dM r p k).natAbs : Int) < Tl.pw 933 := (qs_k (dM_ps h hp k1 k6) (by decide)).1
set_option maxRecDepth 100000 in
theorem RDec (n d : ByteArray) (p : Nat) (k : Int) (r : Rat) (w : World) (h3 : PS r 256) (p1 : p ≤ 1024) (hk : (decide (1 ≤ k) && decide (k ≤ 6)) = true)
    (GD : ∀ x, Calls Tryz.prog 51 #[.agg #[.string n, .string d]] x fun e w' => e = .returned (.int .i64 0) ∧ Below x.heap.size x w')
    (I1 : ∀ x, Calls Tryz.prog 52 #[.agg #[.string n, .string d]] x (Qf r x)) :
    Calls Tryz.prog 16 #[.agg #[.string n, .string d], .int .i64 (p : Int), .int .i64 k] w fun e w' => e = .returned (.tuple #[.string (dT p (dM r p k)).1, .int .i64 (dT p (dM r p k)).2]) ∧ Below w.heap.size w w' := by
  obtain ⟨k1, k6⟩ := mode_of hk
  have hT := ten_ps p1
  have hT' : PS (((10 ^ p : Nat) : Int) : Rat) 256 := hT.mono (by decide)
  have lm := dM_lim h3 p1 k1 k6
  have pt : ((10 ^ p : Nat) : Int) < Tl.pw 162 := by
    have := (qs_k hT (K := 162) (by decide)).1
    rwa [show (((10 ^ p : Nat) : Int) : Rat).num = ((10 ^ p : Nat) : Int) from rfl, Int.natAbs_natCast] at this
  have p162 : 1 < Tl.pw 162 := pl_pos (by decide)
  refine RDec_walk n d p k (L.sgn ((dM r p k : Int) : Rat)) (10 ^ p) (decDigits (dM r p k).natAbs) r (r * (((10 ^ p : Nat) : Int) : Rat)) ((dM r p k : Int) : Rat) (decide (dM r p k < 0)) w p1 (sgn_int _) (fun y _ => GD y) (Mode_b hk) (fun y => Ten_n p 162 y (by omega) pt p162 (by decide)) I1 (fun y v1 v2 g1 g2 => QMul_s v1 v2 r _ 768 y g1 g2 (qs_k h3 (by decide)) (qs_k hT' (by decide)) (by decide)) (fun y v g => QRound_n v _ 930 k y g (qs_k (h3.mul hT) (by decide)) (by decide)) (fun y a l c g => ?_) (fun y v g => L.Sign_q v _ y g)
  obtain ⟨xs, g1, g2, g3⟩ := g
  have k1 : xs.length ≤ 933 := L.len_of_lt g1.1 g2 (by rw [g3]; exact lm)
  exact L.Text_any _ xs _ y g1 g2 (by omega) g3
theorem both_Decimal (n d : ByteArray) (p way : Int) (w : World) (hn : n.size ≤ 9223372036854775807) (hd : d.size ≤ 9223372036854775807) (G : Gw w) : ∃ (s : ByteArray) (e2 : Int), (∀ x, Below w.heap.size w x → Calls Tryz.prog 15 #[.agg #[.string n, .string d], .int .i64 p, .int .i64 way] x fun e' w' => e' = .returned (.tuple #[.string s, .int .i64 e2]) ∧ Below x.heap.size x w') ∧ (∀ x, Below w.heap.size w x → Calls Tryz.prog 16 #[.agg #[.string n, .string d], .int .i64 p, .int .i64 way] x fun e' w' => e' = .returned (.tuple #[.string s, .int .i64 e2]) ∧ Below x.heap.size x w') := by
  by_cases h : goodE n d ≠ 0
  · exact ⟨⟨#[]⟩, goodE n d, fun x _ => Decimal_err n d p way _ x (bne_z h) (fun y _ => read_no h hn hd y), fun x _ => RDecimal_err n d p way _ x (bne_z h) (fun y _ => Good_any n d y hn hd)⟩
  · have h1 : goodE n d = 0 := Classical.not_not.1 h
    have GD : ∀ y, Calls Tryz.prog 51 #[.agg #[.string n, .string d]] y fun e w' => e = .returned (.int .i64 0) ∧ Below y.heap.size y w' := fun y => by
      have := Good_any n d y hn hd
      rwa [h1] at this
    by_cases p0 : p < 0
    · exact ⟨⟨#[]⟩, 1, fun x _ => Decimal_neg n d p way _ x p0 (fun y _ => read_ok h1 hn hd y), fun x _ => RDecimal_neg n d p way x p0 (fun y _ => GD y)⟩
    · by_cases p1 : 1024 < p
      · exact ⟨⟨#[]⟩, 1, fun x _ => Decimal_far n d p way _ x p1 (fun y _ => read_ok h1 hn hd y), fun x _ => RDecimal_far n d p way x p1 (fun y _ => GD y)⟩
      · by_cases hw : (decide (1 ≤ way) && decide (way ≤ 6)) = true
        · obtain ⟨r, e1, r1, h3, I1⟩ := good_ok h1 hn
          obtain ⟨j, rfl⟩ : ∃ j : Nat, p = (j : Int) := ⟨p.toNat, by omega⟩
          exact ⟨(dT j (dM r j way)).1, (dT j (dM r j way)).2, fun x b => PDec n d j way r x e1 r1 h3 (by omega) hw (G.grow b), fun x b => RDec n d j way r x h3 (by omega) hw GD I1⟩
        · have hw' : (decide (1 ≤ way) && decide (way ≤ 6)) = false := Bool.eq_false_iff.2 hw
          exact ⟨⟨#[]⟩, 1, fun x _ => Decimal_nway n d p way _ x (by omega) (by omega) (IsWay_b hw') (fun y _ => read_ok h1 hn hd y), fun x _ => RDecimal_nway n d p way x (by omega) (by omega) (fun y _ => GD y) (Mode_b hw')⟩
theorem rounds01_law (n d m k : ByteArray) (way p : Int) (w : World) (hn : n.size ≤ 9223372036854775807) (hd : d.size ≤ 9223372036854775807) (hm : m.size ≤ 9223372036854775807) (hk : k.size ≤ 9223372036854775807) (G : Gw w) : Calls Tryz.prog 4 #[.agg #[.string n, .string d], .agg #[.string m, .string k], .int .i64 way, .int .i64 p] w fun e' w' => e' = .returned (.bool true) ∧ Below w.heap.size w w' := by
  obtain ⟨u, v, e1, O1, O2⟩ := both_Round n d m k way w hn hd hm hk G
  obtain ⟨s, e2, P1, P2⟩ := both_Decimal n d p way w hn hd G
  exact rounds01_walk way p n d m k u v s e1 e2 w O1 O2 P1 P2
end Go.Proofs.YtebilgnmnambnaaGreatDoor.Mo

namespace Go.Proofs.YtebilgnmnambnaaGreatDoor.Dy
open Mo
theorem gPow : Tryz.prog.globalNamed "internal/strconv.uint64pow10" = some 2 := by kernel_rfl
theorem gw_of {w : World} (h : Go.Lib.TabIs Tryz.prog w "internal/strconv.uint64pow10" .u64 Go.Lib.pow10Tab) : Gw w := fun _ b => Go.Joins.var_stays gPow h b (Nat.le_refl _)
end Go.Proofs.YtebilgnmnambnaaGreatDoor.Dy
