import Derived.Test.YtachlkcoghkjnaaTb8
import Derived.Test.YtachlkcoghkjnaaSa2
import Derived.Deep.DeepCutAuto
namespace Go.Proofs.Ytachlkcoghkjnaa.Ta
open Go.RowKit Go.Proofs.Ytachlkcoghkjnaa.L Dc
open Go.Proofs.Ytachlkcoghkjnaa.Mo (Ri wrapI)

/-- An empty row. -/
def Emp (_N : Int) (t : Value) (x : World) : Prop := ∃ a l c, t = .slice a l c ∧ l = 0 ∧ c = 0 ∧ ∃ X, a = some ⟨X, 0, none⟩ ∧ Blk x X #[] 3
theorem Emp.grow {N : Int} {t : Value} {x x' : World} (h : Emp N t x) (b : Below x.heap.size x x') : Emp N t x' := by
  obtain ⟨a, l, c, e, h1, h2, X, e2, K⟩ := h
  exact ⟨a, l, c, e, h1, h2, X, e2, K.below b K.lt⟩
/-- A row of ints of one's own. -/
def CpR (xs : List Int) (_N : Int) (t : Value) (x : World) : Prop := ∃ a l c, t = .slice a l c ∧ l = xs.length ∧ ∃ g, a = some ⟨g, 0, none⟩ ∧ Oi x g c xs
theorem CpR.grow {xs : List Int} {N : Int} {t : Value} {x x' : World} (h : CpR xs N t x) (b : Below x.heap.size x x') : CpR xs N t x' := by
  obtain ⟨a, l, c, e, h1, g, e2, K⟩ := h
  exact ⟨a, l, c, e, h1, g, e2, K.grow b⟩
/-- A table of them, without Select. -/
def Bld (s : ByteArray) (f : Int) (xs : List Int) (_N : Int) (t : Value) (x : World) : Prop := ∃ a l c, t = .agg #[.string s, .int .i64 f, .slice a l c, .slice none 0 0] ∧ l = xs.length ∧ ∃ g, a = some ⟨g, 0, none⟩ ∧ Oi x g c xs
theorem Bld.grow {s : ByteArray} {f : Int} {xs : List Int} {N : Int} {t : Value} {x x' : World} (h : Bld s f xs N t x) (b : Below x.heap.size x x') : Bld s f xs N t x' := by
  obtain ⟨a, l, c, e, h1, g, e2, K⟩ := h
  exact ⟨a, l, c, e, h1, g, e2, K.grow b⟩
/-- A row that holds one row. -/
def One (xs : List Int) (_N : Int) (t : Value) (x : World) : Prop := ∃ a l c, t = .slice a l c ∧ l = 1 ∧ c = 1 ∧ ∃ Y g cg, a = some ⟨Y, 0, none⟩ ∧ Blk x Y #[.slice (some ⟨g, 0, none⟩) xs.length cg] 22 ∧ Oi x g cg xs
theorem One.grow {xs : List Int} {N : Int} {t : Value} {x x' : World} (h : One xs N t x) (b : Below x.heap.size x x') : One xs N t x' := by
  obtain ⟨a, l, c, e, h1, h2, Y, g, cg, e2, K, O⟩ := h
  exact ⟨a, l, c, e, h1, h2, Y, g, cg, e2, K.below b K.lt, O.grow b⟩
theorem ownsRow_below {w w' : World} {base : Nat} {e : TypeId} {size : Nat} {v : Value} {n : Nat} {xs : List Value} (h : w.ownsRow base e size v n xs) (b : Below w.heap.size w w') : w'.ownsRow base e size v n xs := by
  obtain ⟨h1, h2⟩ := h
  refine ⟨h1, ?_⟩
  rcases h2 with h2 | ⟨g, cap, cur, e1, e2, e3, r⟩
  · exact Or.inl h2
  · exact Or.inr ⟨g, cap, cur, e1, e2, (b.block g (Own.lt ⟨cur, _, e3⟩)).trans e3, r⟩
theorem blk_grown {w w' : World} {n : Nat} {c : Array Value} {t : TypeId} {row : Option Nat} (h : Blk w n c t) (g : w.grownBy w' row) (ne : some n ≠ row) : Blk w' n c t := (g.block n h.lt ne).trans h
/-- Of two kinds of blocks none is the other. -/
theorem own_ne {w : World} {base : Nat} {e : TypeId} {size : Nat} {v : Value} {n : Nat} {xs : List Value} (h : w.ownsRow base e size v n xs) {m : Nat} {c : Array Value} {t : TypeId} (k : Blk w m c t) (ht : t ≠ e) : some m ≠ v.ownBlock := by
  obtain ⟨_, h2⟩ := h
  rcases h2 with ⟨rfl, _⟩ | ⟨g, cap, cur, rfl, _, e3, _⟩
  · simp [Value.ownBlock]
  · simp [Value.ownBlock]
    rintro rfl
    have k' : w.heap[m]? = some (.cells c t (0, 0)) := k
    rw [e3] at k'
    simp at k'
    exact ht k'.2.symm
theorem own_neO {w : World} {base : Nat} {v : Value} {n : Nat} {xs : List Value} (h : w.ownsRow base 22 1 v n xs) {g cap : Nat} {ys : List Int} (k : Oi w g cap ys) : some g ≠ v.ownBlock := by
  obtain ⟨_, _, _, _, cur, e, _⟩ := k
  exact own_ne h (show Blk w g cur 3 from e) (by decide)
/-- Rows of one's own in a row of one's own. -/
def Os (w : World) (v : Value) (sel : List (List Int)) : Prop :=
  sel.length * 24 ≤ 140737488351232 ∧ ∃ vals, w.ownsRow 0 22 1 v sel.length vals ∧ ∀ d, d < sel.length → ∃ g c, vals[d]? = some (.slice (some ⟨g, 0, none⟩) (sel.getD d []).length c) ∧ Oi w g c (sel.getD d [])
theorem Os.grow {w w' : World} {v : Value} {sel : List (List Int)} (h : Os w v sel) (b : Below w.heap.size w w') : Os w' v sel := by
  obtain ⟨h1, vals, h2, h3⟩ := h
  exact ⟨h1, vals, ownsRow_below h2 b, fun d hd => by obtain ⟨g, c, e, o⟩ := h3 d hd; exact ⟨g, c, e, o.grow b⟩⟩
theorem Os.shape {w : World} {v : Value} {sel : List (List Int)} (h : Os w v sel) : ∃ a l c, v = .slice a l c := by
  obtain ⟨_, vals, ⟨_, h2⟩, _⟩ := h
  rcases h2 with ⟨e, _⟩ | ⟨_, _, _, e, _⟩ <;> exact ⟨_, _, _, e⟩
theorem ownsRow_skip {w : World} {base : Nat} {e : TypeId} {size : Nat} {v : Value} {n : Nat} {xs : List Value} (h : w.ownsRow base e size v n xs) {m : Nat} (ne : some m ≠ v.ownBlock) (i : Nat) (u : Value) : (w.setCell ⟨m, i, none⟩ u).ownsRow base e size v n xs := by
  obtain ⟨h1, h2⟩ := h
  refine ⟨h1, ?_⟩
  rcases h2 with h2 | ⟨g, cap, cur, e1, e2, e3, r⟩
  · exact Or.inl h2
  · refine Or.inr ⟨g, cap, cur, e1, e2, (Below.heap_setCell _ _ _ _ ?_).trans e3, r⟩
    intro e
    subst e1 e
    simp [Value.ownBlock] at ne
theorem Os.skip {w : World} {v : Value} {sel : List (List Int)} (h : Os w v sel) {m : Nat} {c : Array Value} {t : TypeId} (k : Blk w m c t) (h1 : t ≠ 22) (h2 : t ≠ 3) (i : Nat) (u : Value) : Os (w.setCell ⟨m, i, none⟩ u) v sel := by
  obtain ⟨hl, vals, o, hv⟩ := h
  exact ⟨hl, vals, ownsRow_skip o (own_ne o k h1) i u, fun d hd => by obtain ⟨g, c, e, q⟩ := hv d hd; exact ⟨g, c, e, q.skip (q.ne k h2) i u⟩⟩
theorem Os.skip4 {w : World} {v : Value} {sel : List (List Int)} (h : Os w v sel) {m : Nat} {c : Array Value} {t : TypeId} (k : Blk w m c t) (h1 : t ≠ 22) (h2 : t ≠ 3) (p q r s : Value) :
    Os ((((w.setCell ⟨m, 0, none⟩ p).setCell ⟨m, 1, none⟩ q).setCell ⟨m, 2, none⟩ r).setCell ⟨m, 3, none⟩ s) v sel :=
  (((h.skip k h1 h2 0 p).skip (bput k 0 p) h1 h2 1 q).skip (bput (bput k 0 p) 1 q) h1 h2 2 r).skip (bput (bput (bput k 0 p) 1 q) 2 r) h1 h2 3 s
theorem Os.rr {w : World} {v : Value} {sel : List (List Int)} (h : Os w v sel) : Rr w v sel := by
  obtain ⟨hLs, vals, ⟨_, h2⟩, hv⟩ := h
  rcases h2 with ⟨rfl, e0⟩ | ⟨g1, cap, cur, rfl, e2, e3, e4, e5, e6, e7⟩
  · exact ⟨hLs, none, 0, by rw [e0], fun h => by omega⟩
  · refine ⟨hLs, _, _, rfl, fun _ => ⟨g1, 0, rfl, fun d hd => ?_⟩⟩
    obtain ⟨g2, c2, h1, h3⟩ := hv d hd
    refine ⟨_, ?_, h3.rx⟩
    rw [Nat.mul_one] at e7
    have h7 := congrArg (fun l : List Value => l[d]?) e7
    simp only [List.getElem?_take, hd, if_true, h1] at h7
    simp only [World.cell?, e3, Nat.zero_add, Option.isSome_none, Bool.false_eq_true, if_false]
    rw [Array.getElem?_toList] at h7
    exact h7
/-- Where the copy of a table stands behind k rows of Select. -/
def LC (s : ByteArray) (f : Int) (ar : Option Addr) (cr : Nat) (rs : List Int) (az : Option Addr) (cs : Nat) (sel : List (List Int)) (w : World) (X g0 c0 k : Nat) (wr : World) : Prop :=
  ∃ v vals, Blk wr w.heap.size #[.string s, .int .i64 f, .slice ar rs.length cr, .slice az sel.length cs] 25 ∧ Blk wr (w.heap.size + 1) #[.string ⟨#[]⟩, .int .i64 0, .slice none 0 0, .slice none 0 0] 25 ∧ Blk wr X #[.string s, .int .i64 f, .slice (some ⟨g0, 0, none⟩) rs.length c0, v] 25 ∧ Oi wr g0 c0 rs ∧
    wr.ownsRow (w.heap.size + 2) 22 1 v k vals ∧ (∀ d, d < k → ∃ g c, vals[d]? = some (.slice (some ⟨g, 0, none⟩) (sel.getD d []).length c) ∧ Oi wr g c (sel.getD d [])) ∧ Below w.heap.size w wr
theorem LC.next {s : ByteArray} {f : Int} {ar : Option Addr} {cr : Nat} {rs : List Int} {az : Option Addr} {cs : Nat} {sel : List (List Int)} {w : World} {X g0 c0 k : Nat} {wr : World} {v : Value} {vals : List Value}
    (K0 : Blk wr w.heap.size #[.string s, .int .i64 f, .slice ar rs.length cr, .slice az sel.length cs] 25) (K1 : Blk wr (w.heap.size + 1) #[.string ⟨#[]⟩, .int .i64 0, .slice none 0 0, .slice none 0 0] 25) (KX : Blk wr X #[.string s, .int .i64 f, .slice (some ⟨g0, 0, none⟩) rs.length c0, v] 25) (O0 : Oi wr g0 c0 rs)
    (ow : wr.ownsRow (w.heap.size + 2) 22 1 v k vals) (hv : ∀ d, d < k → ∃ g c, vals[d]? = some (.slice (some ⟨g, 0, none⟩) (sel.getD d []).length c) ∧ Oi wr g c (sel.getD d [])) (B : Below w.heap.size w wr) (lX : w.heap.size + 2 ≤ X) (hX : vals.length = k)
    {v1 : Value} {g9 c9 : Nat} {x0 x1 : World} {ys : List Int} (hys : sel.getD k [] = ys) (bl : Below wr.heap.size wr x0) (O9 : Oi x0 g9 c9 ys) (G : x0.grownBy x1 v.ownBlock) (O2 : x1.ownsRow (w.heap.size + 2) 22 1 v1 (k + 1) (vals ++ [.slice (some ⟨g9, 0, none⟩) ys.length c9])) :
    LC s f ar cr rs az cs sel w X g0 c0 (k + 1) (x1.setCell ⟨X, 3, none⟩ v1) := by
  have ow0 := ownsRow_below ow bl
  have k0 := blk_grown (K0.below bl K0.lt) G (own_ne ow0 (K0.below bl K0.lt) (by decide))
  have k1 := blk_grown (K1.below bl K1.lt) G (own_ne ow0 (K1.below bl K1.lt) (by decide))
  have kX := blk_grown (KX.below bl KX.lt) G (own_ne ow0 (KX.below bl KX.lt) (by decide))
  have keep : ∀ {g c : Nat} {zs : List Int}, Oi x0 g c zs → Oi (x1.setCell ⟨X, 3, none⟩ v1) g c zs := fun o => by
    have o1 := o.keep (G.block _ o.lt (own_neO ow0 o))
    exact o1.skip (o1.ne kX (by decide)) _ _
  have bw : Below w.heap.size w x1 := by
    refine (B.trans (bl.mono B.size)).trans ⟨G.os, G.tape, G.output, G.size, fun j hj => G.block j (by have := B.size; have := bl.size; omega) ?_⟩
    intro e
    have := (ow0.lt j e.symm).1
    omega
  refine ⟨v1, vals ++ [.slice (some ⟨g9, 0, none⟩) ys.length c9], bskip k0 (by omega) _ _, bskip k1 (by omega) _ _, bput kX 3 v1, keep (O0.grow bl), ?_, ?_, bw.setCell (p := ⟨X, 3, none⟩) (by show w.heap.size ≤ X; omega) _⟩
  · have ne := own_ne O2 kX (by decide)
    obtain ⟨h1, h2⟩ := O2
    refine ⟨h1, ?_⟩
    rcases h2 with h2 | ⟨g, cap, cur, e1, e2, e3, r⟩
    · exact Or.inl h2
    · refine Or.inr ⟨g, cap, cur, e1, e2, (Below.heap_setCell _ _ _ _ ?_).trans e3, r⟩
      intro e
      subst e1 e
      simp [Value.ownBlock] at ne
  · intro d hd
    by_cases e : d = k
    · subst e
      refine ⟨g9, c9, ?_, ?_⟩
      · rw [List.getElem?_append_right (by omega), hX, hys]; simp
      · rw [hys]; exact keep O9
    · obtain ⟨g, c, h1, h2⟩ := hv d (by omega)
      exact ⟨g, c, by rw [List.getElem?_append_left (by omega)]; exact h1, keep (h2.grow bl)⟩
structure CT1 (W x : World) (s : ByteArray) (f : Int) (rs : List Int) (V0 : Value) (V1 : Value) (V2 : Value) (V3 : Value) (V5 : Value) (V6 : Value) (N4 : Int) (N7 : Int) (N8 : Int) (y0 y1 y2 y3 y4 y5 y6 y7 y8 y9 : Bool) (t5 t6 t7 t8 t9 t10 t11 t12 t13 t3 : Value) : Prop where
  bel : Below W.heap.size W x
  o0 : y0 = true → t5 = V0
  o1 : y1 = true → t6 = V1
  o2 : y2 = true → t7 = V2
  o3 : y3 = true → t8 = V3
  o5 : y5 = true → t10 = V5
  o6 : y6 = true → t11 = V6
  o4 : y4 = true → Emp N4 t9 x
  o7 : y7 = true → CpR rs N7 t12 x
  o8 : y8 = true → Bld s f rs N8 t13 x
  o9 : y9 = true → ∃ X, t3 = .pointer (some ⟨X, 0, none⟩) ∧ W.heap.size ≤ X ∧ Blk x X #[.string ⟨#[]⟩, .int .i64 0, .slice none 0 0, .slice none 0 0] 25
theorem CT1.grow {W x x' : World} {s : ByteArray} {f : Int} {rs : List Int} {V0 : Value} {V1 : Value} {V2 : Value} {V3 : Value} {V5 : Value} {V6 : Value} {N4 : Int} {N7 : Int} {N8 : Int} {y0 y1 y2 y3 y4 y5 y6 y7 y8 y9 : Bool} {t5 t6 t7 t8 t9 t10 t11 t12 t13 t3 : Value} (h : CT1 W x s f rs V0 V1 V2 V3 V5 V6 N4 N7 N8 y0 y1 y2 y3 y4 y5 y6 y7 y8 y9 t5 t6 t7 t8 t9 t10 t11 t12 t13 t3) (b : Below x.heap.size x x') : CT1 W x' s f rs V0 V1 V2 V3 V5 V6 N4 N7 N8 y0 y1 y2 y3 y4 y5 y6 y7 y8 y9 t5 t6 t7 t8 t9 t10 t11 t12 t13 t3 where
  bel := bel' h.bel b
  o0 := h.o0
  o1 := h.o1
  o2 := h.o2
  o3 := h.o3
  o5 := h.o5
  o6 := h.o6
  o4 := fun u => (h.o4 u).grow b
  o7 := fun u => (h.o7 u).grow b
  o8 := fun u => (h.o8 u).grow b
  o9 := fun u => by obtain ⟨k, e, l, K⟩ := h.o9 u; exact ⟨k, e, l, K.below b K.lt⟩
structure CT5 (W x : World) (ys : List Int) (V0 : Value) (V1 : Value) (V3 : Value) (V4 : Value) (V5 : Value) (V6 : Value) (V7 : Value) (N2 : Int) (N8 : Int) (N9 : Int) (y0 y1 y2 y3 y4 y5 y6 y7 y8 y9 : Bool) (t21 t22 t23 t24 t25 t26 t27 t28 t29 t30 : Value) : Prop where
  bel : Below W.heap.size W x
  o0 : y0 = true → t21 = V0
  o1 : y1 = true → t22 = V1
  o3 : y3 = true → t24 = V3
  o4 : y4 = true → t25 = V4
  o5 : y5 = true → t26 = V5
  o6 : y6 = true → t27 = V6
  o7 : y7 = true → t28 = V7
  o2 : y2 = true → Emp N2 t23 x
  o8 : y8 = true → CpR ys N8 t29 x
  o9 : y9 = true → One ys N9 t30 x
  d1_0 : y1 = true → y0 = true
  d4_3 : y4 = true → y3 = true
  d6_4 : y6 = true → y4 = true
  d6_5 : y6 = true → y5 = true
  d7_6 : y7 = true → y6 = true
  d8_2 : y8 = true → y2 = true
  d8_7 : y8 = true → y7 = true
theorem CT5.grow {W x x' : World} {ys : List Int} {V0 : Value} {V1 : Value} {V3 : Value} {V4 : Value} {V5 : Value} {V6 : Value} {V7 : Value} {N2 : Int} {N8 : Int} {N9 : Int} {y0 y1 y2 y3 y4 y5 y6 y7 y8 y9 : Bool} {t21 t22 t23 t24 t25 t26 t27 t28 t29 t30 : Value} (h : CT5 W x ys V0 V1 V3 V4 V5 V6 V7 N2 N8 N9 y0 y1 y2 y3 y4 y5 y6 y7 y8 y9 t21 t22 t23 t24 t25 t26 t27 t28 t29 t30) (b : Below x.heap.size x x') : CT5 W x' ys V0 V1 V3 V4 V5 V6 V7 N2 N8 N9 y0 y1 y2 y3 y4 y5 y6 y7 y8 y9 t21 t22 t23 t24 t25 t26 t27 t28 t29 t30 where
  bel := bel' h.bel b
  o0 := h.o0
  o1 := h.o1
  o3 := h.o3
  o4 := h.o4
  o5 := h.o5
  o6 := h.o6
  o7 := h.o7
  o2 := fun u => (h.o2 u).grow b
  o8 := fun u => (h.o8 u).grow b
  o9 := fun u => (h.o9 u).grow b
  d1_0 := h.d1_0
  d4_3 := h.d4_3
  d6_4 := h.d6_4
  d6_5 := h.d6_5
  d7_6 := h.d7_6
  d8_2 := h.d8_2
  d8_7 := h.d8_7

set_option maxHeartbeats 3200000 in
set_option maxRecDepth 100000 in
theorem CopyTable_any (s : ByteArray) (f : Int) (ar : Option Addr) (cr : Nat) (rs : List Int) (az : Option Addr) (cs : Nat) (sel : List (List Int)) (w : World) (hr : Rx w (.slice ar rs.length cr) rs) (hsel : Rr w (.slice az sel.length cs) sel) :
    Calls Try.prog 5 #[.agg #[.string s, .int .i64 f, .slice ar rs.length cr, .slice az sel.length cs]] w fun e w' => ∃ g c va vl vc, e = .returned (.agg #[.string s, .int .i64 f, .slice (some ⟨g, 0, none⟩) rs.length c, .slice va vl vc]) ∧ Oi w' g c rs ∧ Os w' (.slice va vl vc) sel ∧ Below w.heap.size w w' := by
  have K0 := (Blk.new w #[.string s, .int .i64 f, .slice ar rs.length cr, .slice az sel.length cs] 25).alloc (.cells #[.string ⟨#[]⟩, .int .i64 0, .slice none 0 0, .slice none 0 0] 25)
  have K1 := Blk.new (w.alloc (.cells #[.string s, .int .i64 f, .slice ar rs.length cr, .slice az sel.length cs] 25)) #[.string ⟨#[]⟩, .int .i64 0, .slice none 0 0, .slice none 0 0] 25
  simp only [World.size_alloc] at K1
  have pr : Below w.heap.size w ((w.alloc (.cells #[.string s, .int .i64 f, .slice ar rs.length cr, .slice az sel.length cs] 25)).alloc (.cells #[.string ⟨#[]⟩, .int .i64 0, .slice none 0 0, .slice none 0 0] 25)) := ((Below.refl _ _).alloc (Nat.le_refl _) _).alloc (by simp) _
  have szW : ((w.alloc (.cells #[.string s, .int .i64 f, .slice ar rs.length cr, .slice az sel.length cs] 25)).alloc (.cells #[.string ⟨#[]⟩, .int .i64 0, .slice none 0 0, .slice none 0 0] 25)).heap.size = w.heap.size + 2 := by simp
  go_enter Try.func5, Try.ntmps5
  go_wp2_with fail
  generalize (w.alloc (.cells #[.string s, .int .i64 f, .slice ar rs.length cr, .slice az sel.length cs] 25)).alloc (.cells #[.string ⟨#[]⟩, .int .i64 0, .slice none 0 0, .slice none 0 0] 25) = W at *
  have hrW := hr.grow pr
  go_cut [3] from 5 to 13 (fun c wc => ∃ X g c1, c = .pointer (some ⟨X, 0, none⟩) ∧ W.heap.size ≤ X ∧ Blk wc X #[.string s, .int .i64 f, .slice (some ⟨g, 0, none⟩) rs.length c1, .slice none 0 0] 25 ∧ Oi wc g c1 rs ∧ Below W.heap.size W wc)
  case first =>
    rename_i hm hJ
    refine wp_region_held (S := fun _ => True) (by kernel_rfl) (any_inv (fun listed a x => ∃ (y0 y1 y2 y3 y4 y5 y6 y7 y8 y9 : Bool) (t5 t6 t7 t8 t9 t10 t11 t12 t13 t3 : Value), a = ⟨#[.agg #[.string s, .int .i64 f, .slice ar rs.length cr, .slice az sel.length cs], .pointer (some ⟨w.heap.size, 0, none⟩), .pointer (some ⟨(w.heap.size + 1), 0, none⟩), t3, undef, t5, t6, t7, t8, t9, t10, t11, t12, t13, undef, undef, undef, undef, undef, undef, undef, undef, undef, undef, undef, undef, undef, undef, undef, undef, undef, undef, undef, undef], []⟩ ∧ ((listed = #[y0, y1, y2, y3, y4, y5, y6, y7, y8, y9, false] ∧ CT1 W x s f rs (.pointer (some ⟨w.heap.size, 0, none⟩)) (.string s) (.pointer (some ⟨w.heap.size, 1, none⟩)) (.int .i64 f) (.pointer (some ⟨w.heap.size, 2, none⟩)) (.slice ar rs.length cr) (0) (0) (0) y0 y1 y2 y3 y4 y5 y6 y7 y8 y9 t5 t6 t7 t8 t9 t10 t11 t12 t13 t3) ∨ (listed = #[true, true, true, true, true, true, true, true, true, true, true] ∧ ∃ X g c, t3 = .pointer (some ⟨X, 0, none⟩) ∧ W.heap.size ≤ X ∧ Blk x X #[.string s, .int .i64 f, .slice (some ⟨g, 0, none⟩) rs.length c, .slice none 0 0] 25 ∧ Oi x g c rs ∧ Below W.heap.size W x))) ?_ ?_ _ _ _ _ (by decide) ?_)
    · rintro listed a x i ⟨y0, y1, y2, y3, y4, y5, y6, y7, y8, y9, t5, t6, t7, t8, t9, t10, t11, t12, t13, t3, rfl, h⟩ hi
      have hr : i < 11 := List.mem_range.1 (List.mem_filter.1 hi).1
      have hc := (List.mem_filter.1 hi).2
      rcases h with ⟨rfl, h⟩ | ⟨rfl, h⟩
      · rcases (show i = 0 ∨ i = 1 ∨ i = 2 ∨ i = 3 ∨ i = 4 ∨ i = 5 ∨ i = 6 ∨ i = 7 ∨ i = 8 ∨ i = 9 ∨ i = 10 by omega) with rfl | rfl | rfl | rfl | rfl | rfl | rfl | rfl | rfl | rfl | rfl
        · clear hc hi
          refine wpOp_step rfl (fun K hK0 => ?_)
          have hK : Hid _ := hK0
          clear hK0
          rw [if_pos (by rfl)]
          go_wp2_with fail
          exact hK.out _ _ ⟨true, y1, y2, y3, y4, y5, y6, y7, y8, y9, .pointer (some ⟨w.heap.size, 0, none⟩), t6, t7, t8, t9, t10, t11, t12, t13, t3, rfl, Or.inl ⟨rfl, { h with o0 := fun _ => rfl }⟩⟩
        · have e0 : y0 = true := by
            revert hc
            cases y0 <;> simp [Region.binds]
          have r0 := h.o0 e0
          subst r0
          clear hc hi
          have kd := (K0.below h.bel K0.lt).at 0
          simp at kd
          refine wpOp_step rfl (fun K hK0 => ?_)
          have hK : Hid _ := hK0
          clear hK0
          rw [if_pos (by rfl)]
          go_wp2_with fail
          exact hK.out _ _ ⟨y0, true, y2, y3, y4, y5, y6, y7, y8, y9, _, .string s, t7, t8, t9, t10, t11, t12, t13, t3, rfl, Or.inl ⟨rfl, { h with o1 := fun _ => rfl }⟩⟩
        · clear hc hi
          refine wpOp_step rfl (fun K hK0 => ?_)
          have hK : Hid _ := hK0
          clear hK0
          rw [if_pos (by rfl)]
          go_wp2_with fail
          exact hK.out _ _ ⟨y0, y1, true, y3, y4, y5, y6, y7, y8, y9, t5, t6, .pointer (some ⟨w.heap.size, 1, none⟩), t8, t9, t10, t11, t12, t13, t3, rfl, Or.inl ⟨rfl, { h with o2 := fun _ => rfl }⟩⟩
        · have e2 : y2 = true := by
            revert hc
            cases y2 <;> simp [Region.binds]
          have r2 := h.o2 e2
          subst r2
          clear hc hi
          have kd := (K0.below h.bel K0.lt).at 1
          simp at kd
          refine wpOp_step rfl (fun K hK0 => ?_)
          have hK : Hid _ := hK0
          clear hK0
          rw [if_pos (by rfl)]
          go_wp2_with fail
          exact hK.out _ _ ⟨y0, y1, y2, true, y4, y5, y6, y7, y8, y9, t5, t6, _, .int .i64 f, t9, t10, t11, t12, t13, t3, rfl, Or.inl ⟨rfl, { h with o3 := fun _ => rfl }⟩⟩
        · clear hc hi
          refine wpOp_step rfl (fun K hK0 => ?_)
          have hK : Hid _ := hK0
          clear hK0
          rw [if_pos (by rfl)]
          go_wp2_with fail
          exact hK.out _ _ ⟨y0, y1, y2, y3, true, y5, y6, y7, y8, y9, t5, t6, t7, t8, _, t10, t11, t12, t13, t3, rfl, Or.inl ⟨rfl, { h.grow ((Below.refl _ _).alloc (Nat.le_refl _) _) with o4 := fun _ => ⟨_, _, _, rfl, rfl, rfl, _, rfl, Blk.new _ _ _⟩ }⟩⟩
        · clear hc hi
          refine wpOp_step rfl (fun K hK0 => ?_)
          have hK : Hid _ := hK0
          clear hK0
          rw [if_pos (by rfl)]
          go_wp2_with fail
          exact hK.out _ _ ⟨y0, y1, y2, y3, y4, true, y6, y7, y8, y9, t5, t6, t7, t8, t9, .pointer (some ⟨w.heap.size, 2, none⟩), t11, t12, t13, t3, rfl, Or.inl ⟨rfl, { h with o5 := fun _ => rfl }⟩⟩
        · have e5 : y5 = true := by
            revert hc
            cases y5 <;> simp [Region.binds]
          have r5 := h.o5 e5
          subst r5
          clear hc hi
          have kd := (K0.below h.bel K0.lt).at 2
          simp at kd
          refine wpOp_step rfl (fun K hK0 => ?_)
          have hK : Hid _ := hK0
          clear hK0
          rw [if_pos (by rfl)]
          go_wp2_with fail
          exact hK.out _ _ ⟨y0, y1, y2, y3, y4, y5, true, y7, y8, y9, t5, t6, t7, t8, t9, _, .slice ar rs.length cr, t12, t13, t3, rfl, Or.inl ⟨rfl, { h with o6 := fun _ => rfl }⟩⟩
        · have e4 : y4 = true := by
            revert hc
            cases y4 <;> simp [Region.binds]
          have e6 : y6 = true := by
            revert hc
            cases y6 <;> simp [Region.binds]
          obtain ⟨a4, l4, c4, rfl, H4⟩ := h.o4 e4
          have r6 := h.o6 e6
          subst r6
          clear hc hi
          obtain ⟨rfl, rfl, X4, rfl, K4⟩ := H4
          have hr9 := hrW.grow h.bel
          refine wpOp_step rfl (fun K hK0 => ?_)
          have hK : Hid _ := hK0
          clear hK0
          rw [if_pos (by rfl)]
          refine wp_copy_new _ _ rfl X4 ?_ K4 (.slice ar rs.length cr) rs ?_ hr9 ?_
          · rfl
          · rfl
          intro g9 c9 x2 H9 bb
          exact hK.out _ _ ⟨y0, y1, y2, y3, y4, y5, y6, true, y8, y9, t5, t6, t7, t8, _, t10, _, _, t13, t3, rfl, Or.inl ⟨rfl, { h.grow bb with o7 := fun _ => ⟨_, _, _, rfl, rfl, _, rfl, H9⟩ }⟩⟩
        · have e1 : y1 = true := by
            revert hc
            cases y1 <;> simp [Region.binds]
          have e3 : y3 = true := by
            revert hc
            cases y3 <;> simp [Region.binds]
          have e7 : y7 = true := by
            revert hc
            cases y7 <;> simp [Region.binds]
          have r1 := h.o1 e1
          subst r1
          have r3 := h.o3 e3
          subst r3
          obtain ⟨a7, l7, c7, rfl, H7⟩ := h.o7 e7
          clear hc hi
          obtain ⟨rfl, g7, rfl, O7⟩ := H7
          have bb := Below.refl x.heap.size x
          refine wpOp_step rfl (fun K hK0 => ?_)
          have hK : Hid _ := hK0
          clear hK0
          rw [if_pos (by rfl)]
          go_wp2_with (first | (fail) | fail)
          exact hK.out _ _ ⟨y0, y1, y2, y3, y4, y5, y6, y7, true, y9, t5, _, t7, _, t9, t10, t11, _, _, t3, rfl, Or.inl ⟨rfl, { h.grow bb with o8 := fun _ => ⟨_, _, _, rfl, rfl, _, rfl, O7⟩ }⟩⟩
        · clear hc hi
          refine wpOp_step rfl (fun K hK0 => ?_)
          have hK : Hid _ := hK0
          clear hK0
          rw [if_pos (by rfl)]
          go_wp2_with fail
          exact hK.out _ _ ⟨y0, y1, y2, y3, y4, y5, y6, y7, y8, true, t5, t6, t7, t8, t9, t10, t11, t12, t13, _, rfl, Or.inl ⟨rfl, { h.grow ((Below.refl _ _).alloc (Nat.le_refl _) _) with o9 := fun _ => ⟨_, rfl, h.bel.size, Blk.new _ _ _⟩ }⟩⟩
        · have e0 : y0 = true := by
            revert hc
            cases y0 <;> simp [Region.binds]
          have e1 : y1 = true := by
            revert hc
            cases y1 <;> simp [Region.binds]
          have e2 : y2 = true := by
            revert hc
            cases y2 <;> simp [Region.binds]
          have e3 : y3 = true := by
            revert hc
            cases y3 <;> simp [Region.binds]
          have e4 : y4 = true := by
            revert hc
            cases y4 <;> simp [Region.binds]
          have e5 : y5 = true := by
            revert hc
            cases y5 <;> simp [Region.binds]
          have e6 : y6 = true := by
            revert hc
            cases y6 <;> simp [Region.binds]
          have e7 : y7 = true := by
            revert hc
            cases y7 <;> simp [Region.binds]
          have e8 : y8 = true := by
            revert hc
            cases y8 <;> simp [Region.binds]
          have e9 : y9 = true := by
            revert hc
            cases y9 <;> simp [Region.binds]
          obtain ⟨a8, l8, c8, rfl, H8⟩ := h.o8 e8
          obtain ⟨X9, rfl, lX9, K9⟩ := h.o9 e9
          clear hc hi
          subst e0 e1 e2 e3 e4 e5 e6 e7 e8 e9
          have bl := h.bel
          obtain ⟨rfl, g8, rfl, O8⟩ := H8
          have xx0 := K9.at 0
          have xf0 := K9.free 0
          have xx1 := K9.at 1
          have xf1 := K9.free 1
          have xx2 := K9.at 2
          have xf2 := K9.free 2
          have xx3 := K9.at 3
          have xf3 := K9.free 3
          simp at xx0 xx1 xx2 xx3
          have PE := put4 K9 (.string s) (.int .i64 f) (.slice (some ⟨g8, 0, none⟩) rs.length c8) (.slice none 0 0)
          have ne9 := O8.ne K9 (by decide)
          have OE := O8.skip4 ne9 (.string s) (.int .i64 f) (.slice (some ⟨g8, 0, none⟩) rs.length c8) (.slice none 0 0)
          have BE := set4 (p := .string s) (q := .int .i64 f) (r := .slice (some ⟨g8, 0, none⟩) rs.length c8) (s := .slice none 0 0) bl lX9
          clear h O8
          refine wpOp_step rfl (fun K hK0 => ?_)
          have hK : Hid _ := hK0
          clear hK0
          rw [if_pos (by rfl)]
          go_wp2_with fail
          exact hK.out _ _ ⟨true, true, true, true, true, true, true, true, true, true, t5, t6, t7, t8, t9, t10, t11, t12, _, _, rfl, Or.inr (⟨rfl, X9, g8, c8, rfl, lX9, PE, OE, BE⟩)⟩
      · rcases (show i = 0 ∨ i = 1 ∨ i = 2 ∨ i = 3 ∨ i = 4 ∨ i = 5 ∨ i = 6 ∨ i = 7 ∨ i = 8 ∨ i = 9 ∨ i = 10 by omega) with rfl | rfl | rfl | rfl | rfl | rfl | rfl | rfl | rfl | rfl | rfl <;> simp at hc
    · rintro listed a x ⟨y0, y1, y2, y3, y4, y5, y6, y7, y8, y9, t5, t6, t7, t8, t9, t10, t11, t12, t13, t3, rfl, h⟩ hn
      have al := all_listed (by decide +kernel) hn
      rcases h with ⟨rfl, h⟩ | ⟨rfl, h⟩
      · have z := al 10 (by decide)
        simp at z
      · obtain ⟨X, g, c, rfl, lX, PE, OE, BE⟩ := h
        refine hJ _ _ ?_
        go_meet
        case rel => exact ⟨X, g, c, rfl, lX, PE, OE, BE⟩
    · exact ⟨false, false, false, false, false, false, false, false, false, false, undef, undef, undef, undef, undef, undef, undef, undef, undef, undef, rfl, Or.inl ⟨rfl, { bel := (Below.refl _ _).drew, o0 := (by intro q; cases q), o1 := (by intro q; cases q), o2 := (by intro q; cases q), o3 := (by intro q; cases q), o4 := (by intro q; cases q), o5 := (by intro q; cases q), o6 := (by intro q; cases q), o7 := (by intro q; cases q), o8 := (by intro q; cases q), o9 := (by intro q; cases q) }⟩⟩
  case rest =>
    rename World => wB
    obtain ⟨X, g0, c0, rfl, lX, PE, OE, BE⟩ := hcut
    have L0 : LC s f ar cr rs az cs sel w X g0 c0 0 wB := ⟨.slice none 0 0, [], K0.below BE K0.lt, K1.below BE K1.lt, PE, OE, World.ownsRow_nil _ _ _ _, fun d hd => by omega, bel' pr BE⟩
    rw [szW] at lX
    clear K0 K1 PE OE BE hrW szW pr
    go_wp2_with fail
    go_loopw [4] (fun i wr => ∃ k : Nat, k ≤ sel.length ∧ i = .int .i64 k ∧ LC s f ar cr rs az cs sel w X g0 c0 k wr) (fun i _ => sel.length - (intOf i).toNat)
    case atStart => exact ⟨0, Nat.zero_le _, rfl, L0⟩
    case round =>
      clear L0
      obtain ⟨k, hk, rfl, v, vals, K0, K1, KX, O0, ow, hv, HB⟩ := hrel
      have q3 := K0.at 3
      simp at q3
      have hBl := K0.lt
      obtain ⟨hLs, az', cs', e', g⟩ := hsel
      obtain ⟨rfl, rfl⟩ : az = az' ∧ cs = cs' := by simpa using e'
      by_cases hlt : k < sel.length
      · obtain ⟨b, o, rfl, hc⟩ := g (by omega)
        obtain ⟨vd, cc, r0⟩ := hc k hlt
        have c1 : wr.cell? ⟨b, o + k, none⟩ = some vd := (HB.cell (p := ⟨b, o + k, none⟩) (lt_of_cell cc)).trans cc
        have r1 := r0.grow HB
        have hX : vals.length = k := by have := ow.1; omega
        obtain ⟨ys, hys⟩ : ∃ ys, sel.getD k [] = ys := ⟨_, rfl⟩
        rw [hys] at r1
        have HY : Hid (sel.getD k [] = ys) := hys
        obtain ⟨ad, ld, cd, rfl⟩ : ∃ ad ld cd, vd = .slice ad ld cd := by obtain ⟨_, ⟨ad, cd, e, _⟩, _⟩ := r0; exact ⟨_, _, _, e⟩
        obtain ⟨va, vl, vc, rfl⟩ : ∃ va vl vc, v = .slice va vl vc := by obtain ⟨_, h2⟩ := ow; rcases h2 with ⟨e, _⟩ | ⟨_, _, _, e, _⟩ <;> exact ⟨_, _, _, e⟩
        have hLk : (k + 1) * 24 ≤ 140737488351232 := by omega
        have ow0 := ow
        have nvX := own_ne (ownsRow_below ow (Below.refl _ _)) KX (by decide)
        have x0 : (0 : Int) ≤ (k : Int) := by omega
        have x1 : ((k : Int)).toNat = k := by omega
        clear g hc cc r0 hys
        go_wp2_with fail
        refine Code.wp_mono (Q := fun ex a x => ex = .normal ∧ (fun a x => ∃ t21 t22 t23 t24 t25 t26 t27 t28 t29 t30 t31 t32, a = ⟨#[.agg #[.string s, .int .i64 f, .slice ar rs.length cr, .slice (some ⟨b, o, none⟩) sel.length cs], .pointer (some ⟨w.heap.size, 0, none⟩), .pointer (some ⟨(w.heap.size + 1), 0, none⟩), .pointer (some ⟨X, 0, none⟩), .int .i64 k, u5, u6, u7, u8, u9, u10, u11, u12, u13, .int .i64 k, .pointer (some ⟨w.heap.size, 3, none⟩), .slice (some ⟨b, o, none⟩) sel.length cs, .int .i64 sel.length, .bool true, u19, u20, t21, t22, t23, t24, t25, t26, t27, t28, t29, t30, t31, t32, undef], []⟩ ∧ ∃ v1 g9 c9 x0 x1, Below wr.heap.size wr x0 ∧ Oi x0 g9 c9 ys ∧ x0.grownBy x1 (Value.slice va vl vc).ownBlock ∧ x1.ownsRow (w.heap.size + 2) 22 1 v1 (k + 1) (vals ++ [.slice (some ⟨g9, 0, none⟩) ys.length c9]) ∧ x = x1.setCell ⟨X, 3, none⟩ v1) a x) ?_ ?_
        rotate_left
        · refine wp_region_held (S := fun _ => True) (by kernel_rfl) (any_inv (fun listed a x => ∃ (y0 y1 y2 y3 y4 y5 y6 y7 y8 y9 : Bool) (t21 t22 t23 t24 t25 t26 t27 t28 t29 t30 : Value) (z31 z32 : Value), a = ⟨#[.agg #[.string s, .int .i64 f, .slice ar rs.length cr, .slice (some ⟨b, o, none⟩) sel.length cs], .pointer (some ⟨w.heap.size, 0, none⟩), .pointer (some ⟨(w.heap.size + 1), 0, none⟩), .pointer (some ⟨X, 0, none⟩), .int .i64 k, u5, u6, u7, u8, u9, u10, u11, u12, u13, .int .i64 k, .pointer (some ⟨w.heap.size, 3, none⟩), .slice (some ⟨b, o, none⟩) sel.length cs, .int .i64 sel.length, .bool true, u19, u20, t21, t22, t23, t24, t25, t26, t27, t28, t29, t30, z31, z32, undef], []⟩ ∧ ((listed = #[y0, y1, y2, y3, y4, y5, y6, y7, y8, y9, false, false, false] ∧ CT5 wr x ys (.pointer (some ⟨X, 3, none⟩)) (.slice va vl vc) (.pointer (some ⟨w.heap.size, 3, none⟩)) (.slice (some ⟨b, o, none⟩) sel.length cs) (.int .i64 k) (.pointer (some ⟨b, (o + k), none⟩)) (.slice ad ld cd) (0) (0) (0) y0 y1 y2 y3 y4 y5 y6 y7 y8 y9 t21 t22 t23 t24 t25 t26 t27 t28 t29 t30 ∧ z31 = u31 ∧ z32 = u32) ∨ (listed = #[true, true, true, true, true, true, true, true, true, true, true, false, false] ∧ ∃ g9 c9 x0 p9 q9 r9, z31 = .slice p9 q9 r9 ∧ Below wr.heap.size wr x0 ∧ Oi x0 g9 c9 ys ∧ x0.grownBy x (Value.slice va vl vc).ownBlock ∧ x.ownsRow (w.heap.size + 2) 22 1 (.slice p9 q9 r9) (k + 1) (vals ++ [.slice (some ⟨g9, 0, none⟩) ys.length c9])) ∨ (listed = #[true, true, true, true, true, true, true, true, true, true, true, true, false] ∧ (∃ g9 c9 x0 p9 q9 r9, z31 = .slice p9 q9 r9 ∧ Below wr.heap.size wr x0 ∧ Oi x0 g9 c9 ys ∧ x0.grownBy x (Value.slice va vl vc).ownBlock ∧ x.ownsRow (w.heap.size + 2) 22 1 (.slice p9 q9 r9) (k + 1) (vals ++ [.slice (some ⟨g9, 0, none⟩) ys.length c9])) ∧ z32 = .pointer (some ⟨X, 3, none⟩)) ∨ (listed = #[true, true, true, true, true, true, true, true, true, true, true, true, true] ∧ ∃ v1 g9 c9 x0 x1, Below wr.heap.size wr x0 ∧ Oi x0 g9 c9 ys ∧ x0.grownBy x1 (Value.slice va vl vc).ownBlock ∧ x1.ownsRow (w.heap.size + 2) 22 1 v1 (k + 1) (vals ++ [.slice (some ⟨g9, 0, none⟩) ys.length c9]) ∧ x = x1.setCell ⟨X, 3, none⟩ v1))) ?_ ?_ _ _ _ _ (by decide) ?_)
          · rintro listed a x i ⟨y0, y1, y2, y3, y4, y5, y6, y7, y8, y9, t21, t22, t23, t24, t25, t26, t27, t28, t29, t30, z31, z32, rfl, h⟩ hi
            have hr : i < 13 := List.mem_range.1 (List.mem_filter.1 hi).1
            have hc := (List.mem_filter.1 hi).2
            rcases h with ⟨rfl, h⟩ | ⟨rfl, h⟩ | ⟨rfl, h⟩ | ⟨rfl, h⟩
            · rcases (show i = 0 ∨ i = 1 ∨ i = 2 ∨ i = 3 ∨ i = 4 ∨ i = 5 ∨ i = 6 ∨ i = 7 ∨ i = 8 ∨ i = 9 ∨ i = 10 ∨ i = 11 ∨ i = 12 by omega) with rfl | rfl | rfl | rfl | rfl | rfl | rfl | rfl | rfl | rfl | rfl | rfl | rfl
              · obtain ⟨h, rfl, rfl⟩ := h
                clear hc hi
                refine wpOp_step rfl (fun K hK0 => ?_)
                have hK : Hid _ := hK0
                clear hK0
                rw [if_pos (by rfl)]
                go_wp2_with fail
                exact hK.out _ _ ⟨true, y1, y2, y3, y4, y5, y6, y7, y8, y9, .pointer (some ⟨X, 3, none⟩), t22, t23, t24, t25, t26, t27, t28, t29, t30, z31, z32, rfl, Or.inl ⟨rfl, ⟨{ h with o0 := fun _ => rfl, d1_0 := fun _ => rfl }, rfl, rfl⟩⟩⟩
              · obtain ⟨h, rfl, rfl⟩ := h
                have e0 : y0 = true := by
                  revert hc
                  cases y0 <;> simp [Region.binds]
                have r0 := h.o0 e0
                subst r0
                clear hc hi
                have kd := (KX.below h.bel KX.lt).at 3
                simp at kd
                refine wpOp_step rfl (fun K hK0 => ?_)
                have hK : Hid _ := hK0
                clear hK0
                rw [if_pos (by rfl)]
                go_wp2_with fail
                exact hK.out _ _ ⟨y0, true, y2, y3, y4, y5, y6, y7, y8, y9, _, .slice va vl vc, t23, t24, t25, t26, t27, t28, t29, t30, z31, z32, rfl, Or.inl ⟨rfl, ⟨{ h with o1 := fun _ => rfl, d1_0 := fun _ => e0 }, rfl, rfl⟩⟩⟩
              · obtain ⟨h, rfl, rfl⟩ := h
                clear hc hi
                refine wpOp_step rfl (fun K hK0 => ?_)
                have hK : Hid _ := hK0
                clear hK0
                rw [if_pos (by rfl)]
                go_wp2_with fail
                exact hK.out _ _ ⟨y0, y1, true, y3, y4, y5, y6, y7, y8, y9, t21, t22, _, t24, t25, t26, t27, t28, t29, t30, z31, z32, rfl, Or.inl ⟨rfl, ⟨{ h.grow ((Below.refl _ _).alloc (Nat.le_refl _) _) with o2 := fun _ => ⟨_, _, _, rfl, rfl, rfl, _, rfl, Blk.new _ _ _⟩, d8_2 := fun _ => rfl }, rfl, rfl⟩⟩⟩
              · obtain ⟨h, rfl, rfl⟩ := h
                clear hc hi
                refine wpOp_step rfl (fun K hK0 => ?_)
                have hK : Hid _ := hK0
                clear hK0
                rw [if_pos (by rfl)]
                go_wp2_with fail
                exact hK.out _ _ ⟨y0, y1, y2, true, y4, y5, y6, y7, y8, y9, t21, t22, t23, .pointer (some ⟨w.heap.size, 3, none⟩), t25, t26, t27, t28, t29, t30, z31, z32, rfl, Or.inl ⟨rfl, ⟨{ h with o3 := fun _ => rfl, d4_3 := fun _ => rfl }, rfl, rfl⟩⟩⟩
              · obtain ⟨h, rfl, rfl⟩ := h
                have e3 : y3 = true := by
                  revert hc
                  cases y3 <;> simp [Region.binds]
                have r3 := h.o3 e3
                subst r3
                clear hc hi
                have kd := (K0.below h.bel K0.lt).at 3
                simp at kd
                refine wpOp_step rfl (fun K hK0 => ?_)
                have hK : Hid _ := hK0
                clear hK0
                rw [if_pos (by rfl)]
                go_wp2_with fail
                exact hK.out _ _ ⟨y0, y1, y2, y3, true, y5, y6, y7, y8, y9, t21, t22, t23, _, .slice (some ⟨b, o, none⟩) sel.length cs, t26, t27, t28, t29, t30, z31, z32, rfl, Or.inl ⟨rfl, ⟨{ h with o4 := fun _ => rfl, d4_3 := fun _ => e3, d6_4 := fun _ => rfl }, rfl, rfl⟩⟩⟩
              · obtain ⟨h, rfl, rfl⟩ := h
                clear hc hi
                refine wpOp_step rfl (fun K hK0 => ?_)
                have hK : Hid _ := hK0
                clear hK0
                rw [if_pos (by rfl)]
                go_wp2_with fail
                exact hK.out _ _ ⟨y0, y1, y2, y3, y4, true, y6, y7, y8, y9, t21, t22, t23, t24, t25, .int .i64 k, t27, t28, t29, t30, z31, z32, rfl, Or.inl ⟨rfl, ⟨{ h with o5 := fun _ => rfl, d6_5 := fun _ => rfl }, rfl, rfl⟩⟩⟩
              · obtain ⟨h, rfl, rfl⟩ := h
                have e4 : y4 = true := by
                  revert hc
                  cases y4 <;> simp [Region.binds]
                have e5 : y5 = true := by
                  revert hc
                  cases y5 <;> simp [Region.binds]
                have r4 := h.o4 e4
                subst r4
                have r5 := h.o5 e5
                subst r5
                clear hc hi
                refine wpOp_step rfl (fun K hK0 => ?_)
                have hK : Hid _ := hK0
                clear hK0
                rw [if_pos (by rfl)]
                go_wp2_with fail
                exact hK.out _ _ ⟨y0, y1, y2, y3, y4, y5, true, y7, y8, y9, t21, t22, t23, t24, _, _, .pointer (some ⟨b, (o + k), none⟩), t28, t29, t30, z31, z32, rfl, Or.inl ⟨rfl, ⟨{ h with o6 := fun _ => rfl, d6_4 := fun _ => e4, d6_5 := fun _ => e5, d7_6 := fun _ => rfl }, rfl, rfl⟩⟩⟩
              · obtain ⟨h, rfl, rfl⟩ := h
                have e6 : y6 = true := by
                  revert hc
                  cases y6 <;> simp [Region.binds]
                have r6 := h.o6 e6
                subst r6
                clear hc hi
                have kd := (h.bel.cell (p := ⟨b, o + k, none⟩) (lt_of_cell c1)).trans c1
                refine wpOp_step rfl (fun K hK0 => ?_)
                have hK : Hid _ := hK0
                clear hK0
                rw [if_pos (by rfl)]
                go_wp2_with fail
                exact hK.out _ _ ⟨y0, y1, y2, y3, y4, y5, y6, true, y8, y9, t21, t22, t23, t24, t25, t26, _, .slice ad ld cd, t29, t30, z31, z32, rfl, Or.inl ⟨rfl, ⟨{ h with o7 := fun _ => rfl, d7_6 := fun _ => e6, d8_7 := fun _ => rfl }, rfl, rfl⟩⟩⟩
              · obtain ⟨h, rfl, rfl⟩ := h
                have e2 : y2 = true := by
                  revert hc
                  cases y2 <;> simp [Region.binds]
                have e7 : y7 = true := by
                  revert hc
                  cases y7 <;> simp [Region.binds]
                obtain ⟨a2, l2, c2, rfl, H2⟩ := h.o2 e2
                have r7 := h.o7 e7
                subst r7
                clear hc hi
                obtain ⟨rfl, rfl, X2, rfl, K2⟩ := H2
                have hr9 := r1.grow h.bel
                refine wpOp_step rfl (fun K hK0 => ?_)
                have hK : Hid _ := hK0
                clear hK0
                rw [if_pos (by rfl)]
                refine wp_copy_new _ _ rfl X2 ?_ K2 (.slice ad ld cd) ys ?_ hr9 ?_
                · rfl
                · rfl
                intro g9 c9 x2 H9 bb
                exact hK.out _ _ ⟨y0, y1, y2, y3, y4, y5, y6, y7, true, y9, t21, t22, _, t24, t25, t26, t27, _, _, t30, z31, z32, rfl, Or.inl ⟨rfl, ⟨{ h.grow bb with o8 := fun _ => ⟨_, _, _, rfl, rfl, _, rfl, H9⟩, d8_2 := fun _ => e2, d8_7 := fun _ => e7 }, rfl, rfl⟩⟩⟩
              · obtain ⟨h, rfl, rfl⟩ := h
                have e8 : y8 = true := by
                  revert hc
                  cases y8 <;> simp [Region.binds]
                obtain ⟨a8, l8, c8, rfl, H8⟩ := h.o8 e8
                clear hc hi
                obtain ⟨rfl, g8, rfl, O8⟩ := H8
                have bb := (Below.refl x.heap.size x).alloc (Nat.le_refl _) (.cells #[.slice (some ⟨g8, 0, none⟩) ys.length c8] 22)
                refine wpOp_step rfl (fun K hK0 => ?_)
                have hK : Hid _ := hK0
                clear hK0
                rw [if_pos (by rfl)]
                go_wp2_with (first | (fail) | fail)
                exact hK.out _ _ ⟨y0, y1, y2, y3, y4, y5, y6, y7, y8, true, t21, t22, t23, t24, t25, t26, t27, t28, _, _, z31, z32, rfl, Or.inl ⟨rfl, ⟨{ h.grow bb with o9 := fun _ => ⟨_, _, _, rfl, rfl, rfl, _, _, _, rfl, Blk.new _ _ _, O8.grow bb⟩ }, rfl, rfl⟩⟩⟩
              · obtain ⟨h, rfl, rfl⟩ := h
                have e1 : y1 = true := by
                  revert hc
                  cases y1 <;> simp [Region.binds]
                have e8 : y8 = true := by
                  revert hc
                  cases y8 <;> simp [Region.binds]
                have e9 : y9 = true := by
                  revert hc
                  cases y9 <;> simp [Region.binds]
                have e0 := h.d1_0 e1
                have e2 := h.d8_2 e8
                have e7 := h.d8_7 e8
                have e6 := h.d7_6 e7
                have e4 := h.d6_4 e6
                have e5 := h.d6_5 e6
                have e3 := h.d4_3 e4
                have r1 := h.o1 e1
                subst r1
                obtain ⟨a9, l9, c9, rfl, H9⟩ := h.o9 e9
                clear hc hi
                subst e0 e1 e2 e3 e4 e5 e6 e7 e8 e9
                have bl := h.bel
                obtain ⟨rfl, rfl, Y9, g9, c9, rfl, KY, O9⟩ := H9
                have ow := ownsRow_below ow0 bl
                have y0 := KY.at 0
                simp at y0
                have sz := bl.size
                have hB9 : w.heap.size + 2 ≤ x.heap.size := by have := KX.lt; omega
                clear h
                refine wpOp_step rfl (fun K hK0 => ?_)
                have hK : Hid _ := hK0
                clear hK0
                rw [if_pos (by rfl)]
                refine wp_push_row _ _ rfl (.slice va vl vc) k vals ?_ (w.heap.size + 2) ow hLk Y9 1 _ _ _ ?_ y0 hB9 ?_
                · rfl
                · rfl
                intro z31 x2 O2 G2
                obtain ⟨p9, q9, r9, rfl⟩ : ∃ a l c, z31 = .slice a l c := by obtain ⟨_, h2⟩ := O2; rcases h2 with ⟨e, _⟩ | ⟨_, _, _, e, _⟩ <;> exact ⟨_, _, _, e⟩
                exact hK.out _ _ ⟨true, true, true, true, true, true, true, true, true, true, t21, _, t23, t24, t25, t26, t27, t28, t29, _, _, _, rfl, Or.inr (Or.inl ⟨rfl, g9, c9, x, p9, q9, r9, rfl, bl, O9, G2, O2⟩)⟩
              · simp [Region.binds] at hc
              · simp [Region.binds] at hc
            · rcases (show i = 0 ∨ i = 1 ∨ i = 2 ∨ i = 3 ∨ i = 4 ∨ i = 5 ∨ i = 6 ∨ i = 7 ∨ i = 8 ∨ i = 9 ∨ i = 10 ∨ i = 11 ∨ i = 12 by omega) with rfl | rfl | rfl | rfl | rfl | rfl | rfl | rfl | rfl | rfl | rfl | rfl | rfl
              · simp at hc
              · simp at hc
              · simp at hc
              · simp at hc
              · simp at hc
              · simp at hc
              · simp at hc
              · simp at hc
              · simp at hc
              · simp at hc
              · simp at hc
              · clear hc hi
                obtain ⟨g9, c9, x0, p9, q9, r9, rfl, bl, O9, G2, O2⟩ := h
                refine wpOp_step rfl (fun K hK0 => ?_)
                have hK : Hid _ := hK0
                clear hK0
                rw [if_pos (by rfl)]
                go_wp2_with fail
                exact hK.out _ _ ⟨true, true, true, true, true, true, true, true, true, true, _, _, _, _, _, _, _, _, _, _, _, _, rfl, Or.inr (Or.inr (Or.inl ⟨rfl, ⟨g9, c9, x0, p9, q9, r9, rfl, bl, O9, G2, O2⟩, rfl⟩))⟩
              · simp [Region.binds] at hc
            · rcases (show i = 0 ∨ i = 1 ∨ i = 2 ∨ i = 3 ∨ i = 4 ∨ i = 5 ∨ i = 6 ∨ i = 7 ∨ i = 8 ∨ i = 9 ∨ i = 10 ∨ i = 11 ∨ i = 12 by omega) with rfl | rfl | rfl | rfl | rfl | rfl | rfl | rfl | rfl | rfl | rfl | rfl | rfl
              · simp at hc
              · simp at hc
              · simp at hc
              · simp at hc
              · simp at hc
              · simp at hc
              · simp at hc
              · simp at hc
              · simp at hc
              · simp at hc
              · simp at hc
              · simp at hc
              · clear hc hi
                obtain ⟨⟨g9, c9, x0, p9, q9, r9, rfl, bl, O9, G2, O2⟩, rfl⟩ := h
                have KX9 := blk_grown (KX.below bl KX.lt) G2 nvX
                have xx := KX9.at 3
                have xf := KX9.free 3
                simp at xx
                refine wpOp_step rfl (fun K hK0 => ?_)
                have hK : Hid _ := hK0
                clear hK0
                rw [if_pos (by rfl)]
                go_wp2_with fail
                exact hK.out _ _ ⟨true, true, true, true, true, true, true, true, true, true, _, _, _, _, _, _, _, _, _, _, _, _, rfl, Or.inr (Or.inr (Or.inr (⟨rfl, _, g9, c9, x0, x, bl, O9, G2, O2, rfl⟩)))⟩
            · rcases (show i = 0 ∨ i = 1 ∨ i = 2 ∨ i = 3 ∨ i = 4 ∨ i = 5 ∨ i = 6 ∨ i = 7 ∨ i = 8 ∨ i = 9 ∨ i = 10 ∨ i = 11 ∨ i = 12 by omega) with rfl | rfl | rfl | rfl | rfl | rfl | rfl | rfl | rfl | rfl | rfl | rfl | rfl <;> simp at hc
          · rintro listed a x ⟨y0, y1, y2, y3, y4, y5, y6, y7, y8, y9, t21, t22, t23, t24, t25, t26, t27, t28, t29, t30, z31, z32, rfl, h⟩ hn
            have al := all_listed (by decide +kernel) hn
            rcases h with ⟨rfl, h⟩ | ⟨rfl, h⟩ | ⟨rfl, h⟩ | ⟨rfl, h⟩
            · have z := al 10 (by decide)
              simp at z
            · have z := al 11 (by decide)
              simp at z
            · have z := al 12 (by decide)
              simp at z
            · obtain ⟨v1, g9, c9, x0, x1, bl, O9, G2, O2, rfl⟩ := h
              refine ⟨rfl, ?_⟩
              exact ⟨_, _, _, _, _, _, _, _, _, _, _, _, rfl, v1, g9, c9, x0, x1, bl, O9, G2, O2, rfl⟩
          · exact ⟨false, false, false, false, false, false, false, false, false, false, u21, u22, u23, u24, u25, u26, u27, u28, u29, u30, u31, u32, rfl, Or.inl ⟨rfl, ⟨{ bel := (Below.refl _ _).drew, o0 := (by intro q; cases q), o1 := (by intro q; cases q), o2 := (by intro q; cases q), o3 := (by intro q; cases q), o4 := (by intro q; cases q), o5 := (by intro q; cases q), o6 := (by intro q; cases q), o7 := (by intro q; cases q), o8 := (by intro q; cases q), o9 := (by intro q; cases q), d1_0 := (by intro q; cases q), d4_3 := (by intro q; cases q), d6_4 := (by intro q; cases q), d6_5 := (by intro q; cases q), d7_6 := (by intro q; cases q), d8_2 := (by intro q; cases q), d8_7 := (by intro q; cases q) }, rfl, rfl⟩⟩⟩
        · rintro _ a wN ⟨rfl, t21, t22, t23, t24, t25, t26, t27, t28, t29, t30, t31, t32, rfl, v1, g9, c9, x0', x1', bl, O9, G2, O2, rfl⟩
          have NX := LC.next (ar := ar) (cr := cr) K0 K1 KX O0 ow hv HB lX hX HY.out bl O9 G2 O2
          generalize x1'.setCell ⟨X, 3, none⟩ v1 = wN at *
          clear bl O9 G2 O2 K0 K1 KX O0 ow ow0 hv HB nvX r1 c1 q3 hBl
          go_wp2
          go_roundw
          case rel => exact ⟨k + 1, by omega, by go_num, NX⟩
          case measure => simp [intOf]; omega
      · obtain rfl : k = sel.length := by omega
        obtain ⟨va, vl, vc, rfl⟩ : ∃ va vl vc, v = .slice va vl vc := by obtain ⟨_, h2⟩ := ow; rcases h2 with ⟨e, _⟩ | ⟨_, _, _, e, _⟩ <;> exact ⟨_, _, _, e⟩
        have x0 := KX.at 0
        have x1 := KX.at 1
        have x2 := KX.at 2
        have x3 := KX.at 3
        have y0 := K1.at 0
        have y1 := K1.at 1
        have y2 := K1.at 2
        have y3 := K1.at 3
        have z0 := K1.free 0
        have z1 := K1.free 1
        have z2 := K1.free 2
        have z3 := K1.free 3
        simp at x0 x1 x2 x3 y0 y1 y2 y3
        have PE := put4 K1 (.string s) (.int .i64 f) (.slice (some ⟨g0, 0, none⟩) rs.length c0) (.slice va vl vc)
        have ne0 := O0.ne K1 (by decide)
        have OE := O0.skip4 ne0 (.string s) (.int .i64 f) (.slice (some ⟨g0, 0, none⟩) rs.length c0) (.slice va vl vc)
        have BE := set4 (p := .string s) (q := .int .i64 f) (r := .slice (some ⟨g0, 0, none⟩) rs.length c0) (s := .slice va vl vc) HB (show w.heap.size ≤ (w.heap.size + 1) by omega)
        have OS : Os wr (.slice va vl vc) sel := by
          refine ⟨hLs, vals, ?_, hv⟩
          obtain ⟨o1, o2⟩ := ow
          refine ⟨o1, ?_⟩
          rcases o2 with o2 | ⟨g, cap, cur, e1, e2, r⟩
          · exact Or.inl o2
          · exact Or.inr ⟨g, cap, cur, e1, Nat.zero_le _, r⟩
        have RR := OS.skip4 K1 (by decide) (by decide) (.string s) (.int .i64 f) (.slice (some ⟨g0, 0, none⟩) rs.length c0) (.slice va vl vc)
        clear OS
        clear g hv ow
        go_wp2_with fail
        generalize (((wr.setCell ⟨(w.heap.size + 1), 0, none⟩ (.string s)).setCell ⟨(w.heap.size + 1), 1, none⟩ (.int .i64 f)).setCell ⟨(w.heap.size + 1), 2, none⟩ (.slice (some ⟨g0, 0, none⟩) rs.length c0)).setCell ⟨(w.heap.size + 1), 3, none⟩ (.slice va vl vc) = WE at *
        have r0 := PE.at 0
        have r1 := PE.at 1
        have r2 := PE.at 2
        have r3 := PE.at 3
        simp at r0 r1 r2 r3
        exact bodyPost_ret (v := .agg #[.string s, .int .i64 f, .slice (some ⟨g0, 0, none⟩) rs.length c0, .slice va vl vc]) (by simp [results, Try.results5, go_sem, r0, r1, r2, r3]) rfl ⟨g0, c0, _, _, _, rfl, OE, RR, BE⟩
end Go.Proofs.Ytachlkcoghkjnaa.Ta
