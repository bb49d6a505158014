import Derived.Test.YtfalncbcomlelaaGreatDoorWt4
import Derived.Test.YtfalncbcomlelaaGreatDoorIn1
import Derived.Test.YtfalncbcomlelaaGreatDoorSa2
import Derived.Deep.DeepCutAuto
namespace Go.Proofs.YtfalncbcomlelaaGreatDoor.Wt
open Go.RowKit Tn Mo

def ey0 : Value → Value | .tuple ⟨[x, _]⟩ => x | v => v
def ey1 : Value → Value | .tuple ⟨[_, x]⟩ => x | v => v
theorem ey0_t (a b : Value) : ey0 (.tuple #[a, b]) = a := rfl
theorem ey1_t (a b : Value) : ey1 (.tuple #[a, b]) = b := rfl
theorem bxof {x : World} {X : Nat} {v : Value} {t : TypeId} (h : Blk x X #[v] t) : Bx x X v := ⟨h.at 0, h.free 0, t, h⟩
/-- A quotient and a rest. -/
def D2 (Hi Lo : Int) (_N : Int) (t : Value) (x : World) : Prop := ∃ (a : Option Addr × Option Addr) (l c : Nat × Nat), t = .tuple #[.agg #[.slice a.1 l.1 c.1], .agg #[.slice a.2 l.2 c.2]] ∧ (Nn x a.1 l.1 c.1 Hi ∧ Nn x a.2 l.2 c.2 Lo)
theorem D2.grow {Hi Lo N : Int} {t : Value} {x x' : World} (h : D2 Hi Lo N t x) (b : Below x.heap.size x x') : D2 Hi Lo N t x' := by
  obtain ⟨a, l, c, e, h1, h2⟩ := h
  exact ⟨a, l, c, e, h1.grow b, h2.grow b⟩
theorem DivMod_n {a1 a2 : Option Addr} {l1 c1 l2 c2 : Nat} {A B : Int} {x : World} (h1 : Nn x a1 l1 c1 A) (h2 : Nn x a2 l2 c2 B) {m : Nat} (hA : A < pw m) (hB : 0 < B) (hm : m ≤ 1000000) :
    Calls Tryz.prog 99 #[.agg #[.slice a1 l1 c1], .agg #[.slice a2 l2 c2]] x fun e w' => ∃ (a : Option Addr × Option Addr) (l c : Nat × Nat), e = .returned (.tuple #[.agg #[.slice a.1 l.1 c.1], .agg #[.slice a.2 l.2 c.2]]) ∧ (Nn w' a.1 l.1 c.1 (A / B) ∧ Nn w' a.2 l.2 c.2 (A % B)) ∧ Below x.heap.size x w' := by
  obtain ⟨xs, r1, n1, rfl⟩ := h1
  obtain ⟨ys, r2, n2, rfl⟩ := h2
  have := len_of r1.1 n1 hA
  refine (DivMod_any _ _ xs ys x r1 r2 n1 n2 hB (by omega)).mono ?_
  rintro e w' ⟨v1, v2, zs, rs, rfl, q1, m1, q2, m2, e1, e2, b⟩
  obtain ⟨a, l, c, rfl⟩ := q1.shape
  obtain ⟨a', l', c', rfl⟩ := q2.shape
  exact ⟨(a, a'), (l, l'), (c, c'), rfl, ⟨⟨zs, q1, m1, e1⟩, ⟨rs, q2, m2, e2⟩⟩, b⟩
/-- A number stays where a text alone turns. -/
theorem Nn.text {w w' : World} {a : Option Addr} {l c : Nat} {N : Int} {v : Value} (h : Nn w a l c N) (hU : U8 w v) (g : w.grownBy w' v.ownBlock) : Nn w' a l c N := by
  obtain ⟨xs, ⟨hW, a1, c1, e, h1, h2, h3⟩, n, rfl⟩ := h
  refine ⟨xs, ⟨hW, a1, c1, e, h1, h2, fun lt => ?_⟩, n, rfl⟩
  obtain ⟨b, o, e2, q⟩ := h3 lt
  refine ⟨b, o, e2, fun i hi => g.cell (q i hi) fun e => ?_⟩
  obtain ⟨x, hx⟩ := hU b e.symm (o + i) _ (q i hi)
  cases hx
theorem bxskip {w : World} {n m : Nat} {v : Value} (h : Bx w n v) (ne : n ≠ m) (u : Value) : Bx (w.setCell ⟨m, 0, none⟩ u) n v := h.blocks (Below.heap_setCell _ _ _ _ ne)
/-- Powers of ten thousand million million millions, one the square of the other, in blocks below B. -/
def Ru (w : World) (B b o m : Nat) : Prop := b < B ∧ ∀ i, i < m → ∃ a l c, w.cell? ⟨b, o + i, none⟩ = some (.slice a l c) ∧ Nn w a l c (((10 ^ 19) ^ (2 ^ i) : Nat) : Int) ∧ ∀ ad, a = some ad → ad.block < B
theorem Ru.keep {w w' : World} {B b o m : Nat} (h : Ru w B b o m) (k : ∀ j, j < B → j < w.heap.size → w'.heap[j]? = w.heap[j]?) : Ru w' B b o m := by
  obtain ⟨hb, h⟩ := h
  refine ⟨hb, fun i hi => ?_⟩
  obtain ⟨a, l, c, e1, ⟨xs, ⟨hW, a1, c1, e, h1, h2, h3⟩, n, hv⟩, e3⟩ := h i hi
  refine ⟨a, l, c, (World.cell?_of_block (a := ⟨b, o + i, none⟩) (k b hb (lt_of_cell e1))).trans e1, ⟨xs, ⟨hW, a1, c1, e, h1, h2, fun lt => ?_⟩, n, hv⟩, e3⟩
  obtain ⟨b', o', e2, q⟩ := h3 lt
  have ea : a = some ⟨b', o', none⟩ := by simp only [Value.slice.injEq] at e; rw [e.1, e2]
  have := e3 _ ea
  exact ⟨b', o', e2, fun j hj => (World.cell?_of_block (a := ⟨b', o' + j, none⟩) (k b' this (lt_of_cell (q j hj)))).trans (q j hj)⟩
theorem Ru.less {w : World} {B b o m k : Nat} (h : Ru w B b o m) (hk : k ≤ m) : Ru w B b o k := ⟨h.1, fun i hi => h.2 i (by omega)⟩
theorem pd_get (N k i : Nat) (h : i < k) : (pd N k)[i]? = some (48 + ((N / 10 ^ (k - 1 - i) % 10 : Nat) : Int)) := by
  unfold pd
  rw [List.getElem?_map, List.getElem?_range h]
  rfl
theorem pd_two (N k : Nat) : pd N (k + k) = pd (N / 10 ^ k) k ++ pd (N % 10 ^ k) k := by
  apply List.ext_getElem?
  intro i
  by_cases h1 : i < k + k
  · rw [pd_get _ _ _ h1]
    by_cases hi : i < k
    · rw [List.getElem?_append_left (by rw [pd_len]; exact hi), pd_get _ _ _ hi, Nat.div_div_eq_div_mul, ← Nat.pow_add, show k + k - 1 - i = k + (k - 1 - i) by omega]
    · rw [List.getElem?_append_right (by rw [pd_len]; omega), pd_len, pd_get _ _ _ (by omega)]
      have s : (10 : Nat) ^ k = 10 ^ (k - 1 - (i - k)) * 10 ^ (i - k + 1) := by rw [← Nat.pow_add]; congr 1; omega
      have d : (10 : Nat) ∣ 10 ^ (i - k + 1) := by rw [Nat.pow_succ]; exact Nat.dvd_mul_left _ _
      have e : N % 10 ^ k / 10 ^ (k - 1 - (i - k)) % 10 = N / 10 ^ (k - 1 - (i - k)) % 10 := by
        rw [s, Nat.mod_mul_right_div_self]
        exact Nat.mod_mod_of_dvd _ d
      rw [e, show k + k - 1 - i = k - 1 - (i - k) by omega]
  · rw [List.getElem?_eq_none (by rw [pd_len]; omega), List.getElem?_eq_none (by rw [List.length_append, pd_len, pd_len]; omega)]
structure AP4 (W x : World) (Hi : Int) (Lo : Int) (V0 : Value) (V1 : Value) (V2 : Value) (V3 : Value) (V4 : Value) (N5 : Int) (N6 : Int) (y0 y1 y2 y3 y4 y5 y6 y7 y8 y9 y10 : Bool) (t23 t24 t25 t26 t27 t28 t22 t29 t30 t8 t9 : Value) : Prop where
  bel : Below W.heap.size W x
  o0 : y0 = true → t23 = V0
  o1 : y1 = true → t24 = V1
  o2 : y2 = true → t25 = V2
  o3 : y3 = true → t26 = V3
  o4 : y4 = true → t27 = V4
  o5 : y5 = true → D2 Hi Lo N5 t28 x
  o6 : y6 = true → D2 Hi Lo N6 t22 x
  o9 : y9 = true → ∃ X, t8 = .pointer (some ⟨X, 0, none⟩) ∧ W.heap.size ≤ X ∧ Blk x X #[.slice none 0 0] 56
  o10 : y10 = true → ∃ X, t9 = .pointer (some ⟨X, 0, none⟩) ∧ W.heap.size ≤ X ∧ Blk x X #[.slice none 0 0] 56
  o7 : y7 = true → t29 = ey0 t22
  o8 : y8 = true → t30 = ey1 t22
  ne9_10 : y9 = true → y10 = true → t8 ≠ t9
  d7_6 : y7 = true → y6 = true
  d8_6 : y8 = true → y6 = true
theorem AP4.grow {W x x' : World} {Hi : Int} {Lo : Int} {V0 : Value} {V1 : Value} {V2 : Value} {V3 : Value} {V4 : Value} {N5 : Int} {N6 : Int} {y0 y1 y2 y3 y4 y5 y6 y7 y8 y9 y10 : Bool} {t23 t24 t25 t26 t27 t28 t22 t29 t30 t8 t9 : Value} (h : AP4 W x Hi Lo V0 V1 V2 V3 V4 N5 N6 y0 y1 y2 y3 y4 y5 y6 y7 y8 y9 y10 t23 t24 t25 t26 t27 t28 t22 t29 t30 t8 t9) (b : Below x.heap.size x x') : AP4 W x' Hi Lo V0 V1 V2 V3 V4 N5 N6 y0 y1 y2 y3 y4 y5 y6 y7 y8 y9 y10 t23 t24 t25 t26 t27 t28 t22 t29 t30 t8 t9 where
  bel := bel' h.bel b
  o0 := h.o0
  o1 := h.o1
  o2 := h.o2
  o3 := h.o3
  o4 := h.o4
  o7 := h.o7
  o8 := h.o8
  o5 := fun u => (h.o5 u).grow b
  o6 := fun u => (h.o6 u).grow b
  o9 := fun u => by obtain ⟨k, e, l, K⟩ := h.o9 u; exact ⟨k, e, l, K.below b K.lt⟩
  o10 := fun u => by obtain ⟨k, e, l, K⟩ := h.o10 u; exact ⟨k, e, l, K.below b K.lt⟩
  ne9_10 := h.ne9_10
  d7_6 := h.d7_6
  d8_6 := h.d8_6

end Go.Proofs.YtfalncbcomlelaaGreatDoor.Wt
