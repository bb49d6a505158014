import Derived.Test.YteepjipecfdkoaaDoorDy13
import Derived.OwnWalk
import Derived.Laws.AppendOwn
namespace Go.Proofs.YteepjipecfdkoaaDoor.Dy
open Go.RowKit Tn
/-- A row of dates, of which those from lo up to hi are told. -/
def Rw (W : World) (g c lo hi : Nat) (f : Nat → Int × Int × Int) : Prop :=
  ∃ cur : Array Value, Blk W g cur 23 ∧ cur.size = c * 3 ∧ hi ≤ c ∧ ∀ i, lo ≤ i → i < hi → cur[i * 3]? = some (.int .i64 (f i).1) ∧ cur[i * 3 + 1]? = some (.int .i64 (f i).2.1) ∧ cur[i * 3 + 2]? = some (.int .i64 (f i).2.2)
theorem Rw.below {W W' : World} {B g c lo hi : Nat} {f : Nat → Int × Int × Int} (h : Rw W g c lo hi f) (k : Below B W W') (hg : g < B) : Rw W' g c lo hi f := by
  obtain ⟨cur, h1, h2, h3, h4⟩ := h
  exact ⟨cur, h1.below k hg, h2, h3, h4⟩
theorem Rw.lt {W : World} {g c lo hi : Nat} {f : Nat → Int × Int × Int} (h : Rw W g c lo hi f) : g < W.heap.size := by
  obtain ⟨cur, h1, _⟩ := h
  exact h1.lt
theorem Rw.grow {W W' : World} {g c lo hi : Nat} {f : Nat → Int × Int × Int} (h : Rw W g c lo hi f) (k : Below W.heap.size W W') : Rw W' g c lo hi f := h.below k h.lt
theorem Rw.alloc {W : World} {g c lo hi : Nat} {f : Nat → Int × Int × Int} (h : Rw W g c lo hi f) (o : Obj) : Rw (W.alloc o) g c lo hi f := h.grow ((Below.refl _ _).alloc (Nat.le_refl _) o)
theorem Rw.cells {W : World} {g c lo hi : Nat} {f : Nat → Int × Int × Int} (h : Rw W g c lo hi f) {i : Nat} (h1 : lo ≤ i) (h2 : i < hi) : W.cell? ⟨g, i * 3, none⟩ = some (.int .i64 (f i).1) ∧ W.cell? ⟨g, i * 3 + 1, none⟩ = some (.int .i64 (f i).2.1) ∧ W.cell? ⟨g, i * 3 + 2, none⟩ = some (.int .i64 (f i).2.2) := by
  obtain ⟨cur, b, s, _, r⟩ := h
  have := r i h1 h2
  exact ⟨(b.at _).trans this.1, (b.at _).trans this.2.1, (b.at _).trans this.2.2⟩
theorem Rw.some {W : World} {g c lo hi : Nat} {f : Nat → Int × Int × Int} (h : Rw W g c lo hi f) {i : Nat} (h1 : i < c) : ∃ a b d, W.cell? ⟨g, i * 3, none⟩ = some a ∧ W.cell? ⟨g, i * 3 + 1, none⟩ = some b ∧ W.cell? ⟨g, i * 3 + 2, none⟩ = some d := by
  obtain ⟨cur, b, s, _, r⟩ := h
  refine ⟨cur[i * 3]'(by omega), cur[i * 3 + 1]'(by omega), cur[i * 3 + 2]'(by omega), ?_, ?_, ?_⟩
  · rw [b.at]; exact Array.getElem?_eq_getElem _
  · rw [b.at]; exact Array.getElem?_eq_getElem _
  · rw [b.at]; exact Array.getElem?_eq_getElem _
theorem Rw.free {W : World} {g c lo hi : Nat} {f : Nat → Int × Int × Int} (h : Rw W g c lo hi f) (i : Nat) : W.frozen? ⟨g, i, none⟩ = false := by
  obtain ⟨cur, b, _⟩ := h
  exact b.free i
theorem Rw.put {W : World} {g c lo hi : Nat} {f : Nat → Int × Int × Int} (h : Rw W g c lo hi f) (h1 : hi < c) {y m d : Int} (e : f hi = (y, m, d)) (hl : lo ≤ hi) :
    Rw (((W.setCell ⟨g, hi * 3, none⟩ (.int .i64 y)).setCell ⟨g, hi * 3 + 1, none⟩ (.int .i64 m)).setCell ⟨g, hi * 3 + 2, none⟩ (.int .i64 d)) g c lo (hi + 1) f := by
  obtain ⟨cur, b, s, _, r⟩ := h
  refine ⟨_, dput (dput (dput b _ _) _ _) _ _, by simp [s], by omega, fun i i1 i2 => ?_⟩
  by_cases c0 : i = hi
  · subst c0
    rw [e]
    simp [Array.getElem?_setIfInBounds, s]
    omega
  · have := r i i1 (by omega)
    have n1 : hi * 3 ≠ i * 3 := by omega
    have n2 : hi * 3 + 1 ≠ i * 3 := by omega
    have n3 : hi * 3 + 2 ≠ i * 3 := by omega
    have n4 : hi * 3 ≠ i * 3 + 1 := by omega
    have n5 : hi * 3 + 1 ≠ i * 3 + 1 := by omega
    have n6 : hi * 3 + 2 ≠ i * 3 + 1 := by omega
    have n7 : hi * 3 ≠ i * 3 + 2 := by omega
    have n8 : hi * 3 + 1 ≠ i * 3 + 2 := by omega
    have n9 : hi * 3 + 2 ≠ i * 3 + 2 := by omega
    simp only [Array.getElem?_setIfInBounds_ne, n1, n2, n3, n4, n5, n6, n7, n8, n9, ne_eq, not_false_eq_true, this, and_self]
/-- A date that is struck out. -/
theorem Rw.strike {W : World} {g c lo hi : Nat} {f : Nat → Int × Int × Int} (h : Rw W g c lo hi f) {y m d : Value} :
    Rw (((W.setCell ⟨g, lo * 3, none⟩ y).setCell ⟨g, lo * 3 + 1, none⟩ m).setCell ⟨g, lo * 3 + 2, none⟩ d) g c (lo + 1) hi f := by
  obtain ⟨cur, b, s, t, r⟩ := h
  refine ⟨_, dput (dput (dput b _ _) _ _) _ _, by simp [s], t, fun i i1 i2 => ?_⟩
  have := r i (by omega) i2
  have n1 : lo * 3 ≠ i * 3 := by omega
  have n2 : lo * 3 + 1 ≠ i * 3 := by omega
  have n3 : lo * 3 + 2 ≠ i * 3 := by omega
  have n4 : lo * 3 ≠ i * 3 + 1 := by omega
  have n5 : lo * 3 + 1 ≠ i * 3 + 1 := by omega
  have n6 : lo * 3 + 2 ≠ i * 3 + 1 := by omega
  have n7 : lo * 3 ≠ i * 3 + 2 := by omega
  have n8 : lo * 3 + 1 ≠ i * 3 + 2 := by omega
  have n9 : lo * 3 + 2 ≠ i * 3 + 2 := by omega
  simp only [Array.getElem?_setIfInBounds_ne, n1, n2, n3, n4, n5, n6, n7, n8, n9, ne_eq, not_false_eq_true, this, and_self]
theorem Rw.skip {W : World} {g c lo hi b i : Nat} {f : Nat → Int × Int × Int} (h : Rw W g c lo hi f) (hb : b ≠ g) (v : Value) : Rw (W.setCell ⟨b, i, none⟩ v) g c lo hi f := by
  obtain ⟨cur, k, r⟩ := h
  exact ⟨cur, dskip k hb i v, r⟩
theorem bset {B : Nat} {x W : World} {n i j k : Nat} {a b c : Value} (h : Below B x W) (hn : B ≤ n) : Below B x (((W.setCell ⟨n, i, none⟩ a).setCell ⟨n, j, none⟩ b).setCell ⟨n, k, none⟩ c) :=
  ((h.setCell (p := ⟨n, i, none⟩) hn a).setCell (p := ⟨n, j, none⟩) hn b).setCell (p := ⟨n, k, none⟩) hn c
theorem Gl.bel {B : Nat} {w w' : World} (h : Gl w) (k : Below B w w') (hB : 0 < B) : Gl w' := fun i hi => (k.cell (p := ⟨0, i, none⟩) hB).trans (h i hi)
theorem Gl.at {w : World} (h : Gl w) : 0 < w.heap.size := lt_of_cell (h 0 (by omega))
theorem set3 {W : World} {g n i j k : Nat} {a b c : Value} {x : Array Value} {t : TypeId} (h : Blk W g x t) (hn : n ≠ g) : Blk (((W.setCell ⟨n, i, none⟩ a).setCell ⟨n, j, none⟩ b).setCell ⟨n, k, none⟩ c) g x t := dskip (dskip (dskip h hn _ _) hn _ _) hn _ _
theorem Rw.skip3 {W : World} {g cc lo hi n i j k : Nat} {f : Nat → Int × Int × Int} {a b c : Value} (h : Rw W g cc lo hi f) (hn : n ≠ g) : Rw (((W.setCell ⟨n, i, none⟩ a).setCell ⟨n, j, none⟩ b).setCell ⟨n, k, none⟩ c) g cc lo hi f := ((h.skip hn _).skip hn _).skip hn _
/-- make([]api.Date, n). -/
theorem wpList_make_dates {w : World} {ops : Array Oper} {rest : List Oper} {o : Oper} {a : Act} {Q : Exit → Act → World → Prop} (hg : o.guard = none) (l c : Operand) (hop : o.op = Op.makeSlice 24 l c)
    (n : Nat) (hl : a.eval l = .int .i64 (n : Int)) (hc : a.eval c = .int .i64 (n : Int)) (hn : n ≤ 4096)
    (hK : ∀ w', (∀ f, Rw w' w.heap.size n 0 0 f) → Below w.heap.size w w' → wpList Tryd.prog ops Q rest (a.put o.dst (.slice (some ⟨w.heap.size, 0, none⟩) n n)) w') : wpList Tryd.prog ops Q (o :: rest) a w := by
  obtain ⟨i, hi, hz0, hz1, hz2⟩ := info_parts (show (Tryd.prog.info? 23).map (fun i => (i.zero, i.size, i.bytes)) = some (some (.agg #[.int .i64 0, .int .i64 0, .int .i64 0]), 3, 24) by kernel_rfl)
  refine wpList_make_full w hg l c 24 hop w.heap.size 23 i _ 3 (by kernel_rfl) hi hz0 hz1 .i64 .i64 _ _ n hl hc rfl rfl (by rw [hz2]; omega) (by unfold maxLen; omega) (Nat.le_refl _) ?_
  intro w' own gr
  refine hK w' (fun f => ?_) ⟨gr.os, gr.tape, gr.output, gr.size, fun k hk => gr.block k hk (by simp)⟩
  obtain ⟨_, hr⟩ := own
  rcases hr with ⟨h1, _⟩ | ⟨g, cap, cur, h1, _, h2, h3, _, h4, _⟩
  · cases h1
  · simp only [Value.slice.injEq, Option.some.injEq, Addr.mk.injEq] at h1
    obtain ⟨⟨rfl, _⟩, _, rfl⟩ := h1
    exact ⟨cur, h2, h4, by omega, fun i _ hi => absurd hi (by omega)⟩
end Go.Proofs.YteepjipecfdkoaaDoor.Dy
