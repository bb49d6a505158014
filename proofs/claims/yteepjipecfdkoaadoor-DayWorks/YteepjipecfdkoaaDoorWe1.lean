import Derived.Test.YteepjipecfdkoaaDoorDd3
import Derived.Sort.OwnSortedInts
namespace Go.Proofs.YteepjipecfdkoaaDoor.Dy
open Go.RowKit Tn

/-- The number of the i-th free day. -/
def nf (f : Nat → Int × Int × Int) (i : Nat) : Int := num (f i).1 (f i).2.1 (f i).2.2
def gf (f : Nat → Int × Int × Int) (i : Nat) : Bool := good (f i).1 (f i).2.1 (f i).2.2
def nl (f : Nat → Int × Int × Int) (n : Nat) : List Int := (List.range n).map (nf f)
def hit (f : Nat → Int × Int × Int) (n : Nat) (x : Int) : Bool := (nl f n).contains x
theorem hit_iff {f : Nat → Int × Int × Int} {n : Nat} {x : Int} : hit f n x = true ↔ ∃ i, i < n ∧ nf f i = x := by
  simp [hit, nl, List.mem_map, List.mem_range]
theorem hit_no {f : Nat → Int × Int × Int} {n : Nat} {x : Int} (h : ∀ i, i < n → nf f i ≠ x) : hit f n x = false := by
  cases c : hit f n x
  · rfl
  · obtain ⟨i, h1, h2⟩ := hit_iff.1 c
    exact absurd h2 (h i h1)
/-- A working day. -/
def wk (f : Nat → Int × Int × Int) (n : Nat) (x : Int) : Bool := decide ((x - 1) % 7 + 1 < 6) && !hit f n x
def sk (s : Int) (f : Nat → Int × Int × Int) (n : Nat) : Nat → Int → Int
  | 0, x => x
  | k + 1, x => if nr x && !wk f n x then sk s f n k (x + s) else x
theorem sk_stop {s : Int} {f : Nat → Int × Int × Int} {n K : Nat} {x : Int} (h : (nr x && !wk f n x) = false) : sk s f n K x = x := by
  cases K with
  | zero => rfl
  | succ k => rw [sk, h]; rfl
theorem sk_go {s : Int} {f : Nat → Int × Int × Int} {n K : Nat} {x : Int} (h : (nr x && !wk f n x) = true) : sk s f n (K + 1) x = sk s f n K (x + s) := by
  rw [sk, h]; rfl
/-- The first working day from x on, or the first number beyond the calendar. -/
def fi (s : Int) (f : Nat → Int × Int × Int) (n : Nat) (x : Int) : Int := sk s f n 3652060 x
/-- On the way to it. -/
def Wy (s : Int) (f : Nat → Int × Int × Int) (n : Nat) (x0 x : Int) (K : Nat) : Prop := fi s f n x0 = sk s f n K x ∧ 0 ≤ x ∧ x ≤ 3652060 ∧ (s = 1 ∧ 3652060 ≤ x + K ∨ s = -1 ∧ x ≤ K)
theorem Wy.new {s : Int} {f : Nat → Int × Int × Int} {n : Nat} {x : Int} (hs : s = 1 ∨ s = -1) (h : 1 ≤ x) (h' : x ≤ 3652059) : Wy s f n x x 3652060 :=
  ⟨rfl, by omega, by omega, by omega⟩
theorem Wy.pos {s : Int} {f : Nat → Int × Int × Int} {n K : Nat} {x0 x : Int} (h : Wy s f n x0 x K) (c : nr x = true) : ∃ k, K = k + 1 := by
  obtain ⟨_, _, _, h⟩ := h
  have := nr_iff.1 c
  exact ⟨K - 1, by omega⟩
theorem Wy.go {s : Int} {f : Nat → Int × Int × Int} {n k : Nat} {x0 x : Int} (h : Wy s f n x0 x (k + 1)) (c : nr x = true) (d : wk f n x = false) : Wy s f n x0 (x + s) k := by
  obtain ⟨h1, h2, h3, h4⟩ := h
  have := nr_iff.1 c
  exact ⟨h1.trans (sk_go (by simp [c, d])), by omega, by omega, by omega⟩
theorem Wy.stop {s : Int} {f : Nat → Int × Int × Int} {n K : Nat} {x0 x : Int} (h : Wy s f n x0 x K) (c : (nr x && !wk f n x) = false) : x = fi s f n x0 := (h.1.trans (sk_stop c)).symm
/-- What is wrong with the free days. -/
def ag (f : Nat → Int × Int × Int) (n : Nat) : Bool := (List.range n).all (gf f)
def fe (f : Nat → Int × Int × Int) (n : Nat) : Int := if n ≤ 4096 then (if ag f n then 0 else 70) else 3
theorem ag_iff {f : Nat → Int × Int × Int} {n : Nat} : ag f n = true ↔ ∀ i, i < n → gf f i = true := by simp [ag]
theorem ag_no {f : Nat → Int × Int × Int} {n i : Nat} (h : i < n) (g : gf f i = false) : ag f n = false := by
  cases c : ag f n
  · rfl
  · have := ag_iff.1 c i h
    rw [g] at this; cases this
/-- A slice of dates, as it reads. -/
def Rs (W : World) (v : Value) (n : Nat) (f : Nat → Int × Int × Int) : Prop :=
  ∃ ao c, v = .slice ao n c ∧ (0 < n → ∃ b o, ao = some ⟨b, o, none⟩ ∧ ∀ i, i < n → W.cell? ⟨b, o + i * 3, none⟩ = some (.int .i64 (f i).1) ∧ W.cell? ⟨b, o + i * 3 + 1, none⟩ = some (.int .i64 (f i).2.1) ∧ W.cell? ⟨b, o + i * 3 + 2, none⟩ = some (.int .i64 (f i).2.2))
theorem Rs.grow {W W' : World} {v : Value} {n : Nat} {f : Nat → Int × Int × Int} (h : Rs W v n f) (k : Below W.heap.size W W') : Rs W' v n f := by
  obtain ⟨ao, c, rfl, h⟩ := h
  refine ⟨ao, c, rfl, fun l => ?_⟩
  obtain ⟨b, o, rfl, h'⟩ := h l
  refine ⟨b, o, rfl, fun i hi => ?_⟩
  obtain ⟨h1, h2, h3⟩ := h' i hi
  exact ⟨(k.cell (lt_of_cell h1)).trans h1, (k.cell (lt_of_cell h2)).trans h2, (k.cell (lt_of_cell h3)).trans h3⟩
theorem Rs.alloc {W : World} {v : Value} {n : Nat} {f : Nat → Int × Int × Int} (h : Rs W v n f) (o : Obj) : Rs (W.alloc o) v n f := h.grow ((Below.refl _ _).alloc (Nat.le_refl _) o)
/-- A slice of sorted numbers. -/
def So (W : World) (v : Value) (L : List Int) : Prop :=
  ∃ a c, v = .slice a L.length c ∧ (0 < L.length → ∃ g, a = some ⟨g, 0, none⟩ ∧ ∀ i, i < L.length → W.cell? ⟨g, i, none⟩ = some (.int .i64 (L.getD i 0)))
theorem So.grow {W W' : World} {v : Value} {L : List Int} (h : So W v L) (k : Below W.heap.size W W') : So W' v L := by
  obtain ⟨ao, c, rfl, h⟩ := h
  refine ⟨ao, c, rfl, fun l => ?_⟩
  obtain ⟨g, rfl, h'⟩ := h l
  exact ⟨g, rfl, fun i hi => (k.cell (lt_of_cell (h' i hi))).trans (h' i hi)⟩
theorem So.alloc {W : World} {v : Value} {L : List Int} (h : So W v L) (o : Obj) : So (W.alloc o) v L := h.grow ((Below.refl _ _).alloc (Nat.le_refl _) o)
def sl (f : Nat → Int × Int × Int) (n : Nat) : List Int := (nl f n).mergeSort fun x y => decide (x ≤ y)
theorem sl_sorted (f : Nat → Int × Int × Int) (n : Nat) : (sl f n).Pairwise (· ≤ ·) := by
  have := List.pairwise_mergeSort (le := fun x y : Int => decide (x ≤ y)) (by intro a b c h1 h2; simp at *; omega) (by intro a b; simp; omega) (nl f n)
  exact this.imp (by intro a b h; simpa using h)
theorem sl_len (f : Nat → Int × Int × Int) (n : Nat) : (sl f n).length = n := by simp [sl, nl]
theorem nl_len (f : Nat → Int × Int × Int) (n : Nat) : (nl f n).length = n := by simp [nl]
theorem sl_has (f : Nat → Int × Int × Int) (n : Nat) (x : Int) : (sl f n).contains x = hit f n x := by
  rw [Bool.eq_iff_iff]
  simp [sl, hit, List.mem_mergeSort]
theorem nl_get {f : Nat → Int × Int × Int} {n i : Nat} (h : i < n) : (nl f n).getD i 0 = nf f i := by
  simp [nl, List.getD_eq_getElem?_getD, List.getElem?_map, List.getElem?_range h]
theorem blD {w : World} (q : Nat) : Below w.heap.size w (w.drewN q) := ⟨rfl, rfl, rfl, Nat.le_refl _, fun _ _ => rfl⟩
end Go.Proofs.YteepjipecfdkoaaDoor.Dy
