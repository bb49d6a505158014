import Derived.Test.YtemfndmffpalfaaDf7
import Derived.Laws.AppendOwn
import Derived.OwnWalk
namespace Go.Proofs.Ytemfndmffpalfaa.Df
open Go.RowKit Tn Go.Proofs.Ytemfndmffpalfaa.Ta

/-- The bits of a number that is none, as the tape has them. -/
def nw (x y : Nat) (W : World) : Nat := Question.cut (.nanBits .f64 x y) (W.tape W.drawn (.nanBits .f64 x y))
theorem nw_rg (b r : Nat) (hb : b = 0 ∨ b = 1) (hr : r < 4503599627370495) : 9218868437227405312 < (b * 9223372036854775808 + 9218868437227405312 + 1 + r) % 9223372036854775808 := by
  rcases hb with rfl | rfl <;> omega
set_option maxRecDepth 100000 in
theorem nw_nan (x y : Nat) (W : World) : nan64 (nw x y W) = true := by
  unfold nan64 rg64 nw
  rw [decide_eq_true_eq]
  generalize W.tape W.drawn (.nanBits .f64 x y) = T
  exact nw_rg (T % 2) (T / 2 % (2 ^ 52 - 1)) (by omega) (Nat.mod_lt _ (by decide))
set_option maxRecDepth 100000 in
theorem run_nan (op : BinOp) (hop : op = .mul ∨ op = .quo ∨ op = .sub) (t : TypeId) (x y : Nat) (h : floatBits op .f64 x y = none) (W : World) : (binOp op t (.float .f64 x) (.float .f64 y)).run Try.prog W = .ok (.float .f64 (nw x y W)) W.drew := by
  unfold nw
  generalize hq : Question.nanBits .f64 x y = q
  have hf : q.forced = false := by rw [← hq]; rfl
  rcases hop with rfl | rfl | rfl
  all_goals
    unfold floatBits at h
    simp only at h
    simp [binOp, Op.floatArith, h, hq]
    intro z
    rw [hf] at z
    cases z
/-- It is none: then what is made of it is none. -/
theorem nan_read {x : Nat} (h : nan64 x = true) : ∃ s f, Ieee.double.read x = .nan s f := by
  unfold nan64 at h
  rw [decide_eq_true_eq] at h
  refine ⟨ng64 x, rg64 x - 9218868437227405312, ?_⟩
  rw [read64, if_neg (by omega), if_neg (by omega), if_neg (by omega)]
theorem mul_nan {x y : Nat} (h : nan64 x = true ∨ nan64 y = true) : floatBits .mul .f64 x y = none := by
  unfold floatBits
  show Ieee.double.mul x y = none
  unfold Ieee.Format.mul
  rcases h with h | h
  · obtain ⟨s, f, e⟩ := nan_read h
    rw [e]
    simp [Ieee.Datum.product]
  · obtain ⟨s, f, e⟩ := nan_read h
    rw [e]
    cases Ieee.double.read x <;> simp [Ieee.Datum.product]
/-- What is told, and what is there: none tells that no number is there. -/
def Rep (o : Option Nat) (x : Nat) : Prop := o = some x ∨ (o = none ∧ nan64 x = true)
def mulO : Option Nat → Option Nat → Option Nat
  | some x, some y => floatBits .mul .f64 x y
  | _, _ => none
theorem Rep.mul_some {a b : Option Nat} {x y z : Nat} (ha : Rep a x) (hb : Rep b y) (h : floatBits .mul .f64 x y = some z) : Rep (mulO a b) z := by
  rcases ha with rfl | ⟨rfl, n⟩
  · rcases hb with rfl | ⟨rfl, n⟩
    · exact Or.inl h
    · rw [mul_nan (Or.inr n)] at h; cases h
  · rw [mul_nan (Or.inl n)] at h; cases h
theorem Rep.mul_none {a b : Option Nat} {x y z : Nat} (ha : Rep a x) (hb : Rep b y) (h : floatBits .mul .f64 x y = none) (hz : nan64 z = true) : Rep (mulO a b) z := by
  refine Or.inr ⟨?_, hz⟩
  rcases ha with rfl | ⟨rfl, _⟩
  · rcases hb with rfl | ⟨rfl, _⟩
    · exact h
    · rfl
  · cases b <;> rfl
/-- A year's part of one cause. -/
def qO (x : Int) : Option Nat := floatBits .quo .f64 (floatOfInt .f64 (10000000 - x)) 4711630319722168320
/-- What is left of one by the first i causes. -/
def pO (g : Nat → Int) : Nat → Option Nat
  | 0 => some 4607182418800017408
  | i + 1 => mulO (pO g i) (qO (g i))
/-- How many are there. -/
def lO (r : Nat) (xss : List (List Int)) (a : Nat) : Nat → Option Nat
  | 0 => some r
  | n + 1 => mulO (lO r xss a n) (pO (fun i => L.nth (xss.getD i []) (a + n)) xss.length)
theorem same_rep {o : Option Nat} {x y : Nat} (h : Rep o x) (k : Rep o y) : x = y ∨ (nan64 x = true ∧ nan64 y = true) := by
  rcases h with h | ⟨h, n⟩
  · rcases k with k | ⟨k, _⟩
    · rw [h] at k; injection k with k; exact Or.inl k
    · rw [h] at k; cases k
  · rcases k with k | ⟨_, m⟩
    · rw [h] at k; cases k
    · exact Or.inr ⟨n, m⟩
/-- A list of floats, as it reads. -/
def Fr (w : World) (v : Value) (n : Nat) (R : Nat → Nat → Prop) : Prop :=
  ∃ b cap, v = .slice (some ⟨b, 0, none⟩) n cap ∧ n ≤ cap ∧ cap ≤ maxLen ∧ ∀ i, i < n → ∃ x, w.cell? ⟨b, i, none⟩ = some (.float .f64 x) ∧ R i x
theorem Fr.grow {w w' : World} {v : Value} {n : Nat} {R : Nat → Nat → Prop} (h : Fr w v n R) (k : Below w.heap.size w w') : Fr w' v n R := by
  obtain ⟨b, cap, e, h1, h2, h3⟩ := h
  refine ⟨b, cap, e, h1, h2, fun i hi => ?_⟩
  obtain ⟨x, c, r⟩ := h3 i hi
  exact ⟨x, (k.cell (World.block_lt_of_cell? w _ c)).trans c, r⟩
/-- A list that the program makes: the first j of its n places are right. -/
def Fo (w : World) (b n j : Nat) (R : Nat → Nat → Prop) : Prop :=
  ∃ cur : Array Value, w.heap[b]? = some (.cells cur 25 (0, 0)) ∧ cur.size = n ∧ ∀ i, i < n → ∃ x, cur[i]? = some (.float .f64 x) ∧ (i < j → R i x)
theorem Fo.lt {w : World} {b n j : Nat} {R : Nat → Nat → Prop} (h : Fo w b n j R) : b < w.heap.size := by
  obtain ⟨cur, e, _⟩ := h
  exact Own.lt ⟨cur, _, e⟩
theorem Fo.grow {w w' : World} {b n j : Nat} {R : Nat → Nat → Prop} (h : Fo w b n j R) (k : Below w.heap.size w w') : Fo w' b n j R := by
  obtain ⟨cur, e, h1, h2⟩ := h
  exact ⟨cur, (k.block b (Own.lt ⟨cur, _, e⟩)).trans e, h1, h2⟩
theorem Fo.cell {w : World} {b n j : Nat} {R : Nat → Nat → Prop} (h : Fo w b n j R) {i : Nat} (h2 : i < n) : ∃ x, w.cell? ⟨b, i, none⟩ = some (.float .f64 x) ∧ w.frozen? ⟨b, i, none⟩ = false ∧ (i < j → R i x) := by
  obtain ⟨cur, e, _, h3⟩ := h
  obtain ⟨x, c, r⟩ := h3 i h2
  have K : Blk w b cur 25 := e
  exact ⟨x, (K.at i).trans c, K.free i, r⟩
theorem Fo.put {w : World} {b n j : Nat} {R : Nat → Nat → Prop} (h : Fo w b n j R) (x : Nat) (r : R j x) : Fo (w.setCell ⟨b, j, none⟩ (.float .f64 x)) b n (j + 1) R := by
  obtain ⟨cur, e, h1, h2⟩ := h
  refine ⟨cur.setIfInBounds j (.float .f64 x), by simp [World.setCell, Array.getElem?_modify, e], by simpa using h1, fun i hn => ?_⟩
  by_cases c : i = j
  · subst c
    exact ⟨x, by simp [h1, hn], fun _ => r⟩
  · obtain ⟨y, e1, e2⟩ := h2 i hn
    exact ⟨y, by simp [Ne.symm c, e1], fun l => e2 (by omega)⟩
theorem Fo.fr {w : World} {b n : Nat} {R : Nat → Nat → Prop} (h : Fo w b n n R) (hn : n ≤ maxLen) : Fr w (.slice (some ⟨b, 0, none⟩) n n) n R :=
  ⟨b, n, rfl, Nat.le_refl _, hn, fun _ hi => by obtain ⟨x, c, _, r⟩ := h.cell hi; exact ⟨x, c, r hi⟩⟩
theorem info_parts {P : Program} {t : TypeId} {z : Value} {s b : Nat} (h : (P.info? t).map (fun i => (i.zero, i.size, i.bytes)) = some (some z, s, b)) : ∃ i, P.info? t = some i ∧ i.zero = some z ∧ i.size = s ∧ i.bytes = b := by
  obtain ⟨i, h1, h2⟩ := Option.map_eq_some_iff.1 h
  simp only [Prod.mk.injEq] at h2
  exact ⟨i, h1, h2.1, h2.2.1, h2.2.2⟩
/-- make([]float64, n). -/
theorem wpList_make_floats {w : World} {ops : Array Oper} {rest : List Oper} {o : Oper} {a : Act} {Q : Exit → Act → World → Prop} (hg : o.guard = none) (l c : Operand) (hop : o.op = Op.makeSlice 26 l c)
    (n : Nat) (hl : a.eval l = .int .i64 (n : Int)) (hc : a.eval c = .int .i64 (n : Int)) (hn : n ≤ 4096)
    (hK : ∀ w', (∀ R, Fo w' w.heap.size n 0 R) → Below w.heap.size w w' → wpList Try.prog ops Q rest (a.put o.dst (.slice (some ⟨w.heap.size, 0, none⟩) n n)) w') : wpList Try.prog ops Q (o :: rest) a w := by
  obtain ⟨i, hi, hz0, hz1, hz2⟩ := info_parts (show (Try.prog.info? 25).map (fun i => (i.zero, i.size, i.bytes)) = some (some (.float .f64 0), 1, 8) by kernel_rfl)
  refine wpList_make_full w hg l c 26 hop w.heap.size 25 i _ 1 (by kernel_rfl) hi hz0 hz1 .i64 .i64 _ _ n hl hc rfl rfl (by rw [hz2]; omega) (by unfold maxLen; omega) (Nat.le_refl _) ?_
  intro w' own gr
  refine hK w' (fun f => ?_) ⟨gr.os, gr.tape, gr.output, gr.size, fun k hk => gr.block k hk (by simp)⟩
  obtain ⟨_, hr⟩ := own
  rcases hr with ⟨h1, _⟩ | ⟨g, cap, cur, h1, _, h2, h3, _, h4, h5⟩
  · cases h1
  · simp only [Value.slice.injEq, Option.some.injEq, Addr.mk.injEq] at h1
    obtain ⟨⟨rfl, _⟩, _, rfl⟩ := h1
    simp only [Nat.mul_one] at h5 h4
    have hc6 : (Value.float .f64 0).cells = #[Value.float .f64 0] := rfl
    rw [hc6, toList_madeCells_one] at h5
    refine ⟨cur, h2, by omega, fun i hi => ⟨0, ?_, fun l => absurd l (by omega)⟩⟩
    have := congrArg (fun l : List Value => l[i]?) h5
    simp only [List.getElem?_take, hi, if_true, List.getElem?_replicate] at this
    simpa using this
end Go.Proofs.Ytemfndmffpalfaa.Df
