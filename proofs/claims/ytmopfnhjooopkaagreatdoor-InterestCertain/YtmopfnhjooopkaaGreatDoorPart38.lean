import Derived.Test.YtmopfnhjooopkaaGreatDoorPart37
import Derived.Test.YtmopfnhjooopkaaGreatDoorPart31

namespace Go.Proofs.YtmopfnhjooopkaaGreatDoor.Mo
open Go.RowKit

theorem Rb.skipi {W : World} {n m : Nat} {a b c : Value} (h : Rb W n a b c) (ne : n ≠ m) (i : Nat) (v : Value) : Rb (W.setCell ⟨m, i, none⟩ v) n a b c := by
  obtain ⟨t, K⟩ := h.bk
  have h' : W.heap[n]? = some (.cells #[a, b, c] t (0, 0)) := K
  refine Rb.ofB (t := t) ?_
  show (W.setCell ⟨m, i, none⟩ v).heap[n]? = _
  simp [World.setCell, Array.getElem?_modify, h', Ne.symm ne]
/-- A row of payments: those up to i are laid, at the times 1 - off, 2 - off .. -/
def Py (x : World) (g N i : Nat) (off : Int) (am : Nat → Int) : Prop := ∃ cs : Array Value, Blk x g cs 195 ∧ cs.size = N * 4 ∧ (∀ (i : Nat) z, cs[i]? ≠ some (.int .u64 z)) ∧ ∀ j, j < i → cs[j * 4]? = some (.int .i64 (1 - off + (j : Int))) ∧ cs[j * 4 + 1]? = some (.bool false) ∧ ∃ a l c a' l' c', cs[j * 4 + 2]? = some (.slice a l c) ∧ cs[j * 4 + 3]? = some (.slice a' l' c') ∧ Nn x a l c (am (j + 1))
theorem Py.grow {x x' : World} {g N i : Nat} {off : Int} {am : Nat → Int} (h : Py x g N i off am) (b : Below x.heap.size x x') : Py x' g N i off am := by
  obtain ⟨cs, K, e, ni, fj⟩ := h
  refine ⟨cs, K.below b K.lt, e, ni, fun j hj => ?_⟩
  obtain ⟨h1, h2, a, l, c, a', l', c', h3, h4, n⟩ := fj j hj
  exact ⟨h1, h2, a, l, c, a', l', c', h3, h4, n.grow b⟩
theorem Nn.off64 {w : World} {a : Option Addr} {l c n : Nat} {N : Int} {cs : Array Value} {t : TypeId} (h : Nn w a l c N) (K : Blk w n cs t) (hc : ∀ (i : Nat) z, cs[i]? ≠ some (.int .u64 z)) : Off a l n := by
  obtain ⟨xs, ⟨h1, a', c', e, _, _, h5⟩, _, _⟩ := h
  obtain ⟨rfl, rfl, rfl⟩ : a = a' ∧ l = xs.length ∧ c = c' := by injection e with e1 e2 e3; exact ⟨e1, e2, e3⟩
  rintro b o l0 rfl rfl
  obtain ⟨b', o', e', cc⟩ := h5 l0
  obtain ⟨rfl, rfl⟩ : b = b' ∧ o = o' := by injection e' with e'; injection e' with e1 e2; exact ⟨e1, e2⟩
  have h0 := cc 0 l0
  rw [K.at] at h0
  exact hc _ _ h0
theorem ni_set {cs : Array Value} (h : ∀ (i : Nat) z, cs[i]? ≠ some (.int .u64 z)) (k : Nat) (v : Value) (hv : ∀ z, v ≠ .int .u64 z) : ∀ (i : Nat) z, (cs.setIfInBounds k v)[i]? ≠ some (.int .u64 z) := fun i z => by
  rw [Array.getElem?_setIfInBounds]
  split
  · split
    · intro e; exact hv z (Option.some.inj e)
    · simp
  · exact h i z
theorem Py.push {x : World} {g N k : Nat} {off : Int} {am : Nat → Int} {a a' : Option Addr} {l c l' c' : Nat} (h : Py x g N k off am) (n : Nn x a l c (am (k + 1))) (hk : k < N) : Py ((((x.setCell ⟨g, k * 4, none⟩ (.int .i64 (1 - off + (k : Int)))).setCell ⟨g, k * 4 + 1, none⟩ (.bool false)).setCell ⟨g, k * 4 + 2, none⟩ (.slice a l c)).setCell ⟨g, k * 4 + 3, none⟩ (.slice a' l' c')) g N (k + 1) off am := by
  obtain ⟨cs, K, e, ni, fj⟩ := h
  have m1 := ni_set ni (k * 4) (.int .i64 (1 - off + (k : Int))) (fun z e => by cases e)
  have m2 := ni_set m1 (k * 4 + 1) (.bool false) (fun z e => by cases e)
  have m3 := ni_set m2 (k * 4 + 2) (.slice a l c) (fun z e => by cases e)
  have m4 := ni_set m3 (k * 4 + 3) (.slice a' l' c') (fun z e => by cases e)
  have keep : ∀ {b : Option Addr} {p q : Nat} {V : Int}, Nn x b p q V → Nn ((((x.setCell ⟨g, k * 4, none⟩ (.int .i64 (1 - off + (k : Int)))).setCell ⟨g, k * 4 + 1, none⟩ (.bool false)).setCell ⟨g, k * 4 + 2, none⟩ (.slice a l c)).setCell ⟨g, k * 4 + 3, none⟩ (.slice a' l' c')) b p q V := fun h => by
    have o := h.off64 K ni
    exact (((h.set o _ _).set o _ _).set o _ _).set o _ _
  refine ⟨_, bput (bput (bput (bput K (k * 4) _) (k * 4 + 1) _) (k * 4 + 2) _) (k * 4 + 3) _, by simp [e], m4, fun j hj => ?_⟩
  by_cases z : j = k
  · subst z
    refine ⟨?_, ?_, a, l, c, a', l', c', ?_, ?_, keep n⟩ <;> simp [Array.getElem?_setIfInBounds, e] <;> omega
  · obtain ⟨h1, h2, b, p, q, b', p', q', h3, h4, nn⟩ := fj j (by omega)
    refine ⟨?_, ?_, b, p, q, b', p', q', ?_, ?_, keep nn⟩
    · rw [Array.getElem?_setIfInBounds, if_neg (by omega), Array.getElem?_setIfInBounds, if_neg (by omega), Array.getElem?_setIfInBounds, if_neg (by omega), Array.getElem?_setIfInBounds, if_neg (by omega)]; exact h1
    · rw [Array.getElem?_setIfInBounds, if_neg (by omega), Array.getElem?_setIfInBounds, if_neg (by omega), Array.getElem?_setIfInBounds, if_neg (by omega), Array.getElem?_setIfInBounds, if_neg (by omega)]; exact h2
    · rw [Array.getElem?_setIfInBounds, if_neg (by omega), Array.getElem?_setIfInBounds, if_neg (by omega), Array.getElem?_setIfInBounds, if_neg (by omega), Array.getElem?_setIfInBounds, if_neg (by omega)]; exact h3
    · rw [Array.getElem?_setIfInBounds, if_neg (by omega), Array.getElem?_setIfInBounds, if_neg (by omega), Array.getElem?_setIfInBounds, if_neg (by omega), Array.getElem?_setIfInBounds, if_neg (by omega)]; exact h4
/-- make([]payment, n). -/
theorem make_pays {w : World} {ops : Array Oper} {rest : List Oper} {o : Oper} {a : Act} {Q : Exit → Act → World → Prop} (hg : o.guard = none) (l c : Operand) (hop : o.op = Op.makeSlice 193 l c)
    (n : Nat) (hl : a.eval l = .int .i64 (n : Int)) (hc : a.eval c = .int .i64 (n : Int)) (hn : n ≤ 4096)
    (hK : ∀ cs : Array Value, cs.size = n * 4 → (∀ (i : Nat) z, cs[i]? ≠ some (.int .u64 z)) → (∀ i, i < n * 4 → ∃ v, cs[i]? = some v) → wpList Tryz.prog ops Q rest (a.put o.dst (.slice (some ⟨w.heap.size, 0, none⟩) n n)) (w.alloc (.cells cs 195))) : wpList Tryz.prog ops Q (o :: rest) a w := by
  obtain ⟨i, hi, hz0, hz1, hz2⟩ := Wt.info_parts (show (Tryz.prog.info? 195).map (fun i => (i.zero, i.size, i.bytes)) = some (some (.agg #[.int .i64 0, .bool false, .slice none 0 0, .slice none 0 0]), 4, 64) by kernel_rfl)
  refine wpList_plain hg fun K hK' => ?_
  have hr := run_make (P := Tryz.prog) w 193 195 i _ (by kernel_rfl) hi hz0 .i64 .i64 n n (by omega) (Int.le_refl _) (by rw [hz2]; omega) (by omega)
  rw [hz1] at hr
  simp only [Int.toNat_natCast] at hr
  unfold Oper.wp
  simp [execOp, hop, hl, hc, hr, Result.andThen]
  refine hK' _ _ (hK _ (by simp [size_madeCells]) ?_ ?_)
  · intro i z e
    rw [Array.getElem?_eq_some_iff] at e
    obtain ⟨hi, e⟩ := e
    simp [madeCells, Value.cells] at e
    have m := Nat.mod_lt i (show 0 < 4 by decide)
    rcases (show i % 4 = 0 ∨ i % 4 = 1 ∨ i % 4 = 2 ∨ i % 4 = 3 by omega) with h | h | h | h <;> rw [h] at e <;> cases e
  · intro i hi
    exact ⟨_, Array.getElem?_eq_getElem (by simp [size_madeCells]; omega)⟩
end Go.Proofs.YtmopfnhjooopkaaGreatDoor.Mo
