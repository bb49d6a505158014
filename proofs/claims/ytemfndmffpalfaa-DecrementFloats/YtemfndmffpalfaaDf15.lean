import Derived.Test.YtemfndmffpalfaaDf14
import Derived.Test.YtemfndmffpalfaaTb12
namespace Go.Proofs.Ytemfndmffpalfaa.Df
open Go.ChangeShapes Go.WideShapes Go.ChangeAt Go.RowKit Go.Joins Go.Deep Go.Proofs.Ytemfndmffpalfaa.Ta
open Go.Proofs.Ytemfndmffpalfaa.Mo (Ri)

theorem causes_of_trod {H : Type} {enc : TypeId × Value → H} {W : World} {fuel : Nat} {v0 v1 : Value} {x : DataW H × List MemPlace} (h : DataW.trod enc Try.prog W 0 (fun _ => true) true fuel 24 [v0, v1] = some x)
    (hz : ∀ n ∈ x.1.weights Try.prog 24, n ≤ reachBytes) :
    ∃ f az cs sel, v0 = .int .i64 f ∧ v1 = .slice az sel.length cs ∧ (Lit.int .i64 f).wf = true ∧ Rr W v1 sel := by
  obtain ⟨y0, y1, n, hx, _, t0, t1⟩ := trod_struct2 Try.underlying24 h
  subst hx
  simp only [cInt] at t0
  simp only [cRows] at t1
  simp at t0 t1
  simp only [DataW.weights, Try.underlying24] at hz
  have g : ∀ (j : Nat) t d, ([3, 22] : List TypeId)[j]? = some t → [y0.1, y1.1][j]? = some d → ∀ m ∈ d.weights Try.prog t, m ≤ reachBytes :=
    fun j t d a b m hm => hz m (DataW.weights_mem_each a b m hm)
  obtain ⟨f, e0, _, wf⟩ := DataW.trod_int Try.underlying3 t0
  simp at e0
  have hsel : ∃ sel az cs, v1 = .slice az sel.length cs ∧ Rr W v1 sel := by
    rcases open_int_rows Try.underlying22 Try.underlying38 Try.underlying3 cRow cInt t1 with ⟨hcs, _⟩ | ⟨a, len, cap, A, L, C, Z, hcs, _, hl, hm, hx, hrows⟩
    · simp at hcs
      subst hcs
      exact ⟨[], none, 0, rfl, by simp, none, 0, rfl, fun h => by simp at h⟩
    · simp at hcs
      subst hcs
      have sz := g 1 22 y1.1 rfl rfl
      rw [hx] at sz
      simp only [DataW.weights, Try.underlying22, bRow] at sz
      have sz' := sz _ (List.mem_cons_self ..)
      simp only [List.length_map, List.length_range, reachBytes] at sz'
      have ln : ((List.range len).map fun r => (Z r).take (L r)).length = len := by simp
      refine ⟨(List.range len).map fun r => (Z r).take (L r), some a, cap, by rw [ln], by rw [ln]; omega, some a, cap, by rw [ln], fun h0 => ?_⟩
      rw [ln] at h0
      obtain ⟨b, o, q⟩ := a
      have hq : q = none := by simpa [Addr.add] using World.cell?_spot (hrows 0 (by omega)).1
      subst hq
      refine ⟨b, o, rfl, fun d hd => ?_⟩
      rw [ln] at hd
      obtain ⟨e1, e2, e3, e4, e5, e6, e7⟩ := hrows d (by omega)
      rw [add_plain] at e1
      have ed : ((List.range len).map fun r => (Z r).take (L r)).getD d [] = (Z d).take (L d) := by simp [List.getD_eq_getElem?_getD, hd]
      refine ⟨_, e1, ?_⟩
      rw [ed]
      cases hA : A d with
      | none =>
        have c0 := e6 hA
        have l0 : L d = 0 := by omega
        rw [c0, l0, List.take_zero]
        exact rx_nil W
      | some a' =>
        have wd := sz (C d * 8) (by
          refine List.mem_cons_of_mem _ (List.mem_append_left _ (weights_all (List.mem_map.2 ⟨d, List.mem_range.2 hd, rfl⟩) _ ?_))
          rw [hA]
          simp only [intRow, DataW.weights, Try.underlying38, bInt, lits, List.length_map, List.length_take, List.length_drop]
          refine List.mem_cons.2 (Or.inl ?_)
          congr 1
          omega)
        simp only [reachBytes] at wd
        exact rx_of e2 e3 e4 (fun i hi => (e7 a' hA).2 i (by omega)) e5 (by omega)
  obtain ⟨sel, az, cs, e3, r3⟩ := hsel
  exact ⟨f, az, cs, sel, e0, e3, wf, r3⟩
end Go.Proofs.Ytemfndmffpalfaa.Df
