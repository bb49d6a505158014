import Derived.Test.YtiaeoknmgidehaaGreatDoorPart02
import Derived.ProofKit
import Derived.SizedLaws
import Derived.OpenShut
import Derived.Below
import Derived.Lib.SmallJoins
import Derived.Deep.Matrix

namespace Go.Proofs.YtiaeoknmgidehaaGreatDoor.Ta
open Go.ChangeShapes Go.WideShapes Go.ChangeAt Go.RowKit Go.Joins Go.Deep
open Go.Proofs.YtiaeoknmgidehaaGreatDoor.Mo (Ri)

theorem cInt : Tryz.prog.cellsOf 3 = 1 := by kernel_rfl
theorem bInt : Tryz.prog.bytesOf 3 = 8 := by kernel_rfl
theorem cRow : Tryz.prog.cellsOf 41 = 1 := by kernel_rfl
theorem bRow : Tryz.prog.bytesOf 41 = 24 := by kernel_rfl
theorem cTab : Tryz.prog.cellsOf 44 = 4 := by kernel_rfl
theorem cStr : Tryz.prog.cellsOf 9 = 1 := by kernel_rfl
theorem cRows : Tryz.prog.cellsOf 42 = 1 := by kernel_rfl
theorem nth_wf {zs : List Int} (hw : ∀ n ∈ zs, (Lit.int .i64 n).wf = true) (i : Nat) : -9223372036854775808 ≤ L.nth zs i ∧ L.nth zs i ≤ 9223372036854775807 := by
  by_cases h : i < zs.length
  · have e : L.nth zs i = zs[i] := by simp [L.nth, List.getD_eq_getElem?_getD, List.getElem?_eq_getElem h]
    rw [e]
    have := hw _ (List.getElem_mem h)
    have h1 : IntKind.i64.min = -9223372036854775808 := rfl
    have h2 : IntKind.i64.max = 9223372036854775807 := rfl
    simp only [Lit.wf, Bool.and_eq_true, decide_eq_true_eq] at this
    omega
  · have e : L.nth zs i = 0 := by simp [L.nth, List.getD_eq_getElem?_getD, List.getElem?_eq_none (Nat.le_of_not_lt h)]
    rw [e]; decide
theorem rx_of {w : World} {a : Addr} {len cap : Nat} {zs : List Int} (hl : len ≤ cap) (hm : cap ≤ maxLen) (hz : zs.length = cap) (hc : ∀ i, i < zs.length → w.cell? (a.add i) = some (.int .i64 (zs.getD i 0))) (hw : ∀ n ∈ zs, (Lit.int .i64 n).wf = true) (hs : cap * 8 ≤ 140737488351232) : Rx w (.slice (some a) len cap) (zs.take len) := by
  have el : (zs.take len).length = len := by rw [List.length_take]; omega
  refine ⟨⟨nth_wf (fun n hn => hw n (List.mem_of_mem_take hn)), some a, cap, by rw [el], by omega, hm, fun h => ?_⟩, ⟨some a, cap, by rw [el], fun e => by cases e⟩, by omega⟩
  obtain ⟨b, o, rfl, hc'⟩ := ints_at hc (by omega)
  refine ⟨b, o, rfl, fun i hi => ?_⟩
  rw [el] at hi
  rw [L.nth_take _ _ _ hi]
  exact hc' i (by omega)
theorem rx_nil (w : World) : Rx w (.slice none 0 0) [] := ⟨⟨by simp [L.nth], none, 0, rfl, Nat.le_refl _, by decide, fun h => by simp at h⟩, ⟨none, 0, rfl, fun _ => rfl⟩, by simp⟩
theorem weights_all {H : Type} {P : Program} {e : TypeId} : ∀ {l : List (DataW H)} {d : DataW H}, d ∈ l → ∀ n ∈ d.weights P e, n ∈ DataW.weightsAll P e l
  | x :: r, d, hd, n, hn => by
    unfold DataW.weightsAll
    rw [List.mem_append]
    rcases List.mem_cons.1 hd with rfl | h
    · exact Or.inl hn
    · exact Or.inr (weights_all h n hn)
/-- A table that was handed in, as it reads. -/
theorem tab_of_trod {H : Type} {enc : TypeId × Value → H} {W : World} {fuel : Nat} {v0 v1 v2 v3 : Value} {x : DataW H × List MemPlace} (h : DataW.trod enc Tryz.prog W 0 (fun _ => true) true fuel 44 [v0, v1, v2, v3] = some x)
    (hz : ∀ n ∈ x.1.weights Tryz.prog 44, n ≤ reachBytes) :
    ∃ s f ar cr rs az cs sel, v0 = .string s ∧ v1 = .int .i64 f ∧ v2 = .slice ar rs.length cr ∧ v3 = .slice az sel.length cs ∧ s.size ≤ 140737488351232 ∧ (Lit.int .i64 f).wf = true ∧ Rx W v2 rs ∧ Rr W v3 sel := by
  obtain ⟨y0, y1, y2, y3, n, rfl, _, t0, t1, t2, t3⟩ := trod_struct4 Tryz.underlying44 h
  simp only [cStr] at t0
  simp only [cInt] at t1
  simp only [cRow] at t2
  simp only [cRows] at t3
  simp at t0 t1 t2 t3
  simp only [DataW.weights, Tryz.underlying44] at hz
  have g : ∀ (j : Nat) t d, ([9, 3, 41, 42] : List TypeId)[j]? = some t → [y0.1, y1.1, y2.1, y3.1][j]? = some d → ∀ m ∈ d.weights Tryz.prog t, m ≤ reachBytes :=
    fun j t d a b m hm => hz m (DataW.weights_mem_each a b m hm)
  obtain ⟨s, e0, rfl, _⟩ := DataW.trod_string Tryz.underlying9 t0
  obtain ⟨f, e1, rfl, wf⟩ := DataW.trod_int Tryz.underlying3 t1
  simp at e0 e1
  have hs : s.size ≤ 140737488351232 := by
    have := g 0 9 (.lit (.string s.data.toList)) rfl rfl (s.data.toList.length) (by simp [DataW.weights])
    simpa [reachBytes] using this
  have hr : ∃ rs ar cr, v2 = .slice ar rs.length cr ∧ Rx W v2 rs := by
    rcases open_ints Tryz.underlying41 Tryz.underlying3 cInt t2 with ⟨hcs, _⟩ | ⟨a, len, cap, zs, hcs, _, hl, hm, hz', hx, hcell, hwz⟩
    · simp at hcs
      subst hcs
      exact ⟨[], none, 0, rfl, rx_nil W⟩
    · simp at hcs
      subst hcs
      have zl : zs.length = cap := by simpa using hz'
      have sz := g 2 41 y2.1 rfl rfl
      rw [hx] at sz
      simp only [DataW.weights, Tryz.underlying41, bInt] at sz
      have sz' := sz _ (List.mem_cons_self ..)
      simp only [lits, List.length_map, List.length_take, List.length_drop, reachBytes] at sz'
      exact ⟨zs.take len, some a, cap, by rw [List.length_take, Nat.min_eq_left (by omega)], rx_of hl hm zl hcell hwz (by omega)⟩
  have hsel : ∃ sel az cs, v3 = .slice az sel.length cs ∧ Rr W v3 sel := by
    rcases open_int_rows Tryz.underlying42 Tryz.underlying41 Tryz.underlying3 cRow cInt t3 with ⟨hcs, _⟩ | ⟨a, len, cap, A, L, C, Z, hcs, _, hl, hm, hx, hrows⟩
    · simp at hcs
      subst hcs
      exact ⟨[], none, 0, rfl, by simp, none, 0, rfl, fun h => by simp at h⟩
    · simp at hcs
      subst hcs
      have sz := g 3 42 y3.1 rfl rfl
      rw [hx] at sz
      simp only [DataW.weights, Tryz.underlying42, bRow] at sz
      have sz' := sz _ (List.mem_cons_self ..)
      simp only [List.length_map, List.length_range, reachBytes] at sz'
      have ln : ((List.range len).map fun r => (Z r).take (L r)).length = len := by simp
      refine ⟨(List.range len).map fun r => (Z r).take (L r), some a, cap, by rw [ln], by rw [ln]; omega, some a, cap, by rw [ln], fun h0 => ?_⟩
      rw [ln] at h0
      obtain ⟨b, o, q⟩ := a
      have hq : q = none := by simpa [Addr.add] using World.cell?_spot (hrows 0 (by omega)).1
      subst hq
      refine ⟨b, o, rfl, fun d hd => ?_⟩
      rw [ln] at hd
      obtain ⟨e1, e2, e3, e4, e5, e6, e7⟩ := hrows d (by omega)
      rw [add_plain] at e1
      have ed : ((List.range len).map fun r => (Z r).take (L r)).getD d [] = (Z d).take (L d) := by simp [List.getD_eq_getElem?_getD, hd]
      refine ⟨_, e1, ?_⟩
      rw [ed]
      cases hA : A d with
      | none =>
        have c0 := e6 hA
        have l0 : L d = 0 := by omega
        rw [c0, l0, List.take_zero]
        exact rx_nil W
      | some a' =>
        have wd := sz (C d * 8) (by
          refine List.mem_cons_of_mem _ (List.mem_append_left _ (weights_all (List.mem_map.2 ⟨d, List.mem_range.2 hd, rfl⟩) _ ?_))
          rw [hA]
          simp only [intRow, DataW.weights, Tryz.underlying41, bInt, lits, List.length_map, List.length_take, List.length_drop]
          refine List.mem_cons.2 (Or.inl ?_)
          congr 1
          omega)
        simp only [reachBytes] at wd
        exact rx_of e2 e3 e4 (fun i hi => (e7 a' hA).2 i (by omega)) e5 (by omega)
  obtain ⟨rs, ar, cr, e2, r2⟩ := hr
  obtain ⟨sel, az, cs, e3, r3⟩ := hsel
  exact ⟨s, f, ar, cr, rs, az, cs, sel, e0, e1, e2, e3, hs, wf, r2, r3⟩
end Go.Proofs.YtiaeoknmgidehaaGreatDoor.Ta
