import Derived.Test.YtemfndmffpalfaaTb3
import Derived.ProofKit
import Derived.SizedLaws
import Derived.OpenShut
import Derived.Below
import Derived.Lib.SmallJoins
import Derived.Deep.Matrix
namespace Go.Proofs.Ytemfndmffpalfaa.Ta
open Go.ChangeShapes Go.WideShapes Go.ChangeAt Go.RowKit Go.Joins Go.Deep
open Go.Proofs.Ytemfndmffpalfaa.Mo (Ri)

theorem cInt : Try.prog.cellsOf 3 = 1 := by kernel_rfl
theorem bInt : Try.prog.bytesOf 3 = 8 := by kernel_rfl
theorem cRow : Try.prog.cellsOf 38 = 1 := by kernel_rfl
theorem bRow : Try.prog.bytesOf 38 = 24 := by kernel_rfl
theorem cStr : Try.prog.cellsOf 9 = 1 := by kernel_rfl
theorem cRows : Try.prog.cellsOf 22 = 1 := by kernel_rfl
theorem nth_wf {zs : List Int} (hw : ∀ n ∈ zs, (Lit.int .i64 n).wf = true) (i : Nat) : -9223372036854775808 ≤ L.nth zs i ∧ L.nth zs i ≤ 9223372036854775807 := by
  by_cases h : i < zs.length
  · have e : L.nth zs i = zs[i] := by simp [L.nth, List.getD_eq_getElem?_getD, List.getElem?_eq_getElem h]
    rw [e]
    have := hw _ (List.getElem_mem h)
    have h1 : IntKind.i64.min = -9223372036854775808 := rfl
    have h2 : IntKind.i64.max = 9223372036854775807 := rfl
    simp only [Lit.wf, Bool.and_eq_true, decide_eq_true_eq] at this
    omega
  · have e : L.nth zs i = 0 := by simp [L.nth, List.getD_eq_getElem?_getD, List.getElem?_eq_none (Nat.le_of_not_lt h)]
    rw [e]; decide
theorem rx_of {w : World} {a : Addr} {len cap : Nat} {zs : List Int} (hl : len ≤ cap) (hm : cap ≤ maxLen) (hz : zs.length = cap) (hc : ∀ i, i < zs.length → w.cell? (a.add i) = some (.int .i64 (zs.getD i 0))) (hw : ∀ n ∈ zs, (Lit.int .i64 n).wf = true) (hs : cap * 8 ≤ 140737488351232) : Rx w (.slice (some a) len cap) (zs.take len) := by
  have el : (zs.take len).length = len := by rw [List.length_take]; omega
  refine ⟨⟨nth_wf (fun n hn => hw n (List.mem_of_mem_take hn)), some a, cap, by rw [el], by omega, hm, fun h => ?_⟩, ⟨some a, cap, by rw [el], fun e => by cases e⟩, by omega⟩
  obtain ⟨b, o, rfl, hc'⟩ := ints_at hc (by omega)
  refine ⟨b, o, rfl, fun i hi => ?_⟩
  rw [el] at hi
  rw [L.nth_take _ _ _ hi]
  exact hc' i (by omega)
theorem rx_nil (w : World) : Rx w (.slice none 0 0) [] := ⟨⟨by simp [L.nth], none, 0, rfl, Nat.le_refl _, by decide, fun h => by simp at h⟩, ⟨none, 0, rfl, fun _ => rfl⟩, by simp⟩
theorem weights_all {H : Type} {P : Program} {e : TypeId} : ∀ {l : List (DataW H)} {d : DataW H}, d ∈ l → ∀ n ∈ d.weights P e, n ∈ DataW.weightsAll P e l
  | x :: r, d, hd, n, hn => by
    unfold DataW.weightsAll
    rw [List.mem_append]
    rcases List.mem_cons.1 hd with rfl | h
    · exact Or.inl hn
    · exact Or.inr (weights_all h n hn)
end Go.Proofs.Ytemfndmffpalfaa.Ta
