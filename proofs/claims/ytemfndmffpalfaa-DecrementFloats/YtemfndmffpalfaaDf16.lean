/- DecrementFloats, for every input: how many are there in so many years, in floats, is the document's answer bit by bit, for any causes, age and radix; where one is no number, so is the other; no condition. -/
import Derived.Test.YtemfndmffpalfaaRows
import Derived.Test.YtemfndmffpalfaaDf15
import Derived.ChangeOld
namespace Go.Proofs.Ytemfndmffpalfaa
open Go.ChangeShapes Go.WideShapes Go.ChangeAt Go.RowKit Go.Joins

theorem decrementFloatsOwn : ownKnob Try.prog.godebug = none := by kernel_rfl
theorem decrementFloatsLaid : laidOutB Try.prog = true := by kernel_rfl
theorem decrementFloatsCells : Try.prog.cellsOf 24 = 2 := by kernel_rfl
theorem decrementFloatsArray {α : Type} {cs : Array α} (h : cs.size = 2) : ∃ c0 c1, cs = #[c0, c1] := by
  obtain ⟨l⟩ := cs
  match l, h with
  | [a, b], _ => exact ⟨a, b, rfl⟩

set_option maxRecDepth 100000 in
theorem decrementFloatsLifted (os : Os) (started : os.Started) (H : Type) (enc : TypeId × Value → H) :
    ReturnsInHanded {} Try.checked os 3 .any (Rows.decrementFloatsSpec.pre6 enc Try.prog Try.f3 Rows.decrementFloatsRow.domain false) (Rows.decrementFloatsSpec.post enc Try.prog Try.f3 false true false false) := by
  refine returnsInHanded_of_change_sized (C := Try.checked) decrementFloatsOwn started (by kernel_rfl) Try.func3
    (ChangeSpec.witness6 (enc := enc) (C := Try.checked) false ⟨#[], #[.agg #[.int .i64 0, .slice none 0 0], .int .i64 0, .float .f64 0], []⟩ 8 (by kernel_rfl) (by kernel_rfl) (by kernel_rfl) (by kernel_rfl)) ?_
  intro W base args ds gs before hval0 hW _ hsz0 _
  have hsz : (DataW.weightsEach Try.prog (Try.f3.params.toList ++ Rows.decrementFloatsSpec.plain.varTypes Try.prog) (ds ++ gs)).all (· ≤ reachBytes) = true := hsz0
  clear hsz0
  have hval : ∀ (j : Nat) t v, Try.f3.params[j]? = some t → args[j]? = some v → Value.okWide Try.prog W .any base t v := hval0
  have hW' := hW
  obtain ⟨p, q, hA0, hV, rfl, _, _⟩ := hW
  have hA : DataW.TrodAll enc Try.prog W 0 (fun _ => true) true Try.f3.params.toList args.toList ds p := hA0
  rw [Try.params3] at hA hval hsz
  obtain ⟨v0, vs0, d0, ds0, p0, q0, hargs0, rfl, rfl, h0, r0⟩ := trodAll_cons hA
  obtain ⟨v1, vs1, d1, ds1, p1, q1, rfl, rfl, rfl, h1, r1⟩ := trodAll_cons r0
  obtain ⟨v2, vs2, d2, ds2, p2, q2, rfl, rfl, rfl, h2, r2⟩ := trodAll_cons r1
  obtain ⟨rfl, rfl, rfl⟩ := trodAll_nil r2
  obtain rfl : args = #[v0, v1, v2] := by cases args; simp_all
  obtain ⟨rfl, rfl⟩ := trodVars_none hV
  obtain ⟨cs, rfl, hc2⟩ := okWide_struct Try.underlying24 (hval 0 24 v0 rfl rfl)
  obtain ⟨c0, c1, rfl⟩ := decrementFloatsArray (hc2.trans decrementFloatsCells)
  obtain ⟨a1, rfl, rfl, rfl, wn1⟩ := open_int Try.underlying3 (hval 1 3 v1 rfl rfl) h1
  obtain ⟨a2, rfl, rfl, rfl, wn2⟩ := open_float Try.underlying25 (hval 2 25 v2 rfl rfl) h2
  have h0k := h0
  obtain ⟨fuel, hf⟩ := h0
  clear hA0 hval0
  simp only [List.append_nil] at hW'
  have hlt : ∀ x ∈ p0, x.block < W.heap.size := fun x hx => by have := hW'.lt x (by simp [hx]); simpa using this
  have hargs : ∀ (W' : World), Below W.heap.size W W' → DataW.Trod enc Try.prog W' 0 (fun b => decide (b < W.heap.size)) true 24 (.agg #[c0, c1]) d0 p0 :=
    fun W' hn => Below.trod decrementFloatsLaid (by kernel_rfl) (of_decide_eq_true (by kernel_rfl)) h0k hn hlt
  have hg : DataW.trod enc Try.prog W 0 (fun _ => true) true fuel 24 [c0, c1] = some (d0, p0) := hf
  obtain ⟨f, az, cs, sel, rfl, rfl, _, hsel⟩ := Df.causes_of_trod hg (fun m hm => by have := List.all_eq_true.1 hsz m (DataW.weights_mem_each (j := 0) (t := 24) rfl rfl m hm); simpa using this)
  have hb2 : a2 < 18446744073709551616 := by simpa [Lit.wf] using wn2
  refine (Df.floats_law f _ sel a1 a2 W hsel hb2).mono fun x W' ⟨he, hb⟩ => ?_
  subst he
  exact ⟨_, rfl, _, _, _, [], _ ++ [], [], hW', trodAll_mk1 (shut_bool Try.underlying4 _), (trodAll_cons_mk (hargs W' hb) (trodAll_cons_mk (shut_int Try.underlying3 wn1) (trodAll_cons_mk (shut_float Try.underlying25 wn2) trodAll_mk0))), rfl, hb.frame _, fun h => by cases h⟩

theorem decrementFloats_holds : Rows.DecrementFloatsSaid :=
  OpenClaim.holds_of_wide 3 Try.f3 rfl rfl rfl rfl rfl rfl rfl ⟨rfl, rfl, rfl, rfl, rfl⟩ rfl rfl rfl rfl rfl (by kernel_rfl) Try.func3 (by kernel_rfl)
    (of_decide_eq_true (by kernel_rfl)) (by unfold Func.isWrapper; first | (rw [if_pos (by decide +kernel)]; kernel_rfl) | (rw [if_neg (by decide +kernel)]; exact ⟨rfl, rfl⟩))
    (fun os started H enc _ => decrementFloatsLifted os started H enc)
#print axioms decrementFloats_holds
end Go.Proofs.Ytemfndmffpalfaa
