/- FloatSplits, for every input: the parts that the program tells of any float and of any small float, and the float that it makes of any parts (or the error), are the document's; no condition. -/
import Derived.Test.YtjgljcifnklmeaaRows
import Derived.Test.YtjgljcifnklmeaaFl12
import Derived.ProofKit
import Derived.OpenShut
import Derived.ChangeOld
import Derived.Below
import Derived.Lib.SmallJoins
namespace Go.Proofs.Ytjgljcifnklmeaa
open Go.ChangeShapes Go.WideShapes Go.ChangeAt Go.RowKit Go.Joins Tn

theorem own : ownKnob Try.prog.godebug = none := by kernel_rfl
theorem cellsParts : Try.prog.cellsOf 25 = 4 := by kernel_rfl

theorem joi_w_nat (p : Int × Bool × Int × Int) : ∃ j r : Nat, joiW p = ((j : Int), (r : Int)) := by
  unfold joiW
  split
  · rename_i o
    obtain ⟨j, hj⟩ := Int.eq_ofNat_of_zero_le (pckW_bd o).1
    exact ⟨j, 0, by rw [hj]; rfl⟩
  · exact ⟨0, 21, rfl⟩
theorem joi_s_nat (p : Int × Bool × Int × Int) : ∃ j r : Nat, joiS p = ((j : Int), (r : Int)) ∧ j < 4294967296 := by
  unfold joiS
  split
  · rename_i o
    have b := pckS_bd o
    obtain ⟨j, hj⟩ := Int.eq_ofNat_of_zero_le b.1
    exact ⟨j, 0, by rw [hj]; rfl, by omega⟩
  · exact ⟨0, 21, rfl, by decide⟩
theorem law_any (b c k : Int) (g : Bool) (m e : Int) (wb : (Lit.int .u64 b).wf = true) (wc : (Lit.int .u32 c).wf = true) (wm : (Lit.int .u64 m).wf = true) (w : World) :
    Calls Try.prog 3 #[.int .u64 b, .int .u32 c, .agg #[.int .i64 k, .bool g, .int .u64 m, .int .i64 e]] w fun x w' => x = .returned (.bool true) ∧ Below w.heap.size w w' := by
  simp [Lit.wf, IntKind.min, IntKind.max, IntKind.signed, IntKind.bits] at wb wc wm
  obtain ⟨B, rfl⟩ := Int.eq_ofNat_of_zero_le wb.1
  obtain ⟨C, rfl⟩ := Int.eq_ofNat_of_zero_le wc.1
  obtain ⟨j1, r1, q1⟩ := joi_w_nat (k, g, m, e)
  obtain ⟨j2, r2, q2, l2⟩ := joi_s_nat (k, g, m, e)
  exact law_walk B C (by omega) (by omega) k g m e wm.1 (by omega) j1 j2 r1 r2 q1 q2 l2 w

set_option maxRecDepth 100000 in
theorem lifted (os : Os) (started : os.Started) (H : Type) (enc : TypeId × Value → H) :
    ReturnsInHanded {} Try.checked os 3 .any (Rows.floatSplitsSpec.pre6 enc Try.prog Try.f3 Rows.floatSplitsRow.domain false) (Rows.floatSplitsSpec.post enc Try.prog Try.f3 false true false false) := by
  refine returnsInHanded_of_change (C := Try.checked) own started (by kernel_rfl) Try.func3
    (ChangeSpec.witness6 (enc := enc) (C := Try.checked) false ⟨#[], #[.int .u64 0, .int .u32 0, .agg #[.int .i64 0, .bool false, .int .u64 0, .int .i64 0]], []⟩ 8 (by kernel_rfl) (by kernel_rfl) (by kernel_rfl) (by kernel_rfl)) ?_
  intro W base args ds gs before hval0 hW _ _
  have hval : ∀ (j : Nat) t v, Try.f3.params[j]? = some t → args[j]? = some v → Value.okWide Try.prog W .any base t v := hval0
  have hW' := hW
  obtain ⟨p, q, hA0, hV, rfl, _, _⟩ := hW
  have hA : DataW.TrodAll enc Try.prog W 0 (fun _ => true) true Try.f3.params.toList args.toList ds p := hA0
  rw [Try.params3] at hA hval
  obtain ⟨v0, vs0, d0, ds0, p0, q0, hargs, rfl, rfl, h0, r0⟩ := trodAll_cons hA
  obtain ⟨v1, vs1, d1, ds1, p1, q1, rfl, rfl, rfl, h1, r1⟩ := trodAll_cons r0
  obtain ⟨v2, vs2, d2, ds2, p2, q2, rfl, rfl, rfl, h2, r2⟩ := trodAll_cons r1
  obtain ⟨rfl, rfl, rfl⟩ := trodAll_nil r2
  obtain rfl : args = #[v0, v1, v2] := by cases args; simp_all
  obtain ⟨rfl, rfl⟩ := trodVars_none hV
  obtain ⟨a0, rfl, rfl, rfl, w0⟩ := open_int Try.underlying22 (hval 0 22 v0 rfl rfl) h0
  obtain ⟨a1, rfl, rfl, rfl, w1⟩ := open_int Try.underlying23 (hval 1 23 v1 rfl rfl) h1
  obtain ⟨c0, c1, c2, c3, y0, y1, y2, y3, n, rfl, rfl, rfl, hy0, hy1, hy2, hy3⟩ := open_agg4 Try.underlying25 (by kernel_rfl) cellsParts (hval 2 25 v2 rfl rfl) h2
  obtain ⟨k, e0, rfl, wk⟩ := DataW.trod_int Try.underlying3 hy0
  obtain ⟨g, e1, rfl⟩ := DataW.trod_bool Try.underlying4 hy1
  obtain ⟨m, e2, rfl, wm⟩ := DataW.trod_int Try.underlying22 hy2
  obtain ⟨e, e3, rfl, we⟩ := DataW.trod_int Try.underlying3 hy3
  simp at e0 e1 e2 e3
  subst e0 e1 e2 e3
  clear hA0 hval0
  refine (law_any a0 a1 k g m e w0 w1 wm W).mono fun x W' ⟨he, hb⟩ => ?_
  subst he
  have sp : DataW.Trod enc Try.prog W' 0 (fun b => decide (b < W.heap.size)) true 25 (.agg #[.int .i64 k, .bool g, .int .u64 m, .int .i64 e]) (.agg [.lit (.int .i64 k), .lit (.bool g), .lit (.int .u64 m), .lit (.int .i64 e)]) [] :=
    shut_agg4 (y0 := (.lit (.int .i64 k), [])) (y1 := (.lit (.bool g), [])) (y2 := (.lit (.int .u64 m), [])) (y3 := (.lit (.int .i64 e), [])) Try.underlying25 (by kernel_rfl) cellsParts
      ⟨1, by simp [DataW.trod, Try.underlying3, wk]⟩ ⟨1, by simp [DataW.trod, Try.underlying4]⟩ ⟨1, by simp [DataW.trod, Try.underlying22, wm]⟩ ⟨1, by simp [DataW.trod, Try.underlying3, we]⟩
  exact ⟨_, rfl, _, _, _, [], _, [], hW', trodAll_mk1 (shut_bool Try.underlying4 _), (trodAll_cons_mk (shut_int Try.underlying22 w0) (trodAll_cons_mk (shut_int Try.underlying23 w1) (trodAll_cons_mk sp trodAll_mk0))), rfl, hb.frame _, fun h => by cases h⟩

theorem floatSplits_holds : Rows.FloatSplitsSaid :=
  OpenClaim.holds_of_wide 3 Try.f3 rfl rfl rfl rfl rfl rfl rfl ⟨rfl, rfl, rfl, rfl, rfl⟩ rfl rfl rfl rfl rfl (by kernel_rfl) Try.func3 (by kernel_rfl)
    (of_decide_eq_true (by kernel_rfl)) (by unfold Func.isWrapper; first | (rw [if_pos (by decide +kernel)]; kernel_rfl) | (rw [if_neg (by decide +kernel)]; exact ⟨rfl, rfl⟩))
    (fun os started H enc _ => lifted os started H enc)
#print axioms floatSplits_holds
end Go.Proofs.Ytjgljcifnklmeaa
