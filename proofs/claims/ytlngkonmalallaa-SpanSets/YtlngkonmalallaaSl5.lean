/- SpanSets, for every input: Hull, Meet, Within and Cmp of any two spans, right or not, are the document's; no condition. -/
import Derived.Test.YtlngkonmalallaaRows
import Derived.Test.YtlngkonmalallaaPart23
import Derived.ProofKit
import Derived.OpenShut
import Derived.ChangeOld
import Derived.Below
import Derived.Lib.SmallJoins
namespace Go.Proofs.Ytlngkonmalallaa
open Go.ChangeShapes Go.WideShapes Go.ChangeAt Go.RowKit Go.Joins Tn

theorem setsOwn : ownKnob Try.prog.godebug = none := by kernel_rfl
theorem cellsSpan : Try.prog.cellsOf 72 = 2 := by kernel_rfl
theorem trod_f64 {H : Type} {enc : TypeId × Value → H} {P : Program} {w : World} {base : Nat} {spare : Nat → Bool} {held : Bool} {fuel : Nat} {t : TypeId} {cs : List Value} {x : DataW H × List MemPlace} (ht : P.underlying t = some (.float .f64)) (h : DataW.trod enc P w base spare held fuel t cs = some x) : ∃ n, cs = [.float .f64 n] ∧ x = (.lit (.float .f64 n), []) ∧ (Lit.float .f64 n).wf = true := by
  cases fuel with
  | zero => simp [DataW.trod] at h
  | succ n =>
    unfold DataW.trod at h
    rw [ht] at h
    split at h <;> simp_all
theorem sets_law (a b c d : Nat) (wa : (Lit.float .f64 a).wf = true) (wb : (Lit.float .f64 b).wf = true) (wc : (Lit.float .f64 c).wf = true) (wd : (Lit.float .f64 d).wf = true) (w : World) :
    Calls Try.prog 7 #[.agg #[.float .f64 a, .float .f64 b], .agg #[.float .f64 c, .float .f64 d]] w fun x w' => x = .returned (.bool true) ∧ Below w.heap.size w w' := by
  simp only [Lit.wf, decide_eq_true_iff] at wa wb wc wd
  exact sets_any a b c d ⟨by omega, by omega, by omega, by omega⟩ w

set_option maxRecDepth 100000 in
theorem setsLifted (os : Os) (started : os.Started) (H : Type) (enc : TypeId × Value → H) :
    ReturnsInHanded {} Try.checked os 7 .any (Rows.spanSetsSpec.pre6 enc Try.prog Try.f7 Rows.spanSetsRow.domain false) (Rows.spanSetsSpec.post enc Try.prog Try.f7 false true false false) := by
  refine returnsInHanded_of_change (C := Try.checked) setsOwn started (by kernel_rfl) Try.func7
    (ChangeSpec.witness6 (enc := enc) (C := Try.checked) false ⟨#[], #[.agg #[.float .f64 0, .float .f64 0], .agg #[.float .f64 0, .float .f64 0]], []⟩ 8 (by kernel_rfl) (by kernel_rfl) (by kernel_rfl) (by kernel_rfl)) ?_
  intro W base args ds gs before hval0 hW _ _
  have hval : ∀ (j : Nat) t v, Try.f7.params[j]? = some t → args[j]? = some v → Value.okWide Try.prog W .any base t v := hval0
  have hW' := hW
  obtain ⟨p, q, hA0, hV, rfl, _, _⟩ := hW
  have hA : DataW.TrodAll enc Try.prog W 0 (fun _ => true) true Try.f7.params.toList args.toList ds p := hA0
  rw [Try.params7] at hA hval
  obtain ⟨v0, vs0, d0, ds0, p0, q0, hargs, rfl, rfl, h0, r0⟩ := trodAll_cons hA
  obtain ⟨v1, vs1, d1, ds1, p1, q1, rfl, rfl, rfl, h1, r1⟩ := trodAll_cons r0
  obtain ⟨rfl, rfl, rfl⟩ := trodAll_nil r1
  obtain rfl : args = #[v0, v1] := by cases args; simp_all
  obtain ⟨rfl, rfl⟩ := trodVars_none hV
  obtain ⟨c0, c1, y0, y1, n0, rfl, rfl, rfl, hy0, hy1⟩ := open_agg2 Try.underlying72 (by kernel_rfl) cellsSpan (hval 0 72 v0 rfl rfl) h0
  obtain ⟨c2, c3, y2, y3, n1, rfl, rfl, rfl, hy2, hy3⟩ := open_agg2 Try.underlying72 (by kernel_rfl) cellsSpan (hval 1 72 v1 rfl rfl) h1
  obtain ⟨x0, e0, rfl, w0⟩ := trod_f64 Try.underlying28 hy0
  obtain ⟨x1, e1, rfl, w1⟩ := trod_f64 Try.underlying28 hy1
  obtain ⟨x2, e2, rfl, w2⟩ := trod_f64 Try.underlying28 hy2
  obtain ⟨x3, e3, rfl, w3⟩ := trod_f64 Try.underlying28 hy3
  simp at e0 e1 e2 e3
  subst e0 e1 e2 e3
  clear hA0 hval0
  refine (sets_law x0 x1 x2 x3 w0 w1 w2 w3 W).mono fun x W' ⟨he, hb⟩ => ?_
  subst he
  have sp : ∀ a b : Nat, (Lit.float .f64 a).wf = true → (Lit.float .f64 b).wf = true → DataW.Trod enc Try.prog W' 0 (fun b => decide (b < W.heap.size)) true 72 (.agg #[.float .f64 a, .float .f64 b]) (.agg [.lit (.float .f64 a), .lit (.float .f64 b)]) [] := fun a b wa wb =>
    shut_agg2 (y0 := (.lit (.float .f64 a), [])) (y1 := (.lit (.float .f64 b), [])) Try.underlying72 (by kernel_rfl) cellsSpan
      ⟨1, by simp [DataW.trod, Try.underlying28, wa]⟩ ⟨1, by simp [DataW.trod, Try.underlying28, wb]⟩
  exact ⟨_, rfl, _, _, _, [], _, [], hW', trodAll_mk1 (shut_bool Try.underlying4 _), (trodAll_cons_mk (sp x0 x1 w0 w1) (trodAll_cons_mk (sp x2 x3 w2 w3) trodAll_mk0)), rfl, hb.frame _, fun h => by cases h⟩

theorem spanSets_holds : Rows.SpanSetsSaid :=
  OpenClaim.holds_of_wide 7 Try.f7 rfl rfl rfl rfl rfl rfl rfl ⟨rfl, rfl, rfl, rfl, rfl⟩ rfl rfl rfl rfl rfl (by kernel_rfl) Try.func7 (by kernel_rfl)
    (of_decide_eq_true (by kernel_rfl)) (by unfold Func.isWrapper; first | (rw [if_pos (by decide +kernel)]; kernel_rfl) | (rw [if_neg (by decide +kernel)]; exact ⟨rfl, rfl⟩))
    (fun os started H enc _ => setsLifted os started H enc)
#print axioms spanSets_holds
end Go.Proofs.Ytlngkonmalallaa
