/- DayWorks, for every input: Work of any date, with any free days, by any way, is the document's, and the list stays as it is; no condition but that the table of the months' lengths lies as the program's own text lays it (the card ties that). -/
import Derived.Test.YteepjipecfdkoaaDoorCards
import Derived.Test.YteepjipecfdkoaaDoorTie
import Derived.Test.YteepjipecfdkoaaDoorWe14
import Derived.ProofKit
import Derived.LaidMore
import Derived.OpenShut
import Derived.Stop.Joined
import Derived.Shelf.Vars
import Derived.Laws.Tables
import Derived.Lib.SmallJoins
import Derived.ChangeBears2
import Derived.SizedLaws
import Derived.ChangeOld
import Derived.Below
import Derived.SevenTiedAt
namespace Go.Proofs.YteepjipecfdkoaaDoor
open Go.ChangeShapes Go.WideShapes Go.ChangeAt Go.RowKit Go.Joins
open Go.ChangeMaps (open_string shut_string)

theorem dayWorksOwn : ownKnob Tryd.prog.godebug = none := by kernel_rfl
theorem dayWorksCells : Tryd.prog.cellsOf 23 = 3 := by kernel_rfl
theorem dayWorksLaid : laidOutB Tryd.prog = true := by kernel_rfl
theorem dayWorksBytes : Tryd.prog.bytesOf 23 = 24 := by kernel_rfl
theorem dayWorksG : Tryd.prog.globalNamed "tontine/day.lengths" = some 0 := by kernel_rfl
theorem dayWorksT : (Tryd.prog.globals[0]?).map (·.type) = some 53 := by kernel_rfl
theorem dayWorksTab : (Rows.laid_tontine_day_lengths : DataW Unit) = Lib.tabData .i64 [31, 28, 31, 30, 31, 30, 31, 31, 30, 31, 30, 31] := by kernel_rfl
set_option maxRecDepth 100000 in
/-- A start that fits: the heap that the door's own run leaves. -/
theorem dayWorksStart (os : Os) (args : Array Value) : laidMetH Tryd.prog Rows.dayWorksRow.laid ((World.doorLaid Tryd.prog 400 os).forCall (fun _ _ => 0) ⟨#[], args, []⟩).memory :=
  laidMetH_of_parts3 (fuel := 8) (laidMet_of_run' 8 (by kernel_rfl) (by kernel_rfl)) (by kernel_rfl) (by kernel_rfl)
/-- What the condition gives the walks. -/
theorem dayWorksGl {W : World} (h : laidMetH Tryd.prog Rows.dayWorksRow.laid W) : Dy.Gl W := by
  rw [MakeChecks.laidMetH_plain _ _ _ (by kernel_rfl)] at h
  obtain ⟨ps, ⟨g0, t0, cs0, f0, p0, q0, hg0, ht0, hv0, hd0, _⟩, _, _⟩ := h
  obtain rfl := Option.some.inj (dayWorksG.symm.trans hg0)
  obtain rfl := Option.some.inj (dayWorksT.symm.trans ht0)
  rw [dayWorksTab] at hd0
  have e := Lib.cells_of_tab (n := 12) (e := 3) (by kernel_rfl) Tryd.underlying3 (by kernel_rfl) (by kernel_rfl) hd0
  intro i hi
  rw [World.var?_cell dayWorksG hv0 i, ← Array.getElem?_toList, e]
  have : i = 0 ∨ i = 1 ∨ i = 2 ∨ i = 3 ∨ i = 4 ∨ i = 5 ∨ i = 6 ∨ i = 7 ∨ i = 8 ∨ i = 9 ∨ i = 10 ∨ i = 11 := by omega
  rcases this with rfl | rfl | rfl | rfl | rfl | rfl | rfl | rfl | rfl | rfl | rfl | rfl <;> rfl

set_option maxRecDepth 100000 in
theorem dayWorksLifted (os : Os) (started : os.Started) (H : Type) (enc : TypeId × Value → H) :
    ReturnsInHanded {} Tryd.checked os 3 .any (fun w args => (Rows.dayWorksSpec.pre enc Tryd.prog Tryd.f3 [] false w args ∧ laidMetH Tryd.prog Rows.dayWorksRow.laid w) ∧ sizedMet enc Tryd.prog Tryd.f3 (OpenSpec.ofChange Rows.dayWorksSpec) false w args)
      (Rows.dayWorksSpec.post enc Tryd.prog Tryd.f3 false true false false) := by
  refine returnsInHanded_of_calls (C := Tryd.checked) dayWorksOwn started (by kernel_rfl)
    (ChangeSpec.witness_shaped (enc := enc) (C := Tryd.checked) (os := os) (X := fun w _ => laidMetH Tryd.prog Rows.dayWorksRow.laid w) false (World.doorLaid Tryd.prog 400 os) #[.agg #[.int .i64 0, .int .i64 0, .int .i64 0], .slice none 0 0, .int .i64 0] 8 rfl (World.shaped_of_RefB (by kernel_rfl) (by kernel_rfl)) (by kernel_rfl) (by kernel_rfl) (by kernel_rfl) (dayWorksStart os _)) ?_
  intro w tape i _ hsh _ hok hpre hholds
  obtain ⟨_, _, _, fn', hfn', _, _, _, _, hval0⟩ := hok
  obtain rfl : fn' = Tryd.f3 := Option.some.inj (hfn'.symm.trans Tryd.func3)
  obtain ⟨⟨_, hL0⟩, ⟨_, ds, gs, before, hw, hsz0⟩⟩ := hpre
  have hW := DataW.Whole.of_heap (w' := w.forCall tape i) (by rfl) hw
  have hL : laidMetH Tryd.prog Rows.dayWorksRow.laid (w.forCall tape i) := hL0.of_heap (by rfl)
  have G := dayWorksGl hL
  have hsz : (DataW.weightsEach Tryd.prog (Tryd.f3.params.toList ++ Rows.dayWorksSpec.plain.varTypes Tryd.prog) (ds ++ gs)).all (· ≤ reachBytes) = true := hsz0
  clear hL hL0 hw hsz0 hholds hsh
  have key : Calls Tryd.checked.prog 3 i.args (w.forCall tape i) fun e W' => ∃ v, e = .returned v ∧ Rows.dayWorksSpec.post enc Tryd.prog Tryd.f3 false true false false (w.forCall tape i) i.args v W' := by
    generalize w.forCall tape i = W at *
    have hval : ∀ (j : Nat) t v, Tryd.f3.params[j]? = some t → i.args[j]? = some v → Value.okWide Tryd.prog W .any w.heap.size t v := hval0
    have hW' := hW
    obtain ⟨p, q, hA0, hV, rfl, _, _⟩ := hW
    have hA : DataW.TrodAll enc Tryd.prog W 0 (fun _ => true) true Tryd.f3.params.toList i.args.toList ds p := hA0
    rw [Tryd.params3] at hA hval hsz
    generalize i.args = args at *
    obtain ⟨v0, vs0, d0, ds0, p0, q0, hargs, rfl, rfl, h0, r0⟩ := trodAll_cons hA
    obtain ⟨v1, vs1, d1, ds1, p1, q1, rfl, rfl, rfl, h1, r1⟩ := trodAll_cons r0
    obtain ⟨v2, vs2, d2, ds2, p2, q2, rfl, rfl, rfl, h2, r2⟩ := trodAll_cons r1
    obtain ⟨rfl, rfl, rfl⟩ := trodAll_nil r2
    obtain rfl : args = #[v0, v1, v2] := by cases args; simp_all
    obtain ⟨rfl, rfl⟩ := trodVars_none hV
    obtain ⟨c0a, c0b, c0c, y0a, y0b, y0c, k0, rfl, rfl, rfl, hy0a, hy0b, hy0c⟩ := open_agg3 Tryd.underlying23 (by kernel_rfl) dayWorksCells (hval 0 23 v0 rfl rfl) h0
    obtain ⟨x0a, e0a, rfl, w0a⟩ := DataW.trod_int Tryd.underlying3 hy0a
    obtain ⟨x0b, e0b, rfl, w0b⟩ := DataW.trod_int Tryd.underlying3 hy0b
    obtain ⟨x0c, e0c, rfl, w0c⟩ := DataW.trod_int Tryd.underlying3 hy0c
    simp at e0a e0b e0c
    subst e0a e0b e0c
    obtain ⟨a1, len1, cap1, rfl⟩ := okWide_slice Tryd.underlying24 (hval 1 24 v1 rfl rfl)
    have hk1 := h1
    obtain ⟨fu1, hf1⟩ := h1
    obtain ⟨f1, rs1, no1, dd1⟩ := Dy.rs_of_trod hf1
    obtain ⟨n2, rfl, rfl, rfl, wn2⟩ := open_int Tryd.underlying3 (hval 2 3 v2 rfl rfl) h2
    clear hA0 hval0
    simp only [List.append_nil] at hW'
    have sz1 : len1 * 24 ≤ 140737488351232 := by
      rcases dd1 with ⟨_, e⟩ | ⟨e, s, h1, h2⟩
      · omega
      · have := sized_slice hsz (j := 1) (t := 24) (e := 23) rfl (by simp; exact h1) Tryd.underlying24
        rw [dayWorksBytes] at this
        unfold reachBytes at this
        omega
    refine (Dy.works_law x0a x0b x0c n2 a1 cap1 len1 f1 W G rs1 no1 sz1).mono fun x W' ⟨he, hb⟩ => ?_
    subst he
    have sp : ∀ a b c : Int, (Lit.int .i64 a).wf = true → (Lit.int .i64 b).wf = true → (Lit.int .i64 c).wf = true → DataW.Trod enc Tryd.prog W' 0 (fun b => decide (b < W.heap.size)) true 23 (.agg #[.int .i64 a, .int .i64 b, .int .i64 c]) (.agg [.lit (.int .i64 a), .lit (.int .i64 b), .lit (.int .i64 c)]) [] := fun a b c wa wb wc =>
      shut_agg3 (y0 := (.lit (.int .i64 a), [])) (y1 := (.lit (.int .i64 b), [])) (y2 := (.lit (.int .i64 c), [])) Tryd.underlying23 (by kernel_rfl) dayWorksCells
        ⟨1, by simp [DataW.trod, Tryd.underlying3, wa]⟩ ⟨1, by simp [DataW.trod, Tryd.underlying3, wb]⟩ ⟨1, by simp [DataW.trod, Tryd.underlying3, wc]⟩
    exact ⟨_, rfl, _, _, _, [], _, [], hW', trodAll_mk1 (shut_bool Tryd.underlying4 _), (trodAll_cons_mk (sp x0a x0b x0c w0a w0b w0c) (trodAll_cons_mk (Below.trod dayWorksLaid (by kernel_rfl) (of_decide_eq_true (by kernel_rfl)) hk1 hb (fun x hx => by have := hW'.lt x (by simp [hx]); simpa using this)) (trodAll_cons_mk (shut_int Tryd.underlying3 wn2) trodAll_mk0))), rfl, hb.frame _, fun h => by cases h⟩
  refine key.mono fun e W' ⟨v, he, hp⟩ => ?_
  subst he
  exact ChangeSpec.post_blind hp

theorem dayWorks_row : Rows.DayWorksSaid :=
  OpenClaim.holds_of_wide 3 Tryd.f3 rfl rfl rfl rfl rfl rfl rfl ⟨rfl, rfl, rfl, rfl, rfl⟩ rfl rfl rfl rfl rfl (by kernel_rfl) Tryd.func3 (by kernel_rfl)
    (of_decide_eq_true (by kernel_rfl)) (by unfold Func.isWrapper; first | (rw [if_pos (by decide +kernel)]; kernel_rfl) | (rw [if_neg (by decide +kernel)]; exact ⟨rfl, rfl⟩))
    (fun os started H enc _ => dayWorksLifted os started H enc)

theorem dayWorks_holds : Rows.DayWorksCardSaid :=
  Claim7.holds_tied_plain_at .later [] [.data] true Rows.dayWorksCard.stood.harness Rows.dayWorksCard.stood.looks
    dayWorks_row (fun _ h => by cases h) (by kernel_rfl) (fun _ h => by cases h) dayWorks_row_tie rfl ⟨rfl, rfl⟩ (by kernel_rfl) rfl
    (fun f fn hf hfn => by
      obtain rfl : f = 3 := Option.some.inj ((show Tryd.prog.funcNamed "tontine/tontinelaw07.DayWorks" = some 3 by kernel_rfl).symm.trans hf) |>.symm
      obtain rfl : fn = Tryd.f3 := (Option.some.inj (Tryd.func3.symm.trans hfn)).symm
      exact ⟨by kernel_rfl, fun j t ht => by
        rw [Tryd.params3] at ht
        have hm : t ∈ [23, 24, 3] := by simpa using Array.mem_of_getElem? ht
        have hall : ([23, 24, 3].all fun u => !Tryd.prog.wantsStandIn u) = true := by kernel_rfl
        exact (show Tryd.prog.wantsStandIn t = false by simpa using List.all_eq_true.1 hall t hm)⟩)
    (by kernel_rfl)
#print axioms dayWorks_holds
end Go.Proofs.YteepjipecfdkoaaDoor
