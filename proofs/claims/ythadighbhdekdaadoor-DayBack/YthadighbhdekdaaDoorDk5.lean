/- DayBack, for every input: numbers and dates lead to one another, dates and texts too; the next day has the next number and the next weekday, and the later date the greater text; no condition but that the library's tables and the table of the months' lengths lie as the program's own text lays them (the card ties that). -/
import Derived.Test.YthadighbhdekdaaDoorCards
import Derived.Test.YthadighbhdekdaaDoorTie
import Derived.Test.YthadighbhdekdaaDoorDk0
import Derived.ProofKit
import Derived.LaidMore
import Derived.OpenShut
import Derived.Stop.Joined
import Derived.Shelf.Vars
import Derived.Laws.Tables
import Derived.Lib.SmallJoins
import Derived.ChangeBears2
import Derived.SizedLaws
import Derived.ChangeOld
import Derived.Below
import Derived.SevenTiedAt
namespace Go.Proofs.YthadighbhdekdaaDoor
open Go.ChangeShapes Go.WideShapes Go.ChangeAt Go.RowKit Go.Joins
open Go.ChangeMaps (open_string shut_string)

theorem dayBackOwn : ownKnob Tryd.prog.godebug = none := by kernel_rfl
theorem dayBackCells : Tryd.prog.cellsOf 23 = 3 := by kernel_rfl
theorem dayBackG : Tryd.prog.globalNamed "tontine/day.lengths" = some 0 := by kernel_rfl
theorem dayBackT : (Tryd.prog.globals[0]?).map (·.type) = some 70 := by kernel_rfl
theorem dayBackTab : (Rows.laid_tontine_day_lengths : DataW Unit) = Lib.tabData .i64 [31, 28, 31, 30, 31, 30, 31, 31, 30, 31, 30, 31] := by kernel_rfl
set_option maxRecDepth 100000 in
/-- A start that fits: the heap that the door's own run leaves. -/
theorem dayBackStart (os : Os) (args : Array Value) : laidMetH Tryd.prog Rows.dayBackRow.laid ((World.doorLaid Tryd.prog 400 os).forCall (fun _ _ => 0) ⟨#[], args, []⟩).memory :=
  laidMetH_of_parts3 (fuel := 8) (laidMet_of_run' 8 (by kernel_rfl) (by kernel_rfl)) (by kernel_rfl) (by kernel_rfl)
theorem dayBackP : Tryd.prog.globalNamed "internal/strconv.uint64pow10" = some 3 := by kernel_rfl
theorem dayBackPT : (Tryd.prog.globals[3]?).map (·.type) = some 125 := by kernel_rfl
theorem dayBackPTab : (Rows.laid_internal_strconv_uint64pow10 : DataW Unit) = Lib.tabData .u64 Lib.pow10Tab := by kernel_rfl
/-- What the condition gives the walks. -/
theorem dayBackGl {W : World} (h : laidMetH Tryd.prog Rows.dayBackRow.laid W) : Dt.Gt W := by
  rw [MakeChecks.laidMetH_plain _ _ _ (by kernel_rfl)] at h
  obtain ⟨ps, ⟨g0, t0, cs0, f0, p0, q0, hg0, ht0, hv0, hd0, ⟨g1, t1, cs1, f1, p1, q1, hg1, ht1, hv1, hd1, ⟨g2, t2, cs2, f2, p2, q2, hg2, ht2, hv2, hd2, ⟨g3, t3, cs3, f3, p3, q3, hg3, ht3, hv3, hd3, ⟨g4, t4, cs4, f4, p4, q4, hg4, ht4, hv4, hd4, ⟨g5, t5, cs5, f5, p5, q5, hg5, ht5, hv5, hd5, _⟩, _⟩, _⟩, _⟩, _⟩, _⟩, _, _⟩ := h
  obtain rfl := Option.some.inj (dayBackP.symm.trans hg2)
  obtain rfl := Option.some.inj (dayBackPT.symm.trans ht2)
  obtain rfl := Option.some.inj (dayBackG.symm.trans hg5)
  obtain rfl := Option.some.inj (dayBackT.symm.trans ht5)
  refine ⟨?_, ?_⟩
  · rw [dayBackPTab] at hd2
    unfold Lib.TabIs
    rw [hv2, ← Lib.cells_of_tab (n := 20) (e := 78) (by kernel_rfl) Tryd.underlying78 (by kernel_rfl) (by kernel_rfl) hd2]
  rw [dayBackTab] at hd5
  have e := Lib.cells_of_tab (n := 12) (e := 3) (by kernel_rfl) Tryd.underlying3 (by kernel_rfl) (by kernel_rfl) hd5
  intro i hi
  rw [World.var?_cell dayBackG hv5 i, ← Array.getElem?_toList, e]
  have : i = 0 ∨ i = 1 ∨ i = 2 ∨ i = 3 ∨ i = 4 ∨ i = 5 ∨ i = 6 ∨ i = 7 ∨ i = 8 ∨ i = 9 ∨ i = 10 ∨ i = 11 := by omega
  rcases this with rfl | rfl | rfl | rfl | rfl | rfl | rfl | rfl | rfl | rfl | rfl | rfl <;> rfl

set_option maxRecDepth 100000 in
theorem dayBackLifted (os : Os) (started : os.Started) (H : Type) (enc : TypeId × Value → H) :
    ReturnsInHanded {} Tryd.checked os 4 .any (fun w args => (Rows.dayBackSpec.pre enc Tryd.prog Tryd.f4 [] false w args ∧ laidMetH Tryd.prog Rows.dayBackRow.laid w) ∧ sizedMet enc Tryd.prog Tryd.f4 (OpenSpec.ofChange Rows.dayBackSpec) false w args)
      (Rows.dayBackSpec.post enc Tryd.prog Tryd.f4 false true false false) := by
  refine returnsInHanded_of_calls (C := Tryd.checked) dayBackOwn started (by kernel_rfl)
    (ChangeSpec.witness_shaped (enc := enc) (C := Tryd.checked) (os := os) (X := fun w _ => laidMetH Tryd.prog Rows.dayBackRow.laid w) false (World.doorLaid Tryd.prog 400 os) #[.agg #[.int .i64 0, .int .i64 0, .int .i64 0], .string ⟨#[]⟩] 8 rfl (World.shaped_of_RefB (by kernel_rfl) (by kernel_rfl)) (by kernel_rfl) (by kernel_rfl) (by kernel_rfl) (dayBackStart os _)) ?_
  intro w tape i _ hsh _ hok hpre hholds
  obtain ⟨_, _, _, fn', hfn', _, _, _, _, hval0⟩ := hok
  obtain rfl : fn' = Tryd.f4 := Option.some.inj (hfn'.symm.trans Tryd.func4)
  obtain ⟨⟨⟨ds, gs, before, hw, hc⟩, hL0⟩, hz⟩ := hpre
  have hW := DataW.Whole.of_heap (w' := w.forCall tape i) (by rfl) hw
  have hL : laidMetH Tryd.prog Rows.dayBackRow.laid (w.forCall tape i) := hL0.of_heap (by rfl)
  have G := dayBackGl hL
  clear hL hL0 hw hz hc hholds hsh
  have key : Calls Tryd.checked.prog 4 i.args (w.forCall tape i) fun e W' => ∃ v, e = .returned v ∧ Rows.dayBackSpec.post enc Tryd.prog Tryd.f4 false true false false (w.forCall tape i) i.args v W' := by
    generalize w.forCall tape i = W at *
    have hval : ∀ (j : Nat) t v, Tryd.f4.params[j]? = some t → i.args[j]? = some v → Value.okWide Tryd.prog W .any w.heap.size t v := hval0
    have hW' := hW
    obtain ⟨p, q, hA0, hV, rfl, _, _⟩ := hW
    have hA : DataW.TrodAll enc Tryd.prog W 0 (fun _ => true) true Tryd.f4.params.toList i.args.toList ds p := hA0
    rw [Tryd.params4] at hA hval
    generalize i.args = args at *
    obtain ⟨v0, vs0, d0, ds0, p0, q0, hargs, rfl, rfl, h0, r0⟩ := trodAll_cons hA
    obtain ⟨v1, vs1, d1, ds1, p1, q1, rfl, rfl, rfl, h1, r1⟩ := trodAll_cons r0
    obtain ⟨rfl, rfl, rfl⟩ := trodAll_nil r1
    obtain rfl : args = #[v0, v1] := by cases args; simp_all
    obtain ⟨rfl, rfl⟩ := trodVars_none hV
    obtain ⟨c0a, c0b, c0c, y0a, y0b, y0c, k0, rfl, rfl, rfl, hy0a, hy0b, hy0c⟩ := open_agg3 Tryd.underlying23 (by kernel_rfl) dayBackCells (hval 0 23 v0 rfl rfl) h0
    obtain ⟨x0a, e0a, rfl, w0a⟩ := DataW.trod_int Tryd.underlying3 hy0a
    obtain ⟨x0b, e0b, rfl, w0b⟩ := DataW.trod_int Tryd.underlying3 hy0b
    obtain ⟨x0c, e0c, rfl, w0c⟩ := DataW.trod_int Tryd.underlying3 hy0c
    simp at e0a e0b e0c
    subst e0a e0b e0c
    obtain ⟨s1, rfl, rfl, rfl, hs1⟩ := open_string Tryd.underlying9 (hval 1 9 v1 rfl rfl) h1
    clear hA0 hval0
    simp only [List.append_nil] at hW'
    refine (Dt.back_law x0a x0b x0c s1 W G).mono fun x W' ⟨he, hb⟩ => ?_
    subst he
    have sp : ∀ a b c : Int, (Lit.int .i64 a).wf = true → (Lit.int .i64 b).wf = true → (Lit.int .i64 c).wf = true → DataW.Trod enc Tryd.prog W' 0 (fun b => decide (b < W.heap.size)) true 23 (.agg #[.int .i64 a, .int .i64 b, .int .i64 c]) (.agg [.lit (.int .i64 a), .lit (.int .i64 b), .lit (.int .i64 c)]) [] := fun a b c wa wb wc =>
      shut_agg3 (y0 := (.lit (.int .i64 a), [])) (y1 := (.lit (.int .i64 b), [])) (y2 := (.lit (.int .i64 c), [])) Tryd.underlying23 (by kernel_rfl) dayBackCells
        ⟨1, by simp [DataW.trod, Tryd.underlying3, wa]⟩ ⟨1, by simp [DataW.trod, Tryd.underlying3, wb]⟩ ⟨1, by simp [DataW.trod, Tryd.underlying3, wc]⟩
    exact ⟨_, rfl, _, _, _, [], _, [], hW', trodAll_mk1 (shut_bool Tryd.underlying4 _), (trodAll_cons_mk (sp x0a x0b x0c w0a w0b w0c) (trodAll_cons_mk (shut_string Tryd.underlying9 hs1) trodAll_mk0)), rfl, hb.frame _, fun h => by cases h⟩
  refine key.mono fun e W' ⟨v, he, hp⟩ => ?_
  subst he
  exact ChangeSpec.post_blind hp

theorem dayBack_row : Rows.DayBackSaid :=
  OpenClaim.holds_of_wide 4 Tryd.f4 rfl rfl rfl rfl rfl rfl rfl ⟨rfl, rfl, rfl, rfl, rfl⟩ rfl rfl rfl rfl rfl (by kernel_rfl) Tryd.func4 (by kernel_rfl)
    (of_decide_eq_true (by kernel_rfl)) (by unfold Func.isWrapper; first | (rw [if_pos (by decide +kernel)]; kernel_rfl) | (rw [if_neg (by decide +kernel)]; exact ⟨rfl, rfl⟩))
    (fun os started H enc _ => dayBackLifted os started H enc)

theorem dayBack_holds : Rows.DayBackCardSaid :=
  Claim7.holds_tied_plain_at .later [] [.data, .data, .data, .sentinel, .sentinel, .data] true Rows.dayBackCard.stood.harness Rows.dayBackCard.stood.looks
    dayBack_row (fun _ h => by cases h) (by kernel_rfl) (fun _ h => by cases h) dayBack_row_tie rfl ⟨rfl, rfl⟩ (by kernel_rfl) rfl
    (fun f fn hf hfn => by
      obtain rfl : f = 4 := Option.some.inj ((show Tryd.prog.funcNamed "tontine/tontinelaw07.DayBack" = some 4 by kernel_rfl).symm.trans hf) |>.symm
      obtain rfl : fn = Tryd.f4 := (Option.some.inj (Tryd.func4.symm.trans hfn)).symm
      exact ⟨by kernel_rfl, fun j t ht => by
        rw [Tryd.params4] at ht
        have hm : t ∈ [23, 9] := by simpa using Array.mem_of_getElem? ht
        have hall : ([23, 9].all fun u => !Tryd.prog.wantsStandIn u) = true := by kernel_rfl
        exact (show Tryd.prog.wantsStandIn t = false by simpa using List.all_eq_true.1 hall t hm)⟩)
    (by kernel_rfl)
#print axioms dayBack_holds
end Go.Proofs.YthadighbhdekdaaDoor
