/- DayGoes, for every input: the parts of a year from a to b and from b to c go together to that from a to c (by days of 365, of 360 and by calendar years), a calendar year is one; no condition but that the tables (of the months' lengths, and of Go's library) lie as the program's own text lays them (the card ties that). -/
import Derived.Test.YtbfamafajefapaaGreatDoorCards
import Derived.Test.YtbfamafajefapaaGreatDoorTie
import Derived.Test.YtbfamafajefapaaGreatDoorPart46
import Derived.ProofKit
import Derived.LaidMore
import Derived.OpenShut
import Derived.Stop.Joined
import Derived.Shelf.Vars
import Derived.Laws.Tables
import Derived.Lib.SmallJoins
import Derived.ChangeBears2
import Derived.SizedLaws
import Derived.ChangeOld
import Derived.Below
import Derived.SevenTiedAt
namespace Go.Proofs.YtbfamafajefapaaGreatDoor
open Go.ChangeShapes Go.WideShapes Go.ChangeAt Go.RowKit Go.Joins
open Go.ChangeMaps (open_string shut_string)

theorem dayGoesOwn : ownKnob Tryz.prog.godebug = none := by kernel_rfl
theorem dayGoesCells : Tryz.prog.cellsOf 38 = 3 := by kernel_rfl
theorem dayGoesG : Tryz.prog.globalNamed "tontine/day.lengths" = some 0 := by kernel_rfl
theorem dayGoesT : (Tryz.prog.globals[0]?).map (·.type) = some 170 := by kernel_rfl
theorem dayGoesTab : (Rows.laid_tontine_day_lengths : DataW Unit) = Lib.tabData .i64 [31, 28, 31, 30, 31, 30, 31, 31, 30, 31, 30, 31] := by kernel_rfl
/-- The table of utf8, as it lies. -/
def dayGoesFirst : Array Value := (Pinned.utf8FirstZ.map fun (n : Nat) => Value.int .u8 (n : Int)).toArray
set_option maxRecDepth 100000 in
/-- A start that fits: the heap that the door's own run leaves. -/
theorem dayGoesStart (os : Os) (args : Array Value) : laidMetH Tryz.prog Rows.dayGoesRow.laid (((World.doorLaid Tryz.prog 400 os).setRow 6 dayGoesFirst).forCall (fun _ _ => 0) ⟨#[], args, []⟩).memory :=
  laidMetH_of_parts3 (fuel := 8) (laidMet_of_run' 8 (by kernel_rfl) (by kernel_rfl)) (by kernel_rfl) (by kernel_rfl)
theorem dayGoesPT : (Tryz.prog.globals[5]?).map (·.type) = some 224 := by kernel_rfl
theorem dayGoesPTab : (Rows.laid_internal_strconv_uint64pow10 : DataW Unit) = Lib.tabData .u64 Lib.pow10Tab := by kernel_rfl
/-- What the condition gives the walks. -/
theorem dayGoesGl {W : World} (h : laidMetH Tryz.prog Rows.dayGoesRow.laid W) : Dy.Gl W ∧ Mo.Gw W := by
  rw [MakeChecks.laidMetH_plain _ _ _ (by kernel_rfl)] at h
  obtain ⟨ps, ⟨g0, t0, cs0, f0, p0, q0, hg0, ht0, hv0, hd0, ⟨g1, t1, cs1, f1, p1, q1, hg1, ht1, hv1, hd1, ⟨g2, t2, cs2, f2, p2, q2, hg2, ht2, hv2, hd2, ⟨g3, t3, cs3, f3, p3, q3, hg3, ht3, hv3, hd3, ⟨g4, t4, cs4, f4, p4, q4, hg4, ht4, hv4, hd4, ⟨g5, t5, cs5, f5, p5, q5, hg5, ht5, hv5, hd5, ⟨g6, t6, cs6, f6, p6, q6, hg6, ht6, hv6, hd6, ⟨g7, t7, cs7, f7, p7, q7, hg7, ht7, hv7, hd7, _⟩, _⟩, _⟩, _⟩, _⟩, _⟩, _⟩, _⟩, _, _⟩ := h
  obtain rfl := Option.some.inj (Dy.gPow.symm.trans hg2)
  obtain rfl := Option.some.inj (dayGoesPT.symm.trans ht2)
  obtain rfl := Option.some.inj (dayGoesG.symm.trans hg6)
  obtain rfl := Option.some.inj (dayGoesT.symm.trans ht6)
  refine ⟨?_, ?_⟩
  · rw [dayGoesTab] at hd6
    have e := Lib.cells_of_tab (n := 12) (e := 3) (by kernel_rfl) Tryz.underlying3 (by kernel_rfl) (by kernel_rfl) hd6
    intro i hi
    rw [World.var?_cell dayGoesG hv6 i, ← Array.getElem?_toList, e]
    have : i = 0 ∨ i = 1 ∨ i = 2 ∨ i = 3 ∨ i = 4 ∨ i = 5 ∨ i = 6 ∨ i = 7 ∨ i = 8 ∨ i = 9 ∨ i = 10 ∨ i = 11 := by omega
    rcases this with rfl | rfl | rfl | rfl | rfl | rfl | rfl | rfl | rfl | rfl | rfl | rfl <;> rfl
  · rw [dayGoesPTab] at hd2
    refine Dy.gw_of ?_
    unfold Lib.TabIs
    rw [hv2, ← Lib.cells_of_tab (n := 20) (e := 119) (by kernel_rfl) Tryz.underlying119 (by kernel_rfl) (by kernel_rfl) hd2]

set_option maxRecDepth 100000 in
theorem dayGoesLifted (os : Os) (started : os.Started) (H : Type) (enc : TypeId × Value → H) :
    ReturnsInHanded {} Tryz.checked os 4 .any (fun w args => (Rows.dayGoesSpec.pre enc Tryz.prog Tryz.f4 [] false w args ∧ laidMetH Tryz.prog Rows.dayGoesRow.laid w) ∧ sizedMet enc Tryz.prog Tryz.f4 (OpenSpec.ofChange Rows.dayGoesSpec) false w args)
      (Rows.dayGoesSpec.post enc Tryz.prog Tryz.f4 false true false false) := by
  refine returnsInHanded_of_calls (C := Tryz.checked) dayGoesOwn started (by kernel_rfl)
    (ChangeSpec.witness_shaped (enc := enc) (C := Tryz.checked) (os := os) (X := fun w _ => laidMetH Tryz.prog Rows.dayGoesRow.laid w) false ((World.doorLaid Tryz.prog 400 os).setRow 6 dayGoesFirst) #[.agg #[.int .i64 0, .int .i64 0, .int .i64 0], .agg #[.int .i64 0, .int .i64 0, .int .i64 0], .agg #[.int .i64 0, .int .i64 0, .int .i64 0]] 8 rfl (World.shaped_of_RefB (by kernel_rfl) (by kernel_rfl)) (by kernel_rfl) (by kernel_rfl) (by kernel_rfl) (dayGoesStart os _)) ?_
  intro w tape i _ hsh _ hok hpre hholds
  obtain ⟨_, _, _, fn', hfn', _, _, _, _, hval0⟩ := hok
  obtain rfl : fn' = Tryz.f4 := Option.some.inj (hfn'.symm.trans Tryz.func4)
  obtain ⟨⟨⟨ds, gs, before, hw, hc⟩, hL0⟩, hz⟩ := hpre
  have hW := DataW.Whole.of_heap (w' := w.forCall tape i) (by rfl) hw
  have hL : laidMetH Tryz.prog Rows.dayGoesRow.laid (w.forCall tape i) := hL0.of_heap (by rfl)
  have G := dayGoesGl hL
  clear hL hL0 hw hz hc hholds hsh
  have key : Calls Tryz.checked.prog 4 i.args (w.forCall tape i) fun e W' => ∃ v, e = .returned v ∧ Rows.dayGoesSpec.post enc Tryz.prog Tryz.f4 false true false false (w.forCall tape i) i.args v W' := by
    generalize w.forCall tape i = W at *
    have hval : ∀ (j : Nat) t v, Tryz.f4.params[j]? = some t → i.args[j]? = some v → Value.okWide Tryz.prog W .any w.heap.size t v := hval0
    have hW' := hW
    obtain ⟨p, q, hA0, hV, rfl, _, _⟩ := hW
    have hA : DataW.TrodAll enc Tryz.prog W 0 (fun _ => true) true Tryz.f4.params.toList i.args.toList ds p := hA0
    rw [Tryz.params4] at hA hval
    generalize i.args = args at *
    obtain ⟨v0, vs0, d0, ds0, p0, q0, hargs, rfl, rfl, h0, r0⟩ := trodAll_cons hA
    obtain ⟨v1, vs1, d1, ds1, p1, q1, rfl, rfl, rfl, h1, r1⟩ := trodAll_cons r0
    obtain ⟨v2, vs2, d2, ds2, p2, q2, rfl, rfl, rfl, h2, r2⟩ := trodAll_cons r1
    obtain ⟨rfl, rfl, rfl⟩ := trodAll_nil r2
    obtain rfl : args = #[v0, v1, v2] := by cases args; simp_all
    obtain ⟨rfl, rfl⟩ := trodVars_none hV
    obtain ⟨c0a, c0b, c0c, y0a, y0b, y0c, k0, rfl, rfl, rfl, hy0a, hy0b, hy0c⟩ := open_agg3 Tryz.underlying38 (by kernel_rfl) dayGoesCells (hval 0 38 v0 rfl rfl) h0
    obtain ⟨x0a, e0a, rfl, w0a⟩ := DataW.trod_int Tryz.underlying3 hy0a
    obtain ⟨x0b, e0b, rfl, w0b⟩ := DataW.trod_int Tryz.underlying3 hy0b
    obtain ⟨x0c, e0c, rfl, w0c⟩ := DataW.trod_int Tryz.underlying3 hy0c
    simp at e0a e0b e0c
    subst e0a e0b e0c
    obtain ⟨c1a, c1b, c1c, y1a, y1b, y1c, k1, rfl, rfl, rfl, hy1a, hy1b, hy1c⟩ := open_agg3 Tryz.underlying38 (by kernel_rfl) dayGoesCells (hval 1 38 v1 rfl rfl) h1
    obtain ⟨x1a, e1a, rfl, w1a⟩ := DataW.trod_int Tryz.underlying3 hy1a
    obtain ⟨x1b, e1b, rfl, w1b⟩ := DataW.trod_int Tryz.underlying3 hy1b
    obtain ⟨x1c, e1c, rfl, w1c⟩ := DataW.trod_int Tryz.underlying3 hy1c
    simp at e1a e1b e1c
    subst e1a e1b e1c
    obtain ⟨c2a, c2b, c2c, y2a, y2b, y2c, k2, rfl, rfl, rfl, hy2a, hy2b, hy2c⟩ := open_agg3 Tryz.underlying38 (by kernel_rfl) dayGoesCells (hval 2 38 v2 rfl rfl) h2
    obtain ⟨x2a, e2a, rfl, w2a⟩ := DataW.trod_int Tryz.underlying3 hy2a
    obtain ⟨x2b, e2b, rfl, w2b⟩ := DataW.trod_int Tryz.underlying3 hy2b
    obtain ⟨x2c, e2c, rfl, w2c⟩ := DataW.trod_int Tryz.underlying3 hy2c
    simp at e2a e2b e2c
    subst e2a e2b e2c
    clear hA0 hval0
    simp only [List.append_nil] at hW'
    refine (Dy.goes_law x0a x0b x0c x1a x1b x1c x2a x2b x2c W G).mono fun x W' ⟨he, hb⟩ => ?_
    subst he
    have sp : ∀ a b c : Int, (Lit.int .i64 a).wf = true → (Lit.int .i64 b).wf = true → (Lit.int .i64 c).wf = true → DataW.Trod enc Tryz.prog W' 0 (fun b => decide (b < W.heap.size)) true 38 (.agg #[.int .i64 a, .int .i64 b, .int .i64 c]) (.agg [.lit (.int .i64 a), .lit (.int .i64 b), .lit (.int .i64 c)]) [] := fun a b c wa wb wc =>
      shut_agg3 (y0 := (.lit (.int .i64 a), [])) (y1 := (.lit (.int .i64 b), [])) (y2 := (.lit (.int .i64 c), [])) Tryz.underlying38 (by kernel_rfl) dayGoesCells
        ⟨1, by simp [DataW.trod, Tryz.underlying3, wa]⟩ ⟨1, by simp [DataW.trod, Tryz.underlying3, wb]⟩ ⟨1, by simp [DataW.trod, Tryz.underlying3, wc]⟩
    exact ⟨_, rfl, _, _, _, [], _, [], hW', trodAll_mk1 (shut_bool Tryz.underlying4 _), (trodAll_cons_mk (sp x0a x0b x0c w0a w0b w0c) (trodAll_cons_mk (sp x1a x1b x1c w1a w1b w1c) (trodAll_cons_mk (sp x2a x2b x2c w2a w2b w2c) trodAll_mk0))), rfl, hb.frame _, fun h => by cases h⟩
  refine key.mono fun e W' ⟨v, he, hp⟩ => ?_
  subst he
  exact ChangeSpec.post_blind hp

theorem dayGoes_row : Rows.DayGoesSaid :=
  OpenClaim.holds_of_wide 4 Tryz.f4 rfl rfl rfl rfl rfl rfl rfl ⟨rfl, rfl, rfl, rfl, rfl⟩ rfl rfl rfl rfl rfl (by kernel_rfl) Tryz.func4 (by kernel_rfl)
    (of_decide_eq_true (by kernel_rfl)) (by unfold Func.isWrapper; first | (rw [if_pos (by decide +kernel)]; kernel_rfl) | (rw [if_neg (by decide +kernel)]; exact ⟨rfl, rfl⟩))
    (fun os started H enc _ => dayGoesLifted os started H enc)

theorem dayGoes_holds : Rows.DayGoesCardSaid :=
  Claim7.holds_tied_plain_at .later [] [.data, .data, .data, .data, .sentinel, .sentinel, .data, .pinned] true Rows.dayGoesCard.stood.harness Rows.dayGoesCard.stood.looks
    dayGoes_row (fun _ h => by cases h) (by kernel_rfl) (fun _ h => by cases h) dayGoes_row_tie rfl ⟨rfl, rfl⟩ (by kernel_rfl) rfl
    (fun f fn hf hfn => by
      obtain rfl : f = 4 := Option.some.inj ((show Tryz.prog.funcNamed "tontine/tontinelaw07.DayGoes" = some 4 by kernel_rfl).symm.trans hf) |>.symm
      obtain rfl : fn = Tryz.f4 := (Option.some.inj (Tryz.func4.symm.trans hfn)).symm
      exact ⟨by kernel_rfl, fun j t ht => by
        rw [Tryz.params4] at ht
        have hm : t ∈ [38, 38, 38] := by simpa using Array.mem_of_getElem? ht
        have hall : ([38, 38, 38].all fun u => !Tryz.prog.wantsStandIn u) = true := by kernel_rfl
        exact (show Tryz.prog.wantsStandIn t = false by simpa using List.all_eq_true.1 hall t hm)⟩)
    (by kernel_rfl)
#print axioms dayGoes_holds
end Go.Proofs.YtbfamafajefapaaGreatDoor
