/- The exact number that Exact and Exact32 tell of any float and any small float is the one of the document; no condition on the input. -/
import Derived.Test.YtiobnojcmeeikaaGreatDoorCards
import Derived.Test.YtiobnojcmeeikaaGreatDoorTie
import Derived.Test.YtiobnojcmeeikaaGreatDoorPart46
import Derived.Test.YtiobnojcmeeikaaGreatDoorPart44
import Derived.ProofKit
import Derived.LaidMore
import Derived.OpenShut
import Derived.Stop.Joined
import Derived.Shelf.Vars
import Derived.Laws.Tables
import Derived.Lib.SmallJoins
import Derived.ChangeBears2
import Derived.SizedLaws
import Derived.ChangeOld
import Derived.Below
import Derived.SevenTiedAt
namespace Go.Proofs.YtiobnojcmeeikaaGreatDoor
open Go.ChangeShapes Go.WideShapes Go.ChangeAt Go.RowKit Go.Joins
open Go.ChangeMaps (open_string shut_string)

theorem floatExactsOwn : ownKnob Tryz.prog.godebug = none := by kernel_rfl
/-- The table of utf8, as it lies. -/
def floatExactsFirst : Array Value := (Pinned.utf8FirstZ.map fun (n : Nat) => Value.int .u8 (n : Int)).toArray
set_option maxRecDepth 100000 in
/-- A start that fits: the heap that the door's own run leaves. -/
theorem floatExactsStart (os : Os) (args : Array Value) : laidMetH Tryz.prog Rows.floatExactsRow.laid (((World.doorLaid Tryz.prog 400 os).setRow 5 floatExactsFirst).forCall (fun _ _ => 0) ⟨#[], args, []⟩).memory :=
  laidMetH_of_parts3 (fuel := 8) (laidMet_of_run' 8 (by kernel_rfl) (by kernel_rfl)) (by kernel_rfl) (by kernel_rfl)
theorem floatExactsPT : (Tryz.prog.globals[2]?).map (·.type) = some 119 := by kernel_rfl
theorem floatExactsPTab : (Rows.laid_internal_strconv_uint64pow10 : DataW Unit) = Lib.tabData .u64 Lib.pow10Tab := by kernel_rfl
/-- What the condition gives the walks. -/
theorem floatExactsGl {W : World} (h : laidMetH Tryz.prog Rows.floatExactsRow.laid W) : Mo.Gw W := by
  rw [MakeChecks.laidMetH_plain _ _ _ (by kernel_rfl)] at h
  obtain ⟨ps, ⟨g0, t0, cs0, f0, p0, q0, hg0, ht0, hv0, hd0, ⟨g1, t1, cs1, f1, p1, q1, hg1, ht1, hv1, hd1, ⟨g2, t2, cs2, f2, p2, q2, hg2, ht2, hv2, hd2, ⟨g3, t3, cs3, f3, p3, q3, hg3, ht3, hv3, hd3, ⟨g4, t4, cs4, f4, p4, q4, hg4, ht4, hv4, hd4, _⟩, _⟩, _⟩, _⟩, _⟩, _, _⟩ := h
  obtain rfl := Option.some.inj (Dy.gPow.symm.trans hg2)
  obtain rfl := Option.some.inj (floatExactsPT.symm.trans ht2)
  rw [floatExactsPTab] at hd2
  refine Dy.gw_of ?_
  unfold Lib.TabIs
  rw [hv2, ← Lib.cells_of_tab (n := 20) (e := 22) (by kernel_rfl) Tryz.underlying22 (by kernel_rfl) (by kernel_rfl) hd2]

theorem floatExactsDT : (Tryz.prog.globals[1]?).map (·.type) = some 92 := by kernel_rfl
theorem floatExactsDTab : (Rows.laid_math_bits_deBruijn64tab : DataW Unit) = Lib.tabData .u8 Mo.dbT := by kernel_rfl
theorem floatExactsGd {W : World} (h : laidMetH Tryz.prog Rows.floatExactsRow.laid W) : Mo.Gz W := by
  rw [MakeChecks.laidMetH_plain _ _ _ (by kernel_rfl)] at h
  obtain ⟨ps, ⟨g0, t0, cs0, f0, p0, q0, hg0, ht0, hv0, hd0, ⟨g1, t1, cs1, f1, p1, q1, hg1, ht1, hv1, hd1, ⟨g2, t2, cs2, f2, p2, q2, hg2, ht2, hv2, hd2, ⟨g3, t3, cs3, f3, p3, q3, hg3, ht3, hv3, hd3, ⟨g4, t4, cs4, f4, p4, q4, hg4, ht4, hv4, hd4, _⟩, _⟩, _⟩, _⟩, _⟩, _, _⟩ := h
  obtain rfl := Option.some.inj (Mo.gDb.symm.trans hg1)
  obtain rfl := Option.some.inj (floatExactsDT.symm.trans ht1)
  rw [floatExactsDTab] at hd1
  refine Mo.gz_of ?_
  unfold Lib.TabIs
  rw [hv1, ← Lib.cells_of_tab (n := 64) (e := 5) (by kernel_rfl) Tryz.underlying5 (by kernel_rfl) (by kernel_rfl) hd1]

set_option maxRecDepth 100000 in
theorem floatExactsLifted (os : Os) (started : os.Started) (H : Type) (enc : TypeId × Value → H) :
    ReturnsInHanded {} Tryz.checked os 3 .any (fun w args => (Rows.floatExactsSpec.pre enc Tryz.prog Tryz.f3 [] false w args ∧ laidMetH Tryz.prog Rows.floatExactsRow.laid w) ∧ sizedMet enc Tryz.prog Tryz.f3 (OpenSpec.ofChange Rows.floatExactsSpec) false w args)
      (Rows.floatExactsSpec.post enc Tryz.prog Tryz.f3 false true false false) := by
  refine returnsInHanded_of_calls (C := Tryz.checked) floatExactsOwn started (by kernel_rfl)
    (ChangeSpec.witness_shaped (enc := enc) (C := Tryz.checked) (os := os) (X := fun w _ => laidMetH Tryz.prog Rows.floatExactsRow.laid w) false ((World.doorLaid Tryz.prog 400 os).setRow 5 floatExactsFirst) #[.int .u64 0, .int .u32 0] 8 rfl (World.shaped_of_RefB (by kernel_rfl) (by kernel_rfl)) (by kernel_rfl) (by kernel_rfl) (by kernel_rfl) (floatExactsStart os _)) ?_
  intro w tape i _ hsh _ hok hpre hholds
  obtain ⟨_, _, _, fn', hfn', _, _, _, _, hval0⟩ := hok
  obtain rfl : fn' = Tryz.f3 := Option.some.inj (hfn'.symm.trans Tryz.func3)
  obtain ⟨⟨⟨ds, gs, before, hw, hc⟩, hL0⟩, hz⟩ := hpre
  have hW := DataW.Whole.of_heap (w' := w.forCall tape i) (by rfl) hw
  have hL : laidMetH Tryz.prog Rows.floatExactsRow.laid (w.forCall tape i) := hL0.of_heap (by rfl)
  have G := floatExactsGl hL
  have Z := floatExactsGd hL
  clear hL hL0 hw hz hc hholds hsh
  have key : Calls Tryz.checked.prog 3 i.args (w.forCall tape i) fun e W' => ∃ v, e = .returned v ∧ Rows.floatExactsSpec.post enc Tryz.prog Tryz.f3 false true false false (w.forCall tape i) i.args v W' := by
    generalize w.forCall tape i = W at *
    have hval : ∀ (j : Nat) t v, Tryz.f3.params[j]? = some t → i.args[j]? = some v → Value.okWide Tryz.prog W .any w.heap.size t v := hval0
    have hW' := hW
    obtain ⟨p, q, hA0, hV, rfl, _, _⟩ := hW
    have hA : DataW.TrodAll enc Tryz.prog W 0 (fun _ => true) true Tryz.f3.params.toList i.args.toList ds p := hA0
    rw [Tryz.params3] at hA hval
    generalize i.args = args at *
    obtain ⟨v0, vs0, d0, ds0, p0, q0, hargs, rfl, rfl, h0, r0⟩ := trodAll_cons hA
    obtain ⟨v1, vs1, d1, ds1, p1, q1, rfl, rfl, rfl, h1, r1⟩ := trodAll_cons r0
    obtain ⟨rfl, rfl, rfl⟩ := trodAll_nil r1
    obtain rfl : args = #[v0, v1] := by cases args; simp_all
    obtain ⟨rfl, rfl⟩ := trodVars_none hV
    obtain ⟨n0, rfl, rfl, rfl, wn0⟩ := open_int Tryz.underlying22 (hval 0 22 v0 rfl rfl) h0
    obtain ⟨n1, rfl, rfl, rfl, wn1⟩ := open_int Tryz.underlying23 (hval 1 23 v1 rfl rfl) h1
    clear hA0 hval0
    simp only [List.append_nil] at hW'
    refine (Mo.exacts_wf n0 n1 W wn0 wn1 G Z).mono fun x W' ⟨he, hb⟩ => ?_
    subst he
    exact ⟨_, rfl, _, _, _, [], _, [], hW', trodAll_mk1 (shut_bool Tryz.underlying4 _), (trodAll_cons_mk (shut_int Tryz.underlying22 wn0) (trodAll_cons_mk (shut_int Tryz.underlying23 wn1) trodAll_mk0)), rfl, hb.frame _, fun h => by cases h⟩
  refine key.mono fun e W' ⟨v, he, hp⟩ => ?_
  subst he
  exact ChangeSpec.post_blind hp

theorem floatExacts_row : Rows.FloatExactsSaid :=
  OpenClaim.holds_of_wide 3 Tryz.f3 rfl rfl rfl rfl rfl rfl rfl ⟨rfl, rfl, rfl, rfl, rfl⟩ rfl rfl rfl rfl rfl (by kernel_rfl) Tryz.func3 (by kernel_rfl)
    (of_decide_eq_true (by kernel_rfl)) (by unfold Func.isWrapper; first | (rw [if_pos (by decide +kernel)]; kernel_rfl) | (rw [if_neg (by decide +kernel)]; exact ⟨rfl, rfl⟩))
    (fun os started H enc _ => floatExactsLifted os started H enc)

theorem floatExacts_holds : Rows.FloatExactsCardSaid :=
  Claim7.holds_tied_plain_at .later [] [.data, .data, .data, .data, .pinned] true Rows.floatExactsCard.stood.harness Rows.floatExactsCard.stood.looks
    floatExacts_row (fun _ h => by cases h) (by kernel_rfl) (fun _ h => by cases h) floatExacts_row_tie rfl ⟨rfl, rfl⟩ (by kernel_rfl) rfl
    (fun f fn hf hfn => by
      obtain rfl : f = 3 := Option.some.inj ((show Tryz.prog.funcNamed "tontine/tontinelaw02.FloatExacts" = some 3 by kernel_rfl).symm.trans hf) |>.symm
      obtain rfl : fn = Tryz.f3 := (Option.some.inj (Tryz.func3.symm.trans hfn)).symm
      exact ⟨by kernel_rfl, fun j t ht => by
        rw [Tryz.params3] at ht
        have hm : t ∈ [22, 23] := by simpa using Array.mem_of_getElem? ht
        have hall : ([22, 23].all fun u => !Tryz.prog.wantsStandIn u) = true := by kernel_rfl
        exact (show Tryz.prog.wantsStandIn t = false by simpa using List.all_eq_true.1 hall t hm)⟩)
    (by kernel_rfl)
end Go.Proofs.YtiobnojcmeeikaaGreatDoor
