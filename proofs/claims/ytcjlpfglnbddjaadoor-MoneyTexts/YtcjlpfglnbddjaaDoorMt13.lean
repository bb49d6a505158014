import Derived.Test.YtcjlpfglnbddjaaDoorRows
import Derived.Test.YtcjlpfglnbddjaaDoorMt1
import Derived.ProofKit
import Derived.LaidMore
import Derived.OpenShut
import Derived.Stop.Joined
import Derived.Shelf.Vars
import Derived.Laws.Tables
namespace Go.Proofs.YtcjlpfglnbddjaaDoor
open Go.ChangeShapes Go.WideShapes Go.ChangeAt Go.RowKit

theorem textsOwn : ownKnob Tryd.prog.godebug = none := by kernel_rfl
theorem tTab : (Tryd.prog.globals[5]?).map (·.type) = some 102 := by kernel_rfl
theorem tErr : (Tryd.prog.globals[4]?).map (·.type) = some 44 := by kernel_rfl
theorem pow10_eq : (Rows.laid_internal_strconv_uint64pow10 : DataW Unit) = Lib.tabData .u64 Lib.pow10Tab := by kernel_rfl
/-- The table of utf8, as it lies. (A start that fits: the heap that the door's own run leaves, with this table.) -/
def firstCells : Array Value := (Pinned.utf8FirstZ.map fun (n : Nat) => Value.int .u8 (n : Int)).toArray
set_option maxRecDepth 100000 in
theorem start_met (os : Os) (args : Array Value) : laidMetH Tryd.prog Rows.moneyTextsRow.laid (((World.doorLaid Tryd.prog 400 os).setRow 1 firstCells).forCall (fun _ _ => 0) ⟨#[], args, []⟩).memory :=
  laidMetH_of_parts3 (fuel := 8) (laidMet_of_run' 8 (by kernel_rfl) (by kernel_rfl)) (by kernel_rfl) (by kernel_rfl)
/-- What the condition gives the walks. -/
theorem gv_of {W : World} (h : laidMetH Tryd.prog Rows.moneyTextsRow.laid W) (hm : ∃ m, W.cell? ⟨0, 0, none⟩ = some (.int .i64 m)) : Mo.Gv W := by
  rw [MakeChecks.laidMetH_plain _ _ _ (by kernel_rfl)] at h
  obtain ⟨ps, ⟨g0, t0, cs0, f0, p0, q0, hg0, ht0, hv0, hd0, ⟨g1, t1, cs1, f1, p1, q1, hg1, ht1, hv1, hd1, ⟨g2, t2, cs2, f2, p2, q2, hg2, ht2, hv2, hd2, ⟨g3, t3, cs3, f3, p3, q3, hg3, ht3, hv3, hd3, ⟨g4, t4, cs4, f4, p4, q4, hg4, ht4, hv4, hd4, _⟩, _⟩, _⟩, _⟩, _⟩, _, _⟩ := h
  obtain rfl := Option.some.inj (Mo.gTab.symm.trans hg2)
  obtain rfl := Option.some.inj (tTab.symm.trans ht2)
  obtain rfl := Option.some.inj (Mo.gErr.symm.trans hg4)
  obtain rfl := Option.some.inj (tErr.symm.trans ht4)
  refine ⟨?_, hm, ?_⟩
  · rw [pow10_eq] at hd2
    unfold Lib.TabIs
    rw [hv2, ← Lib.cells_of_tab (n := 20) (e := 53) (by kernel_rfl) Tryd.underlying53 (by kernel_rfl) (by kernel_rfl) hd2]
  · obtain ⟨_, u, v, hc, _⟩ := iface_of_trod Tryd.underlying44 hd4
    refine ⟨u, v, ?_⟩
    rw [hv4, ← Array.toArray_toList (xs := cs4), hc]
end Go.Proofs.YtcjlpfglnbddjaaDoor
