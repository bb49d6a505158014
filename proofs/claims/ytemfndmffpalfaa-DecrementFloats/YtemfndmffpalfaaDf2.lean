import Derived.Test.YtemfndmffpalfaaDf1
import Derived.Test.YtemfndmffpalfaaBlk
import Derived.Deep.RegionHeld3
namespace Go.Proofs.Ytemfndmffpalfaa.Df
open Go.RowKit Tn Go.Proofs.Ytemfndmffpalfaa.Ta
open Go.Proofs.Ytemfndmffpalfaa.Mo (Ri wrapI)

theorem bel' {w W w1 : World} (pr : Below w.heap.size w W) (b1 : Below W.heap.size W w1) : Below w.heap.size w w1 := pr.trans (b1.mono pr.size)
/-- The first row's length. -/
def n0 (xss : List (List Int)) : Nat := (xss.getD 0 []).length
/-- Are causes right? -/
def ca (f : Int) (xss : List (List Int)) : Bool := decide (0 < xss.length ∧ xss.length ≤ 8 ∧ 0 ≤ f ∧ f ≤ 130 ∧ 0 < n0 xss ∧ f + n0 xss ≤ 131 ∧ ∀ d, d < xss.length → (xss.getD d []).length = n0 xss ∧ arB (xss.getD d []) = true)
theorem Rr.cell {w : World} {v : Value} {xss : List (List Int)} (h : Rr w v xss) : ∃ ao c, v = .slice ao xss.length c ∧ (0 < xss.length → ∃ b o, ao = some ⟨b, o, none⟩ ∧ ∀ d, d < xss.length → ∃ a cap, w.cell? ⟨b, o + d, none⟩ = some (.slice a (xss.getD d []).length cap) ∧ Rx w (.slice a (xss.getD d []).length cap) (xss.getD d [])) := by
  obtain ⟨h1, ao, c, e, g⟩ := h
  refine ⟨ao, c, e, fun l => ?_⟩
  obtain ⟨b, o, e, hc⟩ := g l
  refine ⟨b, o, e, fun d hd => ?_⟩
  obtain ⟨vd, c1, rx⟩ := hc d hd
  obtain ⟨⟨hb, a, cap, rfl, hl⟩, r2⟩ := rx
  exact ⟨a, cap, c1, ⟨⟨hb, a, cap, rfl, hl⟩, r2⟩⟩
theorem Rr.len {w : World} {v : Value} {xss : List (List Int)} (h : Rr w v xss) : xss.length * 24 ≤ 140737488351232 := h.1
theorem Rx.len {w : World} {v : Value} {xs : List Int} (h : Rx w v xs) : xs.length * 8 ≤ 140737488351232 := h.2.2
set_option maxRecDepth 100000 in
set_option maxHeartbeats 1600000 in
theorem last_c (f : Int) (vr : Value) (xss : List (List Int)) (w : World) (hr : Rr w vr xss) (h0 : 0 < xss.length) (f0 : 0 ≤ f) (f1 : f ≤ 130) :
    Calls Try.prog 10 #[.agg #[.int .i64 f, vr]] w fun e w' => e = .returned (.int .i64 (f + n0 xss - 1)) ∧ Below w.heap.size w w' := by
  obtain ⟨ao, c, rfl, g⟩ := Rr.cell hr
  obtain ⟨b, o, rfl, hc⟩ := g h0
  obtain ⟨a, cap, c1, rx⟩ := hc 0 h0
  have hL := Rx.len rx
  have K := Blk.new w #[.int .i64 f, .slice (some ⟨b, o, none⟩) xss.length c] 24
  have pr : Below w.heap.size w (w.alloc (.cells #[.int .i64 f, .slice (some ⟨b, o, none⟩) xss.length c] 24)) := (Below.refl _ _).alloc (Nat.le_refl _) _
  have lb := World.block_lt_of_cell? w _ c1
  have c2 := (pr.cell (p := ⟨b, o + 0, none⟩) lb).trans c1
  unfold n0
  generalize (xss.getD 0 []).length = L at *
  obtain ⟨M, hM⟩ : ∃ M : Int, f + (L : Int) = M := ⟨_, rfl⟩
  have x1 : IntKind.i64.wrap (f + (L : Int)) = M := by rw [← hM]; exact wrapI _ (by omega) (by omega)
  have x2 : IntKind.i64.wrap (M - 1) = M - 1 := wrapI _ (by omega) (by omega)
  rw [Nat.add_zero] at c2
  have hl : (0 : Int) < (xss.length : Int) := by omega
  rw [hM]
  clear hM hL hc g
  go_enter Try.func10, Try.ntmps10
  go_wp2_with fail
  generalize w.alloc (.cells #[.int .i64 f, .slice (some ⟨b, o, none⟩) xss.length c] 24) = W at *
  have k0 := K.at 0
  have k1 := K.at 1
  simp at k0 k1
  go_region_held3 (fun x => x.cell? ⟨w.heap.size, 0, none⟩ = some (.int .i64 f) ∧ x.cell? ⟨w.heap.size, 1, none⟩ = some (.slice (some ⟨b, o, none⟩) xss.length c) ∧ x.cell? ⟨b, o, none⟩ = some (.slice a L cap)) (go_keep) (fail)
  go_wp2_with fail
  go_ret
  exact ⟨rfl, pr.drew⟩
end Go.Proofs.Ytemfndmffpalfaa.Df
