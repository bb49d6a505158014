import Derived.Test.YteepjipecfdkoaaDoorCards
import Derived.Test.YteepjipecfdkoaaDoorWe13
import Derived.Deep.Slices
import Derived.Deep.Strs
import Derived.OpenShut
import Derived.SizedLaws
import Derived.Lib.SmallJoins
namespace Go.Proofs.YteepjipecfdkoaaDoor.Dy
open Go.RowKit Go.ChangeShapes Go.WideShapes Go.Deep Tn

theorem works_law (y m d how : Int) (ao : Option Addr) (c n : Nat) (f : Nat → Int × Int × Int) (w : World) (G : Gl w) (S : Rs w (.slice ao n c) n f) (hno : ao = none → c = 0) (hL : n * 24 ≤ 140737488351232) :
    Calls Tryd.prog 3 #[dt y m d, .slice ao n c, .int .i64 how] w fun x w' => x = .returned (.bool true) ∧ Below w.heap.size w w' :=
  works_walk y m d how _ _ _ _ ao c n f (fun i => if i < n then f i else (-7, 0, 0)) (fun i hi => if_pos hi) (if_neg (by omega)) w G S hno hL
    (fun v W a b => Work_any y m d how f n (by omega) v W a b) (fun v W a => RWork_any y m d how f n (by omega) v W a)
theorem cells3 {w : World} {base : Nat} {a : Addr} {cs : List Value} (h : w.cells? base a 3 = some cs) : ∃ v0 v1 v2, cs = [v0, v1, v2] ∧ w.cell? (a.add 0) = some v0 ∧ w.cell? (a.add 1) = some v1 ∧ w.cell? (a.add 2) = some v2 := by
  unfold World.cells? at h
  split at h
  · simp only [List.range, List.range.loop, List.mapM_cons, List.mapM_nil] at h
    cases h0 : w.cell? (a.add 0) with
    | none => simp [h0] at h
    | some v0 =>
      cases h1 : w.cell? (a.add 1) with
      | none => simp [h0, h1] at h
      | some v1 =>
        cases h2 : w.cell? (a.add 2) with
        | none => simp [h0, h1, h2] at h
        | some v2 =>
          simp [h0, h1, h2] at h
          exact ⟨v0, v1, v2, h.symm, rfl, rfl, rfl⟩
  · cases h
theorem dateCells : Tryd.prog.cellsOf 23 = 3 := by kernel_rfl
/-- A slice of dates that was handed in, as it reads. -/
theorem rs_of_trod {H : Type} {enc : TypeId × Value → H} {W : World} {fuel : Nat} {a0 : Option Addr} {len cap : Nat} {x : DataW H × List MemPlace} (h : DataW.trod enc Tryd.prog W 0 (fun _ => true) true fuel 24 [.slice a0 len cap] = some x) :
    ∃ f, Rs W (.slice a0 len cap) len f ∧ (a0 = none → cap = 0) ∧ (x.1 = .nil ∧ len = 0 ∨ ∃ e s, x.1 = .slice e s ∧ e.length = len) := by
  rcases open_slice Tryd.underlying24 h with ⟨hcs, rfl⟩ | ⟨a, len', cap', m, n, D, Pl, hcs, _, hl, hm, hmm, rfl, hx⟩
  · simp at hcs
    obtain ⟨rfl, rfl, rfl⟩ := hcs
    exact ⟨fun _ => (0, 0, 0), ⟨_, _, rfl, fun h => by omega⟩, fun _ => rfl, Or.inl ⟨rfl, rfl⟩⟩
  · simp at hcs
    obtain ⟨rfl, rfl, rfl⟩ := hcs
    simp only [if_true] at hmm
    subst hmm
    rw [dateCells] at hx
    have each : ∀ i, i < len → ∃ z : Int × Int × Int, W.cell? (a.add (i * 3)) = some (.int .i64 z.1) ∧ W.cell? (a.add (i * 3 + 1)) = some (.int .i64 z.2.1) ∧ W.cell? (a.add (i * 3 + 2)) = some (.int .i64 z.2.2) := by
      intro i hi
      obtain ⟨cs, h1, h2⟩ := hx i (by omega)
      obtain ⟨v0, v1, v2, rfl, c0, c1, c2⟩ := cells3 h1
      obtain ⟨y0, y1, y2, k, _, _, t0, t1, t2⟩ := trod_struct3 Tryd.underlying23 h2
      have ci : Tryd.prog.cellsOf 3 = 1 := by kernel_rfl
      obtain ⟨x0, e0, _, _⟩ := DataW.trod_int Tryd.underlying3 t0
      obtain ⟨x1, e1, _, _⟩ := DataW.trod_int Tryd.underlying3 t1
      obtain ⟨x2, e2, _, _⟩ := DataW.trod_int Tryd.underlying3 t2
      simp only [ci] at e0 e1 e2
      simp at e0 e1 e2
      subst e0 e1 e2
      have ad : ∀ j, (a.add (i * 3)).add j = a.add (i * 3 + j) := fun j => Addr.add_add _ _ _
      rw [ad] at c0 c1 c2
      exact ⟨(x0, x1, x2), c0, c1, c2⟩
    obtain ⟨f, hf⟩ := choose_lt each
    refine ⟨f, ⟨_, _, rfl, fun h0 => ?_⟩, (fun h => by simp at h), Or.inr ⟨_, _, rfl, by simp⟩⟩
    obtain ⟨b, o, s⟩ := a
    have hs : s = none := by simpa [Addr.add] using World.cell?_spot (hf 0 h0).1
    subst hs
    refine ⟨b, o, rfl, fun i hi => ?_⟩
    obtain ⟨g0, g1, g2⟩ := hf i hi
    rw [add_plain] at g0 g1 g2
    exact ⟨g0, by rw [Nat.add_assoc]; exact g1, by rw [Nat.add_assoc]; exact g2⟩
end Go.Proofs.YteepjipecfdkoaaDoor.Dy
