import Derived.Test.YtcjlpfglnbddjaaDoorMt3
import Derived.Test.YtcjlpfglnbddjaaDoorMt10
namespace Go.Proofs.YtcjlpfglnbddjaaDoor.Mo
open Go.RowKit Go.Lib Dc

theorem show5 : showL (-5) = [45, 48, 46, 48, 53] := by
  unfold showL sg
  rw [show ((-5 : Int)).natAbs = 5 from rfl, show 5 / 100 = 0 from rfl, decDigits_one (by decide)]
  rfl
theorem isA5 : isA (-5) = true := by decide
set_option maxHeartbeats 3200000 in
set_option maxRecDepth 100000 in
theorem texts_walk (p : Int) (s : ByteArray) (X : ByteArray) (e a b c : Int) (w : World) (G : Gv w)
    (S1 : ∀ W, Gv W → Calls Tryd.prog 4 #[.int .i64 p] W fun x w' => x = .returned (.tuple #[.string X, .int .i64 e]) ∧ Below W.heap.size W w')
    (S2 : ∀ W, Calls Tryd.prog 5 #[.int .i64 p] W fun x w' => x = .returned (.tuple #[.string X, .int .i64 e]) ∧ Below W.heap.size W w')
    (R1 : ∀ W, Gv W → Calls Tryd.prog 6 #[.string s] W fun x w' => x = .returned (.tuple #[.int .i64 a, .agg #[.int .i64 b, .int .i64 c]]) ∧ Below W.heap.size W w')
    (R2 : ∀ W, Calls Tryd.prog 7 #[.string s] W fun x w' => x = .returned (.tuple #[.int .i64 a, .int .i64 b, .int .i64 c]) ∧ Below W.heap.size W w')
    (S5 : ∀ W, Gv W → Calls Tryd.prog 4 #[.int .i64 (-5)] W fun x w' => x = .returned (.tuple #[.string ⟨#[45, 48, 46, 48, 53]⟩, .int .i64 0]) ∧ Below W.heap.size W w') :
    Calls Tryd.prog 3 #[.int .i64 p, .string s] w fun x w' => x = .returned (.bool true) ∧ Below w.heap.size w w' := by
  have pr : Below w.heap.size w w := Below.refl _ _
  go_enter Tryd.func3, Tryd.ntmps3
  go_wp2_with (first
    | (go_at_call 4; (with_reducible refine (S1 _ G).mono ?_); rintro x w1 ⟨rfl, b1⟩; replace pr := pr.trans (b1.mono pr.size); replace G := G.grow b1)
    | (go_at_call 5; (with_reducible refine (S2 _).mono ?_); rintro x w2 ⟨rfl, b2⟩; replace pr := pr.trans (b2.mono pr.size); replace G := G.grow b2)
    | (go_at_call 6; (with_reducible refine (R1 _ G).mono ?_); rintro x w3 ⟨rfl, b3⟩; replace pr := pr.trans (b3.mono pr.size); replace G := G.grow b3)
    | (go_at_call 7; (with_reducible refine (R2 _).mono ?_); rintro x w4 ⟨rfl, b4⟩; have k0 : w4.cell? ⟨w3.heap.size, 0, none⟩ = some (.int .i64 b) := (b4.cell (p := ⟨w3.heap.size, 0, none⟩) (by simp)).trans (by simp); have k1 : w4.cell? ⟨w3.heap.size, 1, none⟩ = some (.int .i64 c) := (b4.cell (p := ⟨w3.heap.size, 1, none⟩) (by simp)).trans (by simp); have q4 := (pr.alloc pr.size (.cells #[.int .i64 b, .int .i64 c] 28)); replace pr := q4.trans (b4.mono q4.size); replace G := (G.grow ((Below.refl _ _).alloc (Nat.le_refl _) (.cells #[.int .i64 b, .int .i64 c] 28))).grow b4; clear q4)
    | (go_at_call 4; (with_reducible refine (S5 _ G).mono ?_); rintro x w5 ⟨rfl, b5⟩; have m0 := (b5.cell (p := ⟨w3.heap.size, 0, none⟩) (L.lt_of_cell k0)).trans k0; have m1 := (b5.cell (p := ⟨w3.heap.size, 1, none⟩) (L.lt_of_cell k0)).trans k1; replace pr := pr.trans (b5.mono pr.size)))
  go_ret
  exact ⟨rfl, pr⟩
end Go.Proofs.YtcjlpfglnbddjaaDoor.Mo
