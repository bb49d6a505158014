import Derived.Test.YthadighbhdekdaaDoorDy17
import Derived.Test.YthadighbhdekdaaDoorDw1
namespace Go.Proofs.YthadighbhdekdaaDoor.Dy
open Go.RowKit Tn
theorem mns_ex : mns 2024 1 31 1 = .tuple #[dt 2024 2 29, .int .i64 0] := by
  unfold mns
  rw [show good 2024 1 31 = true by decide, if_pos rfl, if_pos (by decide)]
  rw [show (mo 2024 1 + 1) / 12 + 1 = 2024 by decide, show (mo 2024 1 + 1) % 12 + 1 = 2 by decide, show min (31 : Int) (mk (mo 2024 1 + 1)) = 29 by decide]
theorem agR_ex : agR 2000 2 29 2023 2 28 1 = (23, 0) := by decide
set_option maxHeartbeats 1600000 in
theorem works_any (w : World) (G : Gl w) : Calls Tryd.prog 11 #[] w fun e w' => e = .returned (.bool true) ∧ Below w.heap.size w w' := by
  have N := Number_any 1970 1 1
  rw [show good 1970 1 1 = true by decide, if_pos rfl, show num 1970 1 1 = 719163 by decide, show er true = 0 from rfl] at N
  have M := Months_any 2024 1 31 1
  rw [mns_ex] at M
  have A := Age_any 2000 2 29 2023 2 28 1
  rw [agR_ex] at A
  have E := Easter_any 2024
  rw [show yr 2024 = true by decide, if_pos rfl, show eaN 2024 / 31 = 3 by decide, show eaN 2024 % 31 + 1 = 31 by decide] at E
  unfold dt at *
  go_enter Tryd.func11, Tryd.ntmps11
  go_wp2_with (first
    | (go_at_call 13; refine (N _ G).mono ?_; rintro x w1 ⟨rfl, b1⟩; have G1 := G.grow b1)
    | (go_at_call 25; refine (M _ G1).mono ?_; rintro x w2 ⟨rfl, b2⟩; have G2 := G1.grow b2; have p2 := belT b1 b2)
    | (go_at_call 26; refine (A _ (G2.alloc _)).mono ?_; rintro x w3 ⟨rfl, b3⟩; have X3 := (Blk.new w2 _ _).below b3 (Blk.new w2 _ _).lt; have G3 := (G2.alloc _).grow b3; have p3 := belT (belT p2 (bl _ _)) b3)
    | (go_at_call 27; refine (E _).mono ?_; rintro x w4 ⟨rfl, b4⟩; have X4 := X3.below b4 X3.lt; have x0 := X4.c0; have x1 := X4.c1; have x2 := X4.c2; have xl := X4.lt; have p4 := belT p3 b4)
    | fail)
  go_ret
  exact ⟨rfl, belT p4 (bl _ _)⟩
set_option maxHeartbeats 400000 in
theorem right_any (y m d : Int) (w : World) (G : Gl w) : Calls Tryd.prog 12 #[dt y m d] w fun e w' => e = .returned (.bool (good y m d)) ∧ Below w.heap.size w w' := by
  have pr := bl (w := w) #[.int .i64 y, .int .i64 m, .int .i64 d] 23
  have G' := G.alloc (.cells #[.int .i64 y, .int .i64 m, .int .i64 d] 23)
  have C := Check_any y m d
  cases g : good y m d
  all_goals
    rw [g] at C
    unfold dt er at *
    go_enter Tryd.func12, Tryd.ntmps12
    go_wp2_with (first
      | (go_at_call 19; refine (C _ G').mono ?_; rintro x w1 ⟨rfl, b1⟩)
      | fail)
    go_ret
    exact ⟨rfl, belT pr b1⟩
end Go.Proofs.YthadighbhdekdaaDoor.Dy
