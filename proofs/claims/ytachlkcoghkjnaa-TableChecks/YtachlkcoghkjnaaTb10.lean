import Derived.Test.YtachlkcoghkjnaaTb9
namespace Go.Proofs.Ytachlkcoghkjnaa.Ta
open Go.RowKit Go.Proofs.Ytachlkcoghkjnaa.L Dc
open Go.Proofs.Ytachlkcoghkjnaa.Mo (Ri wrapI)

/-- What is wrong with a basis. -/
def bas (s : ByteArray) (f : Int) (rs : List Int) (sel : List (List Int)) (r : Int) : Int := if chk s f rs sel = 0 then (if 0 ≤ r ∧ r ≤ 100000000 then 0 else 1) else chk s f rs sel

set_option maxHeartbeats 1600000 in
theorem Basis_any (s : ByteArray) (f r : Int) (vr vs : Value) (rs : List Int) (sel : List (List Int)) (w : World) (hs : s.size ≤ 140737488351232) (hr : Rx w vr rs) (hsel : Rr w vs sel) :
    Calls Try.prog 9 #[.agg #[.string s, .int .i64 f, vr, vs, .int .i64 r]] w fun e w' => e = .returned (.int .i64 (bas s f rs sel r)) ∧ Below w.heap.size w w' := by
  have C := fun W H1 H2 => Check_any s f vr vs rs sel W hs H1 H2
  have al : ∀ (c : Array Value) (t : TypeId), Below w.heap.size w (w.alloc (.cells c t)) := fun c t => (Below.refl _ _).alloc (Nat.le_refl _) _
  have K0 : Blk (w.alloc (.cells #[.string s, .int .i64 f, vr, vs, .int .i64 r] 27)) w.heap.size #[.string s, .int .i64 f, vr, vs, .int .i64 r] 27 := Blk.new w _ _
  by_cases h : chk s f rs sel = 0
  · have R : Hid (bas s f rs sel r = if 0 ≤ r ∧ r ≤ 100000000 then 0 else 1) := if_pos h
    rw [h] at C
    clear h
    by_cases h1 : r < 0
    · have R : Hid (bas s f rs sel r = 1) := R.out.trans (if_neg (by omega))
      go_enter Try.func9, Try.ntmps9
      go_wp2_with (go_at_call 8; refine (C _ (hr.grow (al _ _)) (hsel.grow (al _ _))).mono ?_; rintro e w1 ⟨rfl, B1⟩; go_must ((have K1 := K0.below B1 K0.lt); (have k4 := K1.at 4); (simp at k4)))
      go_ret
      exact ⟨by rw [R.out]; rfl, bel' (al _ _) B1⟩
    · by_cases h2 : 100000000 < r
      · have R : Hid (bas s f rs sel r = 1) := R.out.trans (if_neg (by omega))
        go_enter Try.func9, Try.ntmps9
        go_wp2_with (go_at_call 8; refine (C _ (hr.grow (al _ _)) (hsel.grow (al _ _))).mono ?_; rintro e w1 ⟨rfl, B1⟩; go_must ((have K1 := K0.below B1 K0.lt); (have k4 := K1.at 4); (simp at k4)))
        go_ret
        exact ⟨by rw [R.out]; rfl, bel' (al _ _) B1⟩
      · have R : Hid (bas s f rs sel r = 0) := R.out.trans (if_pos (by omega))
        go_enter Try.func9, Try.ntmps9
        go_wp2_with (go_at_call 8; refine (C _ (hr.grow (al _ _)) (hsel.grow (al _ _))).mono ?_; rintro e w1 ⟨rfl, B1⟩; go_must ((have K1 := K0.below B1 K0.lt); (have k4 := K1.at 4); (simp at k4)))
        go_ret
        exact ⟨by rw [R.out]; rfl, bel' (al _ _) B1⟩
  · have R : Hid (bas s f rs sel r = chk s f rs sel) := if_neg h
    have h' : (chk s f rs sel != 0) = true := by rw [bne_iff_ne]; exact h
    generalize chk s f rs sel = q at *
    clear h
    go_enter Try.func9, Try.ntmps9
    go_wp2_with (go_at_call 8; refine (C _ (hr.grow (al _ _)) (hsel.grow (al _ _))).mono ?_; rintro e w1 ⟨rfl, B1⟩)
    go_ret
    exact ⟨by rw [R.out]; rfl, bel' (al _ _) B1⟩
set_option maxHeartbeats 1600000 in
theorem RBasis_any (s : ByteArray) (f r : Int) (vr vs : Value) (rs : List Int) (sel : List (List Int)) (w : World) (hs : s.size ≤ 140737488351232) (hr : Rx w vr rs) (hsel : Rr w vs sel) :
    Calls Try.prog 10 #[.agg #[.string s, .int .i64 f, vr, vs, .int .i64 r]] w fun e w' => e = .returned (.int .i64 (bas s f rs sel r)) ∧ Below w.heap.size w w' := by
  have C := fun W H1 H2 => RCheck_any s f vr vs rs sel W hs H1 H2
  have al : ∀ (c : Array Value) (t : TypeId), Below w.heap.size w (w.alloc (.cells c t)) := fun c t => (Below.refl _ _).alloc (Nat.le_refl _) _
  have K0 : Blk (w.alloc (.cells #[.string s, .int .i64 f, vr, vs, .int .i64 r] 27)) w.heap.size #[.string s, .int .i64 f, vr, vs, .int .i64 r] 27 := Blk.new w _ _
  by_cases h : chk s f rs sel = 0
  · have R : Hid (bas s f rs sel r = if 0 ≤ r ∧ r ≤ 100000000 then 0 else 1) := if_pos h
    rw [h] at C
    clear h
    by_cases h1 : r < 0
    · have R : Hid (bas s f rs sel r = 1) := R.out.trans (if_neg (by omega))
      go_enter Try.func10, Try.ntmps10
      go_wp2_with (go_at_call 6; refine (C _ (hr.grow (al _ _)) (hsel.grow (al _ _))).mono ?_; rintro e w1 ⟨rfl, B1⟩; go_must ((have K1 := K0.below B1 K0.lt); (have k4 := K1.at 4); (simp at k4)))
      go_ret
      exact ⟨by rw [R.out]; rfl, bel' (al _ _) B1⟩
    · by_cases h2 : 100000000 < r
      · have R : Hid (bas s f rs sel r = 1) := R.out.trans (if_neg (by omega))
        go_enter Try.func10, Try.ntmps10
        go_wp2_with (go_at_call 6; refine (C _ (hr.grow (al _ _)) (hsel.grow (al _ _))).mono ?_; rintro e w1 ⟨rfl, B1⟩; go_must ((have K1 := K0.below B1 K0.lt); (have k4 := K1.at 4); (simp at k4)))
        go_ret
        exact ⟨by rw [R.out]; rfl, bel' (al _ _) B1⟩
      · have R : Hid (bas s f rs sel r = 0) := R.out.trans (if_pos (by omega))
        go_enter Try.func10, Try.ntmps10
        go_wp2_with (go_at_call 6; refine (C _ (hr.grow (al _ _)) (hsel.grow (al _ _))).mono ?_; rintro e w1 ⟨rfl, B1⟩; go_must ((have K1 := K0.below B1 K0.lt); (have k4 := K1.at 4); (simp at k4)))
        go_ret
        exact ⟨by rw [R.out]; rfl, bel' (al _ _) B1⟩
  · have R : Hid (bas s f rs sel r = chk s f rs sel) := if_neg h
    have h' : (chk s f rs sel == 0) = false := by rw [beq_eq_false_iff_ne]; exact h
    generalize chk s f rs sel = q at *
    clear h
    go_enter Try.func10, Try.ntmps10
    go_wp2_with (go_at_call 6; refine (C _ (hr.grow (al _ _)) (hsel.grow (al _ _))).mono ?_; rintro e w1 ⟨rfl, B1⟩)
    go_ret
    exact ⟨by rw [R.out]; rfl, bel' (al _ _) B1⟩
theorem names9_any (w : World) : Calls Try.prog 4 #[] w fun e w' => e = .returned (.bool true) ∧ w' = w := by
  go_enter Try.func4, Try.ntmps4
  go_wp2
  go_ret
  exact ⟨rfl, rfl⟩
end Go.Proofs.Ytachlkcoghkjnaa.Ta
