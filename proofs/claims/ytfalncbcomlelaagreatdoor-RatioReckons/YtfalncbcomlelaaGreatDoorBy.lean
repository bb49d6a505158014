import Derived.Test.YtfalncbcomlelaaGreatDoorGcd8
namespace Go.Proofs.YtfalncbcomlelaaGreatDoor
open Go.RowKit Tn

set_option maxRecDepth 100000 in
set_option maxHeartbeats 800000 in
/-- ratio.by. -/
theorem by_any (v1 v2 : Value) (xs ys : List Int) (w : World) (h1 : Rd w v1 xs) (h2 : Rd w v2 ys) (n1 : Nm xs) (n2 : Nm ys) (hy : 0 < val ys) (lx : xs.length ≤ 274877906944) :
    Calls Tryz.prog 77 #[.agg #[v1], .agg #[v2]] w fun e w' => ∃ r zs, e = .returned (.agg #[r]) ∧ Rd w' r zs ∧ Nm zs ∧ val zs = val xs / val ys ∧ Below w.heap.size w w' := by
  have H1 : Hid (Rd w v1 xs) := h1
  have H2 : Hid (Rd w v2 ys) := h2
  obtain ⟨a1, m1, c1, rfl⟩ := h1.shape
  obtain ⟨a2, m2, c2, rfl⟩ := h2.shape
  clear h1 h2
  have pr : Below w.heap.size w (((w.alloc (.cells #[.slice a1 m1 c1] 56)).alloc (.cells #[.slice a2 m2 c2] 56)).alloc (.cells #[.slice none 0 0] 56)) := (((Below.refl _ _).alloc (Nat.le_refl _) _).alloc (by simp) _).alloc (by simp; omega) _
  go_enter Tryz.func77, Tryz.ntmps77
  go_wp2_with fail
  refine (IsOne_any _ ys _ (H2.out.grow pr) n2).mono ?_
  rintro e w1 ⟨rfl, hb⟩
  have X0 := (((Bx.new w (.slice a1 m1 c1) 56).alloc (.cells #[.slice a2 m2 c2] 56)).alloc (.cells #[.slice none 0 0] 56)).below hb
  have X1 := ((Bx.new (w.alloc (.cells #[.slice a1 m1 c1] 56)) (.slice a2 m2 c2) 56).alloc (.cells #[.slice none 0 0] 56)).below hb
  have X2 := (Bx.new ((w.alloc (.cells #[.slice a1 m1 c1] 56)).alloc (.cells #[.slice a2 m2 c2] 56)) (.slice none 0 0) 56).below hb
  simp only [World.size_alloc] at X1 X2
  have p1 := pr.trans (hb.mono pr.size)
  have x0 := X0.1; have x1 := X1.1; have x2 := X2.1; have x2' := X2.2
  by_cases h : val ys = 1
  · have hd : decide (val ys = 1) = true := decide_eq_true h
    have HV : Hid (val xs = val xs / val ys) := by show _ = _; rw [h]; simp
    rw [hd]
    clear h hd
    have S2 := (X2.set (.slice a1 m1 c1)).1
    go_wp2
    refine bodyPost_ret (v := .agg #[.slice a1 m1 c1]) (by simp [results, Tryz.results77, go_sem, S2]) rfl ⟨_, xs, rfl, (H1.out.grow p1).box X2, n1, HV.out, below_put p1 (by omega) _⟩
  · have hd : decide (val ys = 1) = false := decide_eq_false h
    rw [hd]
    clear h hd
    go_wp2_with (go_at_call 99; go_must (refine (DivMod_any _ _ xs ys _ (H1.out.grow p1) (H2.out.grow p1) n1 n2 hy (by omega)).mono ?_; rintro e w2 ⟨r1, r2, zs, rs, rfl, hr1, hn1, hr2, -, hv1, -, hb2⟩; obtain ⟨q1, q2, q3, rfl⟩ := hr1.shape; obtain ⟨q4, q5, q6, rfl⟩ := hr2.shape; have HV : Hid _ := hv1; clear hv1; have Y2 := ((X2.below hb2).alloc (.cells #[.slice q1 q2 q3] 56)).alloc (.cells #[.slice q4 q5 q6] 56); have y2 := Y2.1; have y2' := Y2.2))
    have S2 := (Y2.set (.slice q1 q2 q3)).1
    have pa : Below w2.heap.size w2 ((w2.alloc (.cells #[.slice q1 q2 q3] 56)).alloc (.cells #[.slice q4 q5 q6] 56)) := ((Below.refl w2.heap.size w2).alloc (Nat.le_refl _) _).alloc (by simp) _
    have p2 := p1.trans (hb2.mono p1.size)
    have p3 := p2.trans (pa.mono p2.size)
    refine bodyPost_ret (v := .agg #[.slice q1 q2 q3]) (by simp [results, Tryz.results77, go_sem, S2]) rfl ⟨_, zs, rfl, (hr1.grow pa).box Y2, hn1, HV.out, below_put p3 (by omega) _⟩

set_option maxRecDepth 100000 in
/-- (fraction).sign. -/
theorem sign_any (g : Bool) (v1 v2 : Value) (xs : List Int) (w : World) (h1 : Rd w v1 xs) (n1 : Nm xs) (hs : ∃ a l c, v2 = .slice a l c) :
    Calls Tryz.prog 46 #[.agg #[.bool g, v1, v2]] w fun e w' => e = .returned (.int .i64 (if g = true then -1 else if val xs = 0 then 0 else 1)) ∧ Below w.heap.size w w' := by
  have H1 : Hid (Rd w v1 xs) := h1
  obtain ⟨a1, m1, c1, rfl⟩ := h1.shape
  obtain ⟨a2, m2, c2, rfl⟩ := hs
  clear h1
  cases g
  · go_enter Tryz.func46, Tryz.ntmps46
    go_wp2_with fail
    refine (IsZero_any _ xs _ (H1.out.grow ((Below.refl _ _).alloc (Nat.le_refl _) _)) n1).mono ?_
    rintro e w1 ⟨rfl, hb⟩
    have p1 := ((Below.refl w.heap.size w).alloc (Nat.le_refl _) _).trans (hb.mono (by simp))
    by_cases h : val xs = 0
    · rw [decide_eq_true h]
      go_wp2
      go_ret
      exact ⟨by simp, p1⟩
    · rw [decide_eq_false h]
      go_wp2
      go_ret
      exact ⟨by simp, p1⟩
  · go_enter Tryz.func46, Tryz.ntmps46
    go_wp2
    go_ret
    exact ⟨by simp, (Below.refl _ _).alloc (Nat.le_refl _) _⟩
end Go.Proofs.YtfalncbcomlelaaGreatDoor
