import Derived.Test.YtachlkcoghkjnaaTb4
namespace Go.Proofs.Ytachlkcoghkjnaa.Ta
open Go.RowKit Go.Proofs.Ytachlkcoghkjnaa.L Dc
open Go.Proofs.Ytachlkcoghkjnaa.Mo (Ri wrapI)

theorem bel' {w W w1 : World} (pr : Below w.heap.size w W) (b1 : Below W.heap.size W w1) : Below w.heap.size w w1 := pr.trans (b1.mono pr.size)
/-- What is wrong with a table. -/
def chk (s : ByteArray) (f : Int) (rs : List Int) (sel : List (List Int)) : Int :=
  if nmB s = false then 2 else if ¬ (0 ≤ f ∧ f ≤ 130 ∧ 0 < rs.length ∧ f + rs.length ≤ 131) then 8 else if (rwB rs && selB rs sel) = true then 0 else 90
theorem chk_2 {s : ByteArray} {f : Int} {rs : List Int} {sel : List (List Int)} (h : nmB s = false) : chk s f rs sel = 2 := by simp [chk, h]
theorem chk_8 {s : ByteArray} {f : Int} {rs : List Int} {sel : List (List Int)} (h : nmB s = true) (h2 : ¬ (0 ≤ f ∧ f ≤ 130 ∧ 0 < rs.length ∧ f + rs.length ≤ 131)) : chk s f rs sel = 8 := by
  unfold chk; rw [if_neg (by rw [h]; simp), if_pos h2]
theorem chk_90 {s : ByteArray} {f : Int} {rs : List Int} {sel : List (List Int)} (h : nmB s = true) (h2 : 0 ≤ f ∧ f ≤ 130 ∧ 0 < rs.length ∧ f + rs.length ≤ 131) (h3 : (rwB rs && selB rs sel) = false) : chk s f rs sel = 90 := by
  unfold chk; rw [if_neg (by rw [h]; simp), if_neg (fun c => c h2), if_neg (by rw [h3]; simp)]
theorem chk_0 {s : ByteArray} {f : Int} {rs : List Int} {sel : List (List Int)} (h : nmB s = true) (h2 : 0 ≤ f ∧ f ≤ 130 ∧ 0 < rs.length ∧ f + rs.length ≤ 131) (h3 : (rwB rs && selB rs sel) = true) : chk s f rs sel = 0 := by
  unfold chk; rw [if_neg (by rw [h]; simp), if_neg (fun c => c h2), if_pos h3]
theorem of_chk_0 {s : ByteArray} {f : Int} {rs : List Int} {sel : List (List Int)} (h : chk s f rs sel = 0) : nmB s = true ∧ (0 ≤ f ∧ f ≤ 130 ∧ 0 < rs.length ∧ f + rs.length ≤ 131) ∧ rwB rs = true ∧ selB rs sel = true := by
  unfold chk at h
  split at h
  · cases h
  · rename_i a
    split at h
    · cases h
    · rename_i b
      split at h
      · rename_i c
        rw [Bool.and_eq_true] at c
        exact ⟨by simpa using a, Classical.not_not.1 b, c.1, c.2⟩
      · cases h

set_option maxRecDepth 100000 in
set_option maxHeartbeats 3200000 in
theorem Check_any (s : ByteArray) (f : Int) (vr vs : Value) (rs : List Int) (sel : List (List Int)) (w : World) (hs : s.size ≤ 140737488351232) (hr : Rx w vr rs) (hsel : Rr w vs sel) :
    Calls Try.prog 8 #[.agg #[.string s, .int .i64 f, vr, vs]] w fun e w' => e = .returned (.int .i64 (chk s f rs sel)) ∧ Below w.heap.size w w' := by
  have Nm := fun W => isName_any s W hs
  rcases hn : nmB s with _ | _
  · have R : Hid (chk s f rs sel = 2) := chk_2 hn
    rw [hn] at Nm
    go_enter Try.func8, Try.ntmps8
    go_wp2_with (go_at_call 16; refine (Nm _).mono ?_; rintro e w' ⟨rfl, m, rfl⟩)
    go_ret
    exact ⟨by rw [R.out]; rfl, below_drewN ((Below.refl _ _).alloc (Nat.le_refl _) _) _⟩
  · rw [hn] at Nm
    have A1 := fun W => isAge_any f W
    rcases ha : isAg f with _ | _
    · have R : Hid (chk s f rs sel = 8) := chk_8 hn (by simp [isAg] at ha; omega)
      rw [ha] at A1
      go_enter Try.func8, Try.ntmps8
      go_wp2_with (first | (go_at_call 16; refine (Nm _).mono ?_; rintro e w' ⟨rfl, m, rfl⟩) | (go_at_call 17; refine (A1 _).mono ?_; rintro e w' ⟨rfl, rfl⟩))
      go_ret
      exact ⟨by rw [R.out]; rfl, below_drewN ((Below.refl _ _).alloc (Nat.le_refl _) _) _⟩
    · have hf : 0 ≤ f ∧ f ≤ 130 := by simpa [isAg] using ha
      rw [ha] at A1
      have hr' := hr
      obtain ⟨_, ⟨ar, cr, rfl, _⟩, hL⟩ := hr'
      by_cases h0 : rs.length = 0
      · have R : Hid (chk s f rs sel = 8) := chk_8 hn (by omega)
        have z : ((rs.length : Int) == 0) = true := by rw [beq_iff_eq]; omega
        generalize rs.length = n at *
        subst h0
        go_enter Try.func8, Try.ntmps8
        go_wp2_with (first | (go_at_call 16; refine (Nm _).mono ?_; rintro e w' ⟨rfl, m, rfl⟩) | (go_at_call 17; refine (A1 _).mono ?_; rintro e w' ⟨rfl, rfl⟩))
        go_ret
        exact ⟨by rw [R.out]; rfl, below_drewN ((Below.refl _ _).alloc (Nat.le_refl _) _) _⟩
      · have z : ((rs.length : Int) == 0) = false := by rw [beq_eq_false_iff_ne]; omega
        have La := fun W => last_any s f ar rs.length cr vs W hf.1 hf.2 hL
        obtain ⟨M, hM⟩ : ∃ M : Int, f + (rs.length : Int) - 1 = M := ⟨_, rfl⟩
        rw [hM] at La
        have A2 := fun W => isAge_any M W
        rcases hb : isAg M with _ | _
        · have R : Hid (chk s f rs sel = 8) := chk_8 hn (by simp [isAg] at hb; omega)
          rw [hb] at A2
          clear hM
          go_enter Try.func8, Try.ntmps8
          go_wp2_with (first
            | (go_at_call 16; refine (Nm _).mono ?_; rintro e w' ⟨rfl, m, rfl⟩)
            | (go_at_call 17; (with_reducible refine (A2 _).mono ?_); rintro e w' ⟨rfl, rfl⟩)
            | (go_at_call 17; (with_reducible refine (A1 _).mono ?_); rintro e w' ⟨rfl, rfl⟩)
            | (go_at_call 15; refine (La _).mono ?_; rintro e w1 ⟨rfl, B1⟩))
          go_ret
          exact ⟨by rw [R.out]; rfl, bel' (below_drewN ((Below.refl _ _).alloc (Nat.le_refl _) _) _) B1⟩
        · have hb' : 0 ≤ M ∧ M ≤ 130 := by simpa [isAg] using hb
          have h2 : 0 ≤ f ∧ f ≤ 130 ∧ 0 < rs.length ∧ f + rs.length ≤ 131 := by omega
          rw [hb] at A2
          have Ar := fun W H => areRates_any (.slice ar rs.length cr) rs W H (by omega)
          rcases hw : rwB rs with _ | _
          · have R : Hid (chk s f rs sel = 90) := chk_90 hn h2 (by rw [hw]; rfl)
            rw [hw] at Ar
            clear hM h2 hb'
            go_enter Try.func8, Try.ntmps8
            go_wp2_with (first
              | (go_at_call 16; refine (Nm _).mono ?_; rintro e w' ⟨rfl, m, rfl⟩)
              | (go_at_call 17; (with_reducible refine (A2 _).mono ?_); rintro e w' ⟨rfl, rfl⟩)
              | (go_at_call 17; (with_reducible refine (A1 _).mono ?_); rintro e w' ⟨rfl, rfl⟩)
              | (go_at_call 15; refine (La _).mono ?_; rintro e w1 ⟨rfl, B1⟩; go_must ((have B2 := bel' (below_drewN ((Below.refl w.heap.size w).alloc (Nat.le_refl _) (.cells #[.string s, .int .i64 f, .slice ar rs.length cr, vs] 25)) m) B1); (have K0 : Blk ((w.alloc (.cells #[.string s, .int .i64 f, .slice ar rs.length cr, vs] 25)).drewN m) w.heap.size #[.string s, .int .i64 f, .slice ar rs.length cr, vs] 25 := Blk.new w _ _); (have K1 := K0.below B1 K0.lt); (have k2 := K1.at 2); (simp at k2)))
              | (go_at_call 18; refine (Ar _ (hr.grow B2)).mono ?_; rintro e w' ⟨rfl, rfl⟩))
            go_ret
            exact ⟨by rw [R.out]; rfl, B2⟩
          · have Se := fun W H1 H2 => isSelect_any s f (.slice ar rs.length cr) vs rs sel W H1 H2
            have R : Hid (chk s f rs sel = if selB rs sel then 0 else 90) := by
              show _ = _
              rcases h : selB rs sel with _ | _
              · rw [chk_90 hn h2 (by rw [hw, h]; rfl)]; rfl
              · rw [chk_0 hn h2 (by rw [hw, h]; rfl)]; rfl
            rw [hw] at Ar
            clear hM h2 hb'
            generalize selB rs sel = q at *
            go_enter Try.func8, Try.ntmps8
            cases q
            all_goals
              go_wp2_with (first
                | (go_at_call 16; refine (Nm _).mono ?_; rintro e w' ⟨rfl, m, rfl⟩)
                | (go_at_call 17; (with_reducible refine (A2 _).mono ?_); rintro e w' ⟨rfl, rfl⟩)
                | (go_at_call 17; (with_reducible refine (A1 _).mono ?_); rintro e w' ⟨rfl, rfl⟩)
                | (go_at_call 15; refine (La _).mono ?_; rintro e w1 ⟨rfl, B1⟩; go_must ((have B2 := bel' (below_drewN ((Below.refl w.heap.size w).alloc (Nat.le_refl _) (.cells #[.string s, .int .i64 f, .slice ar rs.length cr, vs] 25)) m) B1); (have K0 : Blk ((w.alloc (.cells #[.string s, .int .i64 f, .slice ar rs.length cr, vs] 25)).drewN m) w.heap.size #[.string s, .int .i64 f, .slice ar rs.length cr, vs] 25 := Blk.new w _ _); (have K1 := K0.below B1 K0.lt); (have k0 := K1.at 0); (have k1 := K1.at 1); (have k2 := K1.at 2); (have k3 := K1.at 3); (simp at k0 k1 k2 k3)))
                | (go_at_call 18; refine (Ar _ (hr.grow B2)).mono ?_; rintro e w' ⟨rfl, rfl⟩)
                | (go_at_call 19; refine (Se _ (hr.grow B2) (hsel.grow B2)).mono ?_; rintro e w2 ⟨rfl, B3⟩))
              go_ret
              exact ⟨by rw [R.out]; rfl, bel' B2 B3⟩
end Go.Proofs.Ytachlkcoghkjnaa.Ta
