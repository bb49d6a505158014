import Derived.Test.YtachlkcoghkjnaaTb5
namespace Go.Proofs.Ytachlkcoghkjnaa.Ta
open Go.RowKit Go.Proofs.Ytachlkcoghkjnaa.L Dc
open Go.Proofs.Ytachlkcoghkjnaa.Mo (Ri wrapI)

set_option maxRecDepth 100000 in
set_option maxHeartbeats 3200000 in
theorem RCheck_any (s : ByteArray) (f : Int) (vr vs : Value) (rs : List Int) (sel : List (List Int)) (w : World) (hs : s.size ≤ 140737488351232) (hr : Rx w vr rs) (hsel : Rr w vs sel) :
    Calls Try.prog 6 #[.agg #[.string s, .int .i64 f, vr, vs]] w fun e w' => e = .returned (.int .i64 (chk s f rs sel)) ∧ Below w.heap.size w w' := by
  have Nm := fun W => Name_any s W hs
  have al : ∀ (c : Array Value) (t : TypeId), Below w.heap.size w (w.alloc (.cells c t)) := fun c t => (Below.refl _ _).alloc (Nat.le_refl _) _
  rcases hn : nmB s with _ | _
  · have R : Hid (chk s f rs sel = 2) := chk_2 hn
    rw [hn] at Nm
    go_enter Try.func6, Try.ntmps6
    go_wp2_with (go_at_call 13; refine (Nm _).mono ?_; rintro e w' ⟨rfl, rfl⟩)
    go_ret
    exact ⟨by rw [R.out]; rfl, al _ _⟩
  · rw [hn] at Nm
    have hr' := hr
    obtain ⟨_, ⟨ar, cr, rfl, _⟩, hL⟩ := hr'
    by_cases h2 : 0 ≤ f ∧ f ≤ 130 ∧ 0 < rs.length ∧ f + rs.length ≤ 131
    · have y1 : decide (f < 0) = false := decide_eq_false (by omega)
      have y2 : decide (130 < f) = false := decide_eq_false (by omega)
      have y3 : decide ((rs.length : Int) < 1) = false := decide_eq_false (by omega)
      obtain ⟨M, hM⟩ : ∃ M : Int, 131 - f = M := ⟨_, rfl⟩
      have x2 : IntKind.i64.wrap (131 - f) = M := by rw [← hM]; exact wrapI _ (by omega) (by omega)
      have y4 : decide (M < (rs.length : Int)) = false := decide_eq_false (by omega)
      have Rw := fun W H => row_any (.slice ar rs.length cr) rs W H
      obtain ⟨hLs, az, cs, rfl, g⟩ := hsel
      rcases hw : rwB rs with _ | _
      · have R : Hid (chk s f rs sel = 90) := chk_90 hn h2 (by rw [hw]; rfl)
        rw [hw] at Rw
        clear hM h2 g
        go_enter Try.func6, Try.ntmps6
        go_wp2_with (first | (go_at_call 13; refine (Nm _).mono ?_; rintro e w' ⟨rfl, rfl⟩) | (go_at_call 14; refine (Rw _ (hr.grow (al _ _))).mono ?_; rintro e w' ⟨rfl, rfl⟩))
        go_ret
        exact ⟨by rw [R.out]; rfl, al _ _⟩
      · rw [hw] at Rw
        by_cases h3 : 10 < sel.length ∨ rs.length < sel.length
        · have R : Hid (chk s f rs sel = 90) := chk_90 hn h2 (by rw [selB_long h3]; simp)
          have h3' : (10 : Int) < (sel.length : Int) ∨ (¬ (10 : Int) < (sel.length : Int) ∧ (rs.length : Int) < (sel.length : Int)) := by omega
          clear hM h2 g h3
          rcases h3' with h3 | ⟨h3, h4⟩
          · go_enter Try.func6, Try.ntmps6
            go_wp2_with (first | (go_at_call 13; refine (Nm _).mono ?_; rintro e w' ⟨rfl, rfl⟩) | (go_at_call 14; refine (Rw _ (hr.grow (al _ _))).mono ?_; rintro e w' ⟨rfl, rfl⟩))
            go_ret
            exact ⟨by rw [R.out]; rfl, al _ _⟩
          · go_enter Try.func6, Try.ntmps6
            go_wp2_with (first | (go_at_call 13; refine (Nm _).mono ?_; rintro e w' ⟨rfl, rfl⟩) | (go_at_call 14; refine (Rw _ (hr.grow (al _ _))).mono ?_; rintro e w' ⟨rfl, rfl⟩))
            go_ret
            exact ⟨by rw [R.out]; rfl, al _ _⟩
        · have h3' : ¬ (10 : Int) < (sel.length : Int) := by omega
          have h4' : ¬ (rs.length : Int) < (sel.length : Int) := by omega
          have H2 : Hid (0 ≤ f ∧ f ≤ 130 ∧ 0 < rs.length ∧ f + rs.length ≤ 131) := h2
          clear hM h2
          go_enter Try.func6, Try.ntmps6
          go_wp2_with (first | (go_at_call 13; refine (Nm _).mono ?_; rintro e w' ⟨rfl, rfl⟩) | (go_at_call 14; refine (Rw _ (hr.grow (al _ _))).mono ?_; rintro e w' ⟨rfl, rfl⟩))
          go_loopw [3] (fun i wr => ∃ k : Nat, k ≤ sel.length ∧ i = .int .i64 k ∧ Hid (∀ d, d < k → (sel.getD d []).length + d = rs.length ∧ rwB (sel.getD d []) = true) ∧ Blk wr w.heap.size #[.string s, .int .i64 f, .slice ar rs.length cr, .slice az sel.length cs] 25 ∧ Below w.heap.size w wr) (fun i _ => sel.length - (intOf i).toNat)
          case atStart => exact ⟨0, Nat.zero_le _, rfl, fun j hj => absurd hj (by omega), Blk.new _ _ _, (Below.refl _ _).alloc (Nat.le_refl _) _⟩
          case round =>
            obtain ⟨k, hk, rfl, hd, hB, HB⟩ := hrel
            have q2 := hB.at 2
            have q3 := hB.at 3
            simp at q2 q3
            have hBl := hB.lt
            by_cases hlt : k < sel.length
            · obtain ⟨b, o, rfl, hc⟩ := g (by omega)
              obtain ⟨vd, c0, r1⟩ := hc k hlt
              have b1 : b < w.heap.size := lt_of_cell c0
              have c1 : wr.cell? ⟨b, o + k, none⟩ = some vd := (HB.cell (p := ⟨b, o + k, none⟩) b1).trans c0
              have r2 : ∀ j, Rx (wr.drewN j) vd (sel.getD k []) := fun j => (r1.grow HB).grow (below_drewN (Below.refl _ _) j)
              obtain ⟨_, ⟨ad, cd, rfl, _⟩, hLd⟩ := r1
              have x0 : (0 : Int) ≤ (k : Int) := by omega
              have x1 : ((k : Int)).toNat = k := by omega
              obtain ⟨M', hM⟩ : ∃ M : Int, (rs.length : Int) - (k : Int) = M := ⟨_, rfl⟩
              have x2 : IntKind.i64.wrap ((rs.length : Int) - (k : Int)) = M' := by rw [← hM]; exact wrapI _ (by omega) (by omega)
              clear g hc c0
              by_cases hg : (sel.getD k []).length + k = rs.length
              · have y : (((sel.getD k []).length : Int) != M') = false := by rw [bne_eq_false_iff_eq]; omega
                have A := fun j => row_any _ (sel.getD k []) _ (r2 j)
                rcases hw' : rwB (sel.getD k []) with _ | _
                · have R : Hid (chk s f rs sel = 90) := chk_90 hn H2.out (by rw [selB_bad hlt (by rw [hw']; simp)]; simp)
                  rw [hw'] at A
                  clear hM r2
                  generalize (sel.getD k []).length = L at *
                  go_wp2_with fail
                  go_quiet ((go_at_call 14; exact Calls.quiet_of_same (A _)))
                  go_wp2
                  go_ret
                  exact ⟨by rw [R.out]; rfl, below_drewN HB _⟩
                · have N : Hid (∀ d, d < k + 1 → (sel.getD d []).length + d = rs.length ∧ rwB (sel.getD d []) = true) := fun j hjk => by
                    by_cases e : j = k
                    · subst e; exact ⟨hg, hw'⟩
                    · exact hd.out j (by omega)
                  rw [hw'] at A
                  clear hM r2
                  generalize (sel.getD k []).length = L at *
                  go_wp2_with fail
                  go_quiet ((go_at_call 14; exact Calls.quiet_of_same (A _)))
                  go_wp2
                  go_roundw
                  case rel => exact ⟨k + 1, by omega, by go_num, N, hB, below_drewN HB _⟩
                  case measure => simp [intOf]; omega
              · have R : Hid (chk s f rs sel = 90) := chk_90 hn H2.out (by rw [selB_bad hlt (fun h => hg h.1)]; simp)
                have y : (((sel.getD k []).length : Int) != M') = true := by rw [bne_iff_ne]; omega
                clear hM r2 hg
                generalize (sel.getD k []).length = L at *
                go_wp2_with fail
                go_quiet (fail)
                go_wp2
                go_ret
                exact ⟨by rw [R.out]; rfl, below_drewN HB _⟩
            · have R : Hid (chk s f rs sel = 0) := chk_0 hn H2.out (by rw [hw, selB_all (by omega) (by omega) (fun i hi => hd.out i (by omega))]; rfl)
              clear g
              go_wp2
              go_ret
              exact ⟨by rw [R.out]; rfl, HB⟩
    · have R : Hid (chk s f rs sel = 8) := chk_8 hn h2
      rcases (show f < 0 ∨ (¬ f < 0 ∧ 130 < f) ∨ (¬ f < 0 ∧ ¬ 130 < f ∧ (rs.length : Int) < 1) ∨ (¬ f < 0 ∧ ¬ 130 < f ∧ ¬ (rs.length : Int) < 1 ∧ 131 - f < (rs.length : Int)) by omega) with y1 | ⟨y1, y2⟩ | ⟨y1, y2, y3⟩ | ⟨y1, y2, y3, y4⟩
      · have y1 : decide (f < 0) = true := decide_eq_true y1
        clear h2
        go_enter Try.func6, Try.ntmps6
        go_wp2_with (go_at_call 13; refine (Nm _).mono ?_; rintro e w' ⟨rfl, rfl⟩)
        go_ret
        exact ⟨by rw [R.out]; rfl, al _ _⟩
      · have y1 : decide (f < 0) = false := decide_eq_false y1
        have y2 : decide (130 < f) = true := decide_eq_true y2
        clear h2
        go_enter Try.func6, Try.ntmps6
        go_wp2_with (go_at_call 13; refine (Nm _).mono ?_; rintro e w' ⟨rfl, rfl⟩)
        go_ret
        exact ⟨by rw [R.out]; rfl, al _ _⟩
      · have y1 : decide (f < 0) = false := decide_eq_false y1
        have y2 : decide (130 < f) = false := decide_eq_false y2
        have y3 : decide ((rs.length : Int) < 1) = true := decide_eq_true y3
        clear h2
        go_enter Try.func6, Try.ntmps6
        go_wp2_with (go_at_call 13; refine (Nm _).mono ?_; rintro e w' ⟨rfl, rfl⟩)
        go_ret
        exact ⟨by rw [R.out]; rfl, al _ _⟩
      · obtain ⟨M, hM⟩ : ∃ M : Int, 131 - f = M := ⟨_, rfl⟩
        have x2 : IntKind.i64.wrap (131 - f) = M := by rw [← hM]; exact wrapI _ (by omega) (by omega)
        have y4 : decide (M < (rs.length : Int)) = true := decide_eq_true (by omega)
        have y1 : decide (f < 0) = false := decide_eq_false y1
        have y2 : decide (130 < f) = false := decide_eq_false y2
        have y3 : decide ((rs.length : Int) < 1) = false := decide_eq_false y3
        clear h2 hM
        go_enter Try.func6, Try.ntmps6
        go_wp2_with (go_at_call 13; refine (Nm _).mono ?_; rintro e w' ⟨rfl, rfl⟩)
        go_ret
        exact ⟨by rw [R.out]; rfl, al _ _⟩
end Go.Proofs.Ytachlkcoghkjnaa.Ta
