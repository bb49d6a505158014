import Derived.Test.YtachlkcoghkjnaaTb1
namespace Go.Proofs.Ytachlkcoghkjnaa.Ta
open Go.RowKit Go.Proofs.Ytachlkcoghkjnaa.L Dc
open Go.Proofs.Ytachlkcoghkjnaa.Mo (Ri wrapI empty_iff)

set_option maxRecDepth 100000 in
set_option maxHeartbeats 1600000 in
/-- isName of the program. -/
theorem isName_any (s : ByteArray) (w : World) (hs : s.size ≤ 140737488351232) :
    Calls Try.prog 16 #[.string s] w fun e w' => e = .returned (.bool (nmB s)) ∧ ∃ m, w' = w.drewN m := by
  have he : s.toList.isEmpty = decide (s.size = 0) := empty_iff s
  by_cases h0 : s.size = 0
  · have R : Hid (nmB s = false) := nmB_none h0
    have he' : s.toList.isEmpty = true := by rw [he]; simp [h0]
    clear he
    go_enter Try.func16, Try.ntmps16
    go_wp2
    go_ret
    exact ⟨by rw [R.out]; rfl, 0, rfl⟩
  · have he' : s.toList.isEmpty = false := by rw [he]; simp [h0]
    clear he
    by_cases h1 : 24 < s.size
    · have R : Hid (nmB s = false) := nmB_long h1
      have h1' : (24 : Int) < (s.size : Int) := by omega
      clear h0
      go_enter Try.func16, Try.ntmps16
      go_wp2
      go_ret
      exact ⟨by rw [R.out]; rfl, 0, rfl⟩
    · have zp : 0 < s.size := by omega
      have h1' : ¬ (24 : Int) < (s.size : Int) := by omega
      clear h0
      go_enter Try.func16, Try.ntmps16
      go_wp2_with fail
      go_loopw [15] (fun i wr => ∃ k : Nat, k ≤ s.size ∧ i = .int .i64 k ∧ Hid (0 < k → lett (bt s 0) = true) ∧ Hid (∀ j, j < k → (lett (bt s j) || othr (bt s j)) = true) ∧ ∃ m, wr = w.drewN m) (fun i _ => s.size - (intOf i).toNat)
      case atStart => exact ⟨0, Nat.zero_le _, rfl, fun h => absurd h (by omega), fun j hj => absurd hj (by omega), 0, rfl⟩
      case round =>
        obtain ⟨k, hk, rfl, hf, hd, m, rfl⟩ := hrel
        by_cases hlt : k < s.size
        · have x0 : (0 : Int) ≤ (k : Int) := by omega
          have x1 : ((k : Int)).toNat = k := by omega
          have L := lett_in hlt
          have O := othr_in hlt
          obtain ⟨p1, e1⟩ : ∃ p, decide (97 ≤ (s[k].toNat : Int)) = p := ⟨_, rfl⟩
          obtain ⟨p2, e2⟩ : ∃ p, decide ((s[k].toNat : Int) ≤ 122) = p := ⟨_, rfl⟩
          obtain ⟨p3, e3⟩ : ∃ p, decide (48 ≤ (s[k].toNat : Int)) = p := ⟨_, rfl⟩
          obtain ⟨p4, e4⟩ : ∃ p, decide ((s[k].toNat : Int) ≤ 57) = p := ⟨_, rfl⟩
          obtain ⟨p5, e5⟩ : ∃ p, ((s[k].toNat : Int) == 95) = p := ⟨_, rfl⟩
          have L' : lett (bt s k) = (p1 && p2) := by rw [L, ← e1, ← e2]; congr 1 <;> simp <;> omega
          have O' : othr (bt s k) = (p3 && p4 || p5) := by rw [O, ← e3, ← e4, ← e5]; congr 1; congr 1 <;> simp <;> omega; rw [Bool.eq_iff_iff]; simp; omega
          clear L O
          rcases hz : decide (k = 0) with _ | _
          · have hz' : ((k : Int) == 0) = false := by simp at hz ⊢; omega
            have hz0 : k ≠ 0 := by simpa using hz
            clear hz
            rcases hg : (lett (bt s k) || othr (bt s k)) with _ | _
            · have R : Hid (nmB s = false) := nmB_bad hlt hg
              rw [L', O'] at hg
              clear L' O'
              cases p1 <;> cases p2 <;> cases p3 <;> cases p4 <;> cases p5 <;> first | (exfalso; revert hg; decide) | (exfalso; simp at e1 e2 e3 e4 e5; omega) | skip
              all_goals
                clear hg
                go_wp2_with fail
                go_quiet (fail)
                go_wp2
                go_ret
                exact ⟨by rw [R.out]; rfl, _, rfl⟩
            · have F : Hid (0 < k + 1 → lett (bt s 0) = true) := fun _ => hf.out (by omega)
              have N : Hid (∀ j, j < k + 1 → (lett (bt s j) || othr (bt s j)) = true) := fun j hjk => by
                by_cases e : j = k
                · subst e; exact hg
                · exact hd.out j (by omega)
              rw [L', O'] at hg
              clear L' O'
              cases p1 <;> cases p2 <;> cases p3 <;> cases p4 <;> cases p5 <;> first | (exfalso; revert hg; decide) | (exfalso; simp at e1 e2 e3 e4 e5; omega) | skip
              all_goals
                clear hg
                go_wp2_with fail
                go_quiet (fail)
                go_wp2
                go_roundw
                case rel => exact ⟨k + 1, by omega, by go_num, F, N, _, rfl⟩
                case measure => simp [intOf]; omega
          · have hz0 : k = 0 := by simpa using hz
            have hz' : ((k : Int) == 0) = true := by simp; omega
            clear hz
            rcases hg : lett (bt s k) with _ | _
            · have R : Hid (nmB s = false) := nmB_first (by rw [← hz0]; exact hg)
              rw [L'] at hg
              clear L' O' hz0
              cases p1 <;> cases p2 <;> cases p3 <;> cases p4 <;> cases p5 <;> first | (exfalso; revert hg; decide) | (exfalso; simp at e1 e2 e3 e4 e5; omega) | skip
              all_goals
                clear hg
                go_wp2_with fail
                go_quiet (fail)
                go_wp2
                go_ret
                exact ⟨by rw [R.out]; rfl, _, rfl⟩
            · have F : Hid (0 < k + 1 → lett (bt s 0) = true) := fun _ => by rw [← hz0]; exact hg
              have N : Hid (∀ j, j < k + 1 → (lett (bt s j) || othr (bt s j)) = true) := fun j hjk => by
                obtain rfl : j = k := by omega
                rw [hg]; rfl
              rw [L'] at hg
              clear L' O' hz0
              cases p1 <;> cases p2 <;> cases p3 <;> cases p4 <;> cases p5 <;> first | (exfalso; revert hg; decide) | (exfalso; simp at e1 e2 e3 e4 e5; omega) | skip
              all_goals
                clear hg
                go_wp2_with fail
                go_quiet (fail)
                go_wp2
                go_roundw
                case rel => exact ⟨k + 1, by omega, by go_num, F, N, _, rfl⟩
                case measure => simp [intOf]; omega
        · have R : Hid (nmB s = true) := nmB_all zp (by omega) (hf.out (by omega)) (fun i hi => hd.out i (by omega))
          go_wp2
          go_ret
          exact ⟨by rw [R.out]; rfl, _, rfl⟩
end Go.Proofs.Ytachlkcoghkjnaa.Ta
