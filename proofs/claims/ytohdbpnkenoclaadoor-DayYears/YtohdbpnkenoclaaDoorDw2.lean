import Derived.Test.YtohdbpnkenoclaaDoorDw1
import Derived.Deep.DeepCutAuto
namespace Go.Proofs.YtohdbpnkenoclaaDoor.Dy
open Go.RowKit Tn
theorem blkN {V w2 : World} {n b : Nat} {c : Array Value} {t : TypeId} (h : Blk V b c t) (k : Below (V.drewN n).heap.size (V.drewN n) w2) : Blk w2 b c t := (k.block b h.lt).trans h
theorem undr {V w2 : World} {n : Nat} (k : Below (V.drewN n).heap.size (V.drewN n) w2) : Below V.heap.size V w2 := ⟨k.os, k.tape, k.output, k.size, k.block⟩
set_option maxHeartbeats 6400000 in
theorem years_walk (y m : Int) (w : World) (G : Gl w) : Calls Tryd.prog 3 #[.int .i64 y, .int .i64 m] w fun e w' => e = .returned (.bool true) ∧ Below w.heap.size w w' := by
  have Na := names_any
  have Le := Leap_any y
  have Ln := Length_any y m
  have Ea := Easter_any y
  by_cases h : 1 ≤ y ∧ y ≤ 9999
  · obtain ⟨h1, h2⟩ := h
    have g : yr y = true := yr_iff.2 ⟨h1, h2⟩
    have RL := RLeap_any y (by omega)
    have RE := REaster_any y h1 h2
    rw [g] at Le Ln Ea
    rw [if_pos rfl] at Ea
    have RG := fun k1 k2 => RLength_any y m (by omega) k1 k2
    rw [Bool.true_and] at Ln Le
    obtain ⟨N1, hN⟩ : ∃ N1, (if mt m = true then ml (lp y) m else 0) = N1 := ⟨_, rfl⟩
    obtain ⟨F1, hF⟩ : ∃ F1, rg (mt m) = F1 := ⟨_, rfl⟩
    rw [hN, hF] at Ln
    clear g
    have HN : Hid _ := hN
    have HF : Hid _ := hF
    have HG : Hid _ := RG
    clear hN hF RG
    generalize eaN y / 31 = M at *
    generalize eaN y % 31 + 1 = D at *
    generalize ml (lp y) m = L at *
    generalize lp y = l at *
    have hl : (l != l) = false := by simp
    unfold dt at *
    rw [show rg true = 0 from rfl] at Le
    go_enter Tryd.func3, Tryd.ntmps3
    go_wp2_with (first
        | (go_at_call 9; refine (Na _).mono ?_; rintro x w1 ⟨rfl, hw⟩; subst w1)
        | (go_at_call 10; refine (Le _).mono ?_; rintro x w1 ⟨rfl, hw⟩; subst w1)
        | (go_at_call 11; refine (Ln _ G).mono ?_; rintro x w1 ⟨rfl, hw⟩; subst w1)
        | (go_at_call 12; refine (Ea _).mono ?_; rintro x w1 ⟨rfl, b1⟩)
        | fail)
    have X0 := Blk.new w1 #[.int .i64 y, .int .i64 M, .int .i64 D] 29
    have p0 := belT b1 (bl (w := w1) #[.int .i64 y, .int .i64 M, .int .i64 D] 29)
    generalize w1.alloc (.cells #[.int .i64 y, .int .i64 M, .int .i64 D] 29) = V at *
    have x0 := X0.c0
    have x1 := X0.c1
    have x2 := X0.c2
    go_cut [75] from 58 to 74 (fun v wc => v = .bool false ∧ Below w.heap.size w wc)
    case first =>
      go_region_with (first
        | (go_at_call 13; refine (RL _).mono ?_; rintro x w2 ⟨rfl, rfl⟩)
        | (go_at_call 14; refine (RE _).mono ?_; rintro x w3 ⟨rfl, b3⟩; have X3 := blkN X0 b3; have p3 := belT p0 (undr b3); have x3 := X3.c0; have x4 := X3.c1; have x5 := X3.c2))
      all_goals
        go_wp2_with fail
        go_meet
        case rel => exact ⟨rfl, belT p0 (undr b3)⟩
    case rest =>
      obtain ⟨rfl, p3'⟩ := hcut
      clear x0 x1 x2 X0 b1 p0 Le Ln Ea RL RE Na
      by_cases k1 : m < 1
      · have k' : mt m = false := by simp [mt]; omega
        have HN' := HN.out
        have HF' := HF.out
        rw [k'] at HN' HF'
        simp [rg] at HN' HF'
        subst HN' HF'
        go_wp2_with fail
        go_ret
        exact ⟨rfl, p3'⟩
      by_cases k2 : 12 < m
      · have k' : mt m = false := by simp [mt]; omega
        have HN' := HN.out
        have HF' := HF.out
        rw [k'] at HN' HF'
        simp [rg] at HN' HF'
        subst HN' HF'
        go_wp2_with fail
        go_ret
        exact ⟨rfl, p3'⟩
      · have k' : mt m = true := by simp [mt]; omega
        have HN' := HN.out
        have HF' := HF.out
        have RG := HG.out (by omega) (by omega)
        rw [k'] at HN' HF'
        simp [rg] at HN' HF'
        subst HN' HF'
        go_wp2_with (first | (go_at_call 15; refine (RG _).mono ?_; rintro x w4 ⟨rfl, rfl⟩) | fail)
        go_ret
        exact ⟨rfl, p3'⟩
  · have g : yr y = false := by simp [yr]; omega
    rw [g] at Le Ln Ea
    rw [if_neg (by decide)] at Ea
    unfold dt rg at *
    by_cases k1 : y < 1
    · clear h
      go_enter Tryd.func3, Tryd.ntmps3
      go_wp2_with (first
          | (go_at_call 9; refine (Na _).mono ?_; rintro x w1 ⟨rfl, hw⟩; subst w1)
          | (go_at_call 10; refine (Le _).mono ?_; rintro x w1 ⟨rfl, hw⟩; subst w1)
          | (go_at_call 11; refine (Ln _ G).mono ?_; rintro x w1 ⟨rfl, hw⟩; subst w1)
          | (go_at_call 12; refine (Ea _).mono ?_; rintro x w1 ⟨rfl, b1⟩)
          | fail)
      go_ret
      exact ⟨rfl, belT b1 (bl _ _)⟩
    · have k2 : 9999 < y := by omega
      clear h
      go_enter Tryd.func3, Tryd.ntmps3
      go_wp2_with (first
          | (go_at_call 9; refine (Na _).mono ?_; rintro x w1 ⟨rfl, hw⟩; subst w1)
          | (go_at_call 10; refine (Le _).mono ?_; rintro x w1 ⟨rfl, hw⟩; subst w1)
          | (go_at_call 11; refine (Ln _ G).mono ?_; rintro x w1 ⟨rfl, hw⟩; subst w1)
          | (go_at_call 12; refine (Ea _).mono ?_; rintro x w1 ⟨rfl, b1⟩)
          | fail)
      go_ret
      exact ⟨rfl, belT b1 (bl _ _)⟩
end Go.Proofs.YtohdbpnkenoclaaDoor.Dy
