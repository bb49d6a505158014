import Derived.Test.YtemfndmffpalfaaDf5
namespace Go.Proofs.Ytemfndmffpalfaa.Df
open Go.RowKit Tn Go.Proofs.Ytemfndmffpalfaa.Ta
open Go.Proofs.Ytemfndmffpalfaa.Mo (Ri wrapI)

set_option maxRecDepth 100000 in
set_option maxHeartbeats 3200000 in
theorem RCheck_k0 (f : Int) (b o c L n : Nat) (w : World) (h1 : 0 < L) (h2 : L ≤ 8) (h3 : 0 ≤ f) (h4 : f ≤ 130) (hn : n = 0) (C0 : ∃ a cap, w.cell? ⟨b, o, none⟩ = some (.slice a n cap)) : Calls Try.prog 16 #[.agg #[.int .i64 f, .slice (some ⟨b, o, none⟩) L c]] w fun e w' => e = .returned (.int .i64 150) ∧ Below w.heap.size w w' := by
  obtain ⟨a, cap, c0⟩ := C0
  rw [hn] at c0
  have K := Blk.new w #[.int .i64 f, .slice (some ⟨b, o, none⟩) L c] 24
  have pr : Below w.heap.size w (w.alloc (.cells #[.int .i64 f, .slice (some ⟨b, o, none⟩) L c] 24)) := (Below.refl _ _).alloc (Nat.le_refl _) _
  have d1 : decide ((L : Int) < 1) = false := decide_eq_false (by omega)
  have d2 : decide ((L : Int) > 8) = false := decide_eq_false (by omega)
  have d3 : decide (f < 0) = false := decide_eq_false (by omega)
  have d4 : decide (f > 130) = false := decide_eq_false (by omega)
  have l0 : (0 : Int) < (L : Int) := by omega
  have c1 := (pr.cell (p := ⟨b, o, none⟩) (World.block_lt_of_cell? w _ c0)).trans c0
  go_enter Try.func16, Try.ntmps16
  go_wp2_with fail
  go_ret
  exact ⟨rfl, pr⟩
set_option maxRecDepth 100000 in
set_option maxHeartbeats 3200000 in
theorem RCheck_k1 (f : Int) (b o c L n : Nat) (w : World) (h1 : 0 < L) (h2 : L ≤ 8) (h3 : 0 ≤ f) (h4 : f ≤ 130) (hn : 0 < n) (hm : 131 < f + n) (C0 : ∃ a cap, w.cell? ⟨b, o, none⟩ = some (.slice a n cap)) : Calls Try.prog 16 #[.agg #[.int .i64 f, .slice (some ⟨b, o, none⟩) L c]] w fun e w' => e = .returned (.int .i64 150) ∧ Below w.heap.size w w' := by
  obtain ⟨a, cap, c0⟩ := C0
  have K := Blk.new w #[.int .i64 f, .slice (some ⟨b, o, none⟩) L c] 24
  have pr : Below w.heap.size w (w.alloc (.cells #[.int .i64 f, .slice (some ⟨b, o, none⟩) L c] 24)) := (Below.refl _ _).alloc (Nat.le_refl _) _
  have d1 : decide ((L : Int) < 1) = false := decide_eq_false (by omega)
  have d2 : decide ((L : Int) > 8) = false := decide_eq_false (by omega)
  have d3 : decide (f < 0) = false := decide_eq_false (by omega)
  have d4 : decide (f > 130) = false := decide_eq_false (by omega)
  have l0 : (0 : Int) < (L : Int) := by omega
  have d5 : decide ((n : Int) < 1) = false := decide_eq_false (by omega)
  have x1 : IntKind.i64.wrap (131 - f) = 131 - f := wrapI _ (by omega) (by omega)
  have d6 : decide ((n : Int) > 131 - f) = true := decide_eq_true (by omega)
  have c1 := (pr.cell (p := ⟨b, o, none⟩) (World.block_lt_of_cell? w _ c0)).trans c0
  go_enter Try.func16, Try.ntmps16
  go_wp2_with fail
  go_ret
  exact ⟨rfl, pr⟩
set_option maxRecDepth 100000 in
set_option maxHeartbeats 3200000 in
theorem RCheck_k2 (f : Int) (b o c L : Nat) (xs : Nat → List Int) (w : World) (h1 : 0 < L) (h2 : L ≤ 8) (h3 : 0 ≤ f) (h4 : f ≤ 130) (n : Nat) (hN : (xs 0).length = n) (hn : 0 < n) (hm : f + n ≤ 131) (R : Int) (hR : Hid (R = if (∀ d, d < L → (xs d).length = n ∧ arB (xs d) = true) then 0 else 150)) (CL : ∀ d, d < L → ∃ a cap, w.cell? ⟨b, o + d, none⟩ = some (.slice a (xs d).length cap) ∧ Rx w (.slice a (xs d).length cap) (xs d)) : Calls Try.prog 16 #[.agg #[.int .i64 f, .slice (some ⟨b, o, none⟩) L c]] w fun e w' => e = .returned (.int .i64 R) ∧ Below w.heap.size w w' := by
  obtain ⟨a, cap, c0, _⟩ := CL 0 h1
  rw [hN, Nat.add_zero] at c0
  have K := Blk.new w #[.int .i64 f, .slice (some ⟨b, o, none⟩) L c] 24
  have pr : Below w.heap.size w (w.alloc (.cells #[.int .i64 f, .slice (some ⟨b, o, none⟩) L c] 24)) := (Below.refl _ _).alloc (Nat.le_refl _) _
  have d1 : decide ((L : Int) < 1) = false := decide_eq_false (by omega)
  have d2 : decide ((L : Int) > 8) = false := decide_eq_false (by omega)
  have d3 : decide (f < 0) = false := decide_eq_false (by omega)
  have d4 : decide (f > 130) = false := decide_eq_false (by omega)
  have l0 : (0 : Int) < (L : Int) := by omega
  have d5 : decide ((n : Int) < 1) = false := decide_eq_false (by omega)
  have x1 : IntKind.i64.wrap (131 - f) = 131 - f := wrapI _ (by omega) (by omega)
  have d6 : decide ((n : Int) > 131 - f) = false := decide_eq_false (by omega)
  have c1 := (pr.cell (p := ⟨b, o, none⟩) (World.block_lt_of_cell? w _ c0)).trans c0
  go_enter Try.func16, Try.ntmps16
  go_wp2_with fail
  have k0 := K.at 0
  have k1 := K.at 1
  generalize w.alloc (.cells #[.int .i64 f, .slice (some ⟨b, o, none⟩) L c] 24) = W at *
  simp at k0 k1
  go_loopw [4] (fun i wr => ∃ k : Nat, k ≤ L ∧ i = .int .i64 k ∧ Hid (∀ d, d < k → (xs d).length = n ∧ arB (xs d) = true) ∧ wr = W) (fun i _ => L - (intOf i).toNat)
  case atStart => exact ⟨0, Nat.zero_le _, rfl, fun j hj => absurd hj (by omega), rfl⟩
  case round =>
    obtain ⟨k, hk, rfl, hd, hw⟩ := hrel
    obtain rfl := hw.symm
    by_cases hlt : k < L
    · obtain ⟨a', cap', c0', rx⟩ := CL k hlt
      have c2 := (pr.cell (p := ⟨b, o + k, none⟩) (World.block_lt_of_cell? w _ c0')).trans c0'
      have kl : (k : Int) < (L : Int) := by omega
      have kL : (k : Int) ≤ 8 := by omega
      obtain ⟨⟨hb, a9, cap9, e9, hl, hm9, g⟩, _, hL9⟩ := rx
      by_cases e1 : (xs k).length = n
      · rw [e1] at c2 e9 hl g
        obtain ⟨rfl, _, rfl⟩ : a' = a9 ∧ n = n ∧ cap' = cap9 := by simpa using e9
        obtain ⟨b', o', rfl, hc⟩ := g hn
        have G : Hid (∀ j, j < n → w.cell? ⟨b', o' + j, none⟩ = some (.int .i64 (Go.Proofs.Ytemfndmffpalfaa.L.nth (xs k) j))) := fun j hj => hc.at (by omega)
        have LB := hc.lt (by omega)
        have d7 : ((n : Int) != (n : Int)) = false := by simp
        have HK : Hid (k < L ∧ L ≤ 8 ∧ k ≤ L) := ⟨hlt, h2, hk⟩
        have HN : Hid (n ≤ 131 ∧ 0 < n) := ⟨by omega, hn⟩
        clear g hc CL hlt hk c0 c0' c1 d1 d2 d3 d4 d5 d6 x1 h1 h2 h3 h4 hN hm hl hm9 hL9 e9
        go_wp2_with fail
        go_loopw [5] (fun t wr => ∃ j : Nat, j ≤ n ∧ t = .int .i64 j ∧ Hid (∀ u, u < j → 0 ≤ Go.Proofs.Ytemfndmffpalfaa.L.nth (xs k) u ∧ Go.Proofs.Ytemfndmffpalfaa.L.nth (xs k) u ≤ 10000000) ∧ wr = W) (fun t _ => n - (intOf t).toNat)
        case atStart => exact ⟨0, Nat.zero_le _, rfl, fun j hj => absurd hj (by omega), rfl⟩
        case round =>
          obtain ⟨j, hj, rfl, hu, hw⟩ := hrel
          obtain rfl := hw.symm
          by_cases jl : j < n
          · have c3 := (pr.cell (p := ⟨b', o' + j, none⟩) (World.block_lt_of_cell? w _ (G.out j jl))).trans (G.out j jl)
            have jn : (j : Int) < (n : Int) := by omega
            have bn := hb j
            by_cases q : 0 ≤ Go.Proofs.Ytemfndmffpalfaa.L.nth (xs k) j ∧ Go.Proofs.Ytemfndmffpalfaa.L.nth (xs k) j ≤ 10000000
            · have q1 : decide (Go.Proofs.Ytemfndmffpalfaa.L.nth (xs k) j < 0) = false := decide_eq_false (by omega)
              have q2 : decide (Go.Proofs.Ytemfndmffpalfaa.L.nth (xs k) j > 10000000) = false := decide_eq_false (by omega)
              have N : Hid (∀ u, u < j + 1 → 0 ≤ Go.Proofs.Ytemfndmffpalfaa.L.nth (xs k) u ∧ Go.Proofs.Ytemfndmffpalfaa.L.nth (xs k) u ≤ 10000000) := fun u hu' => by
                by_cases e : u = j
                · subst e; exact q
                · exact hu.out u (by omega)
              have n131 := HN.out.1
              clear q hb
              generalize Go.Proofs.Ytemfndmffpalfaa.L.nth (xs k) j = x at *
              go_wp2_with fail
              go_roundw
              case rel => exact ⟨j + 1, by omega, by go_num, N, trivial⟩
              case measure => simp [intOf]; omega
            · obtain rfl : R = 150 := by
                rw [hR.out, if_neg]
                intro z
                have a1 := (z k HK.out.1).2
                rw [arB_bad (by omega) q] at a1
                cases a1
              have n131 := HN.out.1
              by_cases q1 : Go.Proofs.Ytemfndmffpalfaa.L.nth (xs k) j < 0
              · have q1' : decide (Go.Proofs.Ytemfndmffpalfaa.L.nth (xs k) j < 0) = true := decide_eq_true q1
                clear q hb hR q1
                generalize Go.Proofs.Ytemfndmffpalfaa.L.nth (xs k) j = x at *
                go_wp2_with fail
                go_ret
                exact ⟨rfl, pr⟩
              · have q1' : decide (Go.Proofs.Ytemfndmffpalfaa.L.nth (xs k) j < 0) = false := decide_eq_false q1
                have q2 : decide (Go.Proofs.Ytemfndmffpalfaa.L.nth (xs k) j > 10000000) = true := decide_eq_true (by omega)
                clear q hb hR q1
                generalize Go.Proofs.Ytemfndmffpalfaa.L.nth (xs k) j = x at *
                go_wp2_with fail
                go_ret
                exact ⟨rfl, pr⟩
          · obtain rfl : j = n := by omega
            have jn : ¬ (j : Int) < (j : Int) := by omega
            have A : arB (xs k) = true := arB_all (fun u hu' => hu.out u (by omega))
            have H : Hid (∀ d, d < k + 1 → (xs d).length = j ∧ arB (xs d) = true) := fun d hd' => by
              by_cases e : d = k
              · subst e; exact ⟨e1, A⟩
              · exact hd.out d (by omega)
            have hK := HK.out
            clear hb A
            go_wp2_with fail
            go_roundw
            case rel => exact ⟨k + 1, by omega, by go_num, H, trivial⟩
            case measure => simp [intOf]; omega
      · obtain rfl : R = 150 := by
          rw [hR.out, if_neg]
          intro z
          exact e1 (z k hlt).1
        have d7 : (((xs k).length : Int) != (n : Int)) = true := by
          simp; omega
        clear e1 CL hR g hb hl hL9 e9
        generalize (xs k).length = nk at *
        go_wp2_with fail
        go_ret
        exact ⟨rfl, pr⟩
    · obtain rfl : R = 0 := by
        rw [hR.out, if_pos]
        intro d hd'
        exact hd.out d (by omega)
      have kl : ¬ (k : Int) < (L : Int) := by omega
      clear CL hR
      go_wp2_with fail
      go_ret
      exact ⟨rfl, pr⟩
end Go.Proofs.Ytemfndmffpalfaa.Df
