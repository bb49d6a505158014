import Derived.Test.YtfalncbcomlelaaGreatDoorGcd4
namespace Go.Proofs.YtfalncbcomlelaaGreatDoor
open Go.RowKit Tn

set_option maxRecDepth 100000 in
theorem copied_all (a : Option Addr) (c : Nat) (xs : List Int) (w : World) (hL : xs.length ≤ 549755813888) (h : 0 < xs.length → ∃ b o, a = some ⟨b, o, none⟩ ∧ Cells w b o xs) :
    Calls Tryz.prog 97 #[.agg #[.slice a xs.length c]] w fun e w' => ∃ g, e = .returned (.agg #[.slice (some ⟨g, 0, none⟩) xs.length xs.length]) ∧ w.heap.size < g ∧ g < w'.heap.size ∧ OwnN w' g xs.length ∧ Cells w' g 0 xs ∧ Below w.heap.size w w' := by
  have hs : Hid (∀ w', Below w.heap.size w w' → 0 < xs.length → ∃ b o, a = some ⟨b, o, none⟩ ∧ Cells w' b o xs) := fun w' k l => by obtain ⟨b, o, e, q⟩ := h l; exact ⟨b, o, e, q.grow k⟩
  clear h
  go_enter Tryz.func97, Tryz.ntmps97
  go_wp2_with (first
    | (at_make; refine wpList_make_wordsN rfl _ _ rfl xs.length _ _ rfl rfl rfl rfl (by omega) ?_; intro w1 k1 k2 k3 k4; have X0 := ((Bx.new w _ _).alloc _).below k3; have X1 := (Bx.new _ _ _).below k3; simp only [World.size_alloc] at X1 k1 k2 k3 k4; have q0 := below_alloc2 k3; clear k3; have x0 := X0.1)
    | ((with_reducible refine at_copy ?_); refine wpList_copy_words rfl _ _ rfl (List.replicate xs.length 0) xs _ 0 _ a _ _ _ rfl rfl (by simp) rfl (by simp) k1 k2.own (fun l => hs.out w1 q0 l) ?_; intro w2 k5 k6; rw [List.drop_of_length_le (by simp), List.append_nil] at k5; have Y1 := X1.wr k6 (by omega); have p0 := q0.trans (k6.below (B := w.heap.size) (by omega) (by omega)); have y1 := Y1.1; have y2 := Y1.2)
    | fail)
  have W1 : Wr (w.heap.size + 1) 0 1 w2 (w2.setCell ⟨w.heap.size + 1, 0, none⟩ (.slice (some ⟨w.heap.size + 1 + 1, 0, none⟩) xs.length xs.length)) := (Wr.refl _ _ _ _).setCell 0 (by omega) _
  have z := W1.size
  have z2 := k6.size
  refine bodyPost_ret (v := .agg #[.slice (some ⟨w.heap.size + 1 + 1, 0, none⟩) xs.length xs.length]) (by simp [results, Tryz.results97, go_sem, y1]) rfl ⟨w.heap.size + 1 + 1, rfl, by omega, by omega, (k2.wr k6).wr W1, k5.other W1 (by omega), below_put p0 (by omega) _⟩

set_option maxRecDepth 100000 in
/-- (Nat).lowest. -/
theorem lowest_any (v : Value) (xs : List Int) (w : World) (h : Rd w v xs) (n : Nm xs) :
    Calls Tryz.prog 102 #[.agg #[v]] w fun e w' => e = .returned (.int .u64 (nth xs 0)) ∧ Below w.heap.size w w' := by
  have H : Hid (Rd w v xs) := h
  obtain ⟨wx, a, c, rfl, _, _, g⟩ := h
  have pr : Below w.heap.size w (w.alloc (.cells #[.slice a xs.length c] 56)) := (Below.refl _ _).alloc (Nat.le_refl _) _
  by_cases h0 : xs = []
  · subst h0
    go_enter Tryz.func102, Tryz.ntmps102
    go_wp2_with (go_at_call 42; refine (iszero_len a _ _ _).mono ?_; rintro e w1 ⟨rfl, hb⟩)
    go_ret
    exact ⟨by simp [nth], pr.trans (hb.mono pr.size)⟩
  · have hl : 0 < xs.length := List.length_pos_iff.2 h0
    obtain ⟨b, o, rfl, hc⟩ := g hl
    have hb0 := hc.lt hl
    have hz : (xs.length == 0) = false := by rw [beq_eq_false_iff_ne]; omega
    have c0 := hc.at (i := 0) hl
    rw [Nat.add_zero] at c0
    clear h0
    go_enter Tryz.func102, Tryz.ntmps102
    go_wp2_with (go_at_call 42; refine (iszero_len (some ⟨b, o, none⟩) _ _ _).mono ?_; rintro e w1 ⟨rfl, hb⟩; rw [hz]; have X0 := (Bx.new w _ _).below hb; have x0 := X0.1; have pb := pr.trans (hb.mono pr.size); have c1 := (pb.cell (p := ⟨b, o, none⟩) hb0).trans c0)
    go_ret
    exact ⟨rfl, pb⟩
end Go.Proofs.YtfalncbcomlelaaGreatDoor
