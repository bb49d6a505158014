import Derived.Test.YtachlkcoghkjnaaTb3
namespace Go.Proofs.Ytachlkcoghkjnaa.Ta
open Go.RowKit Go.Proofs.Ytachlkcoghkjnaa.L Dc
open Go.Proofs.Ytachlkcoghkjnaa.Mo (Ri wrapI)

/-- Select fits the rates. -/
def selB (rs : List Int) (sel : List (List Int)) : Bool := decide (sel.length ≤ 10 ∧ sel.length ≤ rs.length ∧ ∀ d, d < sel.length → (sel.getD d []).length + d = rs.length ∧ rwB (sel.getD d []) = true)
theorem selB_long {rs : List Int} {sel : List (List Int)} (h : 10 < sel.length ∨ rs.length < sel.length) : selB rs sel = false := by simp only [selB, decide_eq_false_iff_not]; omega
theorem selB_bad {rs : List Int} {sel : List (List Int)} {d : Nat} (hd : d < sel.length) (h : ¬ ((sel.getD d []).length + d = rs.length ∧ rwB (sel.getD d []) = true)) : selB rs sel = false := by
  simp only [selB, decide_eq_false_iff_not]
  intro c
  exact h (c.2.2 d hd)
theorem selB_all {rs : List Int} {sel : List (List Int)} (h1 : sel.length ≤ 10) (h2 : sel.length ≤ rs.length) (h : ∀ d, d < sel.length → (sel.getD d []).length + d = rs.length ∧ rwB (sel.getD d []) = true) : selB rs sel = true := by
  simp only [selB, decide_eq_true_iff]; exact ⟨h1, h2, h⟩

set_option maxHeartbeats 400000 in
theorem last_any (s : ByteArray) (f : Int) (ao : Option Addr) (n c : Nat) (vs : Value) (w : World) (h0 : 0 ≤ f) (h1 : f ≤ 130) (hL : n * 8 ≤ 140737488351232) :
    Calls Try.prog 15 #[.agg #[.string s, .int .i64 f, .slice ao n c, vs]] w fun e w' => e = .returned (.int .i64 (f + n - 1)) ∧ Below w.heap.size w w' := by
  have x1 : IntKind.i64.wrap (f + (n : Int)) = f + n := wrapI _ (by omega) (by omega)
  have x2 : IntKind.i64.wrap (f + (n : Int) - 1) = f + n - 1 := wrapI _ (by omega) (by omega)
  go_enter Try.func15, Try.ntmps15
  go_wp2
  go_ret
  exact ⟨rfl, (Below.refl _ _).alloc (Nat.le_refl _) _⟩
set_option maxHeartbeats 400000 in
theorem RLast_any (s : ByteArray) (f : Int) (ao : Option Addr) (n c : Nat) (vs : Value) (w : World) (h0 : 0 ≤ f) (h1 : f ≤ 130) (hL : n * 8 ≤ 140737488351232) :
    Calls Try.prog 12 #[.agg #[.string s, .int .i64 f, .slice ao n c, vs]] w fun e w' => e = .returned (.int .i64 (f + n - 1)) ∧ Below w.heap.size w w' := by
  have x1 : IntKind.i64.wrap (f + (n : Int)) = f + n := wrapI _ (by omega) (by omega)
  have x2 : IntKind.i64.wrap (f + (n : Int) - 1) = f + n - 1 := wrapI _ (by omega) (by omega)
  go_enter Try.func12, Try.ntmps12
  go_wp2
  go_ret
  exact ⟨rfl, (Below.refl _ _).alloc (Nat.le_refl _) _⟩

set_option maxRecDepth 100000 in
set_option maxHeartbeats 1600000 in
theorem isSelect_any (s : ByteArray) (f : Int) (vr vs : Value) (rs : List Int) (sel : List (List Int)) (w : World) (hr : Rx w vr rs) (hs : Rr w vs sel) :
    Calls Try.prog 19 #[.agg #[.string s, .int .i64 f, vr, vs]] w fun e w' => e = .returned (.bool (selB rs sel)) ∧ Below w.heap.size w w' := by
  obtain ⟨_, ⟨ar, cr, rfl, _⟩, hL⟩ := hr
  obtain ⟨hLs, az, cs, rfl, g⟩ := hs
  by_cases h1 : 10 < sel.length
  · have R : Hid (selB rs sel = false) := selB_long (Or.inl h1)
    have h1' : (10 : Int) < (sel.length : Int) := by omega
    clear g
    go_enter Try.func19, Try.ntmps19
    go_wp2
    go_ret
    exact ⟨by rw [R.out]; rfl, (Below.refl _ _).alloc (Nat.le_refl _) _⟩
  · have h1' : ¬ (10 : Int) < (sel.length : Int) := by omega
    by_cases h2 : rs.length < sel.length
    · have R : Hid (selB rs sel = false) := selB_long (Or.inr h2)
      have h2' : (rs.length : Int) < (sel.length : Int) := by omega
      clear g h1
      go_enter Try.func19, Try.ntmps19
      go_wp2
      go_ret
      exact ⟨by rw [R.out]; rfl, (Below.refl _ _).alloc (Nat.le_refl _) _⟩
    · have h2' : ¬ (rs.length : Int) < (sel.length : Int) := by omega
      go_enter Try.func19, Try.ntmps19
      go_wp2_with fail
      go_loopw [20] (fun i wr => ∃ k : Nat, k ≤ sel.length ∧ i = .int .i64 k ∧ Hid (∀ d, d < k → (sel.getD d []).length + d = rs.length ∧ rwB (sel.getD d []) = true) ∧ Blk wr w.heap.size #[.string s, .int .i64 f, .slice ar rs.length cr, .slice az sel.length cs] 25 ∧ Below w.heap.size w wr) (fun i _ => sel.length - (intOf i).toNat)
      case atStart => exact ⟨0, Nat.zero_le _, rfl, fun j hj => absurd hj (by omega), Blk.new _ _ _, (Below.refl _ _).alloc (Nat.le_refl _) _⟩
      case round =>
        obtain ⟨k, hk, rfl, hd, hB, HB⟩ := hrel
        have q2 := hB.at 2
        have q3 := hB.at 3
        simp at q2 q3
        have hBl := hB.lt
        by_cases hlt : k < sel.length
        · obtain ⟨b, o, rfl, hc⟩ := g (by omega)
          obtain ⟨vd, c0, r1⟩ := hc k hlt
          have b1 : b < w.heap.size := lt_of_cell c0
          have c1 : wr.cell? ⟨b, o + k, none⟩ = some vd := (HB.cell (p := ⟨b, o + k, none⟩) b1).trans c0
          have r2 : ∀ j, Rx (wr.drewN j) vd (sel.getD k []) := fun j => (r1.grow HB).grow (below_drewN (Below.refl _ _) j)
          obtain ⟨_, ⟨ad, cd, rfl, _⟩, hLd⟩ := r1
          have x0 : (0 : Int) ≤ (k : Int) := by omega
          have x1 : ((k : Int)).toNat = k := by omega
          obtain ⟨M, hM⟩ : ∃ M : Int, (rs.length : Int) - (k : Int) = M := ⟨_, rfl⟩
          have x2 : IntKind.i64.wrap ((rs.length : Int) - (k : Int)) = M := by rw [← hM]; exact wrapI _ (by omega) (by omega)
          clear g hc c0
          by_cases hg : (sel.getD k []).length + k = rs.length
          · have y : (((sel.getD k []).length : Int) != M) = false := by rw [bne_eq_false_iff_eq]; omega
            have A := fun j => areRates_any _ (sel.getD k []) _ (r2 j) (by omega)
            rcases hw : rwB (sel.getD k []) with _ | _
            · have R : Hid (selB rs sel = false) := selB_bad hlt (by rw [hw]; simp)
              rw [hw] at A
              clear hM r2
              generalize (sel.getD k []).length = L at *
              go_wp2_with fail
              go_quiet ((go_at_call 18; exact Calls.quiet_of_same (A _)))
              go_wp2
              go_ret
              exact ⟨by rw [R.out]; rfl, below_drewN HB _⟩
            · have N : Hid (∀ d, d < k + 1 → (sel.getD d []).length + d = rs.length ∧ rwB (sel.getD d []) = true) := fun j hjk => by
                by_cases e : j = k
                · subst e; exact ⟨hg, hw⟩
                · exact hd.out j (by omega)
              rw [hw] at A
              clear hM r2
              generalize (sel.getD k []).length = L at *
              go_wp2_with fail
              go_quiet ((go_at_call 18; exact Calls.quiet_of_same (A _)))
              go_wp2
              go_roundw
              case rel => exact ⟨k + 1, by omega, by go_num, N, hB, below_drewN HB _⟩
              case measure => simp [intOf]; omega
          · have R : Hid (selB rs sel = false) := selB_bad hlt (fun h => hg h.1)
            have y : (((sel.getD k []).length : Int) != M) = true := by rw [bne_iff_ne]; omega
            clear hM r2 hg
            generalize (sel.getD k []).length = L at *
            go_wp2_with fail
            go_quiet (fail)
            go_wp2
            go_ret
            exact ⟨by rw [R.out]; rfl, below_drewN HB _⟩
        · have R : Hid (selB rs sel = true) := selB_all (by omega) (by omega) (fun i hi => hd.out i (by omega))
          clear g
          go_wp2
          go_ret
          exact ⟨by rw [R.out]; rfl, HB⟩
end Go.Proofs.Ytachlkcoghkjnaa.Ta
