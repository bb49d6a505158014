import Derived.Test.YtfalncbcomlelaaGreatDoorWt5
namespace Go.Proofs.YtfalncbcomlelaaGreatDoor.Wt
open Go.RowKit Tn Mo

theorem elemR : Tryz.prog.elem 84 = 56 := by kernel_rfl
/-- rungs[:h]. -/
theorem slice_r (g o len cap : Nat) (z : Int) (h : Nat) (ez : z = h) (h2 : h ≤ cap) (w : World) :
    (Instr.slice 84 (.slice (some ⟨g, o, none⟩) len cap) none (some (.int .i64 z)) none).run Tryz.prog w = .ok (.slice (some ⟨g, o, none⟩) h cap) w := by
  subst ez
  rw [run_slice_h w 84 _ len cap (by rw [elemR]; exact Tryz.underlying84) .i64 _ (by omega) (by omega), elemR]
  simp [Tryz.sizeOf56, Result.andThen, sliced, Addr.add]
/-- A text that a box was made beside. -/
theorem U8.alloc {w : World} {v : Value} {base n : Nat} {xs : List Value} (h : U8 w v) (ho : w.ownsRow base 5 1 v n xs) {w' : World} (b : Below w.heap.size w w') : U8 w' v := fun k e j u hj => h k e j u ((b.cell (p := ⟨k, j, none⟩) (ho.lt k e).2) ▸ hj)
theorem own_grow {w w' : World} {base n : Nat} {e : TypeId} {v : Value} {xs : List Value} (h : w.ownsRow base e 1 v n xs) (b : Below w.heap.size w w') : w'.ownsRow base e 1 v n xs := by
  obtain ⟨h1, h2⟩ := h
  refine ⟨h1, ?_⟩
  rcases h2 with h2 | ⟨g, cap, cur, e1, e2, e3, r⟩
  · exact Or.inl h2
  · exact Or.inr ⟨g, cap, cur, e1, e2, (b.block g (Own.lt ⟨cur, _, e3⟩)).trans e3, r⟩
/-- Texts grow one behind the other. -/
theorem grown2 {w w1 w2 w3 : World} {r r2 : Option Nat} (b : Below w.heap.size w w1) (g1 : w1.grownBy w2 r) (g2 : w2.grownBy w3 r2) (h : ∀ k, r2 = some k → r = some k ∨ w.heap.size ≤ k) : w.grownBy w3 r :=
  ⟨g2.os.trans (g1.os.trans b.os), g2.tape.trans (g1.tape.trans b.tape), g2.output.trans (g1.output.trans b.output), Nat.le_trans b.size (Nat.le_trans g1.size g2.size), fun k hk hn => by
    have s1 := b.size
    have s2 := g1.size
    refine (g2.block k (by omega) (fun e => ?_)).trans ((g1.block k (by omega) hn).trans (b.block k hk))
    rcases h k e.symm with q | q
    · exact hn q.symm
    · omega⟩
set_option maxRecDepth 100000 in
set_option maxHeartbeats 3200000 in
theorem digits_few (m : Nat) (h0 : 1 ≤ m) (h4 : m < 4) (p : Option Addr) (l c N : Nat) (av : Option Addr) (n cv : Nat) (Y : List Int) (base b o cR : Nat) (w : World) (hN : Nn w p l c (N : Int)) (hNb : (N : Int) < pw 1000000) (hY : n = Y.length) (hYb : Y.length + 19 * 2 ^ m ≤ 1000000000)
    (hown : w.ownsRow base 5 1 (.slice av n cv) n (Y.map (Value.int .u8))) (hbase : base ≤ w.heap.size) (hU : U8 w (.slice av n cv)) (hR : Ru w base b o m) (hcR : m ≤ cR) : Calls Tryz.prog 130 #[.agg #[.slice p l c], .slice av n cv, .slice (some ⟨b, o, none⟩) m cR] w fun e w' => ∃ gt cap, e = .returned (.slice (some ⟨gt, 0, none⟩) (Y.length + 19 * 2 ^ m) cap) ∧ w'.ownsRow base 5 1 (.slice (some ⟨gt, 0, none⟩) (Y.length + 19 * 2 ^ m) cap) (Y.length + 19 * 2 ^ m) ((Y ++ pd N (19 * 2 ^ m)).map (Value.int .u8)) ∧
      w.grownBy w' (Value.slice av n cv).ownBlock ∧ (some gt = (Value.slice av n cv).ownBlock ∨ w.heap.size ≤ gt) ∧ U8 w' (.slice (some ⟨gt, 0, none⟩) (Y.length + 19 * 2 ^ m) cap) := by
  subst hY
  obtain ⟨xs, hx, hm, hv⟩ := hN
  obtain rfl : l = xs.length := by obtain ⟨_, a', c', e, _⟩ := hx; simp only [Value.slice.injEq] at e; exact e.2.1
  have hl := len_of hx.1 hm (by rw [hv]; exact hNb)
  have B0 := Bx.new w (.slice p xs.length c) 56
  have al := (Below.refl w.heap.size w).alloc (Nat.le_refl _) (.cells #[.slice p xs.length c] 56)
  obtain ⟨G, hG, g2, g8⟩ : ∃ G : Nat, 2 ^ m = G ∧ 1 ≤ G ∧ G ≤ 8 := ⟨_, rfl, Nat.one_le_two_pow, by
    have : m = 1 ∨ m = 2 ∨ m = 3 := by omega
    rcases this with rfl | rfl | rfl <;> decide⟩
  have x1 : IntKind.i64.wrap ((2 : Int) ^ m) = (G : Int) := by
    rw [show (2 : Int) ^ m = (G : Int) by rw [← hG]; simp]
    exact wrapI _ (by omega) (by omega)
  rw [hG] at hYb ⊢
  have AG := fun W x1 x2 x3 x4 => appendGroups_any p c xs N av Y.length cv Y G base W x1 hv hl g2 (by omega) rfl (by omega) x2 x3 x4
  have q0 := B0.1
  have h4' : (m : Int) < 4 := by omega
  have y0 : (0 : Int) ≤ (m : Int) := by omega
  have y1 : ((m : Int)).toNat = m := by omega
  have oA := own_grow hown al
  have uA := U8.alloc hU hown al
  have rA := hx.grow al
  have sA : base ≤ (w.alloc (.cells #[.slice p xs.length c] 56)).heap.size := by simp; omega
  go_enter Tryz.func130, Tryz.ntmps130
  go_wp2_with fail
  generalize w.alloc (.cells #[.slice p xs.length c] 56) = W at *
  have AGD := AG W.drew (Rd.drew rA) oA sA uA
  have nb : some w.heap.size ≠ (Value.slice av Y.length cv).ownBlock := fun e => by
    obtain ⟨x, hx⟩ := uA w.heap.size e.symm 0 _ q0
    cases hx
  have q0d : W.drew.cell? ⟨w.heap.size, 0, none⟩ = some (.slice p xs.length c) := q0
  clear AG oA uA rA sA hown hU hR hx
  go_region_held3 (fun x => x.cell? ⟨w.heap.size, 0, none⟩ = some (.slice p xs.length c)) (go_keep) (first
    | (go_at_call 144; with_reducible refine AGD.mono ?_; rintro e w2 ⟨gt, cap, rfl, o2, gr2, nb2, u2⟩; have q2 := gr2.cell q0d nb)
    | fail)
  all_goals
    go_wp2
    go_ret
    exact ⟨gt, cap, rfl, o2, ⟨gr2.os.trans al.os, gr2.tape.trans al.tape, gr2.output.trans al.output, Nat.le_trans al.size gr2.size, fun k hk hn => (gr2.block k (Nat.lt_of_lt_of_le hk al.size) hn).trans (al.block k hk)⟩, (by rcases nb2 with h | h; exact Or.inl h; exact Or.inr (Nat.le_trans al.size h)), u2⟩
end Go.Proofs.YtfalncbcomlelaaGreatDoor.Wt
