import Derived.Test.YteepjipecfdkoaaDoorWe11
import Derived.Test.YteepjipecfdkoaaDoorWe12
import Derived.Deep.QuietTactic
import Derived.BigQuiet
namespace Go.Proofs.YteepjipecfdkoaaDoor.Dy
open Go.RowKit Tn
set_option maxRecDepth 100000 in
set_option maxHeartbeats 1600000 in
theorem works_walk (y m d how A B C E : Int) (ao : Option Addr) (c n : Nat) (f f' : Nat → Int × Int × Int) (hf1 : ∀ i, i < n → f' i = f i) (hf2 : f' n = (-7, 0, 0)) (w : World) (G : Gl w) (S : Rs w (.slice ao n c) n f) (hno : ao = none → c = 0) (hL : n * 24 ≤ 140737488351232)
    (WA : ∀ v W, Rs W v n f → Gl W → Calls Tryd.prog 4 #[.agg #[.int .i64 y, .int .i64 m, .int .i64 d], v, .int .i64 how] W fun x w' => x = .returned (.tuple #[.agg #[.int .i64 A, .int .i64 B, .int .i64 C], .int .i64 E]) ∧ Below W.heap.size W w')
    (RA : ∀ v W, Rs W v n f → Calls Tryd.prog 5 #[.agg #[.int .i64 y, .int .i64 m, .int .i64 d], v, .int .i64 how] W fun x w' => x = .returned (.tuple #[.agg #[.int .i64 A, .int .i64 B, .int .i64 C], .int .i64 E]) ∧ Below W.heap.size W w') :
    Calls Tryd.prog 3 #[.agg #[.int .i64 y, .int .i64 m, .int .i64 d], .slice ao n c, .int .i64 how] w fun x w' => x = .returned (.bool true) ∧ Below w.heap.size w w' := by
  have Ka0 := Blk.new w #[.int .i64 y, .int .i64 m, .int .i64 d] 23
  have pr := bl (w := w) #[.int .i64 y, .int .i64 m, .int .i64 d] 23
  have G0 := (G).alloc (.cells #[.int .i64 y, .int .i64 m, .int .i64 d] 23)
  have S0 := (S.alloc (.cells #[.int .i64 y, .int .i64 m, .int .i64 d] 23)).alloc (.cells #[] 23)
  have e0 := dl_cong hf1
  go_enter Tryd.func3, Tryd.ntmps3
  go_wp2_with (first
    | (at_builtin; have b1' := b1; refine wpList_push_dateL rfl _ _ rfl _ n f' rfl (w.heap.size + 1) own1' hL w1.heap.size 1 (-7) 0 0 hf2 rfl q0 q1 q2 hb1 ?_; intro g cap w2 lg1 lg2 lg3 R2 b2; have p2 : Below w.heap.size w w2 := (belT p1 (bl #[.int .i64 (-7), .int .i64 0, .int .i64 0] 23)).trans (b2.mono (by omega)); have Ka2 := (Ka1.alloc (.cells #[.int .i64 (-7), .int .i64 0, .int .i64 0] 23)).below b2 (by omega); have ka20 := Ka2.c0; have ka21 := Ka2.c1; have ka22 := Ka2.c2; have G2 := G.grow p2; have L2 := rs_of_rw R2 (Nat.le_succ n) hf1)
    | (at_builtin; refine wpList_copy_dates rfl _ _ rfl (w.heap.size + 1) (w.heap.size + 1) #[] rfl (by simpa using heap_alloc_new (w.alloc (.cells #[.int .i64 y, .int .i64 m, .int .i64 d] 23)) (.cells #[] 23)) rfl (Nat.le_refl _) ao c n f rfl hno S0 hL (by simp) ?_; intro v1 w1 nv1 own1 b1; have p1 : Below w.heap.size w w1 := (belT pr (bl #[] 23)).trans (b1.mono (by omega)); have Ka1 := (Ka0.alloc (.cells #[] 23)).below b1 (by omega); have hq := Blk.new w1 #[.int .i64 (-7), .int .i64 0, .int .i64 0] 23; have q0 := hq.c0; have q1 := hq.c1; have q2 := hq.c2; have own1' := own_bel own1 (bl #[.int .i64 (-7), .int .i64 0, .int .i64 0] 23); rw [← e0] at own1'; have hb1 : w.heap.size + 1 ≤ (w1.alloc (.cells #[.int .i64 (-7), .int .i64 0, .int .i64 0] 23)).heap.size := by have := b1.size; simp at this ⊢; omega)
    | (go_at_call 4; refine (WA _ _ L2 G2).mono ?_; rintro x w3 ⟨rfl, b3⟩; have Ka3 := Ka2.below b3 Ka2.lt; have ka30 := Ka3.c0; have ka31 := Ka3.c1; have ka32 := Ka3.c2; have ka3l := Ka3.lt; have R3 := R2.grow b3; have p3 := belT p2 b3)
    | (go_at_call 5; refine (RA _ _ ((S.grow p3).alloc _)).mono ?_; rintro x w4 ⟨rfl, b4⟩; have X4 := (Blk.new w3 #[.int .i64 A, .int .i64 B, .int .i64 C] 23).below b4 (Blk.new w3 #[.int .i64 A, .int .i64 B, .int .i64 C] 23).lt; have R4 := (R3.alloc (.cells #[.int .i64 A, .int .i64 B, .int .i64 C] 23)).grow b4; have p4 := belT (belT p3 (bl _ _)) b4)
    | fail)
  have Y5 := Blk.new w4 #[.int .i64 A, .int .i64 B, .int .i64 C] 23
  have X5 := X4.alloc (.cells #[.int .i64 A, .int .i64 B, .int .i64 C] 23)
  have R5 := R4.alloc (.cells #[.int .i64 A, .int .i64 B, .int .i64 C] 23)
  have p5 := belT p4 (bl #[.int .i64 A, .int .i64 B, .int .i64 C] 23)
  have S5 := S.grow p5
  clear WA RA Ka0 pr S0 e0 own1 own1' hq q0 q1 q2 hb1 b1 b1' b2 b3 b4 Ka1 Ka2 Ka3 ka20 ka21 ka22 ka30 ka31 ka32 ka3l p1 p2 p3 p4 L2 G G0 G2 R2 R3 R4 X4 nv1 S
  generalize w4.alloc (.cells #[.int .i64 A, .int .i64 B, .int .i64 C] 23) = W5 at *
  generalize w3.heap.size = bx at *
  generalize w4.heap.size = by_ at *
  have nn : (n : Int) ≤ 9223372036854775806 := by omega
  have lg2' : (n : Int) + 1 ≤ (cap : Int) := by omega
  go_loopw [12] (fun t wr => ∃ k : Nat, k ≤ n ∧ t = .int .i64 (k : Int) ∧ Rw wr g cap 0 (n + 1) f' ∧ Blk wr bx #[.int .i64 A, .int .i64 B, .int .i64 C] 23 ∧ Blk wr by_ #[.int .i64 A, .int .i64 B, .int .i64 C] 23 ∧ Rs wr (.slice ao n c) n f ∧ Below w.heap.size w wr) (fun t _ => ((n : Int) - RowKit.intOf t).toNat)
  case atStart => exact ⟨0, by omega, rfl, R5, X5, Y5, S5, p5⟩
  case round =>
    clear R5 X5 Y5 S5 p5
    obtain ⟨k, k1, rfl, R6, X6, Y6, S6, p6⟩ := hrel
    by_cases kn : k < n
    · have kn' : (k : Int) < (n : Int) := by omega
      have k0 : (0 : Int) ≤ (k : Int) := by omega
      have kt : ((k : Int)).toNat = k := by omega
      have S7 := S6
      obtain ⟨ao', c', e', S8⟩ := S6
      obtain ⟨rfl, rfl⟩ : ao = ao' ∧ c = c' := by simpa using e'
      obtain ⟨b, o, rfl, S9⟩ := S8 (by omega)
      obtain ⟨y0, y1, y2⟩ := S9 k kn
      obtain ⟨x0, x1, x2⟩ := R6.cells (Nat.zero_le k) (show k < n + 1 by omega)
      rw [hf1 k kn] at x0 x1 x2
      clear S8 S9 e'
      obtain ⟨⟨Y, M, D⟩, hf⟩ : ∃ z, f k = z := ⟨_, rfl⟩
      rw [hf] at x0 x1 x2 y0 y1 y2
      clear hf
      go_wp2_with fail
      go_quiet (fail)
      have S10 := S7.grow (blD nq)
      have R10 : Rw (wr.drewN nq) g cap 0 (n + 1) f' := R6
      have X10 : Blk (wr.drewN nq) bx _ _ := X6
      have Y10 : Blk (wr.drewN nq) by_ _ _ := Y6
      have P0 := blN (n := nq) p6
      clear R6 X6 Y6 S7 p6 x0 x1 x2 y0 y1 y2
      generalize wr.drewN nq = V at *
      go_wp2_with fail
      go_roundw
      case rel => exact ⟨k + 1, by omega, by go_num, R10, X10, Y10, S10, P0⟩
      case measure => simp [RowKit.intOf]; omega
    · obtain rfl : k = n := by omega
      obtain ⟨x0, x1, x2⟩ := R6.cells (Nat.zero_le k) (show k < k + 1 by omega)
      rw [hf2] at x0 x1 x2
      have c0 := X6.c0
      have c1 := X6.c1
      have c2 := X6.c2
      have d0 := Y6.c0
      have d1 := Y6.c1
      have d2 := Y6.c2
      have kt : ((k : Int)).toNat = k := by omega
      have e1 : IntKind.i64.wrap ((k : Int) + 1) = (k : Int) + 1 := wrapI _ (by omega) (by omega)
      go_wp2_with fail
      go_ret
      exact ⟨rfl, p6⟩
end Go.Proofs.YteepjipecfdkoaaDoor.Dy
