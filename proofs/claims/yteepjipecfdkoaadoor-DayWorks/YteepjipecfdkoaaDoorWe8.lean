import Derived.Test.YteepjipecfdkoaaDoorWe7
namespace Go.Proofs.YteepjipecfdkoaaDoor.Dy
open Go.RowKit Tn
set_option maxHeartbeats 1600000 in
theorem moved_any (s : Int) (f : Nat → Int × Int × Int) (n : Nat) (hn : n ≤ 4096) (ok : ∀ i, i < n → gf f i = true) (x0 : Int) (hs : s = 1 ∨ s = -1) (h1 : 1 ≤ x0) (h2 : x0 ≤ 3652059) (v : Value) (w : World) (S : Rs w v n f) :
    Calls Tryd.prog 12 #[.int .i64 x0, v, .int .i64 s] w fun e w' => e = .returned (.tuple #[dt (fy (fi s f n x0)) (fm (fi s f n x0)) (fd (fi s f n x0)), .bool (nr (fi s f n x0))]) ∧ Below w.heap.size w w' := by
  have Y := Wy.new (f := f) (n := n) hs h1 h2
  have I : Hid (∀ x, 1 ≤ x → x ≤ 4000000 → ∀ W, Rs W v n f → Calls Tryd.prog 24 #[.int .i64 x, v] W fun e w' => e = .returned (.bool (wk f n x)) ∧ Below W.heap.size W w') := fun x a b W S => works_any f n hn ok x a b v W S
  have F : Hid (∀ x W, Calls Tryd.prog 23 #[.int .i64 x] W fun e w' => e = .returned (.tuple #[.agg #[.int .i64 (fy x), .int .i64 (fm x), .int .i64 (fd x)], .bool (nr x)]) ∧ Below W.heap.size W w') := fun x W => RFromNumber_any x W
  have s1 : -1 ≤ s := by omega
  have s2 : s ≤ 1 := by omega
  clear hs h1 h2 ok
  unfold dt
  have R0 := Blk.new w #[.int .i64 0, .int .i64 0, .int .i64 0] 23
  have pr := bl (w := w) #[.int .i64 0, .int .i64 0, .int .i64 0] 23
  go_enter Tryd.func12, Tryd.ntmps12
  go_wp2_with fail
  go_loopw [0] (fun t wr => ∃ x K, t = .int .i64 x ∧ Wy s f n x0 x K ∧ Blk wr w.heap.size #[.int .i64 0, .int .i64 0, .int .i64 0] 23 ∧ Below w.heap.size w wr) (fun t _ => (2000000 * (s + 1) - s * RowKit.intOf t).toNat)
  case atStart => exact ⟨x0, _, rfl, Y, R0, pr⟩
  case round =>
    clear Y R0 pr
    obtain ⟨x, K, rfl, Y, R1, p⟩ := hrel
    have YH : Hid (Wy s f n x0 x K) := Y
    have y1 := Y.2.1
    have y2 := Y.2.2.1
    clear Y
    have FF := F.out x
    have S1 := S.grow p
    cases c : nr x
    · rw [c] at FF
      have E := YH.out.stop (by simp [c])
      have EH : Hid (Ending.returned (.tuple #[.agg #[.int .i64 (fy x), .int .i64 (fm x), .int .i64 (fd x)], .bool false]) = Ending.returned (.tuple #[.agg #[.int .i64 (fy (fi s f n x0)), .int .i64 (fm (fi s f n x0)), .int .i64 (fd (fi s f n x0))], .bool (nr (fi s f n x0))])) := by show _ = _; rw [← E, c]
      clear E
      generalize fy x = a at *
      generalize fm x = b at *
      generalize fd x = e at *
      go_wp2_with (first
        | (go_at_call 23; refine (FF _).mono ?_; rintro z w2 ⟨rfl, b2⟩; have R2 := R1.below b2 R1.lt; have r20 := R2.c0; have r21 := R2.c1; have r22 := R2.c2; have rf20 := R2.free 0; have rf21 := R2.free 1; have rf22 := R2.free 2; have l2 := R2.lt; have p2 := belT p b2)
        | fail)
      have KE := dput3 R2 (a) (b) (e)
      have bE := dset3 (x := .int .i64 (a)) (y := .int .i64 (b)) (z := .int .i64 (e)) p2 (show w.heap.size ≤ w.heap.size by omega)
      generalize ((w2.setCell ⟨w.heap.size, 0, none⟩ (.int .i64 (a))).setCell ⟨w.heap.size, 1, none⟩ (.int .i64 (b))).setCell ⟨w.heap.size, 2, none⟩ (.int .i64 (e)) = WE at *
      have z0 := (KE.alloc (.cells #[.int .i64 a, .int .i64 b, .int .i64 e] 23)).c0
      have z1 := (KE.alloc (.cells #[.int .i64 a, .int .i64 b, .int .i64 e] 23)).c1
      have z2 := (KE.alloc (.cells #[.int .i64 a, .int .i64 b, .int .i64 e] 23)).c2
      exact bodyPost_ret (v := .tuple #[.agg #[.int .i64 a, .int .i64 b, .int .i64 e], .bool false]) (by simp [results, Tryd.results12, go_sem, z0, z1, z2]) rfl ⟨EH.out, (belT bE (bl _ _))⟩
    · rw [c] at FF
      have := nr_iff.1 c
      have J := I.out x (by omega) (by omega)
      cases d : wk f n x
      · rw [d] at J
        obtain ⟨k, rfl⟩ := YH.out.pos c
        generalize fy x = a at *
        generalize fm x = b at *
        generalize fd x = e at *
        go_wp2_with (first
          | (go_at_call 23; refine (FF _).mono ?_; rintro z w2 ⟨rfl, b2⟩; have R2 := R1.below b2 R1.lt; have r20 := R2.c0; have r21 := R2.c1; have r22 := R2.c2; have l2 := R2.lt; have p2 := belT p b2)
          | (go_at_call 24; refine (J _ ((S1.grow b2).alloc _)).mono ?_; rintro z w3 ⟨rfl, b3⟩; have R3 := (R2.alloc _).below b3 (R2.alloc _).lt; have Q3 := (Blk.new w2 #[.int .i64 a, .int .i64 b, .int .i64 e] 23).below b3 (Blk.new w2 _ _).lt; have r30 := R3.c0; have r31 := R3.c1; have r32 := R3.c2; have q30 := Q3.c0; have q31 := Q3.c1; have q32 := Q3.c2; have rf30 := R3.free 0; have rf31 := R3.free 1; have rf32 := R3.free 2; have l3 := R3.lt; have m3 := Q3.lt; have p3 := belT (belT p2 (bl _ _)) b3)
          | fail)
        refine ⟨⟨x + s, k, rfl, YH.out.go c d, R3, p3⟩, ?_⟩
        have := YH.out.2.2.2
        simp only [RowKit.intOf]
        rcases this with ⟨rfl, _⟩ | ⟨rfl, _⟩ <;> omega
      · rw [d] at J
        have E := YH.out.stop (by simp [d])
        have EH : Hid (Ending.returned (.tuple #[.agg #[.int .i64 (fy x), .int .i64 (fm x), .int .i64 (fd x)], .bool true]) = Ending.returned (.tuple #[.agg #[.int .i64 (fy (fi s f n x0)), .int .i64 (fm (fi s f n x0)), .int .i64 (fd (fi s f n x0))], .bool (nr (fi s f n x0))])) := by show _ = _; rw [← E, c]
        clear E
        generalize fy x = a at *
        generalize fm x = b at *
        generalize fd x = e at *
        go_wp2_with (first
          | (go_at_call 23; refine (FF _).mono ?_; rintro z w2 ⟨rfl, b2⟩; have R2 := R1.below b2 R1.lt; have r20 := R2.c0; have r21 := R2.c1; have r22 := R2.c2; have l2 := R2.lt; have p2 := belT p b2)
          | (go_at_call 24; refine (J _ ((S1.grow b2).alloc _)).mono ?_; rintro z w3 ⟨rfl, b3⟩; have R3 := (R2.alloc _).below b3 (R2.alloc _).lt; have Q3 := (Blk.new w2 #[.int .i64 a, .int .i64 b, .int .i64 e] 23).below b3 (Blk.new w2 _ _).lt; have r30 := R3.c0; have r31 := R3.c1; have r32 := R3.c2; have q30 := Q3.c0; have q31 := Q3.c1; have q32 := Q3.c2; have rf30 := R3.free 0; have rf31 := R3.free 1; have rf32 := R3.free 2; have l3 := R3.lt; have m3 := Q3.lt; have p3 := belT (belT p2 (bl _ _)) b3)
          | fail)
        have KE := dput3 R3 a b e
        have bE := dset3 (x := .int .i64 a) (y := .int .i64 b) (z := .int .i64 e) p3 (show w.heap.size ≤ w.heap.size by omega)
        generalize ((w3.setCell ⟨w.heap.size, 0, none⟩ (.int .i64 a)).setCell ⟨w.heap.size, 1, none⟩ (.int .i64 b)).setCell ⟨w.heap.size, 2, none⟩ (.int .i64 e) = WE at *
        have z0 := KE.c0
        have z1 := KE.c1
        have z2 := KE.c2
        exact bodyPost_ret (v := .tuple #[.agg #[.int .i64 a, .int .i64 b, .int .i64 e], .bool true]) (by simp [results, Tryd.results12, go_sem, z0, z1, z2]) rfl ⟨EH.out, bE⟩
end Go.Proofs.YteepjipecfdkoaaDoor.Dy
