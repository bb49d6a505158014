import Derived.Test.YtfalncbcomlelaaGreatDoorMk0
import Derived.Test.YtfalncbcomlelaaGreatDoorIn0
import Derived.Deep.RegionHeld3
namespace Go.Proofs.YtfalncbcomlelaaGreatDoor.Mo
open Go.RowKit Tn

/-- s[n:]. -/
theorem slice_l (g o len cap : Nat) (l : Int) (n : Nat) (el : l = n) (h2 : n ≤ len) (h3 : n < cap) (w : World) :
    (Instr.slice 54 (.slice (some ⟨g, o, none⟩) len cap) (some (.int .i64 l)) none none).run Tryz.prog w = .ok (.slice (some ⟨g, o + n, none⟩) (len - n) (cap - n)) w := by
  subst el
  rw [run_slice_l w 54 _ len cap (by rw [Tryz.elemU]; exact Tryz.underlying54) .i64 _ (by omega) (by omega), Tryz.elemU]
  have e2 : ¬ cap = n := by omega
  simp [Tryz.sizeOf95, Result.andThen, sliced, e2, Addr.add]
set_option maxHeartbeats 1600000 in
set_option maxRecDepth 100000 in
theorem cut_raw (b o l c n : Nat) (xs : List Int) (w : World) (hw : Wd xs) (hl : xs.length = l) (hc : l ≤ c) (hcm : c ≤ 9223372036854775807) (hn : 0 < n) (hnl : n < l) (hC : Cells w b o xs) :
    Calls Tryz.prog 116 #[.agg #[.slice (some ⟨b, o, none⟩) l c], .int .i64 n] w fun e w' => ∃ (p : Option Addr × Option Addr) (m q : Nat × Nat), e = .returned (.tuple #[.agg #[.slice p.1 m.1 q.1], .agg #[.slice p.2 m.2 q.2]]) ∧ (Nn w' p.1 m.1 q.1 (val (xs.take n)) ∧ Nn w' p.2 m.2 q.2 (val (xs.drop n))) ∧ Below w.heap.size w w' := by
  have K0 := ((Bx.new w (.slice (some ⟨b, o, none⟩) l c) 56).alloc (.cells #[.slice none 0 0] 56)).alloc (.cells #[.slice none 0 0] 56)
  have K1 := (Bx.new (w.alloc (.cells #[.slice (some ⟨b, o, none⟩) l c] 56)) (.slice none 0 0) 56).alloc (.cells #[.slice none 0 0] 56)
  have K2 := Bx.new ((w.alloc (.cells #[.slice (some ⟨b, o, none⟩) l c] 56)).alloc (.cells #[.slice none 0 0] 56)) (.slice none 0 0) 56
  have pr : Below w.heap.size w (((w.alloc (.cells #[.slice (some ⟨b, o, none⟩) l c] 56)).alloc (.cells #[.slice none 0 0] 56)).alloc (.cells #[.slice none 0 0] 56)) := (((Below.refl _ _).alloc (Nat.le_refl _) _).alloc (by simp) _).alloc (by simp; omega) _
  simp only [World.size_alloc] at K1 K2
  have T1 : ∀ x, Below w.heap.size w x → Calls Tryz.prog 85 #[.slice (some ⟨b, o, none⟩) n c] x fun e w' => ∃ a l q, e = .returned (.agg #[.slice a l q]) ∧ Nn w' a l q (val (xs.take n)) ∧ Below x.heap.size x w' := fun x bx => by
    have e1 : (xs.take n).length = n := by rw [List.length_take]; omega
    refine (trim_rd (some ⟨b, o, none⟩) n c (xs.take n) x e1.symm (hw.take n) (by omega) hcm (fun _ => ⟨b, o, rfl, (hC.take n).grow bx⟩)).mono ?_
    rintro e w' ⟨k, zs, rfl, _, hr, hnm, hv, hb⟩
    exact ⟨_, _, _, rfl, ⟨zs, hr, hnm, hv⟩, hb⟩
  have T2 : ∀ x, Below w.heap.size w x → Calls Tryz.prog 85 #[.slice (some ⟨b, o + n, none⟩) (l - n) (c - n)] x fun e w' => ∃ a l q, e = .returned (.agg #[.slice a l q]) ∧ Nn w' a l q (val (xs.drop n)) ∧ Below x.heap.size x w' := fun x bx => by
    have e1 : (xs.drop n).length = l - n := by rw [List.length_drop]; omega
    refine (trim_rd (some ⟨b, o + n, none⟩) (l - n) (c - n) (xs.drop n) x e1.symm (hw.drop n) (by omega) (by omega) (fun _ => ⟨b, o + n, rfl, (hC.drop n).grow bx⟩)).mono ?_
    rintro e w' ⟨k, zs, rfl, _, hr, hnm, hv, hb⟩
    exact ⟨_, _, _, rfl, ⟨zs, hr, hnm, hv⟩, hb⟩
  have s1 := slice_h b o l c (n : Int) n rfl (by omega)
  have s2 := slice_l b o l c (n : Int) n rfl (by omega) (by omega)
  generalize val (xs.take n) = V1 at *
  generalize val (xs.drop n) = V2 at *
  clear hC hw hl
  go_enter Tryz.func116, Tryz.ntmps116
  go_wp2_with fail
  generalize ((w.alloc (.cells #[.slice (some ⟨b, o, none⟩) l c] 56)).alloc (.cells #[.slice none 0 0] 56)).alloc (.cells #[.slice none 0 0] 56) = W at *
  have k0 := K0.1
  have hn1 : w.heap.size ≠ w.heap.size + 1 + 1 := by omega
  have hn2 : w.heap.size + 1 + 1 ≠ w.heap.size := by omega
  go_region_held3 (fun x => x.cell? ⟨w.heap.size, 0, none⟩ = some (.slice (some ⟨b, o, none⟩) l c)) (go_keep) (first
    | (go_at_call 85; (have z := d1); refine (T2 _ (bel' pr d1)).mono ?_; rintro e w2 ⟨p2, m2, q2, rfl, n2, d2'⟩; have d2 := bel' d1 d2'; have n1 := n1.grow d2'; have i0 := (K0.below d2).1; have K12 := K1.below d2; have K22 := K2.below d2; have y1 := K12.1; have y2 := K12.2; have z1 := K22.1; have z2 := K22.2)
    | (go_at_call 85; refine (T1 _ pr.drew).mono ?_; rintro e w1 ⟨p1, m1, q1, rfl, n1, d1⟩; have d1 := undrew d1; have i0 := (K0.below d1).1)
    | fail)
  have K13 := K12.set (.slice p1 m1 q1)
  have K23 := K22.wr ((Wr.refl (w.heap.size + 1) 0 1 w2).setCell 0 (by omega) (.slice p1 m1 q1)) (by omega)
  have u1 := (n1.box (u := .slice p1 m1 q1) K12).box (u := .slice p2 m2 q2) K23
  have u2 := (n2.box (u := .slice p1 m1 q1) K12).box (u := .slice p2 m2 q2) K23
  have K24 := K23.set (.slice p2 m2 q2)
  have K14 := K13.wr ((Wr.refl (w.heap.size + 1 + 1) 0 1 (w2.setCell ⟨w.heap.size + 1, 0, none⟩ (.slice p1 m1 q1))).setCell 0 (by omega) (.slice p2 m2 q2)) (by omega)
  have BE := below_put (below_put (bel' pr d2) (show w.heap.size ≤ w.heap.size + 1 by omega) (.slice p1 m1 q1)) (show w.heap.size ≤ w.heap.size + 1 + 1 by omega) (.slice p2 m2 q2)
  go_wp2_with fail
  generalize (w2.setCell ⟨w.heap.size + 1, 0, none⟩ (.slice p1 m1 q1)).setCell ⟨w.heap.size + 1 + 1, 0, none⟩ (.slice p2 m2 q2) = WE at *
  have g1 := K14.1
  have g2 := K24.1
  exact bodyPost_ret (v := .tuple #[.agg #[.slice p1 m1 q1], .agg #[.slice p2 m2 q2]]) (by simp [results, Tryz.results116, go_sem, g1, g2]) rfl ⟨(p1, p2), (m1, m2), (q1, q2), rfl, ⟨u1, u2⟩, BE⟩
/-- cut, by numbers. -/
theorem cut_n {a : Option Addr} {l c : Nat} {A : Int} {w : World} (h : Nn w a l c A) (n : Nat) (hn : 0 < n) (hnl : n < l) :
    Calls Tryz.prog 116 #[.agg #[.slice a l c], .int .i64 n] w fun e w' => ∃ (p : Option Addr × Option Addr) (m q : Nat × Nat), e = .returned (.tuple #[.agg #[.slice p.1 m.1 q.1], .agg #[.slice p.2 m.2 q.2]]) ∧ (Nn w' p.1 m.1 q.1 (A % pw n) ∧ Nn w' p.2 m.2 q.2 (A / pw n)) ∧ Below w.heap.size w w' := by
  obtain ⟨xs, ⟨h1, a', c', e, h2, h3, h5⟩, hn', hv⟩ := h
  obtain ⟨rfl, rfl, rfl⟩ : a = a' ∧ l = xs.length ∧ c = c' := by injection e with e1 e2 e3; exact ⟨e1, e2, e3⟩
  obtain ⟨b, o, rfl, cc⟩ := h5 (by omega)
  have sp := val_split xs n (by omega)
  have lt := val_lt (h1.take n)
  have ge := val_nonneg (h1.take n)
  have e1 : (xs.take n).length = n := by rw [List.length_take]; omega
  rw [e1] at lt
  have pp := pw_pos n
  have m1 : A % pw n = val (xs.take n) := by rw [← hv, sp, Int.add_mul_emod_self_left]; exact Int.emod_eq_of_lt ge lt
  have m2 : A / pw n = val (xs.drop n) := by
    rw [← hv, sp, Int.add_mul_ediv_left _ _ (by omega), Int.ediv_eq_zero_of_lt ge lt]
    simp
  rw [m1, m2]
  exact cut_raw b o _ c n xs w h1 rfl h2 h3 hn hnl cc
end Go.Proofs.YtfalncbcomlelaaGreatDoor.Mo
