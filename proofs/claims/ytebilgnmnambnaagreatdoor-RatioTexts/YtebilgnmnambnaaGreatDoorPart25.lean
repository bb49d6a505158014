import Derived.Test.YtebilgnmnambnaaGreatDoorPart24
import Derived.Test.YtebilgnmnambnaaGreatDoorPart16
import Derived.Test.YtebilgnmnambnaaGreatDoorPart06
import Derived.Deep.RegionHeld3

namespace Go.Proofs.YtebilgnmnambnaaGreatDoor.Mo
open Go.RowKit Dc Tn
def Nn (x : World) (a : Option Addr) (l c : Nat) (N : Int) : Prop := ∃ xs, Rd x (.slice a l c) xs ∧ Nm xs ∧ val xs = N
theorem Nn.grow {x x' : World} {a : Option Addr} {l c : Nat} {N : Int} (h : Nn x a l c N) (b : Below x.heap.size x x') : Nn x' a l c N := by
  obtain ⟨xs, r, n, v⟩ := h
  exact ⟨xs, r.grow b, n, v⟩
theorem Nn.nonneg {x : World} {a : Option Addr} {l c : Nat} {N : Int} (h : Nn x a l c N) : 0 ≤ N := by
  obtain ⟨xs, r, n, rfl⟩ := h
  exact val_nonneg r.1
theorem Nn.box {x : World} {a : Option Addr} {l c n : Nat} {N : Int} {u : Value} {b' : Option Addr} {l' c' : Nat} (h : Nn x a l c N) (K : Bx x n (.slice b' l' c')) : Nn (x.setCell ⟨n, 0, none⟩ u) a l c N := by
  obtain ⟨xs, r, m, v⟩ := h
  exact ⟨xs, r.box K, m, v⟩
theorem Nn.putF {w : World} {n : Nat} {a : Option Addr} {l c : Nat} {N : Int} {x y z : Value} {g : Bool} {a1 a2 : Option Addr} {n1 c1 n2 c2 : Nat} (h : Nn w a l c N) (R : Rb w n (.bool g) (.slice a1 n1 c1) (.slice a2 n2 c2)) : Nn (((w.setCell ⟨n, 0, none⟩ x).setCell ⟨n, 1, none⟩ y).setCell ⟨n, 2, none⟩ z) a l c N := by
  obtain ⟨xs, r, m, v⟩ := h
  exact ⟨xs, Rd.putF r R, m, v⟩
def NV (N : Int) (t : Value) (x : World) : Prop := ∃ a l c, t = .agg #[.slice a l c] ∧ Nn x a l c N
theorem NV.grow {N : Int} {t : Value} {x x' : World} (h : NV N t x) (b : Below x.heap.size x x') : NV N t x' := by
  obtain ⟨a, l, c, e, h⟩ := h
  exact ⟨a, l, c, e, h.grow b⟩
theorem len_of {xs : List Int} {n : Nat} (h : Wd xs) (k : Nm xs) (v : val xs < pw n) : xs.length ≤ n := by
  by_cases e : xs = []
  · subst e; simp
  · have := val_low h k e
    by_cases c : xs.length ≤ n
    · exact c
    · have := pw_mono (show n ≤ xs.length - 1 by omega)
      omega
theorem GCD_n {a1 a2 : Option Addr} {l1 c1 l2 c2 : Nat} {A B : Int} {x : World} (h1 : Nn x a1 l1 c1 A) (h2 : Nn x a2 l2 c2 B) {m : Nat} (hA : A < pw m) (hB : B < pw m) (hm : m ≤ 1000000) :
    Calls Tryz.prog 103 #[.agg #[.slice a1 l1 c1], .agg #[.slice a2 l2 c2]] x fun e w' => ∃ a l c, e = .returned (.agg #[.slice a l c]) ∧ Nn w' a l c (Int.gcd A B) ∧ Below x.heap.size x w' := by
  obtain ⟨xs, r1, n1, rfl⟩ := h1
  obtain ⟨ys, r2, n2, rfl⟩ := h2
  have := len_of r1.1 n1 hA
  have := len_of r2.1 n2 hB
  refine (GCD_any _ _ xs ys x r1 r2 n1 n2 (by omega) (by omega)).mono ?_
  rintro e w' ⟨r, zs, rfl, hr, hn, hv, b⟩
  obtain ⟨a, l, c, rfl⟩ := hr.shape
  exact ⟨a, l, c, rfl, ⟨zs, hr, hn, hv⟩, b⟩
theorem by_n {a1 a2 : Option Addr} {l1 c1 l2 c2 : Nat} {A B : Int} {x : World} (h1 : Nn x a1 l1 c1 A) (h2 : Nn x a2 l2 c2 B) {m : Nat} (hA : A < pw m) (hB : 0 < B) (hm : m ≤ 1000000) :
    Calls Tryz.prog 104 #[.agg #[.slice a1 l1 c1], .agg #[.slice a2 l2 c2]] x fun e w' => ∃ a l c, e = .returned (.agg #[.slice a l c]) ∧ Nn w' a l c (A / B) ∧ Below x.heap.size x w' := by
  obtain ⟨xs, r1, n1, rfl⟩ := h1
  obtain ⟨ys, r2, n2, rfl⟩ := h2
  have := len_of r1.1 n1 hA
  refine (by_any _ _ xs ys x r1 r2 n1 n2 hB (by omega)).mono ?_
  rintro e w' ⟨r, zs, rfl, hr, hn, hv, b⟩
  obtain ⟨a, l, c, rfl⟩ := hr.shape
  exact ⟨a, l, c, rfl, ⟨zs, hr, hn, hv⟩, b⟩
theorem IsZero_n {a : Option Addr} {l c : Nat} {A : Int} {x : World} (h : Nn x a l c A) :
    Calls Tryz.prog 48 #[.agg #[.slice a l c]] x fun e w' => e = .returned (.bool (decide (A = 0))) ∧ Below x.heap.size x w' := by
  obtain ⟨xs, r, n, rfl⟩ := h
  exact IsZero_any _ xs x r n
def Off (a : Option Addr) (l n : Nat) : Prop := ∀ b o, 0 < l → a = some ⟨b, o, none⟩ → b ≠ n
theorem Nn.drew {x : World} {a : Option Addr} {l c : Nat} {N : Int} (h : Nn x a l c N) : Nn x.drew a l c N := by
  obtain ⟨xs, r, n, v⟩ := h
  exact ⟨xs, Rd.drew r, n, v⟩
theorem Add_n {P1 P2 : Option Addr} {M1 C1 M2 C2 : Nat} {A B : Int} {x : World} (h1 : Nn x P1 M1 C1 A) (h2 : Nn x P2 M2 C2 B) {m : Nat} (hA : A < pw m) (hB : B < pw m) (hm : m ≤ 1000000) :
    Calls Tryz.prog 119 #[.agg #[.slice P1 M1 C1], .agg #[.slice P2 M2 C2]] x fun e w' => ∃ a l c, e = .returned (.agg #[.slice a l c]) ∧ Nn w' a l c (A + B) ∧ Below x.heap.size x w' := by
  obtain ⟨xs, r1, n1, rfl⟩ := h1
  obtain ⟨ys, r2, n2, rfl⟩ := h2
  have := len_of r1.1 n1 hA
  have := len_of r2.1 n2 hB
  refine (Add_any _ _ xs ys x r1 r2 (by omega) (by omega)).mono ?_
  rintro e w' ⟨r, zs, rfl, hr, hn, hv, b⟩
  obtain ⟨a, l, c, rfl⟩ := hr.shape
  exact ⟨a, l, c, rfl, ⟨zs, hr, hn, hv⟩, b⟩
theorem Sub_n {P1 P2 : Option Addr} {M1 C1 M2 C2 : Nat} {A B : Int} {x : World} (h1 : Nn x P1 M1 C1 A) (h2 : Nn x P2 M2 C2 B) {m : Nat} (hA : A < pw m) (hB : B < pw m) (hm : m ≤ 1000000) (hBA : B ≤ A) :
    Calls Tryz.prog 145 #[.agg #[.slice P1 M1 C1], .agg #[.slice P2 M2 C2]] x fun e w' => ∃ a l c, e = .returned (.agg #[.slice a l c]) ∧ Nn w' a l c (A - B) ∧ Below x.heap.size x w' := by
  obtain ⟨xs, r1, n1, rfl⟩ := h1
  obtain ⟨ys, r2, n2, rfl⟩ := h2
  have := len_of r1.1 n1 hA
  have := len_of r2.1 n2 hB
  refine (Sub_any _ _ xs ys x r1 r2 n2 hBA (by omega)).mono ?_
  rintro e w' ⟨r, zs, rfl, hr, hn, hv, b⟩
  obtain ⟨a, l, c, rfl⟩ := hr.shape
  exact ⟨a, l, c, rfl, ⟨zs, hr, hn, hv⟩, b⟩
theorem Bx.of {x : World} {X : Nat} {v : Value} {t : TypeId} (h : Blk x X #[v] t) : Bx x X v := ⟨h.at 0, h.free 0, t, h⟩
end Go.Proofs.YtebilgnmnambnaaGreatDoor.Mo

namespace Go.Proofs.YtebilgnmnambnaaGreatDoor.Mo
open Go.RowKit Tn
theorem slice_l (g o len cap : Nat) (l : Int) (n : Nat) (el : l = n) (h2 : n ≤ len) (h3 : n < cap) (w : World) :
    (Instr.slice 63 (.slice (some ⟨g, o, none⟩) len cap) (some (.int .i64 l)) none none).run Tryz.prog w = .ok (.slice (some ⟨g, o + n, none⟩) (len - n) (cap - n)) w := by
  subst el
  rw [run_slice_l w 63 _ len cap (by rw [Tryz.elemU]; exact Tryz.underlying63) .i64 _ (by omega) (by omega), Tryz.elemU]
  have e2 : ¬ cap = n := by omega
  simp [Tryz.sizeOf87, Result.andThen, sliced, e2, Addr.add]
set_option maxHeartbeats 1600000 in
set_option maxRecDepth 100000 in
theorem cut_raw (b o l c n : Nat) (xs : List Int) (w : World) (hw : Wd xs) (hl : xs.length = l) (hc : l ≤ c) (hcm : c ≤ 9223372036854775807) (hn : 0 < n) (hnl : n < l) (hC : Cells w b o xs) :
    Calls Tryz.prog 167 #[.agg #[.slice (some ⟨b, o, none⟩) l c], .int .i64 n] w fun e w' => ∃ (p : Option Addr × Option Addr) (m q : Nat × Nat), e = .returned (.tuple #[.agg #[.slice p.1 m.1 q.1], .agg #[.slice p.2 m.2 q.2]]) ∧ (Nn w' p.1 m.1 q.1 (val (xs.take n)) ∧ Nn w' p.2 m.2 q.2 (val (xs.drop n))) ∧ Below w.heap.size w w' := by
  have K0 := ((Bx.new w (.slice (some ⟨b, o, none⟩) l c) 65).alloc (.cells #[.slice none 0 0] 65)).alloc (.cells #[.slice none 0 0] 65)
  have K1 := (Bx.new (w.alloc (.cells #[.slice (some ⟨b, o, none⟩) l c] 65)) (.slice none 0 0) 65).alloc (.cells #[.slice none 0 0] 65)
  have K2 := Bx.new ((w.alloc (.cells #[.slice (some ⟨b, o, none⟩) l c] 65)).alloc (.cells #[.slice none 0 0] 65)) (.slice none 0 0) 65
  have pr : Below w.heap.size w (((w.alloc (.cells #[.slice (some ⟨b, o, none⟩) l c] 65)).alloc (.cells #[.slice none 0 0] 65)).alloc (.cells #[.slice none 0 0] 65)) := (((Below.refl _ _).alloc (Nat.le_refl _) _).alloc (by simp) _).alloc (by simp; omega) _
  simp only [World.size_alloc] at K1 K2
  have T1 : ∀ x, Below w.heap.size w x → Calls Tryz.prog 123 #[.slice (some ⟨b, o, none⟩) n c] x fun e w' => ∃ a l q, e = .returned (.agg #[.slice a l q]) ∧ Nn w' a l q (val (xs.take n)) ∧ Below x.heap.size x w' := fun x bx => by
    have e1 : (xs.take n).length = n := by rw [List.length_take]; omega
    refine (trim_rd (some ⟨b, o, none⟩) n c (xs.take n) x e1.symm (hw.take n) (by omega) hcm (fun _ => ⟨b, o, rfl, (hC.take n).grow bx⟩)).mono ?_
    rintro e w' ⟨k, zs, rfl, _, hr, hnm, hv, hb⟩
    exact ⟨_, _, _, rfl, ⟨zs, hr, hnm, hv⟩, hb⟩
  have T2 : ∀ x, Below w.heap.size w x → Calls Tryz.prog 123 #[.slice (some ⟨b, o + n, none⟩) (l - n) (c - n)] x fun e w' => ∃ a l q, e = .returned (.agg #[.slice a l q]) ∧ Nn w' a l q (val (xs.drop n)) ∧ Below x.heap.size x w' := fun x bx => by
    have e1 : (xs.drop n).length = l - n := by rw [List.length_drop]; omega
    refine (trim_rd (some ⟨b, o + n, none⟩) (l - n) (c - n) (xs.drop n) x e1.symm (hw.drop n) (by omega) (by omega) (fun _ => ⟨b, o + n, rfl, (hC.drop n).grow bx⟩)).mono ?_
    rintro e w' ⟨k, zs, rfl, _, hr, hnm, hv, hb⟩
    exact ⟨_, _, _, rfl, ⟨zs, hr, hnm, hv⟩, hb⟩
  have s1 := slice_h b o l c (n : Int) n rfl (by omega)
  have s2 := slice_l b o l c (n : Int) n rfl (by omega) (by omega)
  generalize val (xs.take n) = V1 at *
  generalize val (xs.drop n) = V2 at *
  clear hC hw hl
  go_enter Tryz.func167, Tryz.ntmps167
  go_wp2_with fail
  generalize ((w.alloc (.cells #[.slice (some ⟨b, o, none⟩) l c] 65)).alloc (.cells #[.slice none 0 0] 65)).alloc (.cells #[.slice none 0 0] 65) = W at *
  have k0 := K0.1
  have hn1 : w.heap.size ≠ w.heap.size + 1 + 1 := by omega
  have hn2 : w.heap.size + 1 + 1 ≠ w.heap.size := by omega
  go_region_held3 (fun x => x.cell? ⟨w.heap.size, 0, none⟩ = some (.slice (some ⟨b, o, none⟩) l c)) (go_keep) (first
    | (go_at_call 123; (have z := d1); refine (T2 _ (bel' pr d1)).mono ?_; rintro e w2 ⟨p2, m2, q2, rfl, n2, d2'⟩; have d2 := bel' d1 d2'; have n1 := n1.grow d2'; have i0 := (K0.below d2).1; have K12 := K1.below d2; have K22 := K2.below d2; have y1 := K12.1; have y2 := K12.2; have z1 := K22.1; have z2 := K22.2)
    | (go_at_call 123; refine (T1 _ pr.drew).mono ?_; rintro e w1 ⟨p1, m1, q1, rfl, n1, d1⟩; have d1 := undrew d1; have i0 := (K0.below d1).1)
    | fail)
  have K13 := K12.set (.slice p1 m1 q1)
  have K23 := K22.wr ((Wr.refl (w.heap.size + 1) 0 1 w2).setCell 0 (by omega) (.slice p1 m1 q1)) (by omega)
  have u1 := (n1.box (u := .slice p1 m1 q1) K12).box (u := .slice p2 m2 q2) K23
  have u2 := (n2.box (u := .slice p1 m1 q1) K12).box (u := .slice p2 m2 q2) K23
  have K24 := K23.set (.slice p2 m2 q2)
  have K14 := K13.wr ((Wr.refl (w.heap.size + 1 + 1) 0 1 (w2.setCell ⟨w.heap.size + 1, 0, none⟩ (.slice p1 m1 q1))).setCell 0 (by omega) (.slice p2 m2 q2)) (by omega)
  have BE := below_put (below_put (bel' pr d2) (show w.heap.size ≤ w.heap.size + 1 by omega) (.slice p1 m1 q1)) (show w.heap.size ≤ w.heap.size + 1 + 1 by omega) (.slice p2 m2 q2)
  go_wp2_with fail
  generalize (w2.setCell ⟨w.heap.size + 1, 0, none⟩ (.slice p1 m1 q1)).setCell ⟨w.heap.size + 1 + 1, 0, none⟩ (.slice p2 m2 q2) = WE at *
  have g1 := K14.1
  have g2 := K24.1
  exact bodyPost_ret (v := .tuple #[.agg #[.slice p1 m1 q1], .agg #[.slice p2 m2 q2]]) (by simp [results, Tryz.results167, go_sem, g1, g2]) rfl ⟨(p1, p2), (m1, m2), (q1, q2), rfl, ⟨u1, u2⟩, BE⟩
theorem cut_n {a : Option Addr} {l c : Nat} {A : Int} {w : World} (h : Nn w a l c A) (n : Nat) (hn : 0 < n) (hnl : n < l) :
    Calls Tryz.prog 167 #[.agg #[.slice a l c], .int .i64 n] w fun e w' => ∃ (p : Option Addr × Option Addr) (m q : Nat × Nat), e = .returned (.tuple #[.agg #[.slice p.1 m.1 q.1], .agg #[.slice p.2 m.2 q.2]]) ∧ (Nn w' p.1 m.1 q.1 (A % pw n) ∧ Nn w' p.2 m.2 q.2 (A / pw n)) ∧ Below w.heap.size w w' := by
  obtain ⟨xs, ⟨h1, a', c', e, h2, h3, h5⟩, hn', hv⟩ := h
  obtain ⟨rfl, rfl, rfl⟩ : a = a' ∧ l = xs.length ∧ c = c' := by injection e with e1 e2 e3; exact ⟨e1, e2, e3⟩
  obtain ⟨b, o, rfl, cc⟩ := h5 (by omega)
  have sp := val_split xs n (by omega)
  have lt := val_lt (h1.take n)
  have ge := val_nonneg (h1.take n)
  have e1 : (xs.take n).length = n := by rw [List.length_take]; omega
  rw [e1] at lt
  have pp := pw_pos n
  have m1 : A % pw n = val (xs.take n) := by rw [← hv, sp, Int.add_mul_emod_self_left]; exact Int.emod_eq_of_lt ge lt
  have m2 : A / pw n = val (xs.drop n) := by
    rw [← hv, sp, Int.add_mul_ediv_left _ _ (by omega), Int.ediv_eq_zero_of_lt ge lt]
    simp
  rw [m1, m2]
  exact cut_raw b o _ c n xs w h1 rfl h2 h3 hn hnl cc
end Go.Proofs.YtebilgnmnambnaaGreatDoor.Mo

namespace Go.Proofs.YtebilgnmnambnaaGreatDoor.Mo
open Go.RowKit Tn
theorem field_words (a : Option Addr) (l c : Nat) (w : World) : (Instr.field 65 (.agg #[.slice a l c]) 0).run Tryz.prog w = .ok (.slice a l c) w := by
  simp [Instr.field, run_underlying Tryz.underlying65, asAgg, part, Tryz.sizeOf63, go_sem]
theorem Nn.words {x : World} {a : Option Addr} {l c : Nat} {N : Int} (h : Nn x a l c N) : ∃ Y, Wd Y ∧ Nm Y ∧ val Y = N ∧ Hid (l = Y.length) ∧ (0 < Y.length → ∃ b o, a = some ⟨b, o, none⟩ ∧ Cells x b o Y) := by
  obtain ⟨xs, ⟨h1, a', c', e, _, _, h5⟩, hn, hv⟩ := h
  obtain ⟨rfl, rfl, rfl⟩ : a = a' ∧ l = xs.length ∧ c = c' := by injection e with e1 e2 e3; exact ⟨e1, e2, e3⟩
  exact ⟨xs, h1, hn, hv, rfl, h5⟩
theorem Nn.old {x : World} {a : Option Addr} {l c g : Nat} {N : Int} (h : Nn x a l c N) (hg : x.heap.size ≤ g) : Off a l g := by
  obtain ⟨Y, _, _, _, hl, hY⟩ := h.words
  rintro b o l0 rfl rfl
  have l1 : 0 < Y.length := hl.out ▸ l0
  obtain ⟨b', o', e, cc⟩ := hY l1
  obtain ⟨rfl, rfl⟩ : b = b' ∧ o = o' := by injection e with e; injection e with e1 e2; exact ⟨e1, e2⟩
  have := cc.lt l1
  omega
theorem Nn.wr {x x' : World} {a : Option Addr} {l c g o k : Nat} {N : Int} (h : Nn x a l c N) (f : Off a l g) (q : Wr g o k x x') : Nn x' a l c N := by
  obtain ⟨xs, ⟨h1, a', c', e, h2, h3, h5⟩, hn, hv⟩ := h
  obtain ⟨rfl, rfl, rfl⟩ : a = a' ∧ l = xs.length ∧ c = c' := by injection e with e1 e2 e3; exact ⟨e1, e2, e3⟩
  refine ⟨xs, ⟨h1, a, c, rfl, h2, h3, fun l0 => ?_⟩, hn, hv⟩
  obtain ⟨b, p, rfl, cc⟩ := h5 l0
  exact ⟨b, p, rfl, cc.other q (f b p l0 rfl)⟩
theorem piece_sum {X S' Y W : List Int} {n h : Nat} {P1 P2 T c : Int} (hX : X = Y ++ (List.replicate n 0).drop Y.length) (lY : Y.length ≤ n) (vY : val Y = P1) (vW : val W = P2) (hh : h ≤ n) (hT : T = P1 + pw h * P2) (lt : T < pw n) (wX : Wd X) (wS : Wd S') (lS : S'.length = n - h) (c0 : 0 ≤ c) (hs : val S' + pw (n - h) * c = val (X.drop h) + val W) :
    X.length = n ∧ Wd (spl X h (n - h) S') ∧ (spl X h (n - h) S').length = n ∧ val (spl X h (n - h) S') = T := by
  have lX : X.length = n := by rw [hX]; simp; omega
  have vX : val X = P1 := by
    rw [hX, val_append, List.drop_replicate, val_zeros, vY]; simp
  have sp := val_split X h (by omega)
  have pp : pw n = pw h * pw (n - h) := by rw [← pw_add]; congr 1; omega
  have hp := pw_pos h
  have hp2 := pw_pos (n - h)
  have t0 := val_nonneg (wX.take h)
  have s0 := val_nonneg wS
  have key : pw h * (val (X.drop h) + val W) < pw h * pw (n - h) := by
    rw [← pp, Int.mul_add, vW]
    omega
  have key2 : val (X.drop h) + val W < pw (n - h) := Int.lt_of_mul_lt_mul_left key (Int.le_of_lt hp)
  have cz : c = 0 := by
    by_cases c1 : c = 0
    · exact c1
    · have : pw (n - h) * 1 ≤ pw (n - h) * c := Int.mul_le_mul_of_nonneg_left (by omega) (by omega)
      omega
  subst cz
  simp only [Int.mul_zero, Int.add_zero] at hs
  refine ⟨lX, wd_spl wX wS _ _, by rw [spl_len (by omega) lS]; exact lX, ?_⟩
  rw [val_spl (by omega) lS, vX, List.take_of_length_le (by rw [List.length_drop]; omega), hs, hT, vW]
  grind
set_option maxHeartbeats 3200000 in
set_option maxRecDepth 100000 in
theorem mulPiecewise_raw (a1 a2 : Option Addr) (l1 c1 l2 c2 h : Nat) (Lo Hi P1 P2 T : Int) (w : World) (B0 : Int) (kB : Nn w a2 l2 c2 B0) (hb : l1 + l2 ≤ 1099511627776) (hh : h < l1) (h0 : 0 < h)
    (CC : ∀ x, Below w.heap.size w x → Calls Tryz.prog 167 #[.agg #[.slice a1 l1 c1], .int .i64 h] x fun e w' => ∃ (p : Option Addr × Option Addr) (m q : Nat × Nat), e = .returned (.tuple #[.agg #[.slice p.1 m.1 q.1], .agg #[.slice p.2 m.2 q.2]]) ∧ (Nn w' p.1 m.1 q.1 Lo ∧ Nn w' p.2 m.2 q.2 Hi) ∧ Below x.heap.size x w')
    (ML : ∀ x a l c, Nn x a l c Lo → Nn x a2 l2 c2 B0 → Calls Tryz.prog 64 #[.agg #[.slice a l c], .agg #[.slice a2 l2 c2]] x fun e w' => ∃ a l c, e = .returned (.agg #[.slice a l c]) ∧ Nn w' a l c (P1) ∧ Below x.heap.size x w' ∧ FrA x.heap.size (.slice a l c))
    (MH : ∀ x a l c, Nn x a l c Hi → Nn x a2 l2 c2 B0 → Calls Tryz.prog 64 #[.agg #[.slice a l c], .agg #[.slice a2 l2 c2]] x fun e w' => ∃ a l c, e = .returned (.agg #[.slice a l c]) ∧ Nn w' a l c (P2) ∧ Below x.heap.size x w' ∧ FrA x.heap.size (.slice a l c))
    (hT : T = P1 + pw h * P2) (lt : T < pw (l1 + l2)) (lt1 : P1 < pw (l1 + l2)) (lt2 : P2 < pw (l1 + l2 - h)) :
    Calls Tryz.prog 121 #[.agg #[.slice a1 l1 c1], .agg #[.slice a2 l2 c2], .int .i64 h] w fun e w' => ∃ a l c, e = .returned (.agg #[.slice a l c]) ∧ Nn w' a l c T ∧ Below w.heap.size w w' ∧ FrA w.heap.size (.slice a l c) := by
  have KA := ((Bx.new w (.slice a1 l1 c1) 65).alloc (.cells #[.slice a2 l2 c2] 65)).alloc (.cells #[.slice none 0 0] 65)
  have KB := (Bx.new (w.alloc (.cells #[.slice a1 l1 c1] 65)) (.slice a2 l2 c2) 65).alloc (.cells #[.slice none 0 0] 65)
  have KR := Bx.new ((w.alloc (.cells #[.slice a1 l1 c1] 65)).alloc (.cells #[.slice a2 l2 c2] 65)) (.slice none 0 0) 65
  have pr : Below w.heap.size w (((w.alloc (.cells #[.slice a1 l1 c1] 65)).alloc (.cells #[.slice a2 l2 c2] 65)).alloc (.cells #[.slice none 0 0] 65)) := (((Below.refl _ _).alloc (Nat.le_refl _) _).alloc (by simp) _).alloc (by simp; omega) _
  simp only [World.size_alloc] at KB KR
  have HT : Hid (T = P1 + pw h * P2 ∧ T < pw (l1 + l2) ∧ P1 < pw (l1 + l2) ∧ P2 < pw (l1 + l2 - h)) := ⟨hT, lt, lt1, lt2⟩
  clear hT lt lt1 lt2
  have FW := field_words
  go_enter Tryz.func121, Tryz.ntmps121
  go_wp2_with fail
  generalize ((w.alloc (.cells #[.slice a1 l1 c1] 65)).alloc (.cells #[.slice a2 l2 c2] 65)).alloc (.cells #[.slice none 0 0] 65) = W at *
  replace kB := kB.grow pr
  have ka := KA.1
  have kb := KB.1
  obtain ⟨n, hn⟩ : ∃ n, l1 + l2 = n := ⟨_, rfl⟩
  have wn : IntKind.i64.wrap ((l1 : Int) + (l2 : Int)) = (n : Int) := by rw [← hn]; rw [IntWalk.i64_in _ (by omega)]; push_cast; first | done | rfl
  have HN : Hid (l1 + l2 = n) := hn
  have hn5 : n ≤ 1099511627776 := by omega
  have hh2 : h < n := by omega
  rw [hn] at HT
  clear hn
  go_wp2_with (first
    | (go_at_call 167; refine (CC _ pr).mono ?_; rintro e w1 ⟨p, m, q, rfl, ⟨n1, n2⟩, d1⟩; have al := ((Below.refl w1.heap.size w1).alloc (Nat.le_refl _) (.cells #[.slice p.1 m.1 q.1] 65)).alloc (by simp) (.cells #[.slice p.2 m.2 q.2] 65); have d2 := bel' d1 al; have KL := (Bx.new w1 (.slice p.1 m.1 q.1) 65).alloc (.cells #[.slice p.2 m.2 q.2] 65); have KH := Bx.new (w1.alloc (.cells #[.slice p.1 m.1 q.1] 65)) (.slice p.2 m.2 q.2) 65; have sz : (w1.alloc (.cells #[.slice p.1 m.1 q.1] 65)).heap.size = w1.heap.size + 1 := World.size_alloc _ _; rw [sz] at KH; have KA1 := KA.below d2; have KB1 := KB.below d2; have KR1 := KR.below d2; have n1 := n1.grow al; have n2 := n2.grow al; have kB1 := kB.grow d2; have p1 := bel' pr d2; have ka1 := KA1.1; have kb1 := KB1.1)
    | (at_make; refine wpList_make_words rfl _ _ rfl n _ _ rfl rfl (by simp) (by simp) (by omega) ?_; intro w2 z1 z2 z3 z4; have KB2 := KB1.below z3; have KR2 := KR1.below z3; have KL2 := KL.below z3; have KH2 := KH.below z3; have o1 := n1.old (Nat.le_refl _); have o2 := n2.old (Nat.le_refl _); have oB := kB1.old (Nat.le_refl _); have n12 := n1.grow z3; have n22 := n2.grow z3; have kB2 := kB1.grow z3; have p2 := bel' p1 z3; have kb2 := KB2.1; have kl2 := KL2.1; have eB := KB1.lt; have eR := KR1.lt; have eL := KL.lt; have eH := KH.lt; simp only [World.size_alloc] at z1 z2 z4 o1 o2 oB eB eR eL eH)
    | (go_at_call 64; refine (ML _ _ _ _ n12 kB2).mono ?_; rintro e w3 ⟨ya, yl, yc, rfl, nY, d3, _⟩; obtain ⟨Y, wY, nmY, vY, eY, hY⟩ := nY.words; have KB3 := KB2.below d3; have KR3 := KR2.below d3; have KH3 := KH2.below d3; have n23 := n22.grow d3; have kB3 := kB2.grow d3; have p3 := bel' p2 d3; have c3 := z1.grow d3; have w3o := z2.grow d3)
    | ((with_reducible refine at_copy ?_); refine wpList_copy_words rfl _ _ rfl (List.replicate n 0) Y (w1.heap.size + 1 + 1) 0 n ya yl yc n rfl rfl (by simp) eY.out (by rw [List.length_replicate]; exact len_of wY nmY (by rw [vY]; exact HT.out.2.2.1)) c3 w3o hY ?_; intro w4 c4' q4; rw [List.length_replicate] at q4; have KB4 := KB3.wr q4 (by omega); have KR4 := KR3.wr q4 (by omega); have KH4 := KH3.wr q4 (by omega); have n24 := n23.wr o2 q4; have kB4 := kB3.wr oB q4; have w4o := w3o.wr q4; have p4 := p3.trans (q4.below (B := w.heap.size) (by have := p1.size; simp at this; omega) p3.size); have kh4 := KH4.1; have kb4 := KB4.1)
    | fail)
  have hg : w.heap.size ≤ w1.heap.size + 1 + 1 := by have := p1.size; simp at this; omega
  have gl := w4o.lt
  have hR : w.heap.size + 1 + 1 < w1.heap.size + 1 + 1 := by have := KR1.lt; simp at this; omega
  have hHne : w1.heap.size + 1 ≠ w1.heap.size + 1 + 1 := by omega
  have hBne : w.heap.size + 1 ≠ w1.heap.size + 1 + 1 := by omega
  have HY : Hid (Y.length ≤ n ∧ val Y = P1 ∧ Wd Y) := ⟨len_of wY nmY (by rw [vY]; exact HT.out.2.2.1), vY, wY⟩
  clear KA KB KR KA1 KB1 KR1 KB2 KR2 KL KL2 KH KH2 KB3 KR3 KH3 n1 n2 n12 n22 n23 kB kB1 kB2 kB3 nY hY eY vY wY nmY z1 z2 z3 z4 c3 w3o ka kb ka1 kb1 kb2 kl2 p1 p2 p3 al d1 d2 d3 pr q4 sz CC ML o1 eB eR eL eH
  obtain ⟨X, hX⟩ : ∃ X, Y ++ (List.replicate n 0).drop Y.length = X := ⟨_, rfl⟩
  rw [hX] at c4'
  have HX : Hid (Y ++ (List.replicate n 0).drop Y.length = X) := hX
  clear hX
  have lX : Hid (X.length = n) := by
    show _ = _
    rw [← HX.out]; simp; have := HY.out.1; omega
  have wX : Wd X := by
    rw [← HX.out, List.drop_replicate]
    exact HY.out.2.2.append (Wd.zeros _)
  generalize w1.heap.size + 1 + 1 = g at *
  generalize w1.heap.size + 1 = kh at *
  have sl := slice_l g 0 n n (h : Int) h rfl (by omega) (by omega)
  rw [Nat.zero_add] at sl
  have lS0 : Hid ((X.drop h).length = n - h) := by show _ = _; rw [List.length_drop, lX.out]
  go_region_held3 (fun x => x.cell? ⟨kh, 0, none⟩ = some (.slice p.2 m.2 q.2) ∧ x.cell? ⟨w.heap.size + 1, 0, none⟩ = some (.slice a2 l2 c2)) (go_keep) (first
    | (go_at_call 64; refine (MH _ _ _ _ n24.drew kB4.drew).mono ?_; rintro e w5 ⟨va, vl, vc, rfl, nV, d5', fr⟩; have d5 := undrew d5'; clear d5'; obtain ⟨V, wV, nmV, vV, eV, hV⟩ := nV.words; have i0 := (KH4.below d5).1; have i1 := (KB4.below d5).1; have c5 := c4'.grow d5; have w5o := w4o.grow d5; have c5d : Cells w5 g h (X.drop h) := (by have := c5.drop h; rwa [Nat.zero_add] at this))
    | (go_at_call 165; go_loud (refine (addInto_at g h (n - h) (n - h) (X.drop h) va vc vl V _ lS0.out.symm eV.out (wX.drop h) wV (by rw [lS0.out]; exact len_of wV nmV (by rw [vV]; exact HT.out.2.2.2)) (by rw [lS0.out]; omega) c5d (w5o.free _ _) (fun l0 => by obtain ⟨b2, o2, e2, cc⟩ := hV l0; have := fr b2 o2 vl vc (by rw [e2]); exact ⟨b2, o2, e2, by have hh : w4.drew.heap.size = w4.heap.size := rfl; omega, cc⟩)).mono ?_; rintro e w6 ⟨S', c, rfl, k0, k1, lS, wS, vS, cS, q6⟩; have j0 := ((KH4.below d5).wr q6 hHne).1; have j1 := ((KB4.below d5).wr q6 hBne).1))
    | fail)
  rw [lS0.out] at lS vS q6
  obtain ⟨R1, R2, R3, R4⟩ := piece_sum HX.out.symm HY.out.1 HY.out.2.1 vV (Nat.le_of_lt hh2) HT.out.1 HT.out.2.1 wX wS lS k0 vS
  have CF : Cells w6 g 0 (spl X h (n - h) S') := c5.spl (by omega) lS q6 cS
  have KR6 := (KR4.below d5).wr q6 (by omega)
  have p6 := (bel' p4 d5).trans (q6.below (B := w.heap.size) hg (by have := (bel' p4 d5).size; exact this))
  have HV4 : Hid (val (spl X h (n - h) S') = T) := R4
  have HR3 : Hid ((spl X h (n - h) S').length = n) := R3
  clear R1 R3 R4 HX HY lX lS0 wX c4' c5 c5d cS vS q6 nV hV eV vV wV nmV n24 kB4 KH4 KB4 kh4 kb4 i0 i1 j0 j1 MH fr w4o w5o p4 oB o2 KR4 gl
  go_wp2_with (first
    | (go_at_call 123; refine (trim_rd (some ⟨g, 0, none⟩) n n (spl X h (n - h) S') _ HR3.out.symm R2 (by rw [HR3.out]; exact Nat.le_refl _) (by omega) (fun _ => ⟨g, 0, rfl, CF⟩)).mono ?_; rintro e w7 ⟨k, zs, rfl, _, hr, hnm, hv, d7⟩; have KR7 := KR6.below d7; have r1 := KR7.1; have r2 := KR7.2)
    | fail)
  have NE : Nn w7 (some ⟨g, 0, none⟩) k n T := ⟨zs, hr, hnm, hv.trans HV4.out⟩
  have NF := NE.box (u := .slice (some ⟨g, 0, none⟩) k n) KR7
  have KE := KR7.set (.slice (some ⟨g, 0, none⟩) k n)
  have BE := below_put (bel' p6 d7) (show w.heap.size ≤ w.heap.size + 1 + 1 by omega) (.slice (some ⟨g, 0, none⟩) k n)
  generalize w7.setCell ⟨w.heap.size + 1 + 1, 0, none⟩ (.slice (some ⟨g, 0, none⟩) k n) = WE at *
  have g1 := KE.1
  exact bodyPost_ret (v := .agg #[.slice (some ⟨g, 0, none⟩) k n]) (by simp [results, Tryz.results121, go_sem, g1]) rfl ⟨_, _, _, rfl, NF, BE, fun b o l c e => by simp at e; omega⟩
end Go.Proofs.YtebilgnmnambnaaGreatDoor.Mo
