import Derived.Test.YteepjipecfdkoaaDoorDy8
import Derived.Test.YteepjipecfdkoaaDoorDy6
namespace Go.Proofs.YteepjipecfdkoaaDoor.Dy
open Go.RowKit Tn

theorem dput {w : World} {n : Nat} {c : Array Value} {t : TypeId} (h : Blk w n c t) (i : Nat) (v : Value) : Blk (w.setCell ⟨n, i, none⟩ v) n (c.setIfInBounds i v) t := by
  have h' : w.heap[n]? = some (.cells c t (0, 0)) := h
  show (w.setCell ⟨n, i, none⟩ v).heap[n]? = _
  simp [World.setCell, Array.getElem?_modify, h']
theorem dskip {w : World} {n b : Nat} {c : Array Value} {t : TypeId} (h : Blk w n c t) (hb : b ≠ n) (i : Nat) (v : Value) : Blk (w.setCell ⟨b, i, none⟩ v) n c t := by
  have h' : w.heap[n]? = some (.cells c t (0, 0)) := h
  show (w.setCell ⟨b, i, none⟩ v).heap[n]? = _
  simp [World.setCell, Array.getElem?_modify, h', hb]
/-- The date of a variable, in the two loops. -/
def Dv (w : World) (b0 b1 : Nat) (y m : Int) (W : World) : Prop :=
  Blk W b0 #[.int .i64 0, .int .i64 0, .int .i64 0] 23 ∧ Blk W b1 #[.int .i64 y, .int .i64 m, .int .i64 1] 23 ∧ Below w.heap.size w W
def ci (b i : Nat) (W : World) : Int := RowKit.intOf ((W.cell? ⟨b, i, none⟩).getD undef)
theorem ci_of {b i : Nat} {W : World} {z : Int} (h : W.cell? ⟨b, i, none⟩ = some (.int .i64 z)) : ci b i W = z := by unfold ci; rw [h]; rfl
theorem Dv.year {w : World} {b0 b1 : Nat} {y m : Int} {W : World} (h : Dv w b0 b1 y m W) (h0 : w.heap.size ≤ b1) (ne : b1 ≠ b0) (z : Int) : Dv w b0 b1 z m (W.setCell ⟨b1, 0, none⟩ (.int .i64 z)) :=
  ⟨dskip h.1 ne 0 _, dput h.2.1 0 _, h.2.2.setCell (p := ⟨b1, 0, none⟩) h0 _⟩
theorem Dv.month {w : World} {b0 b1 : Nat} {y m : Int} {W : World} (h : Dv w b0 b1 y m W) (h0 : w.heap.size ≤ b1) (ne : b1 ≠ b0) (z : Int) : Dv w b0 b1 y z (W.setCell ⟨b1, 1, none⟩ (.int .i64 z)) :=
  ⟨dskip h.1 ne 1 _, dput h.2.1 1 _, h.2.2.setCell (p := ⟨b1, 1, none⟩) h0 _⟩
theorem dput3 {w : World} {n : Nat} {a b c : Value} {t : TypeId} (h : Blk w n #[a, b, c] t) (x y z : Int) : Blk (((w.setCell ⟨n, 0, none⟩ (.int .i64 x)).setCell ⟨n, 1, none⟩ (.int .i64 y)).setCell ⟨n, 2, none⟩ (.int .i64 z)) n #[.int .i64 x, .int .i64 y, .int .i64 z] t := dput (dput (dput h 0 _) 1 _) 2 _
theorem dset3 {w W : World} {n : Nat} {x y z : Value} (h : Below w.heap.size w W) (hn : w.heap.size ≤ n) : Below w.heap.size w (((W.setCell ⟨n, 0, none⟩ x).setCell ⟨n, 1, none⟩ y).setCell ⟨n, 2, none⟩ z) :=
  ((h.setCell (p := ⟨n, 0, none⟩) hn x).setCell (p := ⟨n, 1, none⟩) hn y).setCell (p := ⟨n, 2, none⟩) hn z
set_option maxHeartbeats 1600000 in
theorem RFromNumber_any (n : Int) (w : World) : Calls Tryd.prog 23 #[.int .i64 n] w fun e w' => e = .returned (.tuple #[dt (fy n) (fm n) (fd n), .bool (nr n)]) ∧ Below w.heap.size w w' := by
  have E := RNumber_any 9999 12 31 (by omega) (by omega) (by omega) (by omega) (by omega) (by omega)
  rw [show num 9999 12 31 = 3652059 by decide] at E
  have pr := bl (w := w) #[.int .i64 0, .int .i64 0, .int .i64 0] 23
  have K0 := Blk.new w #[.int .i64 0, .int .i64 0, .int .i64 0] 23
  by_cases h1 : n < 1
  · have g : nr n = false := by simp [nr]; omega
    obtain ⟨p, q, r⟩ := fr_bad g
    rw [p, q, r, g]
    unfold dt at *
    go_enter Tryd.func23, Tryd.ntmps23
    go_wp2_with fail
    exact bodyPost_ret (v := .tuple #[.agg #[.int .i64 0, .int .i64 0, .int .i64 0], .bool false]) (by simp [results, Tryd.results23, go_sem]) rfl ⟨rfl, pr⟩
  · by_cases h2 : 3652059 < n
    · have g : nr n = false := by simp [nr]; omega
      obtain ⟨p, q, r⟩ := fr_bad g
      rw [p, q, r, g]
      unfold dt at *
      go_enter Tryd.func23, Tryd.ntmps23
      go_wp2_with (first | (go_at_call 13; refine (E _).mono ?_; rintro x w1 ⟨rfl, b1⟩; have K1 := K0.below b1 K0.lt; have k0 := K1.c0; have k1 := K1.c1; have k2 := K1.c2; have s0 := K1.free 0; have s1 := K1.free 1; have s2 := K1.free 2) | fail)
      have KE := dput3 K1 0 0 0
      have bE := dset3 (x := .int .i64 0) (y := .int .i64 0) (z := .int .i64 0) (belT pr b1) (Nat.le_refl _)
      generalize ((w1.setCell ⟨w.heap.size, 0, none⟩ (.int .i64 0)).setCell ⟨w.heap.size, 1, none⟩ (.int .i64 0)).setCell ⟨w.heap.size, 2, none⟩ (.int .i64 0) = WE at *
      have r0 := KE.c0
      have r1 := KE.c1
      have r2 := KE.c2
      exact bodyPost_ret (v := .tuple #[.agg #[.int .i64 0, .int .i64 0, .int .i64 0], .bool false]) (by simp [results, Tryd.results23, go_sem, r0, r1, r2]) rfl ⟨rfl, bE⟩
    · have g : nr n = true := by simp [nr]; omega
      have hn := nr_iff.1 g
      obtain ⟨gg, ge⟩ := fr_good g
      have hg := good_iff.1 gg
      obtain ⟨q, hq⟩ : ∃ q, n / 366 = q := ⟨_, rfl⟩
      have e1 : n.tdiv 366 = q := by rw [Int.tdiv_eq_ediv_of_nonneg (by omega)]; exact hq
      have e2 : IntKind.i64.wrap q = q := wrapI _ (by omega) (by omega)
      have i1 : Hid (1 ≤ fy n) := hg.1
      have i2 : Hid (1 ≤ q → q ≤ fy n) := fun k => fr_first g (by have := hd_bd k; omega)
      have FY := fun z => fr_year (n := n) (z := z) g
      have F := fun z => fr_month (n := n) (z := z) g
      have A := ahead_any (fy n) (by omega) (by omega)
      have hb := hd_bd hg.1
      unfold num at ge
      rw [g]
      clear gg g
      generalize fy n = Y0 at *
      generalize fm n = M0 at *
      generalize fd n = D0 at *
      obtain ⟨R, hR⟩ : ∃ R, n - hd Y0 = R := ⟨_, rfl⟩
      have f0 : IntKind.i64.wrap (n - hd Y0) = R := by rw [wrapI _ (by omega) (by omega)]; exact hR
      unfold dt at *
      clear hq
      go_enter Tryd.func23, Tryd.ntmps23
      go_wp2_with (first | (go_at_call 13; refine (E _).mono ?_; rintro x w1 ⟨rfl, b1⟩; have K1 := K0.below b1 K0.lt; have pr1 := belT pr b1; have lt1 := b1.size) | fail)
      all_goals
        have ne1 : w1.heap.size ≠ w.heap.size := by have := K1.lt; omega
        have le1 : w.heap.size ≤ w1.heap.size := by have := K1.lt; omega
        have pr2 := fun (o : Array Value) => belT pr1 (bl (w := w1) o 23)
        go_loopw [] (fun W => ∃ z : Int, 1 ≤ z ∧ z ≤ Y0 ∧ Dv w w.heap.size w1.heap.size z 1 W) (fun W => (Y0 - ci w1.heap.size 0 W).toNat)
        case atStart => first | exact ⟨1, by omega, i1.out, K1.alloc _, Blk.new _ _ _, belT pr1 (bl _ _)⟩ | exact ⟨q, by omega, i2.out (by omega), K1.alloc _, Blk.new _ _ _, belT pr1 (bl _ _)⟩
        case round =>
          obtain ⟨z, z1, z2, DV⟩ := hrel
          have A1 := ahead_any (z + 1) (by omega) (by omega)
          have f := FY z z2
          have f6 : IntKind.i64.wrap (z + 1) = z + 1 := wrapI _ (by omega) (by omega)
          have MS : Hid (ci w1.heap.size 0 wr = z) := ci_of DV.2.1.c0
          have NX : Hid (Dv w w.heap.size w1.heap.size (z + 1) 1 (wr.setCell ⟨w1.heap.size, 0, none⟩ (.int .i64 (z + 1)))) := DV.year le1 ne1 _
          have q0 := DV.2.1.c0
          have s0 := DV.2.1.free 0
          by_cases c : z < Y0
          · replace f := f.2 c
            have M1 : Hid ((Y0 - ci w1.heap.size 0 (wr.setCell ⟨w1.heap.size, 0, none⟩ (.int .i64 (z + 1)))).toNat < (Y0 - ci w1.heap.size 0 wr).toNat) := by show _ < _; rw [MS.out, ci_of NX.out.2.1.c0]; omega
            clear hg hb FY F A i1 i2 hR f0
            generalize hd (z + 1) = H at *
            go_wp2_with (first | (go_at_call 25; refine (A1 _).mono ?_; rintro x w2 ⟨rfl, rfl⟩) | fail)
            go_roundw
            case rel => exact ⟨z + 1, by omega, by omega, NX.out⟩
            case measure => exact M1.out
          · replace f : ¬ hd (z + 1) < n := fun k => c (f.1 k)
            obtain rfl : z = Y0 := by omega
            clear NX MS FY i1 i2
            generalize hd (z + 1) = H at *
            go_wp2_with (first | (go_at_call 25; first | (with_reducible refine (A1 _).mono ?_); rintro x w2 ⟨rfl, rfl⟩ | (with_reducible refine (A _).mono ?_); rintro x w2 ⟨rfl, rfl⟩) | fail)
            go_loopw [0] (fun t W => ∃ x : Int, 1 ≤ x ∧ x ≤ M0 ∧ t = .int .i64 (R - cu (lp z) x) ∧ Dv w w.heap.size w1.heap.size z x W) (fun _ W => (M0 - ci w1.heap.size 1 W).toNat)
            case atStart => exact ⟨1, by omega, by omega, by rw [cu_one]; simp, DV⟩
            case round =>
              clear DV q0 s0
              obtain ⟨x, x1, x2, rfl, DV⟩ := hrel
              have L := RLength_any z x (by omega) x1 (by omega)
              have f := F x x1 x2
              have cb := cu_bd (lp z) x1 (by omega)
              have sb := sz_bd (lp z)
              have mb := ml_bd (lp z) x
              have f6 : IntKind.i64.wrap (x + 1) = x + 1 := wrapI _ (by omega) (by omega)
              obtain ⟨J, hJ⟩ : ∃ J, R - cu (lp z) x = J := ⟨_, rfl⟩
              rw [show n - hd z - cu (lp z) x = J by omega] at f
              rw [hJ]
              have MS : Hid (ci w1.heap.size 1 wr = x) := ci_of DV.2.1.c1
              have NX : Hid (Dv w w.heap.size w1.heap.size z (x + 1) (wr.setCell ⟨w1.heap.size, 1, none⟩ (.int .i64 (x + 1)))) := DV.month le1 ne1 _
              have q0 := DV.2.1.c0
              have q1 := DV.2.1.c1
              have s1 := DV.2.1.free 1
              by_cases c : x < M0
              · replace f := f.2 c
                have cc := cu_add (lp z) x1 c (by omega)
                have E : Hid (J - ml (lp z) x = R - cu (lp z) (x + 1)) := by show _ = _; rw [cu_succ _ x1 (by omega)]; omega
                have f5 : IntKind.i64.wrap (J - ml (lp z) x) = J - ml (lp z) x := wrapI _ (by omega) (by omega)
                have M1 : Hid ((M0 - ci w1.heap.size 1 (wr.setCell ⟨w1.heap.size, 1, none⟩ (.int .i64 (x + 1)))).toNat < (M0 - ci w1.heap.size 1 wr).toNat) := by show _ < _; rw [MS.out, ci_of NX.out.2.1.c1]; omega
                clear cb sb mb hJ cc hb hg F A A1 hR f0
                generalize ml (lp z) x = S0 at *
                go_wp2_with (first | (go_at_call 22; refine (L _).mono ?_; rintro x w2 ⟨rfl, rfl⟩) | fail)
                go_roundw
                case rel => exact ⟨x + 1, by omega, by omega, by rw [E.out], NX.out⟩
                case measure => exact M1.out
              · replace f : ¬ ml (lp z) x < J := fun k => c (f.1 k)
                obtain rfl : x = M0 := by omega
                obtain rfl : J = D0 := by omega
                have s2 := DV.2.1.free 2
                have q2 := DV.2.1.c2
                have u0 := DV.1.free 0
                have u1 := DV.1.free 1
                have u2 := DV.1.free 2
                have p0 := DV.1.c0
                have p1 := DV.1.c1
                have p2 := DV.1.c2
                generalize ml (lp z) x = S0 at *
                clear NX MS F A A1 hR f0 hb hg hJ cb sb mb
                go_wp2_with (first | (go_at_call 22; refine (L _).mono ?_; rintro x w2 ⟨rfl, rfl⟩) | fail)
                have KE := dput3 (dskip DV.1 ne1 2 (.int .i64 J)) z x J
                have bE := dset3 (x := .int .i64 z) (y := .int .i64 x) (z := .int .i64 J) (DV.2.2.setCell (p := ⟨w1.heap.size, 2, none⟩) le1 (.int .i64 J)) (Nat.le_refl _)
                generalize (((w2.setCell ⟨w1.heap.size, 2, none⟩ (.int .i64 J)).setCell ⟨w.heap.size, 0, none⟩ (.int .i64 z)).setCell ⟨w.heap.size, 1, none⟩ (.int .i64 x)).setCell ⟨w.heap.size, 2, none⟩ (.int .i64 J) = WE at *
                have r0 := KE.c0
                have r1 := KE.c1
                have r2 := KE.c2
                exact bodyPost_ret (v := .tuple #[.agg #[.int .i64 z, .int .i64 x, .int .i64 J], .bool true]) (by simp [results, Tryd.results23, go_sem, r0, r1, r2]) rfl ⟨rfl, bE⟩
end Go.Proofs.YteepjipecfdkoaaDoor.Dy
