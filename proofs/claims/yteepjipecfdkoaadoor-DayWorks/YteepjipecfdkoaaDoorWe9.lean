import Derived.Test.YteepjipecfdkoaaDoorWe8
import Derived.Deep.DeepCutAuto
namespace Go.Proofs.YteepjipecfdkoaaDoor.Dy
open Go.RowKit Tn
set_option maxHeartbeats 1600000 in
theorem RWork_bad (y m d h : Int) (v : Value) (f : Nat → Int × Int × Int) (n : Nat) (w : World) (S : Rs w v n f) (GO : ∀ W, Calls Tryd.prog 11 #[.agg #[.int .i64 y, .int .i64 m, .int .i64 d]] W fun e w' => e = .returned (.bool false) ∧ Below W.heap.size W w') : Calls Tryd.prog 5 #[.agg #[.int .i64 y, .int .i64 m, .int .i64 d], v, .int .i64 h] w fun x w' => x = .returned (.tuple #[.agg #[.int .i64 0, .int .i64 0, .int .i64 0], .int .i64 70]) ∧ Below w.heap.size w w' := by
  have Ka0 := (Blk.new w #[.int .i64 y, .int .i64 m, .int .i64 d] 23).alloc (.cells #[.int .i64 0, .int .i64 0, .int .i64 0] 23)
  have R0 := Blk.new (w.alloc (.cells #[.int .i64 y, .int .i64 m, .int .i64 d] 23)) #[.int .i64 0, .int .i64 0, .int .i64 0] 23
  rw [show (w.alloc (.cells #[.int .i64 y, .int .i64 m, .int .i64 d] 23)).heap.size = w.heap.size + 1 by simp] at R0
  have pr := belT (bl (w := w) #[.int .i64 y, .int .i64 m, .int .i64 d] 23) (bl (w := (w.alloc (.cells #[.int .i64 y, .int .i64 m, .int .i64 d] 23))) #[.int .i64 0, .int .i64 0, .int .i64 0] 23)
  go_enter Tryd.func5, Tryd.ntmps5
  go_wp2_with (first
    | (go_at_call 11; refine (GO _).mono ?_; rintro x w1 ⟨rfl, b1⟩; have Ka1 := Ka0.below b1 Ka0.lt; have ka10 := Ka1.c0; have ka11 := Ka1.c1; have ka12 := Ka1.c2; have ka1l := Ka1.lt; have R1 := R0.below b1 R0.lt; have r10 := R1.c0; have r11 := R1.c1; have r12 := R1.c2; have r1l := R1.lt; have p1 := belT pr b1; have rf10 := R1.free 0; have rf11 := R1.free 1; have rf12 := R1.free 2; have S1 := S.grow p1)
    | fail)
  have KE := dput3 R1 (0) (0) (0)
  have bE := dset3 (x := .int .i64 (0)) (y := .int .i64 (0)) (z := .int .i64 (0)) p1 (show w.heap.size ≤ (w.heap.size + 1) by omega)
  generalize ((w1.setCell ⟨(w.heap.size + 1), 0, none⟩ (.int .i64 (0))).setCell ⟨(w.heap.size + 1), 1, none⟩ (.int .i64 (0))).setCell ⟨(w.heap.size + 1), 2, none⟩ (.int .i64 (0)) = WE at *
  have z0 := KE.c0
  have z1 := KE.c1
  have z2 := KE.c2
  exact bodyPost_ret (v := .tuple #[.agg #[.int .i64 0, .int .i64 0, .int .i64 0], .int .i64 70]) (by simp [results, Tryd.results5, go_sem, z0, z1, z2]) rfl ⟨rfl, bE⟩
set_option maxHeartbeats 1600000 in
theorem RWork_long (y m d h : Int) (v : Value) (f : Nat → Int × Int × Int) (n : Nat) (w : World) (S : Rs w v n f) (GO : ∀ W, Calls Tryd.prog 11 #[.agg #[.int .i64 y, .int .i64 m, .int .i64 d]] W fun e w' => e = .returned (.bool true) ∧ Below W.heap.size W w') (hn : 4096 < n) (hn' : n ≤ 9223372036854775807) : Calls Tryd.prog 5 #[.agg #[.int .i64 y, .int .i64 m, .int .i64 d], v, .int .i64 h] w fun x w' => x = .returned (.tuple #[.agg #[.int .i64 0, .int .i64 0, .int .i64 0], .int .i64 3]) ∧ Below w.heap.size w w' := by
  have Ka0 := (Blk.new w #[.int .i64 y, .int .i64 m, .int .i64 d] 23).alloc (.cells #[.int .i64 0, .int .i64 0, .int .i64 0] 23)
  have R0 := Blk.new (w.alloc (.cells #[.int .i64 y, .int .i64 m, .int .i64 d] 23)) #[.int .i64 0, .int .i64 0, .int .i64 0] 23
  rw [show (w.alloc (.cells #[.int .i64 y, .int .i64 m, .int .i64 d] 23)).heap.size = w.heap.size + 1 by simp] at R0
  have pr := belT (bl (w := w) #[.int .i64 y, .int .i64 m, .int .i64 d] 23) (bl (w := (w.alloc (.cells #[.int .i64 y, .int .i64 m, .int .i64 d] 23))) #[.int .i64 0, .int .i64 0, .int .i64 0] 23)
  have h4 : (4096 : Int) < (n : Int) := by omega
  have S0 : Hid (Rs w v n f) := S
  obtain ⟨ao, c, rfl, S⟩ := S
  clear S
  replace S := S0.out
  go_enter Tryd.func5, Tryd.ntmps5
  go_wp2_with (first
    | (go_at_call 11; refine (GO _).mono ?_; rintro x w1 ⟨rfl, b1⟩; have Ka1 := Ka0.below b1 Ka0.lt; have ka10 := Ka1.c0; have ka11 := Ka1.c1; have ka12 := Ka1.c2; have ka1l := Ka1.lt; have R1 := R0.below b1 R0.lt; have r10 := R1.c0; have r11 := R1.c1; have r12 := R1.c2; have r1l := R1.lt; have p1 := belT pr b1; have rf10 := R1.free 0; have rf11 := R1.free 1; have rf12 := R1.free 2; have S1 := S.grow p1)
    | fail)
  have KE := dput3 R1 (0) (0) (0)
  have bE := dset3 (x := .int .i64 (0)) (y := .int .i64 (0)) (z := .int .i64 (0)) p1 (show w.heap.size ≤ (w.heap.size + 1) by omega)
  generalize ((w1.setCell ⟨(w.heap.size + 1), 0, none⟩ (.int .i64 (0))).setCell ⟨(w.heap.size + 1), 1, none⟩ (.int .i64 (0))).setCell ⟨(w.heap.size + 1), 2, none⟩ (.int .i64 (0)) = WE at *
  have z0 := KE.c0
  have z1 := KE.c1
  have z2 := KE.c2
  exact bodyPost_ret (v := .tuple #[.agg #[.int .i64 0, .int .i64 0, .int .i64 0], .int .i64 3]) (by simp [results, Tryd.results5, go_sem, z0, z1, z2]) rfl ⟨rfl, bE⟩
/-- What lies where. -/
def Wt (w W : World) (y m d : Int) (v : Value) (n : Nat) (f : Nat → Int × Int × Int) : Prop :=
  Blk W w.heap.size #[.int .i64 y, .int .i64 m, .int .i64 d] 23 ∧ Blk W (w.heap.size + 1) #[.int .i64 0, .int .i64 0, .int .i64 0] 23 ∧ Rs W v n f ∧ Below w.heap.size w W
theorem Wt.grow {w W W' : World} {y m d : Int} {v : Value} {n : Nat} {f : Nat → Int × Int × Int} (h : Wt w W y m d v n f) (k : Below W.heap.size W W') : Wt w W' y m d v n f :=
  ⟨h.1.below k h.1.lt, h.2.1.below k h.2.1.lt, h.2.2.1.grow k, belT h.2.2.2 k⟩
set_option maxHeartbeats 3200000 in
theorem RWork_free (y m d h : Int) (v : Value) (f : Nat → Int × Int × Int) (n : Nat) (w : World) (S : Rs w v n f) (GO : ∀ W, Calls Tryd.prog 11 #[.agg #[.int .i64 y, .int .i64 m, .int .i64 d]] W fun e w' => e = .returned (.bool true) ∧ Below W.heap.size W w') (GF : ∀ i, i < n → ∀ W, Calls Tryd.prog 11 #[.agg #[.int .i64 (f i).1, .int .i64 (f i).2.1, .int .i64 (f i).2.2]] W fun e w' => e = .returned (.bool (gf f i)) ∧ Below W.heap.size W w') (hn : n ≤ 4096) (hb : ag f n = false) : Calls Tryd.prog 5 #[.agg #[.int .i64 y, .int .i64 m, .int .i64 d], v, .int .i64 h] w fun x w' => x = .returned (.tuple #[.agg #[.int .i64 0, .int .i64 0, .int .i64 0], .int .i64 70]) ∧ Below w.heap.size w w' := by
  have Ka0 := (Blk.new w #[.int .i64 y, .int .i64 m, .int .i64 d] 23).alloc (.cells #[.int .i64 0, .int .i64 0, .int .i64 0] 23)
  have R0 := Blk.new (w.alloc (.cells #[.int .i64 y, .int .i64 m, .int .i64 d] 23)) #[.int .i64 0, .int .i64 0, .int .i64 0] 23
  rw [show (w.alloc (.cells #[.int .i64 y, .int .i64 m, .int .i64 d] 23)).heap.size = w.heap.size + 1 by simp] at R0
  have pr := belT (bl (w := w) #[.int .i64 y, .int .i64 m, .int .i64 d] 23) (bl (w := (w.alloc (.cells #[.int .i64 y, .int .i64 m, .int .i64 d] 23))) #[.int .i64 0, .int .i64 0, .int .i64 0] 23)
  have SS : Hid (Rs w v n f) := S
  have GH : Hid _ := GF
  clear GF
  have hn' : (n : Int) ≤ 4096 := by omega
  have S0 := S
  obtain ⟨ao, c, rfl, S⟩ := S
  clear S
  replace S := SS.out
  clear S0
  go_enter Tryd.func5, Tryd.ntmps5
  go_wp2_with (first
    | (go_at_call 11; refine (GO _).mono ?_; rintro x w1 ⟨rfl, b1⟩; have Ka1 := Ka0.below b1 Ka0.lt; have ka10 := Ka1.c0; have ka11 := Ka1.c1; have ka12 := Ka1.c2; have ka1l := Ka1.lt; have R1 := R0.below b1 R0.lt; have r10 := R1.c0; have r11 := R1.c1; have r12 := R1.c2; have r1l := R1.lt; have p1 := belT pr b1; have rf10 := R1.free 0; have rf11 := R1.free 1; have rf12 := R1.free 2; have S1 := S.grow p1)
    | fail)
  have T1 : Wt w w1 y m d (.slice ao n c) n f := ⟨Ka1, R1, S1, p1⟩
  clear Ka0 R0 pr Ka1 R1 S1 p1 rf10 rf11 rf12 r10 r11 r12 ka10 ka11 ka12 r1l ka1l b1
  go_loopw [8] (fun t wr => ∃ k : Nat, k ≤ n ∧ t = .int .i64 (k : Int) ∧ (∀ j : Nat, j < k → gf f j = true) ∧ Wt w wr y m d (.slice ao n c) n f) (fun t _ => ((n : Int) - RowKit.intOf t).toNat)
  case atStart => exact ⟨0, by omega, rfl, fun j hj => absurd hj (by omega), T1⟩
  case round =>
    clear T1
    obtain ⟨k, k1, rfl, ok, T3⟩ := hrel
    have OK : Hid _ := ok
    clear ok
    have ka30 := T3.1.c0
    have ka31 := T3.1.c1
    have ka32 := T3.1.c2
    have r30 := T3.2.1.c0
    have r31 := T3.2.1.c1
    have r32 := T3.2.1.c2
    have rf30 := T3.2.1.free 0
    have rf31 := T3.2.1.free 1
    have rf32 := T3.2.1.free 2
    have l3a := T3.1.lt
    have l3b := T3.2.1.lt
    have p3 := T3.2.2.2
    have R3 := T3.2.1
    have Ka3 := T3.1
    have S3 := T3.2.2.1
    by_cases kn : k < n
    · obtain ⟨ao', c', e', S4⟩ := S3
      obtain ⟨rfl, rfl⟩ : ao = ao' ∧ c = c' := by simpa using e'
      obtain ⟨b, o, rfl, S5⟩ := S4 (by omega)
      obtain ⟨cc0, cc1, cc2⟩ := S5 k kn
      clear S4 S5 e'
      have NN := GH.out k kn
      have kn' : (k : Int) < (n : Int) := by omega
      have k0 : (0 : Int) ≤ (k : Int) := by omega
      generalize hg : gf f k = gg at NN
      have hg' : Hid (gf f k = gg) := hg
      clear hg
      generalize (f k).1 = Y at *
      generalize (f k).2.1 = M at *
      generalize (f k).2.2 = D at *
      cases gg
      · go_wp2_with (first
          | (go_at_call 11; refine (NN _).mono ?_; rintro x w4 ⟨rfl, b4⟩; have R4 := R3.below b4 R3.lt; have p4 := belT p3 b4; have r40 := R4.c0; have r41 := R4.c1; have r42 := R4.c2; have rf40 := R4.free 0; have rf41 := R4.free 1; have rf42 := R4.free 2; have l4 := R4.lt)
          | fail)
        have KE := dput3 R4 (0) (0) (0)
        have bE := dset3 (x := .int .i64 (0)) (y := .int .i64 (0)) (z := .int .i64 (0)) p4 (show w.heap.size ≤ (w.heap.size + 1) by omega)
        generalize ((w4.setCell ⟨(w.heap.size + 1), 0, none⟩ (.int .i64 (0))).setCell ⟨(w.heap.size + 1), 1, none⟩ (.int .i64 (0))).setCell ⟨(w.heap.size + 1), 2, none⟩ (.int .i64 (0)) = WE at *
        have z0 := KE.c0
        have z1 := KE.c1
        have z2 := KE.c2
        exact bodyPost_ret (v := .tuple #[.agg #[.int .i64 0, .int .i64 0, .int .i64 0], .int .i64 70]) (by simp [results, Tryd.results5, go_sem, z0, z1, z2]) rfl ⟨rfl, bE⟩
      · go_wp2_with (first
          | (go_at_call 11; refine (NN _).mono ?_; rintro x w4 ⟨rfl, b4⟩)
          | fail)
        refine ⟨⟨k + 1, by omega, by go_num, fun j hj => ?_, T3.grow b4⟩, by simp [RowKit.intOf]; omega⟩
        by_cases jk : j = k
        · subst jk; exact hg'.out
        · exact OK.out j (by omega)
    · exfalso
      have : ag f n = true := ag_iff.2 (fun i hi => OK.out i (by omega))
      rw [hb] at this
      cases this
set_option maxHeartbeats 3200000 in
theorem RWork_none (y m d h : Int) (v : Value) (f : Nat → Int × Int × Int) (n : Nat) (w : World) (S : Rs w v n f) (GO : ∀ W, Calls Tryd.prog 11 #[.agg #[.int .i64 y, .int .i64 m, .int .i64 d]] W fun e w' => e = .returned (.bool true) ∧ Below W.heap.size W w') (GF : ∀ i, i < n → ∀ W, Calls Tryd.prog 11 #[.agg #[.int .i64 (f i).1, .int .i64 (f i).2.1, .int .i64 (f i).2.2]] W fun e w' => e = .returned (.bool (gf f i)) ∧ Below W.heap.size W w') (hn : n ≤ 4096) (hb : ag f n = true) (hh : h < 1 ∨ 3 < h) : Calls Tryd.prog 5 #[.agg #[.int .i64 y, .int .i64 m, .int .i64 d], v, .int .i64 h] w fun x w' => x = .returned (.tuple #[.agg #[.int .i64 0, .int .i64 0, .int .i64 0], .int .i64 1]) ∧ Below w.heap.size w w' := by
  have Ka0 := (Blk.new w #[.int .i64 y, .int .i64 m, .int .i64 d] 23).alloc (.cells #[.int .i64 0, .int .i64 0, .int .i64 0] 23)
  have R0 := Blk.new (w.alloc (.cells #[.int .i64 y, .int .i64 m, .int .i64 d] 23)) #[.int .i64 0, .int .i64 0, .int .i64 0] 23
  rw [show (w.alloc (.cells #[.int .i64 y, .int .i64 m, .int .i64 d] 23)).heap.size = w.heap.size + 1 by simp] at R0
  have pr := belT (bl (w := w) #[.int .i64 y, .int .i64 m, .int .i64 d] 23) (bl (w := (w.alloc (.cells #[.int .i64 y, .int .i64 m, .int .i64 d] 23))) #[.int .i64 0, .int .i64 0, .int .i64 0] 23)
  have SS : Hid (Rs w v n f) := S
  have GH : Hid _ := GF
  clear GF
  have hn' : (n : Int) ≤ 4096 := by omega
  have S0 := S
  obtain ⟨ao, c, rfl, S⟩ := S
  clear S
  replace S := SS.out
  clear S0
  go_enter Tryd.func5, Tryd.ntmps5
  go_wp2_with (first
    | (go_at_call 11; refine (GO _).mono ?_; rintro x w1 ⟨rfl, b1⟩; have Ka1 := Ka0.below b1 Ka0.lt; have ka10 := Ka1.c0; have ka11 := Ka1.c1; have ka12 := Ka1.c2; have ka1l := Ka1.lt; have R1 := R0.below b1 R0.lt; have r10 := R1.c0; have r11 := R1.c1; have r12 := R1.c2; have r1l := R1.lt; have p1 := belT pr b1; have rf10 := R1.free 0; have rf11 := R1.free 1; have rf12 := R1.free 2; have S1 := S.grow p1)
    | fail)
  have T1 : Wt w w1 y m d (.slice ao n c) n f := ⟨Ka1, R1, S1, p1⟩
  clear Ka0 R0 pr Ka1 R1 S1 p1 rf10 rf11 rf12 r10 r11 r12 ka10 ka11 ka12 r1l ka1l b1
  go_loopw [8] (fun t wr => ∃ k : Nat, k ≤ n ∧ t = .int .i64 (k : Int) ∧ (∀ j : Nat, j < k → gf f j = true) ∧ Wt w wr y m d (.slice ao n c) n f) (fun t _ => ((n : Int) - RowKit.intOf t).toNat)
  case atStart => exact ⟨0, by omega, rfl, fun j hj => absurd hj (by omega), T1⟩
  case round =>
    clear T1
    obtain ⟨k, k1, rfl, ok, T3⟩ := hrel
    have OK : Hid _ := ok
    clear ok
    have ka30 := T3.1.c0
    have ka31 := T3.1.c1
    have ka32 := T3.1.c2
    have r30 := T3.2.1.c0
    have r31 := T3.2.1.c1
    have r32 := T3.2.1.c2
    have rf30 := T3.2.1.free 0
    have rf31 := T3.2.1.free 1
    have rf32 := T3.2.1.free 2
    have l3a := T3.1.lt
    have l3b := T3.2.1.lt
    have p3 := T3.2.2.2
    have R3 := T3.2.1
    have Ka3 := T3.1
    have S3 := T3.2.2.1
    by_cases kn : k < n
    · obtain ⟨ao', c', e', S4⟩ := S3
      obtain ⟨rfl, rfl⟩ : ao = ao' ∧ c = c' := by simpa using e'
      obtain ⟨b, o, rfl, S5⟩ := S4 (by omega)
      obtain ⟨cc0, cc1, cc2⟩ := S5 k kn
      clear S4 S5 e'
      have NN := GH.out k kn
      have kn' : (k : Int) < (n : Int) := by omega
      have k0 : (0 : Int) ≤ (k : Int) := by omega
      generalize hg : gf f k = gg at NN
      have hg' : Hid (gf f k = gg) := hg
      clear hg
      generalize (f k).1 = Y at *
      generalize (f k).2.1 = M at *
      generalize (f k).2.2 = D at *
      cases gg
      · exfalso
        have := ag_iff.1 hb k kn
        rw [hg'.out] at this
        cases this
      · go_wp2_with (first
          | (go_at_call 11; refine (NN _).mono ?_; rintro x w4 ⟨rfl, b4⟩)
          | fail)
        refine ⟨⟨k + 1, by omega, by go_num, fun j hj => ?_, T3.grow b4⟩, by simp [RowKit.intOf]; omega⟩
        by_cases jk : j = k
        · subst jk; exact hg'.out
        · exact OK.out j (by omega)
    · by_cases h1 : h < 1
      · clear hh
        go_wp2_with fail
        have KE := dput3 R3 (0) (0) (0)
        have bE := dset3 (x := .int .i64 (0)) (y := .int .i64 (0)) (z := .int .i64 (0)) p3 (show w.heap.size ≤ (w.heap.size + 1) by omega)
        generalize ((wr.setCell ⟨(w.heap.size + 1), 0, none⟩ (.int .i64 (0))).setCell ⟨(w.heap.size + 1), 1, none⟩ (.int .i64 (0))).setCell ⟨(w.heap.size + 1), 2, none⟩ (.int .i64 (0)) = WE at *
        have z0 := KE.c0
        have z1 := KE.c1
        have z2 := KE.c2
        exact bodyPost_ret (v := .tuple #[.agg #[.int .i64 0, .int .i64 0, .int .i64 0], .int .i64 1]) (by simp [results, Tryd.results5, go_sem, z0, z1, z2]) rfl ⟨rfl, bE⟩
      · have h3 : 3 < h := by omega
        clear hh
        go_wp2_with fail
        have KE := dput3 R3 (0) (0) (0)
        have bE := dset3 (x := .int .i64 (0)) (y := .int .i64 (0)) (z := .int .i64 (0)) p3 (show w.heap.size ≤ (w.heap.size + 1) by omega)
        generalize ((wr.setCell ⟨(w.heap.size + 1), 0, none⟩ (.int .i64 (0))).setCell ⟨(w.heap.size + 1), 1, none⟩ (.int .i64 (0))).setCell ⟨(w.heap.size + 1), 2, none⟩ (.int .i64 (0)) = WE at *
        have z0 := KE.c0
        have z1 := KE.c1
        have z2 := KE.c2
        exact bodyPost_ret (v := .tuple #[.agg #[.int .i64 0, .int .i64 0, .int .i64 0], .int .i64 1]) (by simp [results, Tryd.results5, go_sem, z0, z1, z2]) rfl ⟨rfl, bE⟩
set_option maxHeartbeats 3200000 in
theorem RWork_on (y m d : Int) (v : Value) (f : Nat → Int × Int × Int) (n : Nat) (w : World) (S : Rs w v n f) (GO : ∀ W, Calls Tryd.prog 11 #[.agg #[.int .i64 y, .int .i64 m, .int .i64 d]] W fun e w' => e = .returned (.bool true) ∧ Below W.heap.size W w') (GF : ∀ i, i < n → ∀ W, Calls Tryd.prog 11 #[.agg #[.int .i64 (f i).1, .int .i64 (f i).2.1, .int .i64 (f i).2.2]] W fun e w' => e = .returned (.bool (gf f i)) ∧ Below W.heap.size W w') (hn : n ≤ 4096) (hb : ag f n = true) (N a b c1 : Int) (NU : ∀ W, Calls Tryd.prog 13 #[.agg #[.int .i64 y, .int .i64 m, .int .i64 d]] W fun e w' => e = .returned (.int .i64 N) ∧ Below W.heap.size W w') (MV : ∀ W, Rs W v n f → Calls Tryd.prog 12 #[.int .i64 N, v, .int .i64 1] W fun e w' => e = .returned (.tuple #[.agg #[.int .i64 a, .int .i64 b, .int .i64 c1], .bool true]) ∧ Below W.heap.size W w') : Calls Tryd.prog 5 #[.agg #[.int .i64 y, .int .i64 m, .int .i64 d], v, .int .i64 1] w fun x w' => x = .returned (.tuple #[.agg #[.int .i64 a, .int .i64 b, .int .i64 c1], .int .i64 0]) ∧ Below w.heap.size w w' := by
  have Ka0 := (Blk.new w #[.int .i64 y, .int .i64 m, .int .i64 d] 23).alloc (.cells #[.int .i64 0, .int .i64 0, .int .i64 0] 23)
  have R0 := Blk.new (w.alloc (.cells #[.int .i64 y, .int .i64 m, .int .i64 d] 23)) #[.int .i64 0, .int .i64 0, .int .i64 0] 23
  rw [show (w.alloc (.cells #[.int .i64 y, .int .i64 m, .int .i64 d] 23)).heap.size = w.heap.size + 1 by simp] at R0
  have pr := belT (bl (w := w) #[.int .i64 y, .int .i64 m, .int .i64 d] 23) (bl (w := (w.alloc (.cells #[.int .i64 y, .int .i64 m, .int .i64 d] 23))) #[.int .i64 0, .int .i64 0, .int .i64 0] 23)
  have SS : Hid (Rs w v n f) := S
  have GH : Hid _ := GF
  clear GF
  have hn' : (n : Int) ≤ 4096 := by omega
  have S0 := S
  obtain ⟨ao, c, rfl, S⟩ := S
  clear S
  replace S := SS.out
  clear S0
  go_enter Tryd.func5, Tryd.ntmps5
  go_wp2_with (first
    | (go_at_call 11; refine (GO _).mono ?_; rintro x w1 ⟨rfl, b1⟩; have Ka1 := Ka0.below b1 Ka0.lt; have ka10 := Ka1.c0; have ka11 := Ka1.c1; have ka12 := Ka1.c2; have ka1l := Ka1.lt; have R1 := R0.below b1 R0.lt; have r10 := R1.c0; have r11 := R1.c1; have r12 := R1.c2; have r1l := R1.lt; have p1 := belT pr b1; have rf10 := R1.free 0; have rf11 := R1.free 1; have rf12 := R1.free 2; have S1 := S.grow p1)
    | fail)
  have T1 : Wt w w1 y m d (.slice ao n c) n f := ⟨Ka1, R1, S1, p1⟩
  clear Ka0 R0 pr Ka1 R1 S1 p1 rf10 rf11 rf12 r10 r11 r12 ka10 ka11 ka12 r1l ka1l b1
  go_loopw [8] (fun t wr => ∃ k : Nat, k ≤ n ∧ t = .int .i64 (k : Int) ∧ (∀ j : Nat, j < k → gf f j = true) ∧ Wt w wr y m d (.slice ao n c) n f) (fun t _ => ((n : Int) - RowKit.intOf t).toNat)
  case atStart => exact ⟨0, by omega, rfl, fun j hj => absurd hj (by omega), T1⟩
  case round =>
    clear T1
    obtain ⟨k, k1, rfl, ok, T3⟩ := hrel
    have OK : Hid _ := ok
    clear ok
    have ka30 := T3.1.c0
    have ka31 := T3.1.c1
    have ka32 := T3.1.c2
    have r30 := T3.2.1.c0
    have r31 := T3.2.1.c1
    have r32 := T3.2.1.c2
    have rf30 := T3.2.1.free 0
    have rf31 := T3.2.1.free 1
    have rf32 := T3.2.1.free 2
    have l3a := T3.1.lt
    have l3b := T3.2.1.lt
    have p3 := T3.2.2.2
    have R3 := T3.2.1
    have Ka3 := T3.1
    have S3 := T3.2.2.1
    by_cases kn : k < n
    · obtain ⟨ao', c', e', S4⟩ := S3
      obtain ⟨rfl, rfl⟩ : ao = ao' ∧ c = c' := by simpa using e'
      obtain ⟨b, o, rfl, S5⟩ := S4 (by omega)
      obtain ⟨cc0, cc1, cc2⟩ := S5 k kn
      clear S4 S5 e'
      have NN := GH.out k kn
      have kn' : (k : Int) < (n : Int) := by omega
      have k0 : (0 : Int) ≤ (k : Int) := by omega
      generalize hg : gf f k = gg at NN
      have hg' : Hid (gf f k = gg) := hg
      clear hg
      generalize (f k).1 = Y at *
      generalize (f k).2.1 = M at *
      generalize (f k).2.2 = D at *
      cases gg
      · exfalso
        have := ag_iff.1 hb k kn
        rw [hg'.out] at this
        cases this
      · go_wp2_with (first
          | (go_at_call 11; refine (NN _).mono ?_; rintro x w4 ⟨rfl, b4⟩)
          | fail)
        refine ⟨⟨k + 1, by omega, by go_num, fun j hj => ?_, T3.grow b4⟩, by simp [RowKit.intOf]; omega⟩
        by_cases jk : j = k
        · subst jk; exact hg'.out
        · exact OK.out j (by omega)
    · go_wp2_with (first
        | (go_at_call 13; refine (NU _).mono ?_; rintro x w4 ⟨rfl, b4⟩; have Ka4 := Ka3.below b4 Ka3.lt; have ka40 := Ka4.c0; have ka41 := Ka4.c1; have ka42 := Ka4.c2; have ka4l := Ka4.lt; have R4 := R3.below b4 R3.lt; have r40 := R4.c0; have r41 := R4.c1; have r42 := R4.c2; have r4l := R4.lt; have p4 := belT p3 b4; have rf40 := R4.free 0; have rf41 := R4.free 1; have rf42 := R4.free 2; have S4 := S3.grow b4)
        | (go_at_call 12; refine (MV _ S4).mono ?_; rintro x w5 ⟨rfl, b5⟩; have Ka5 := Ka4.below b5 Ka4.lt; have ka50 := Ka5.c0; have ka51 := Ka5.c1; have ka52 := Ka5.c2; have ka5l := Ka5.lt; have R5 := R4.below b5 R4.lt; have r50 := R5.c0; have r51 := R5.c1; have r52 := R5.c2; have r5l := R5.lt; have p5 := belT p4 b5; have rf50 := R5.free 0; have rf51 := R5.free 1; have rf52 := R5.free 2; have S5 := S4.grow b5)
        | fail)
      have KE := dput3 R5 (a) (b) (c1)
      have bE := dset3 (x := .int .i64 (a)) (y := .int .i64 (b)) (z := .int .i64 (c1)) p5 (show w.heap.size ≤ (w.heap.size + 1) by omega)
      generalize ((w5.setCell ⟨(w.heap.size + 1), 0, none⟩ (.int .i64 (a))).setCell ⟨(w.heap.size + 1), 1, none⟩ (.int .i64 (b))).setCell ⟨(w.heap.size + 1), 2, none⟩ (.int .i64 (c1)) = WE at *
      have z0 := (KE.alloc (.cells #[.int .i64 a, .int .i64 b, .int .i64 c1] 23)).c0
      have z1 := (KE.alloc (.cells #[.int .i64 a, .int .i64 b, .int .i64 c1] 23)).c1
      have z2 := (KE.alloc (.cells #[.int .i64 a, .int .i64 b, .int .i64 c1] 23)).c2
      exact bodyPost_ret (v := .tuple #[.agg #[.int .i64 a, .int .i64 b, .int .i64 c1], .int .i64 0]) (by simp [results, Tryd.results5, go_sem, z0, z1, z2]) rfl ⟨rfl, (belT bE (bl _ _))⟩
set_option maxHeartbeats 3200000 in
theorem RWork_on_no (y m d : Int) (v : Value) (f : Nat → Int × Int × Int) (n : Nat) (w : World) (S : Rs w v n f) (GO : ∀ W, Calls Tryd.prog 11 #[.agg #[.int .i64 y, .int .i64 m, .int .i64 d]] W fun e w' => e = .returned (.bool true) ∧ Below W.heap.size W w') (GF : ∀ i, i < n → ∀ W, Calls Tryd.prog 11 #[.agg #[.int .i64 (f i).1, .int .i64 (f i).2.1, .int .i64 (f i).2.2]] W fun e w' => e = .returned (.bool (gf f i)) ∧ Below W.heap.size W w') (hn : n ≤ 4096) (hb : ag f n = true) (N a b c1 : Int) (NU : ∀ W, Calls Tryd.prog 13 #[.agg #[.int .i64 y, .int .i64 m, .int .i64 d]] W fun e w' => e = .returned (.int .i64 N) ∧ Below W.heap.size W w') (MV : ∀ W, Rs W v n f → Calls Tryd.prog 12 #[.int .i64 N, v, .int .i64 1] W fun e w' => e = .returned (.tuple #[.agg #[.int .i64 a, .int .i64 b, .int .i64 c1], .bool false]) ∧ Below W.heap.size W w') : Calls Tryd.prog 5 #[.agg #[.int .i64 y, .int .i64 m, .int .i64 d], v, .int .i64 1] w fun x w' => x = .returned (.tuple #[.agg #[.int .i64 0, .int .i64 0, .int .i64 0], .int .i64 1]) ∧ Below w.heap.size w w' := by
  have Ka0 := (Blk.new w #[.int .i64 y, .int .i64 m, .int .i64 d] 23).alloc (.cells #[.int .i64 0, .int .i64 0, .int .i64 0] 23)
  have R0 := Blk.new (w.alloc (.cells #[.int .i64 y, .int .i64 m, .int .i64 d] 23)) #[.int .i64 0, .int .i64 0, .int .i64 0] 23
  rw [show (w.alloc (.cells #[.int .i64 y, .int .i64 m, .int .i64 d] 23)).heap.size = w.heap.size + 1 by simp] at R0
  have pr := belT (bl (w := w) #[.int .i64 y, .int .i64 m, .int .i64 d] 23) (bl (w := (w.alloc (.cells #[.int .i64 y, .int .i64 m, .int .i64 d] 23))) #[.int .i64 0, .int .i64 0, .int .i64 0] 23)
  have SS : Hid (Rs w v n f) := S
  have GH : Hid _ := GF
  clear GF
  have hn' : (n : Int) ≤ 4096 := by omega
  have S0 := S
  obtain ⟨ao, c, rfl, S⟩ := S
  clear S
  replace S := SS.out
  clear S0
  go_enter Tryd.func5, Tryd.ntmps5
  go_wp2_with (first
    | (go_at_call 11; refine (GO _).mono ?_; rintro x w1 ⟨rfl, b1⟩; have Ka1 := Ka0.below b1 Ka0.lt; have ka10 := Ka1.c0; have ka11 := Ka1.c1; have ka12 := Ka1.c2; have ka1l := Ka1.lt; have R1 := R0.below b1 R0.lt; have r10 := R1.c0; have r11 := R1.c1; have r12 := R1.c2; have r1l := R1.lt; have p1 := belT pr b1; have rf10 := R1.free 0; have rf11 := R1.free 1; have rf12 := R1.free 2; have S1 := S.grow p1)
    | fail)
  have T1 : Wt w w1 y m d (.slice ao n c) n f := ⟨Ka1, R1, S1, p1⟩
  clear Ka0 R0 pr Ka1 R1 S1 p1 rf10 rf11 rf12 r10 r11 r12 ka10 ka11 ka12 r1l ka1l b1
  go_loopw [8] (fun t wr => ∃ k : Nat, k ≤ n ∧ t = .int .i64 (k : Int) ∧ (∀ j : Nat, j < k → gf f j = true) ∧ Wt w wr y m d (.slice ao n c) n f) (fun t _ => ((n : Int) - RowKit.intOf t).toNat)
  case atStart => exact ⟨0, by omega, rfl, fun j hj => absurd hj (by omega), T1⟩
  case round =>
    clear T1
    obtain ⟨k, k1, rfl, ok, T3⟩ := hrel
    have OK : Hid _ := ok
    clear ok
    have ka30 := T3.1.c0
    have ka31 := T3.1.c1
    have ka32 := T3.1.c2
    have r30 := T3.2.1.c0
    have r31 := T3.2.1.c1
    have r32 := T3.2.1.c2
    have rf30 := T3.2.1.free 0
    have rf31 := T3.2.1.free 1
    have rf32 := T3.2.1.free 2
    have l3a := T3.1.lt
    have l3b := T3.2.1.lt
    have p3 := T3.2.2.2
    have R3 := T3.2.1
    have Ka3 := T3.1
    have S3 := T3.2.2.1
    by_cases kn : k < n
    · obtain ⟨ao', c', e', S4⟩ := S3
      obtain ⟨rfl, rfl⟩ : ao = ao' ∧ c = c' := by simpa using e'
      obtain ⟨b, o, rfl, S5⟩ := S4 (by omega)
      obtain ⟨cc0, cc1, cc2⟩ := S5 k kn
      clear S4 S5 e'
      have NN := GH.out k kn
      have kn' : (k : Int) < (n : Int) := by omega
      have k0 : (0 : Int) ≤ (k : Int) := by omega
      generalize hg : gf f k = gg at NN
      have hg' : Hid (gf f k = gg) := hg
      clear hg
      generalize (f k).1 = Y at *
      generalize (f k).2.1 = M at *
      generalize (f k).2.2 = D at *
      cases gg
      · exfalso
        have := ag_iff.1 hb k kn
        rw [hg'.out] at this
        cases this
      · go_wp2_with (first
          | (go_at_call 11; refine (NN _).mono ?_; rintro x w4 ⟨rfl, b4⟩)
          | fail)
        refine ⟨⟨k + 1, by omega, by go_num, fun j hj => ?_, T3.grow b4⟩, by simp [RowKit.intOf]; omega⟩
        by_cases jk : j = k
        · subst jk; exact hg'.out
        · exact OK.out j (by omega)
    · go_wp2_with (first
        | (go_at_call 13; refine (NU _).mono ?_; rintro x w4 ⟨rfl, b4⟩; have Ka4 := Ka3.below b4 Ka3.lt; have ka40 := Ka4.c0; have ka41 := Ka4.c1; have ka42 := Ka4.c2; have ka4l := Ka4.lt; have R4 := R3.below b4 R3.lt; have r40 := R4.c0; have r41 := R4.c1; have r42 := R4.c2; have r4l := R4.lt; have p4 := belT p3 b4; have rf40 := R4.free 0; have rf41 := R4.free 1; have rf42 := R4.free 2; have S4 := S3.grow b4)
        | (go_at_call 12; refine (MV _ S4).mono ?_; rintro x w5 ⟨rfl, b5⟩; have Ka5 := Ka4.below b5 Ka4.lt; have ka50 := Ka5.c0; have ka51 := Ka5.c1; have ka52 := Ka5.c2; have ka5l := Ka5.lt; have R5 := R4.below b5 R4.lt; have r50 := R5.c0; have r51 := R5.c1; have r52 := R5.c2; have r5l := R5.lt; have p5 := belT p4 b5; have rf50 := R5.free 0; have rf51 := R5.free 1; have rf52 := R5.free 2; have S5 := S4.grow b5)
        | fail)
      have KE := dput3 R5 (0) (0) (0)
      have bE := dset3 (x := .int .i64 (0)) (y := .int .i64 (0)) (z := .int .i64 (0)) p5 (show w.heap.size ≤ (w.heap.size + 1) by omega)
      generalize ((w5.setCell ⟨(w.heap.size + 1), 0, none⟩ (.int .i64 (0))).setCell ⟨(w.heap.size + 1), 1, none⟩ (.int .i64 (0))).setCell ⟨(w.heap.size + 1), 2, none⟩ (.int .i64 (0)) = WE at *
      have z0 := (KE.alloc (.cells #[.int .i64 a, .int .i64 b, .int .i64 c1] 23)).c0
      have z1 := (KE.alloc (.cells #[.int .i64 a, .int .i64 b, .int .i64 c1] 23)).c1
      have z2 := (KE.alloc (.cells #[.int .i64 a, .int .i64 b, .int .i64 c1] 23)).c2
      exact bodyPost_ret (v := .tuple #[.agg #[.int .i64 0, .int .i64 0, .int .i64 0], .int .i64 1]) (by simp [results, Tryd.results5, go_sem, z0, z1, z2]) rfl ⟨rfl, (belT bE (bl _ _))⟩
set_option maxHeartbeats 3200000 in
theorem RWork_back (y m d : Int) (v : Value) (f : Nat → Int × Int × Int) (n : Nat) (w : World) (S : Rs w v n f) (GO : ∀ W, Calls Tryd.prog 11 #[.agg #[.int .i64 y, .int .i64 m, .int .i64 d]] W fun e w' => e = .returned (.bool true) ∧ Below W.heap.size W w') (GF : ∀ i, i < n → ∀ W, Calls Tryd.prog 11 #[.agg #[.int .i64 (f i).1, .int .i64 (f i).2.1, .int .i64 (f i).2.2]] W fun e w' => e = .returned (.bool (gf f i)) ∧ Below W.heap.size W w') (hn : n ≤ 4096) (hb : ag f n = true) (N a b c1 : Int) (NU : ∀ W, Calls Tryd.prog 13 #[.agg #[.int .i64 y, .int .i64 m, .int .i64 d]] W fun e w' => e = .returned (.int .i64 N) ∧ Below W.heap.size W w') (MV : ∀ W, Rs W v n f → Calls Tryd.prog 12 #[.int .i64 N, v, .int .i64 (-1)] W fun e w' => e = .returned (.tuple #[.agg #[.int .i64 a, .int .i64 b, .int .i64 c1], .bool true]) ∧ Below W.heap.size W w') : Calls Tryd.prog 5 #[.agg #[.int .i64 y, .int .i64 m, .int .i64 d], v, .int .i64 2] w fun x w' => x = .returned (.tuple #[.agg #[.int .i64 a, .int .i64 b, .int .i64 c1], .int .i64 0]) ∧ Below w.heap.size w w' := by
  have Ka0 := (Blk.new w #[.int .i64 y, .int .i64 m, .int .i64 d] 23).alloc (.cells #[.int .i64 0, .int .i64 0, .int .i64 0] 23)
  have R0 := Blk.new (w.alloc (.cells #[.int .i64 y, .int .i64 m, .int .i64 d] 23)) #[.int .i64 0, .int .i64 0, .int .i64 0] 23
  rw [show (w.alloc (.cells #[.int .i64 y, .int .i64 m, .int .i64 d] 23)).heap.size = w.heap.size + 1 by simp] at R0
  have pr := belT (bl (w := w) #[.int .i64 y, .int .i64 m, .int .i64 d] 23) (bl (w := (w.alloc (.cells #[.int .i64 y, .int .i64 m, .int .i64 d] 23))) #[.int .i64 0, .int .i64 0, .int .i64 0] 23)
  have SS : Hid (Rs w v n f) := S
  have GH : Hid _ := GF
  clear GF
  have hn' : (n : Int) ≤ 4096 := by omega
  have S0 := S
  obtain ⟨ao, c, rfl, S⟩ := S
  clear S
  replace S := SS.out
  clear S0
  go_enter Tryd.func5, Tryd.ntmps5
  go_wp2_with (first
    | (go_at_call 11; refine (GO _).mono ?_; rintro x w1 ⟨rfl, b1⟩; have Ka1 := Ka0.below b1 Ka0.lt; have ka10 := Ka1.c0; have ka11 := Ka1.c1; have ka12 := Ka1.c2; have ka1l := Ka1.lt; have R1 := R0.below b1 R0.lt; have r10 := R1.c0; have r11 := R1.c1; have r12 := R1.c2; have r1l := R1.lt; have p1 := belT pr b1; have rf10 := R1.free 0; have rf11 := R1.free 1; have rf12 := R1.free 2; have S1 := S.grow p1)
    | fail)
  have T1 : Wt w w1 y m d (.slice ao n c) n f := ⟨Ka1, R1, S1, p1⟩
  clear Ka0 R0 pr Ka1 R1 S1 p1 rf10 rf11 rf12 r10 r11 r12 ka10 ka11 ka12 r1l ka1l b1
  go_loopw [8] (fun t wr => ∃ k : Nat, k ≤ n ∧ t = .int .i64 (k : Int) ∧ (∀ j : Nat, j < k → gf f j = true) ∧ Wt w wr y m d (.slice ao n c) n f) (fun t _ => ((n : Int) - RowKit.intOf t).toNat)
  case atStart => exact ⟨0, by omega, rfl, fun j hj => absurd hj (by omega), T1⟩
  case round =>
    clear T1
    obtain ⟨k, k1, rfl, ok, T3⟩ := hrel
    have OK : Hid _ := ok
    clear ok
    have ka30 := T3.1.c0
    have ka31 := T3.1.c1
    have ka32 := T3.1.c2
    have r30 := T3.2.1.c0
    have r31 := T3.2.1.c1
    have r32 := T3.2.1.c2
    have rf30 := T3.2.1.free 0
    have rf31 := T3.2.1.free 1
    have rf32 := T3.2.1.free 2
    have l3a := T3.1.lt
    have l3b := T3.2.1.lt
    have p3 := T3.2.2.2
    have R3 := T3.2.1
    have Ka3 := T3.1
    have S3 := T3.2.2.1
    by_cases kn : k < n
    · obtain ⟨ao', c', e', S4⟩ := S3
      obtain ⟨rfl, rfl⟩ : ao = ao' ∧ c = c' := by simpa using e'
      obtain ⟨b, o, rfl, S5⟩ := S4 (by omega)
      obtain ⟨cc0, cc1, cc2⟩ := S5 k kn
      clear S4 S5 e'
      have NN := GH.out k kn
      have kn' : (k : Int) < (n : Int) := by omega
      have k0 : (0 : Int) ≤ (k : Int) := by omega
      generalize hg : gf f k = gg at NN
      have hg' : Hid (gf f k = gg) := hg
      clear hg
      generalize (f k).1 = Y at *
      generalize (f k).2.1 = M at *
      generalize (f k).2.2 = D at *
      cases gg
      · exfalso
        have := ag_iff.1 hb k kn
        rw [hg'.out] at this
        cases this
      · go_wp2_with (first
          | (go_at_call 11; refine (NN _).mono ?_; rintro x w4 ⟨rfl, b4⟩)
          | fail)
        refine ⟨⟨k + 1, by omega, by go_num, fun j hj => ?_, T3.grow b4⟩, by simp [RowKit.intOf]; omega⟩
        by_cases jk : j = k
        · subst jk; exact hg'.out
        · exact OK.out j (by omega)
    · go_wp2_with (first
        | (go_at_call 13; refine (NU _).mono ?_; rintro x w4 ⟨rfl, b4⟩; have Ka4 := Ka3.below b4 Ka3.lt; have ka40 := Ka4.c0; have ka41 := Ka4.c1; have ka42 := Ka4.c2; have ka4l := Ka4.lt; have R4 := R3.below b4 R3.lt; have r40 := R4.c0; have r41 := R4.c1; have r42 := R4.c2; have r4l := R4.lt; have p4 := belT p3 b4; have rf40 := R4.free 0; have rf41 := R4.free 1; have rf42 := R4.free 2; have S4 := S3.grow b4)
        | (go_at_call 12; refine (MV _ S4).mono ?_; rintro x w5 ⟨rfl, b5⟩; have Ka5 := Ka4.below b5 Ka4.lt; have ka50 := Ka5.c0; have ka51 := Ka5.c1; have ka52 := Ka5.c2; have ka5l := Ka5.lt; have R5 := R4.below b5 R4.lt; have r50 := R5.c0; have r51 := R5.c1; have r52 := R5.c2; have r5l := R5.lt; have p5 := belT p4 b5; have rf50 := R5.free 0; have rf51 := R5.free 1; have rf52 := R5.free 2; have S5 := S4.grow b5)
        | fail)
      have KE := dput3 R5 (a) (b) (c1)
      have bE := dset3 (x := .int .i64 (a)) (y := .int .i64 (b)) (z := .int .i64 (c1)) p5 (show w.heap.size ≤ (w.heap.size + 1) by omega)
      generalize ((w5.setCell ⟨(w.heap.size + 1), 0, none⟩ (.int .i64 (a))).setCell ⟨(w.heap.size + 1), 1, none⟩ (.int .i64 (b))).setCell ⟨(w.heap.size + 1), 2, none⟩ (.int .i64 (c1)) = WE at *
      have z0 := (KE.alloc (.cells #[.int .i64 a, .int .i64 b, .int .i64 c1] 23)).c0
      have z1 := (KE.alloc (.cells #[.int .i64 a, .int .i64 b, .int .i64 c1] 23)).c1
      have z2 := (KE.alloc (.cells #[.int .i64 a, .int .i64 b, .int .i64 c1] 23)).c2
      exact bodyPost_ret (v := .tuple #[.agg #[.int .i64 a, .int .i64 b, .int .i64 c1], .int .i64 0]) (by simp [results, Tryd.results5, go_sem, z0, z1, z2]) rfl ⟨rfl, (belT bE (bl _ _))⟩
set_option maxHeartbeats 3200000 in
theorem RWork_back_no (y m d : Int) (v : Value) (f : Nat → Int × Int × Int) (n : Nat) (w : World) (S : Rs w v n f) (GO : ∀ W, Calls Tryd.prog 11 #[.agg #[.int .i64 y, .int .i64 m, .int .i64 d]] W fun e w' => e = .returned (.bool true) ∧ Below W.heap.size W w') (GF : ∀ i, i < n → ∀ W, Calls Tryd.prog 11 #[.agg #[.int .i64 (f i).1, .int .i64 (f i).2.1, .int .i64 (f i).2.2]] W fun e w' => e = .returned (.bool (gf f i)) ∧ Below W.heap.size W w') (hn : n ≤ 4096) (hb : ag f n = true) (N a b c1 : Int) (NU : ∀ W, Calls Tryd.prog 13 #[.agg #[.int .i64 y, .int .i64 m, .int .i64 d]] W fun e w' => e = .returned (.int .i64 N) ∧ Below W.heap.size W w') (MV : ∀ W, Rs W v n f → Calls Tryd.prog 12 #[.int .i64 N, v, .int .i64 (-1)] W fun e w' => e = .returned (.tuple #[.agg #[.int .i64 a, .int .i64 b, .int .i64 c1], .bool false]) ∧ Below W.heap.size W w') : Calls Tryd.prog 5 #[.agg #[.int .i64 y, .int .i64 m, .int .i64 d], v, .int .i64 2] w fun x w' => x = .returned (.tuple #[.agg #[.int .i64 0, .int .i64 0, .int .i64 0], .int .i64 1]) ∧ Below w.heap.size w w' := by
  have Ka0 := (Blk.new w #[.int .i64 y, .int .i64 m, .int .i64 d] 23).alloc (.cells #[.int .i64 0, .int .i64 0, .int .i64 0] 23)
  have R0 := Blk.new (w.alloc (.cells #[.int .i64 y, .int .i64 m, .int .i64 d] 23)) #[.int .i64 0, .int .i64 0, .int .i64 0] 23
  rw [show (w.alloc (.cells #[.int .i64 y, .int .i64 m, .int .i64 d] 23)).heap.size = w.heap.size + 1 by simp] at R0
  have pr := belT (bl (w := w) #[.int .i64 y, .int .i64 m, .int .i64 d] 23) (bl (w := (w.alloc (.cells #[.int .i64 y, .int .i64 m, .int .i64 d] 23))) #[.int .i64 0, .int .i64 0, .int .i64 0] 23)
  have SS : Hid (Rs w v n f) := S
  have GH : Hid _ := GF
  clear GF
  have hn' : (n : Int) ≤ 4096 := by omega
  have S0 := S
  obtain ⟨ao, c, rfl, S⟩ := S
  clear S
  replace S := SS.out
  clear S0
  go_enter Tryd.func5, Tryd.ntmps5
  go_wp2_with (first
    | (go_at_call 11; refine (GO _).mono ?_; rintro x w1 ⟨rfl, b1⟩; have Ka1 := Ka0.below b1 Ka0.lt; have ka10 := Ka1.c0; have ka11 := Ka1.c1; have ka12 := Ka1.c2; have ka1l := Ka1.lt; have R1 := R0.below b1 R0.lt; have r10 := R1.c0; have r11 := R1.c1; have r12 := R1.c2; have r1l := R1.lt; have p1 := belT pr b1; have rf10 := R1.free 0; have rf11 := R1.free 1; have rf12 := R1.free 2; have S1 := S.grow p1)
    | fail)
  have T1 : Wt w w1 y m d (.slice ao n c) n f := ⟨Ka1, R1, S1, p1⟩
  clear Ka0 R0 pr Ka1 R1 S1 p1 rf10 rf11 rf12 r10 r11 r12 ka10 ka11 ka12 r1l ka1l b1
  go_loopw [8] (fun t wr => ∃ k : Nat, k ≤ n ∧ t = .int .i64 (k : Int) ∧ (∀ j : Nat, j < k → gf f j = true) ∧ Wt w wr y m d (.slice ao n c) n f) (fun t _ => ((n : Int) - RowKit.intOf t).toNat)
  case atStart => exact ⟨0, by omega, rfl, fun j hj => absurd hj (by omega), T1⟩
  case round =>
    clear T1
    obtain ⟨k, k1, rfl, ok, T3⟩ := hrel
    have OK : Hid _ := ok
    clear ok
    have ka30 := T3.1.c0
    have ka31 := T3.1.c1
    have ka32 := T3.1.c2
    have r30 := T3.2.1.c0
    have r31 := T3.2.1.c1
    have r32 := T3.2.1.c2
    have rf30 := T3.2.1.free 0
    have rf31 := T3.2.1.free 1
    have rf32 := T3.2.1.free 2
    have l3a := T3.1.lt
    have l3b := T3.2.1.lt
    have p3 := T3.2.2.2
    have R3 := T3.2.1
    have Ka3 := T3.1
    have S3 := T3.2.2.1
    by_cases kn : k < n
    · obtain ⟨ao', c', e', S4⟩ := S3
      obtain ⟨rfl, rfl⟩ : ao = ao' ∧ c = c' := by simpa using e'
      obtain ⟨b, o, rfl, S5⟩ := S4 (by omega)
      obtain ⟨cc0, cc1, cc2⟩ := S5 k kn
      clear S4 S5 e'
      have NN := GH.out k kn
      have kn' : (k : Int) < (n : Int) := by omega
      have k0 : (0 : Int) ≤ (k : Int) := by omega
      generalize hg : gf f k = gg at NN
      have hg' : Hid (gf f k = gg) := hg
      clear hg
      generalize (f k).1 = Y at *
      generalize (f k).2.1 = M at *
      generalize (f k).2.2 = D at *
      cases gg
      · exfalso
        have := ag_iff.1 hb k kn
        rw [hg'.out] at this
        cases this
      · go_wp2_with (first
          | (go_at_call 11; refine (NN _).mono ?_; rintro x w4 ⟨rfl, b4⟩)
          | fail)
        refine ⟨⟨k + 1, by omega, by go_num, fun j hj => ?_, T3.grow b4⟩, by simp [RowKit.intOf]; omega⟩
        by_cases jk : j = k
        · subst jk; exact hg'.out
        · exact OK.out j (by omega)
    · go_wp2_with (first
        | (go_at_call 13; refine (NU _).mono ?_; rintro x w4 ⟨rfl, b4⟩; have Ka4 := Ka3.below b4 Ka3.lt; have ka40 := Ka4.c0; have ka41 := Ka4.c1; have ka42 := Ka4.c2; have ka4l := Ka4.lt; have R4 := R3.below b4 R3.lt; have r40 := R4.c0; have r41 := R4.c1; have r42 := R4.c2; have r4l := R4.lt; have p4 := belT p3 b4; have rf40 := R4.free 0; have rf41 := R4.free 1; have rf42 := R4.free 2; have S4 := S3.grow b4)
        | (go_at_call 12; refine (MV _ S4).mono ?_; rintro x w5 ⟨rfl, b5⟩; have Ka5 := Ka4.below b5 Ka4.lt; have ka50 := Ka5.c0; have ka51 := Ka5.c1; have ka52 := Ka5.c2; have ka5l := Ka5.lt; have R5 := R4.below b5 R4.lt; have r50 := R5.c0; have r51 := R5.c1; have r52 := R5.c2; have r5l := R5.lt; have p5 := belT p4 b5; have rf50 := R5.free 0; have rf51 := R5.free 1; have rf52 := R5.free 2; have S5 := S4.grow b5)
        | fail)
      have KE := dput3 R5 (0) (0) (0)
      have bE := dset3 (x := .int .i64 (0)) (y := .int .i64 (0)) (z := .int .i64 (0)) p5 (show w.heap.size ≤ (w.heap.size + 1) by omega)
      generalize ((w5.setCell ⟨(w.heap.size + 1), 0, none⟩ (.int .i64 (0))).setCell ⟨(w.heap.size + 1), 1, none⟩ (.int .i64 (0))).setCell ⟨(w.heap.size + 1), 2, none⟩ (.int .i64 (0)) = WE at *
      have z0 := (KE.alloc (.cells #[.int .i64 a, .int .i64 b, .int .i64 c1] 23)).c0
      have z1 := (KE.alloc (.cells #[.int .i64 a, .int .i64 b, .int .i64 c1] 23)).c1
      have z2 := (KE.alloc (.cells #[.int .i64 a, .int .i64 b, .int .i64 c1] 23)).c2
      exact bodyPost_ret (v := .tuple #[.agg #[.int .i64 0, .int .i64 0, .int .i64 0], .int .i64 1]) (by simp [results, Tryd.results5, go_sem, z0, z1, z2]) rfl ⟨rfl, (belT bE (bl _ _))⟩
end Go.Proofs.YteepjipecfdkoaaDoor.Dy
