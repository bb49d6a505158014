import Derived.Test.YtfalncbcomlelaaGreatDoorPart44
import Derived.Test.YtfalncbcomlelaaGreatDoorPart34
import Derived.Lib.SmallJoins

namespace Go.Proofs.YtfalncbcomlelaaGreatDoor.Mo
open Go.RowKit

theorem bskip1 {w : World} {n b : Nat} {c : Array Value} {t : TypeId} (h : Blk w n c t) (hb : b ≠ n) (i : Nat) (v : Value) : Blk (w.setCell ⟨b, i, none⟩ v) n c t := by
  have h' : w.heap[n]? = some (.cells c t (0, 0)) := h
  show (w.setCell ⟨b, i, none⟩ v).heap[n]? = _
  simp [World.setCell, Array.getElem?_modify, h', hb]
theorem wrapI7 (x : Int) (h0 : -9223372036854775808 ≤ x) (h1 : x < 9223372036854775808) : IntKind.i64.wrap x = x := by
  simp [IntKind.wrap, IntKind.bits, IntKind.signed]; omega
theorem run_store_fn (P : Program) (w : World) (a : Addr) (fn : Fn) (x c : Array Value) (m : Mode) : (store a (.func fn x c) m).run P w = stored P w a (.func fn x c) m := run_store P w a _ m rfl
set_option maxRecDepth 100000 in
theorem names1 (w : World) : Calls Tryz.prog 5 #[] w fun e w' => e = .returned (.bool true) ∧ w' = w := by
  go_enter Tryz.func5, Tryz.ntmps5
  go_wp2
  go_ret
  exact ⟨rfl, rfl⟩
set_option maxRecDepth 100000 in
set_option maxHeartbeats 6400000 in
theorem isSame (u v : ByteArray) (e : Int) (w : World) : Calls Tryz.prog 10 #[.agg #[.string u, .string v], .int .i64 e, .agg #[.string u, .string v], .int .i64 e] w fun e' w' => e' = .returned (.bool true) ∧ Below w.heap.size w w' := by
  have pr : Below w.heap.size w ((w.alloc (.cells #[.string u, .string v] 23)).alloc (.cells #[.string u, .string v] 23)) := ((Below.refl _ _).alloc (Nat.le_refl _) _).alloc (by simp) _
  go_enter Tryz.func10, Tryz.ntmps10
  go_wp2
  go_ret
  exact ⟨rfl, pr⟩
set_option maxRecDepth 100000 in
set_option maxHeartbeats 6400000 in
theorem reckons_walk (n d m k : ByteArray) (gc z1 y1 z2 y2 : Int) (s9 t9 s0 t0 s1 t1 s2 t2 s3 t3 : ByteArray) (e9 e0 e1 e2 e3 : Int) (w : World) (N1 : ∀ x, Below w.heap.size w x → Calls Tryz.prog 6 #[.agg #[.string n, .string d]] x fun e w' => e = .returned (.tuple #[.agg #[.string s9, .string t9], .int .i64 e9]) ∧ Below x.heap.size x w') (N2 : ∀ x, Below w.heap.size w x → Calls Tryz.prog 7 #[.int .i64 1, .agg #[.string n, .string d], .agg #[.string m, .string k]] x fun e w' => e = .returned (.tuple #[.agg #[.string s9, .string t9], .int .i64 e9]) ∧ Below x.heap.size x w') (CH : ∀ x, Below w.heap.size w x → Calls Tryz.prog 8 #[.agg #[.string n, .string d]] x fun e w' => e = .returned (.int .i64 gc) ∧ Below x.heap.size x w') (GD : ∀ x, Below w.heap.size w x → Calls Tryz.prog 9 #[.agg #[.string n, .string d]] x fun e w' => e = .returned (.int .i64 gc) ∧ Below x.heap.size x w') (P0 : ∀ x, Below w.heap.size w x → Calls Tryz.prog 11 #[.agg #[.string n, .string d], .agg #[.string m, .string k]] x fun e w' => e = .returned (.tuple #[.agg #[.string s0, .string t0], .int .i64 e0]) ∧ Below x.heap.size x w') (Q0 : ∀ x, Below w.heap.size w x → Calls Tryz.prog 7 #[.int .i64 2, .agg #[.string n, .string d], .agg #[.string m, .string k]] x fun e w' => e = .returned (.tuple #[.agg #[.string s0, .string t0], .int .i64 e0]) ∧ Below x.heap.size x w') (P1 : ∀ x, Below w.heap.size w x → Calls Tryz.prog 12 #[.agg #[.string n, .string d], .agg #[.string m, .string k]] x fun e w' => e = .returned (.tuple #[.agg #[.string s1, .string t1], .int .i64 e1]) ∧ Below x.heap.size x w') (Q1 : ∀ x, Below w.heap.size w x → Calls Tryz.prog 7 #[.int .i64 3, .agg #[.string n, .string d], .agg #[.string m, .string k]] x fun e w' => e = .returned (.tuple #[.agg #[.string s1, .string t1], .int .i64 e1]) ∧ Below x.heap.size x w') (P2 : ∀ x, Below w.heap.size w x → Calls Tryz.prog 13 #[.agg #[.string n, .string d], .agg #[.string m, .string k]] x fun e w' => e = .returned (.tuple #[.agg #[.string s2, .string t2], .int .i64 e2]) ∧ Below x.heap.size x w') (Q2 : ∀ x, Below w.heap.size w x → Calls Tryz.prog 7 #[.int .i64 4, .agg #[.string n, .string d], .agg #[.string m, .string k]] x fun e w' => e = .returned (.tuple #[.agg #[.string s2, .string t2], .int .i64 e2]) ∧ Below x.heap.size x w') (P3 : ∀ x, Below w.heap.size w x → Calls Tryz.prog 14 #[.agg #[.string n, .string d], .agg #[.string m, .string k]] x fun e w' => e = .returned (.tuple #[.agg #[.string s3, .string t3], .int .i64 e3]) ∧ Below x.heap.size x w') (Q3 : ∀ x, Below w.heap.size w x → Calls Tryz.prog 7 #[.int .i64 5, .agg #[.string n, .string d], .agg #[.string m, .string k]] x fun e w' => e = .returned (.tuple #[.agg #[.string s3, .string t3], .int .i64 e3]) ∧ Below x.heap.size x w') (C1 : ∀ x, Below w.heap.size w x → Calls Tryz.prog 15 #[.agg #[.string n, .string d], .agg #[.string m, .string k]] x fun e w' => e = .returned (.tuple #[.int .i64 z1, .int .i64 y1]) ∧ Below x.heap.size x w') (C2 : ∀ x, Below w.heap.size w x → Calls Tryz.prog 16 #[.agg #[.string n, .string d], .agg #[.string m, .string k]] x fun e w' => e = .returned (.tuple #[.int .i64 z1, .int .i64 y1]) ∧ Below x.heap.size x w') (S1 : ∀ x, Below w.heap.size w x → Calls Tryz.prog 17 #[.agg #[.string n, .string d]] x fun e w' => e = .returned (.tuple #[.int .i64 z2, .int .i64 y2]) ∧ Below x.heap.size x w') (S2 : ∀ x, Below w.heap.size w x → Calls Tryz.prog 18 #[.agg #[.string n, .string d]] x fun e w' => e = .returned (.tuple #[.int .i64 z2, .int .i64 y2]) ∧ Below x.heap.size x w') :
    Calls Tryz.prog 3 #[.agg #[.string n, .string d], .agg #[.string m, .string k]] w fun e w' => e = .returned (.bool true) ∧ Below w.heap.size w w' := by
  have KA := (Blk.new w #[.string n, .string d] 23).alloc (.cells #[.string m, .string k] 23)
  have KB := Blk.new (w.alloc (.cells #[.string n, .string d] 23)) #[.string m, .string k] 23
  simp only [World.size_alloc] at KB
  have pr : Below w.heap.size w ((w.alloc (.cells #[.string n, .string d] 23)).alloc (.cells #[.string m, .string k] 23)) := ((Below.refl _ _).alloc (Nat.le_refl _) _).alloc (by simp) _
  have sf := fun w a fn x c m => run_store_fn Tryz.prog w a fn x c m
  have lA := KA.lt
  have lB := KB.lt
  go_enter Tryz.func3, Tryz.ntmps3
  go_wp2_with (first
    | (go_at_call 5; refine (names1 _).mono ?_; rintro e w0 ⟨rfl, hw0⟩; subst w0)
    | (go_at_call 7; (have mk2 := p1); (refine (N2 _ p1).mono ?_); (rintro e w2 ⟨rfl, b2⟩); (have al2 := (Below.refl w2.heap.size w2).alloc (Nat.le_refl _) (.cells #[.string s9, .string t9] 23)); (have bb2 := bel' b2 al2); (have p2 := bel' p1 bb2); (have KA2 := KA1.below bb2 KA1.lt); (have KB2 := KB1.below bb2 KB1.lt); (have VN2 := VN.below bb2 VN.lt); (have VW := Blk.new w2 #[.string s9, .string t9] 23); (have c20 := KA2.at 0); (have c21 := KA2.at 1); (have c22 := KB2.at 0); (have c23 := KB2.at 1); (simp at c20 c21 c22 c23))
    | (go_at_call 6; (refine (N1 _ pr).mono ?_); (rintro e w1 ⟨rfl, b1⟩); (have al1 := (Below.refl w1.heap.size w1).alloc (Nat.le_refl _) (.cells #[.string s9, .string t9] 23)); (have bb1 := bel' b1 al1); (have p1 := bel' pr bb1); (have KA1 := KA.below bb1 KA.lt); (have KB1 := KB.below bb1 KB.lt); (have VN := Blk.new w1 #[.string s9, .string t9] 23); (have c10 := KA1.at 0); (have c11 := KA1.at 1); (have c12 := KB1.at 0); (have c13 := KB1.at 1); (simp at c10 c11 c12 c13))
    | fail)
  have hN : w.heap.size + 1 < w1.heap.size := (KB.below b1 KB.lt).lt
  have hW : w1.heap.size < w2.heap.size := (VN.below b2 VN.lt).lt
  have VN := VN2
  have KA := KA2
  have KB := KB2
  have p := p2
  generalize w1.heap.size = nN at *
  generalize w2.alloc (.cells #[.string s9, .string t9] 23) = W at *
  generalize w2.heap.size = nW at *
  clear KA1 KB1 KA2 KB2 VN2 p1 p2 pr al1 al2 bb1 bb2 b1 b2 c10 c11 c12 c13 c20 c21 c22 c23 N1 N2 lA lB
  have a0 := KA.at 0
  have a1 := KA.at 1
  have v0 := VN.at 0
  have v1 := VN.at 1
  have v2 := VW.at 0
  have v3 := VW.at 1
  simp at a0 a1 v0 v1 v2 v3
  go_region_held3 (fun x => x.cell? ⟨w.heap.size, 0, none⟩ = some (.string n) ∧ x.cell? ⟨w.heap.size, 1, none⟩ = some (.string d) ∧ x.cell? ⟨nN, 0, none⟩ = some (.string s9) ∧ x.cell? ⟨nN, 1, none⟩ = some (.string t9) ∧ x.cell? ⟨nW, 0, none⟩ = some (.string s9) ∧ x.cell? ⟨nW, 1, none⟩ = some (.string t9)) (first | exact ⟨o4, o5, o0, o1, o2, o3⟩ | exact ⟨m4, m5, m0, m1, m2, m3⟩ | exact ⟨l4, l5, l0, l1, l2, l3⟩ | go_keep) (first
    | (go_at_call 10; (have mk := d4); (refine (isSame s9 t9 e9 _).mono ?_); (rintro e w5 ⟨rfl, b5⟩); (have d5 := bel' d4 b5); (have VN5 := VN.below d5 VN.lt); (have VW5 := VW.below d5 VW.lt); (have KA5 := KA.below d5 KA.lt); (have o0 := VN5.at 0); (have o1 := VN5.at 1); (have o2 := VW5.at 0); (have o3 := VW5.at 1); (have o4 := KA5.at 0); (have o5 := KA5.at 1); (simp at o0 o1 o2 o3 o4 o5))
    | (go_at_call 9; (have mk := d3); (refine (GD _ (bel' p d3)).mono ?_); (rintro e w4 ⟨rfl, b4⟩); (have d4 := bel' d3 b4); (have VN4 := VN.below d4 VN.lt); (have VW4 := VW.below d4 VW.lt); (have KA4 := KA.below d4 KA.lt); (have m0 := VN4.at 0); (have m1 := VN4.at 1); (have m2 := VW4.at 0); (have m3 := VW4.at 1); (have m4 := KA4.at 0); (have m5 := KA4.at 1); (simp at m0 m1 m2 m3 m4 m5))
    | (go_at_call 8; (refine (CH _ (p.drew)).mono ?_); (rintro e w3 ⟨rfl, b3⟩); (have d3 := undrew b3); (have VN3 := VN.below d3 VN.lt); (have VW3 := VW.below d3 VW.lt); (have KA3 := KA.below d3 KA.lt); (have l0 := VN3.at 0); (have l1 := VN3.at 1); (have l2 := VW3.at 0); (have l3 := VW3.at 1); (have l4 := KA3.at 0); (have l5 := KA3.at 1); (simp at l0 l1 l2 l3 l4 l5))
    | fail)
  all_goals
   have pA := bel' p d5
   have alF := (Below.refl w5.heap.size w5).alloc (Nat.le_refl _) (.cells #[.func (.func 11) #[] #[], .func (.func 12) #[] #[], .func (.func 13) #[] #[], .func (.func 14) #[] #[]] 35)
   have KF := Blk.new w5 #[.func (.func 11) #[] #[], .func (.func 12) #[] #[], .func (.func 13) #[] #[], .func (.func 14) #[] #[]] 35
   have bF := bel' d5 alF
   have KN := VN.below bF VN.lt
   have KW := VW.below bF VW.lt
   have KA := KA.below bF KA.lt
   have KB := KB.below bF KB.lt
   have hF : nW < w5.heap.size := (VW.below d5 VW.lt).lt
   have p := bel' p bF
   go_wp2_with fail
   generalize w5.alloc (.cells #[.func (.func 11) #[] #[], .func (.func 12) #[] #[], .func (.func 13) #[] #[], .func (.func 14) #[] #[]] 35) = W5 at *
   generalize w5.heap.size = nF at *
   have HB : Hid (w.heap.size + 1 < nN ∧ nN < nW ∧ nW < nF) := ⟨hN, hW, hF⟩
   clear VN VW VN3 VW3 KA3 VN4 VW4 KA4 VN5 VW5 KA5 o0 o1 o2 o3 o4 o5 a0 a1 v0 v1 v2 v3 l0 l1 l2 l3 l4 l5 m0 m1 m2 m3 m4 m5 d3 d4 d5 b3 b4 b5 pA alF bF hN hW hF CH GD
   go_loopw [6, 8, 10] (fun _ _ i wr => ∃ (q : Nat) (s t s' t' : ByteArray), i = .int .i64 q ∧ q ≤ 4 ∧ Blk wr nN #[.string s, .string t] 23 ∧ Blk wr nW #[.string s', .string t'] 23 ∧ Blk wr nF #[.func (.func 11) #[] #[], .func (.func 12) #[] #[], .func (.func 13) #[] #[], .func (.func 14) #[] #[]] 35 ∧ Blk wr w.heap.size #[.string n, .string d] 23 ∧ Blk wr (w.heap.size + 1) #[.string m, .string k] 23 ∧ Below w.heap.size w wr) (fun _ _ i _ => 4 - (RowKit.intOf i).toNat)
   case atStart => exact ⟨0, s9, t9, s9, t9, rfl, by decide, KN, KW, KF, KA, KB, p⟩
   case round =>
    clear KN KW KF KA KB p
    obtain ⟨q, s', t', s'', t'', rfl, hq4, KN, KW, KF, KA, KB, p⟩ := hrel
    obtain ⟨h1, h2, h3⟩ := HB.out
    have lN : w.heap.size ≤ nN := by omega
    have lW : w.heap.size ≤ nW := by omega
    have nA : nN ≠ w.heap.size := by omega
    have nB : nN ≠ w.heap.size + 1 := by omega
    have nNW : nN ≠ nW := by omega
    have nNF : nN ≠ nF := by omega
    have nWN : nW ≠ nN := by omega
    have nWF : nW ≠ nF := by omega
    have nA2 : nW ≠ w.heap.size := by omega
    have nB2 : nW ≠ w.heap.size + 1 := by omega
    have a0 := KA.at 0
    have a1 := KA.at 1
    have b0 := KB.at 0
    have b1 := KB.at 1
    simp at a0 a1 b0 b1
    by_cases lt : q < 4
    · have y9 : IntKind.i64.wrap ((q : Int) + 1) = ((q + 1 : Nat) : Int) := by rw [show (q : Int) + 1 = ((q + 1 : Nat) : Int) by omega]; exact wrapI7 _ (by omega) (by omega)
      have i1 : (0 : Int) ≤ (q : Int) := by omega
      have i2 : ((q : Int)).toNat = q := by omega
      have i3 : (q : Int) < 4 := by omega
      have HQ : Hid (q + 1 ≤ 4) := lt
      clear h1 h2 h3 C1 C2 S1 S2 hq4
      rcases (show q = 0 ∨ q = 1 ∨ q = 2 ∨ q = 3 by omega) with hq | hq | hq | hq
      all_goals clear lt
      · have kf : (#[.func (.func 11) #[] #[], .func (.func 12) #[] #[], .func (.func 13) #[] #[], .func (.func 14) #[] #[]] : Array Value)[q]? = some (.func (.func 11) #[] #[]) := by rw [hq]; rfl
        have kc : wr.cell? ⟨nF, q, none⟩ = some (.func (.func 11) #[] #[]) := (KF.at q).trans kf
        have w2' : IntKind.i64.wrap (2 + (q : Int)) = 2 := by rw [hq]; decide
        have PP := P0
        have QQ := Q0
        clear P0 Q0 P1 Q1 P2 Q2 P3 Q3 hq
        go_wp2_with fail
        go_region_held3 (fun x => x.cell? ⟨nF, q, none⟩ = some (.func (.func 11) #[] #[]) ∧ x.cell? ⟨w.heap.size, 0, none⟩ = some (.string n) ∧ x.cell? ⟨w.heap.size, 1, none⟩ = some (.string d) ∧ x.cell? ⟨w.heap.size + 1, 0, none⟩ = some (.string m) ∧ x.cell? ⟨w.heap.size + 1, 1, none⟩ = some (.string k)) (first | exact ⟨vc, v0, v1, v2, v3⟩ | exact ⟨uc, u0, u1, u2, u3⟩ | go_keep) (first
          | (go_at_call 11; (refine (PP _ (p.drew)).mono ?_); (rintro e w1 ⟨rfl, b1⟩); (have d1 := undrew b1); (have p1 := bel' p d1); (have KN1 := KN.below d1 KN.lt); (have KW1 := KW.below d1 KW.lt); (have KF1 := KF.below d1 KF.lt); (have KA1 := KA.below d1 KA.lt); (have KB1 := KB.below d1 KB.lt); (have z0 := KN1.at 0); (have z1' := KN1.at 1); (have y0 := KN1.free 0); (have y1' := KN1.free 1); (simp at z0 z1'); (have u0 := KA1.at 0); (have u1 := KA1.at 1); (have u2 := KB1.at 0); (have u3 := KB1.at 1); (simp at u0 u1 u2 u3); (have uc := (KF1.at q).trans kf); (have NN := bput (bput KN1 0 (.string s0)) 1 (.string t0)); (have WA := (bskip1 (bskip1 KA1 nA 0 (.string s0)) nA 1 (.string t0))); (have WB := (bskip1 (bskip1 KB1 nB 0 (.string s0)) nB 1 (.string t0))); (have WW := (bskip1 (bskip1 KW1 nNW 0 (.string s0)) nNW 1 (.string t0))); (have WF := (bskip1 (bskip1 KF1 nNF 0 (.string s0)) nNF 1 (.string t0))); (have v0 := WA.at 0); (have v1 := WA.at 1); (have v2 := WB.at 0); (have v3 := WB.at 1); (simp at v0 v1 v2 v3); (have vc := (WF.at q).trans kf); (have pS := (p1.setCell (p := ⟨nN, 0, none⟩) lN (.string s0)).setCell (p := ⟨nN, 1, none⟩) lN (.string t0)))
          | fail)
        all_goals
         go_wp2_with (first
          | (go_at_call 10; (have mk3 := p2); (refine (isSame s0 t0 e0 _).mono ?_); (rintro e w3 ⟨rfl, b3⟩); (have KN3 := N2s.below b3 N2s.lt); (have KW3 := W2s.below b3 W2s.lt); (have KF3 := F2s.below b3 F2s.lt); (have KA3 := A2s.below b3 A2s.lt); (have KB3 := B2s.below b3 B2s.lt); (have p3 := bel' pT b3))
          | (go_at_call 7; (refine (QQ _ pS).mono ?_); (rintro e w2 ⟨rfl, b2⟩); (have p2 := bel' pS b2); (have KW2 := WW.below b2 WW.lt); (have x0 := KW2.at 0); (have x1 := KW2.at 1); (have f0 := KW2.free 0); (have f1 := KW2.free 1); (simp at x0 x1); (have W2s := bput (bput KW2 0 (.string s0)) 1 (.string t0)); (have N2s := (bskip1 (bskip1 (NN.below b2 NN.lt) nWN 0 (.string s0)) nWN 1 (.string t0))); (have F2s := (bskip1 (bskip1 (WF.below b2 WF.lt) nWF 0 (.string s0)) nWF 1 (.string t0))); (have A2s := (bskip1 (bskip1 (WA.below b2 WA.lt) nA2 0 (.string s0)) nA2 1 (.string t0))); (have B2s := (bskip1 (bskip1 (WB.below b2 WB.lt) nB2 0 (.string s0)) nB2 1 (.string t0))); (have pT := (p2.setCell (p := ⟨nW, 0, none⟩) lW (.string s0)).setCell (p := ⟨nW, 1, none⟩) lW (.string t0)); (have r0 := N2s.at 0); (have r1 := N2s.at 1); (have r2 := W2s.at 0); (have r3 := W2s.at 1); (simp at r0 r1 r2 r3))
          | fail)
         go_roundw
         case rel => exact ⟨q + 1, s0, t0, s0, t0, by go_num, HQ.out, by simpa using KN3, by simpa using KW3, KF3, KA3, KB3, p3⟩
         case measure => simp [RowKit.intOf]; have := HQ.out; omega
      · have kf : (#[.func (.func 11) #[] #[], .func (.func 12) #[] #[], .func (.func 13) #[] #[], .func (.func 14) #[] #[]] : Array Value)[q]? = some (.func (.func 12) #[] #[]) := by rw [hq]; rfl
        have kc : wr.cell? ⟨nF, q, none⟩ = some (.func (.func 12) #[] #[]) := (KF.at q).trans kf
        have w2' : IntKind.i64.wrap (2 + (q : Int)) = 3 := by rw [hq]; decide
        have PP := P1
        have QQ := Q1
        clear P0 Q0 P1 Q1 P2 Q2 P3 Q3 hq
        go_wp2_with fail
        go_region_held3 (fun x => x.cell? ⟨nF, q, none⟩ = some (.func (.func 12) #[] #[]) ∧ x.cell? ⟨w.heap.size, 0, none⟩ = some (.string n) ∧ x.cell? ⟨w.heap.size, 1, none⟩ = some (.string d) ∧ x.cell? ⟨w.heap.size + 1, 0, none⟩ = some (.string m) ∧ x.cell? ⟨w.heap.size + 1, 1, none⟩ = some (.string k)) (first | exact ⟨vc, v0, v1, v2, v3⟩ | exact ⟨uc, u0, u1, u2, u3⟩ | go_keep) (first
          | (go_at_call 12; (refine (PP _ (p.drew)).mono ?_); (rintro e w1 ⟨rfl, b1⟩); (have d1 := undrew b1); (have p1 := bel' p d1); (have KN1 := KN.below d1 KN.lt); (have KW1 := KW.below d1 KW.lt); (have KF1 := KF.below d1 KF.lt); (have KA1 := KA.below d1 KA.lt); (have KB1 := KB.below d1 KB.lt); (have z0 := KN1.at 0); (have z1' := KN1.at 1); (have y0 := KN1.free 0); (have y1' := KN1.free 1); (simp at z0 z1'); (have u0 := KA1.at 0); (have u1 := KA1.at 1); (have u2 := KB1.at 0); (have u3 := KB1.at 1); (simp at u0 u1 u2 u3); (have uc := (KF1.at q).trans kf); (have NN := bput (bput KN1 0 (.string s1)) 1 (.string t1)); (have WA := (bskip1 (bskip1 KA1 nA 0 (.string s1)) nA 1 (.string t1))); (have WB := (bskip1 (bskip1 KB1 nB 0 (.string s1)) nB 1 (.string t1))); (have WW := (bskip1 (bskip1 KW1 nNW 0 (.string s1)) nNW 1 (.string t1))); (have WF := (bskip1 (bskip1 KF1 nNF 0 (.string s1)) nNF 1 (.string t1))); (have v0 := WA.at 0); (have v1 := WA.at 1); (have v2 := WB.at 0); (have v3 := WB.at 1); (simp at v0 v1 v2 v3); (have vc := (WF.at q).trans kf); (have pS := (p1.setCell (p := ⟨nN, 0, none⟩) lN (.string s1)).setCell (p := ⟨nN, 1, none⟩) lN (.string t1)))
          | fail)
        all_goals
         go_wp2_with (first
          | (go_at_call 10; (have mk3 := p2); (refine (isSame s1 t1 e1 _).mono ?_); (rintro e w3 ⟨rfl, b3⟩); (have KN3 := N2s.below b3 N2s.lt); (have KW3 := W2s.below b3 W2s.lt); (have KF3 := F2s.below b3 F2s.lt); (have KA3 := A2s.below b3 A2s.lt); (have KB3 := B2s.below b3 B2s.lt); (have p3 := bel' pT b3))
          | (go_at_call 7; (refine (QQ _ pS).mono ?_); (rintro e w2 ⟨rfl, b2⟩); (have p2 := bel' pS b2); (have KW2 := WW.below b2 WW.lt); (have x0 := KW2.at 0); (have x1 := KW2.at 1); (have f0 := KW2.free 0); (have f1 := KW2.free 1); (simp at x0 x1); (have W2s := bput (bput KW2 0 (.string s1)) 1 (.string t1)); (have N2s := (bskip1 (bskip1 (NN.below b2 NN.lt) nWN 0 (.string s1)) nWN 1 (.string t1))); (have F2s := (bskip1 (bskip1 (WF.below b2 WF.lt) nWF 0 (.string s1)) nWF 1 (.string t1))); (have A2s := (bskip1 (bskip1 (WA.below b2 WA.lt) nA2 0 (.string s1)) nA2 1 (.string t1))); (have B2s := (bskip1 (bskip1 (WB.below b2 WB.lt) nB2 0 (.string s1)) nB2 1 (.string t1))); (have pT := (p2.setCell (p := ⟨nW, 0, none⟩) lW (.string s1)).setCell (p := ⟨nW, 1, none⟩) lW (.string t1)); (have r0 := N2s.at 0); (have r1 := N2s.at 1); (have r2 := W2s.at 0); (have r3 := W2s.at 1); (simp at r0 r1 r2 r3))
          | fail)
         go_roundw
         case rel => exact ⟨q + 1, s1, t1, s1, t1, by go_num, HQ.out, by simpa using KN3, by simpa using KW3, KF3, KA3, KB3, p3⟩
         case measure => simp [RowKit.intOf]; have := HQ.out; omega
      · have kf : (#[.func (.func 11) #[] #[], .func (.func 12) #[] #[], .func (.func 13) #[] #[], .func (.func 14) #[] #[]] : Array Value)[q]? = some (.func (.func 13) #[] #[]) := by rw [hq]; rfl
        have kc : wr.cell? ⟨nF, q, none⟩ = some (.func (.func 13) #[] #[]) := (KF.at q).trans kf
        have w2' : IntKind.i64.wrap (2 + (q : Int)) = 4 := by rw [hq]; decide
        have PP := P2
        have QQ := Q2
        clear P0 Q0 P1 Q1 P2 Q2 P3 Q3 hq
        go_wp2_with fail
        go_region_held3 (fun x => x.cell? ⟨nF, q, none⟩ = some (.func (.func 13) #[] #[]) ∧ x.cell? ⟨w.heap.size, 0, none⟩ = some (.string n) ∧ x.cell? ⟨w.heap.size, 1, none⟩ = some (.string d) ∧ x.cell? ⟨w.heap.size + 1, 0, none⟩ = some (.string m) ∧ x.cell? ⟨w.heap.size + 1, 1, none⟩ = some (.string k)) (first | exact ⟨vc, v0, v1, v2, v3⟩ | exact ⟨uc, u0, u1, u2, u3⟩ | go_keep) (first
          | (go_at_call 13; (refine (PP _ (p.drew)).mono ?_); (rintro e w1 ⟨rfl, b1⟩); (have d1 := undrew b1); (have p1 := bel' p d1); (have KN1 := KN.below d1 KN.lt); (have KW1 := KW.below d1 KW.lt); (have KF1 := KF.below d1 KF.lt); (have KA1 := KA.below d1 KA.lt); (have KB1 := KB.below d1 KB.lt); (have z0 := KN1.at 0); (have z1' := KN1.at 1); (have y0 := KN1.free 0); (have y1' := KN1.free 1); (simp at z0 z1'); (have u0 := KA1.at 0); (have u1 := KA1.at 1); (have u2 := KB1.at 0); (have u3 := KB1.at 1); (simp at u0 u1 u2 u3); (have uc := (KF1.at q).trans kf); (have NN := bput (bput KN1 0 (.string s2)) 1 (.string t2)); (have WA := (bskip1 (bskip1 KA1 nA 0 (.string s2)) nA 1 (.string t2))); (have WB := (bskip1 (bskip1 KB1 nB 0 (.string s2)) nB 1 (.string t2))); (have WW := (bskip1 (bskip1 KW1 nNW 0 (.string s2)) nNW 1 (.string t2))); (have WF := (bskip1 (bskip1 KF1 nNF 0 (.string s2)) nNF 1 (.string t2))); (have v0 := WA.at 0); (have v1 := WA.at 1); (have v2 := WB.at 0); (have v3 := WB.at 1); (simp at v0 v1 v2 v3); (have vc := (WF.at q).trans kf); (have pS := (p1.setCell (p := ⟨nN, 0, none⟩) lN (.string s2)).setCell (p := ⟨nN, 1, none⟩) lN (.string t2)))
          | fail)
        all_goals
         go_wp2_with (first
          | (go_at_call 10; (have mk3 := p2); (refine (isSame s2 t2 e2 _).mono ?_); (rintro e w3 ⟨rfl, b3⟩); (have KN3 := N2s.below b3 N2s.lt); (have KW3 := W2s.below b3 W2s.lt); (have KF3 := F2s.below b3 F2s.lt); (have KA3 := A2s.below b3 A2s.lt); (have KB3 := B2s.below b3 B2s.lt); (have p3 := bel' pT b3))
          | (go_at_call 7; (refine (QQ _ pS).mono ?_); (rintro e w2 ⟨rfl, b2⟩); (have p2 := bel' pS b2); (have KW2 := WW.below b2 WW.lt); (have x0 := KW2.at 0); (have x1 := KW2.at 1); (have f0 := KW2.free 0); (have f1 := KW2.free 1); (simp at x0 x1); (have W2s := bput (bput KW2 0 (.string s2)) 1 (.string t2)); (have N2s := (bskip1 (bskip1 (NN.below b2 NN.lt) nWN 0 (.string s2)) nWN 1 (.string t2))); (have F2s := (bskip1 (bskip1 (WF.below b2 WF.lt) nWF 0 (.string s2)) nWF 1 (.string t2))); (have A2s := (bskip1 (bskip1 (WA.below b2 WA.lt) nA2 0 (.string s2)) nA2 1 (.string t2))); (have B2s := (bskip1 (bskip1 (WB.below b2 WB.lt) nB2 0 (.string s2)) nB2 1 (.string t2))); (have pT := (p2.setCell (p := ⟨nW, 0, none⟩) lW (.string s2)).setCell (p := ⟨nW, 1, none⟩) lW (.string t2)); (have r0 := N2s.at 0); (have r1 := N2s.at 1); (have r2 := W2s.at 0); (have r3 := W2s.at 1); (simp at r0 r1 r2 r3))
          | fail)
         go_roundw
         case rel => exact ⟨q + 1, s2, t2, s2, t2, by go_num, HQ.out, by simpa using KN3, by simpa using KW3, KF3, KA3, KB3, p3⟩
         case measure => simp [RowKit.intOf]; have := HQ.out; omega
      · have kf : (#[.func (.func 11) #[] #[], .func (.func 12) #[] #[], .func (.func 13) #[] #[], .func (.func 14) #[] #[]] : Array Value)[q]? = some (.func (.func 14) #[] #[]) := by rw [hq]; rfl
        have kc : wr.cell? ⟨nF, q, none⟩ = some (.func (.func 14) #[] #[]) := (KF.at q).trans kf
        have w2' : IntKind.i64.wrap (2 + (q : Int)) = 5 := by rw [hq]; decide
        have PP := P3
        have QQ := Q3
        clear P0 Q0 P1 Q1 P2 Q2 P3 Q3 hq
        go_wp2_with fail
        go_region_held3 (fun x => x.cell? ⟨nF, q, none⟩ = some (.func (.func 14) #[] #[]) ∧ x.cell? ⟨w.heap.size, 0, none⟩ = some (.string n) ∧ x.cell? ⟨w.heap.size, 1, none⟩ = some (.string d) ∧ x.cell? ⟨w.heap.size + 1, 0, none⟩ = some (.string m) ∧ x.cell? ⟨w.heap.size + 1, 1, none⟩ = some (.string k)) (first | exact ⟨vc, v0, v1, v2, v3⟩ | exact ⟨uc, u0, u1, u2, u3⟩ | go_keep) (first
          | (go_at_call 14; (refine (PP _ (p.drew)).mono ?_); (rintro e w1 ⟨rfl, b1⟩); (have d1 := undrew b1); (have p1 := bel' p d1); (have KN1 := KN.below d1 KN.lt); (have KW1 := KW.below d1 KW.lt); (have KF1 := KF.below d1 KF.lt); (have KA1 := KA.below d1 KA.lt); (have KB1 := KB.below d1 KB.lt); (have z0 := KN1.at 0); (have z1' := KN1.at 1); (have y0 := KN1.free 0); (have y1' := KN1.free 1); (simp at z0 z1'); (have u0 := KA1.at 0); (have u1 := KA1.at 1); (have u2 := KB1.at 0); (have u3 := KB1.at 1); (simp at u0 u1 u2 u3); (have uc := (KF1.at q).trans kf); (have NN := bput (bput KN1 0 (.string s3)) 1 (.string t3)); (have WA := (bskip1 (bskip1 KA1 nA 0 (.string s3)) nA 1 (.string t3))); (have WB := (bskip1 (bskip1 KB1 nB 0 (.string s3)) nB 1 (.string t3))); (have WW := (bskip1 (bskip1 KW1 nNW 0 (.string s3)) nNW 1 (.string t3))); (have WF := (bskip1 (bskip1 KF1 nNF 0 (.string s3)) nNF 1 (.string t3))); (have v0 := WA.at 0); (have v1 := WA.at 1); (have v2 := WB.at 0); (have v3 := WB.at 1); (simp at v0 v1 v2 v3); (have vc := (WF.at q).trans kf); (have pS := (p1.setCell (p := ⟨nN, 0, none⟩) lN (.string s3)).setCell (p := ⟨nN, 1, none⟩) lN (.string t3)))
          | fail)
        all_goals
         go_wp2_with (first
          | (go_at_call 10; (have mk3 := p2); (refine (isSame s3 t3 e3 _).mono ?_); (rintro e w3 ⟨rfl, b3⟩); (have KN3 := N2s.below b3 N2s.lt); (have KW3 := W2s.below b3 W2s.lt); (have KF3 := F2s.below b3 F2s.lt); (have KA3 := A2s.below b3 A2s.lt); (have KB3 := B2s.below b3 B2s.lt); (have p3 := bel' pT b3))
          | (go_at_call 7; (refine (QQ _ pS).mono ?_); (rintro e w2 ⟨rfl, b2⟩); (have p2 := bel' pS b2); (have KW2 := WW.below b2 WW.lt); (have x0 := KW2.at 0); (have x1 := KW2.at 1); (have f0 := KW2.free 0); (have f1 := KW2.free 1); (simp at x0 x1); (have W2s := bput (bput KW2 0 (.string s3)) 1 (.string t3)); (have N2s := (bskip1 (bskip1 (NN.below b2 NN.lt) nWN 0 (.string s3)) nWN 1 (.string t3))); (have F2s := (bskip1 (bskip1 (WF.below b2 WF.lt) nWF 0 (.string s3)) nWF 1 (.string t3))); (have A2s := (bskip1 (bskip1 (WA.below b2 WA.lt) nA2 0 (.string s3)) nA2 1 (.string t3))); (have B2s := (bskip1 (bskip1 (WB.below b2 WB.lt) nB2 0 (.string s3)) nB2 1 (.string t3))); (have pT := (p2.setCell (p := ⟨nW, 0, none⟩) lW (.string s3)).setCell (p := ⟨nW, 1, none⟩) lW (.string t3)); (have r0 := N2s.at 0); (have r1 := N2s.at 1); (have r2 := W2s.at 0); (have r3 := W2s.at 1); (simp at r0 r1 r2 r3))
          | fail)
         go_roundw
         case rel => exact ⟨q + 1, s3, t3, s3, t3, by go_num, HQ.out, by simpa using KN3, by simpa using KW3, KF3, KA3, KB3, p3⟩
         case measure => simp [RowKit.intOf]; have := HQ.out; omega
    · obtain rfl : q = 4 := by omega
      clear h1 h2 h3 P0 Q0 P1 Q1 P2 Q2 P3 Q3 hq4
      go_wp2_with (first
        | (go_at_call 18; (have mk := p3); (refine (S2 _ p3).mono ?_); (rintro e w4 ⟨rfl, b4⟩); (have p4 := bel' p3 b4))
        | (go_at_call 17; (have mk := p2); (refine (S1 _ p2).mono ?_); (rintro e w3 ⟨rfl, b3⟩); (have p3 := bel' p2 b3); (have KA3 := KA2.below b3 KA2.lt); (have c0 := KA3.at 0); (have c1 := KA3.at 1); (simp at c0 c1))
        | (go_at_call 16; (have mk := p1); (refine (C2 _ p1).mono ?_); (rintro e w2 ⟨rfl, b2⟩); (have p2 := bel' p1 b2); (have KA2 := KA1.below b2 KA1.lt); (have KB2 := KB1.below b2 KB1.lt); (have e0 := KA2.at 0); (have e1 := KA2.at 1); (have e2 := KB2.at 0); (have e3 := KB2.at 1); (simp at e0 e1 e2 e3))
        | (go_at_call 15; (refine (C1 _ p).mono ?_); (rintro e w1 ⟨rfl, b1'⟩); (have p1 := bel' p b1'); (have KA1 := KA.below b1' KA.lt); (have KB1 := KB.below b1' KB.lt); (have g0 := KA1.at 0); (have g1 := KA1.at 1); (have g2 := KB1.at 0); (have g3 := KB1.at 1); (simp at g0 g1 g2 g3))
        | fail)
      go_ret
      exact ⟨rfl, p4⟩
end Go.Proofs.YtfalncbcomlelaaGreatDoor.Mo

namespace Go.Proofs.YtfalncbcomlelaaGreatDoor.Mo
open Go.RowKit

/-- The law. -/
theorem reckons_law (n d m k : ByteArray) (w : World) (hn : n.size ≤ 9223372036854775807) (hd : d.size ≤ 9223372036854775807) (hm : m.size ≤ 9223372036854775807) (hk : k.size ≤ 9223372036854775807) (G : Gw w) :
    Calls Tryz.prog 3 #[.agg #[.string n, .string d], .agg #[.string m, .string k]] w fun e w' => e = .returned (.bool true) ∧ Below w.heap.size w w' := by
  obtain ⟨s9, t9, e9, N1, N2⟩ := both_Neg n d m k w hn hd hm hk G
  obtain ⟨s0, t0, e0, P0, Q0⟩ := both_Add n d m k w hn hd hm hk G
  obtain ⟨s1, t1, e1, P1, Q1⟩ := both_Sub n d m k w hn hd hm hk G
  obtain ⟨s2, t2, e2, P2, Q2⟩ := both_Mul n d m k w hn hd hm hk G
  obtain ⟨s3, t3, e3, P3, Q3⟩ := both_Div n d m k w hn hd hm hk G
  obtain ⟨z1, y1, C1, C2⟩ := both_Cmp n d m k w hn hd hm hk
  obtain ⟨z2, y2, S1, S2⟩ := both_Sign n d w hn hd
  exact reckons_walk n d m k (goodE n d) z1 y1 z2 y2 s9 t9 s0 t0 s1 t1 s2 t2 s3 t3 e9 e0 e1 e2 e3 w N1 N2 (fun x _ => Check_any n d x hn hd) (fun x _ => Good_any n d x hn hd) P0 Q0 P1 Q1 P2 Q2 P3 Q3 C1 C2 S1 S2
end Go.Proofs.YtfalncbcomlelaaGreatDoor.Mo

namespace Go.Proofs.YtfalncbcomlelaaGreatDoor.Dy
open Mo
theorem gPow : Tryz.prog.globalNamed "internal/strconv.uint64pow10" = some 4 := by kernel_rfl
theorem gw_of {w : World} (h : Go.Lib.TabIs Tryz.prog w "internal/strconv.uint64pow10" .u64 Go.Lib.pow10Tab) : Gw w := fun _ b => Go.Joins.var_stays gPow h b (Nat.le_refl _)
end Go.Proofs.YtfalncbcomlelaaGreatDoor.Dy
