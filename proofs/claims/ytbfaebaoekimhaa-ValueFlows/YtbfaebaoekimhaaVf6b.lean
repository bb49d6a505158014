import Derived.Test.YtbfaebaoekimhaaVf6
namespace Go.Proofs.Ytbfaebaoekimhaa.Vf
open Go.RowKit Tn

set_option maxRecDepth 100000 in
set_option maxHeartbeats 3200000 in
theorem Flows_y3 (K W T V1 V2 F : Int) (n k : Nat) (N TT D : Int → Int) (w : World) (hk : k ≤ 130) (hn : n ≤ 130) (hF : 0 ≤ F ∧ F ≤ 131)
    (CH : ∀ x, Calls Try.prog 7 #[.agg #[.int .i64 K, .int .i64 W, .int .i64 T, .int .i64 (n : Int)]] x fun e w' => e = .returned (.int .i64 0) ∧ Below x.heap.size x w')
    (SU : ∀ x, Calls Try.prog 10 #[.agg #[.int .i64 K, .int .i64 W, .int .i64 T, .int .i64 (n : Int)]] x fun e w' => ∃ g, e = .returned (.slice (some ⟨g, 0, none⟩) n n) ∧ x.heap.size ≤ g ∧ Tm w' g n F n ∧ Below x.heap.size x w')
    (KO : ∀ x, Calls Try.prog 11 #[.int .i64 K] x fun e w' => e = .returned (.tuple #[.agg #[.int .i64 K, .func (.func 16) #[] #[], .func (.func 18) #[] #[], .func (.func 17) #[] #[]], .bool true]) ∧ Below x.heap.size x w')
    (UN : ∀ x, Calls Try.prog 12 #[.agg #[.int .i64 K, .int .i64 W, .int .i64 T, .int .i64 (n : Int)]] x fun e w' => e = .returned (.agg #[.int .i64 K, .int .i64 V1, .int .i64 V2, .int .i64 0]) ∧ Below x.heap.size x w')
    (Ha : ∀ x (j : Int), 0 ≤ j → j ≤ 131 → Calls Try.prog 16 #[.agg #[.int .i64 K, .int .i64 V1, .int .i64 V2, .int .i64 0], .int .i64 j] x fun e w' => e = .returned (.int .i64 (N j)) ∧ Below x.heap.size x w')
    (Hb : ∀ x (j : Int), 0 ≤ j → j ≤ 131 → Calls Try.prog 18 #[.agg #[.int .i64 K, .int .i64 V1, .int .i64 V2, .int .i64 0], .int .i64 j] x fun e w' => e = .returned (.int .i64 (TT j)) ∧ Below x.heap.size x w')
    (Hc : ∀ x (j : Int), 0 ≤ j → j ≤ 131 → Calls Try.prog 17 #[.agg #[.int .i64 K, .int .i64 V1, .int .i64 V2, .int .i64 0], .int .i64 j] x fun e w' => e = .returned (.int .i64 (D j)) ∧ Below x.heap.size x w') :
    Calls Try.prog 5 #[.agg #[.int .i64 K, .int .i64 W, .int .i64 T, .int .i64 (n : Int)], .int .i64 (k : Int)] w fun e w' => ∃ v, e = .returned (.tuple #[v, .int .i64 0]) ∧ w'.ownsRow w.heap.size 34 2 v (((Rl (fun _ => 1) F n ++ Lp N TT k) ++ opt (k : Int) (N k)) ++ opt ((k : Int) + 1) (D k)).length (fc (((Rl (fun _ => 1) F n ++ Lp N TT k) ++ opt (k : Int) (N k)) ++ opt ((k : Int) + 1) (D k))) ∧ Below w.heap.size w w' := by
  have sf := fun w a fn x c m => run_store_fn Try.prog w a fn x c m
  have hmf : ∀ (fn : Fn) (first cap : Array Value) (w : World), (Instr.makeFunc fn first cap).run Try.prog w = .ok (.func fn first cap) w := fun _ _ _ _ => rfl
  have K0 := Bb.new w K W T (n : Int)
  have pr := bl (w := w) #[.int .i64 K, .int .i64 W, .int .i64 T, .int .i64 (n : Int)] 23
  have q0 := K0.c0
  have q1 := K0.c1
  have q2 := K0.c2
  have q3 := K0.c3
  have k0 : (0 : Int) ≤ (k : Int) := by omega
  have k1 : (k : Int) ≤ 130 := by omega
  have n0 : (0 : Int) ≤ (n : Int) := by omega
  have HB : Hid (k ≤ 130 ∧ n ≤ 130 ∧ 0 ≤ F ∧ F ≤ 131) := ⟨hk, hn, hF⟩
  clear hk hn hF
  go_enter Try.func5, Try.ntmps5
  go_wp2_with (first
    | (go_at_call 10; (refine (SU _).mono ?_); (rintro e w2 ⟨g, rfl, lg, T2, b2⟩); (have K2 := (K1.grow (bl #[.slice none 0 0] 25)).grow b2); (have S2 : St w2 w1.heap.size [] := ⟨_, (Blk.new w1 #[.slice none 0 0] 25).below b2 (Blk.lt (Blk.new w1 #[.slice none 0 0] 25)), ⟨rfl, Or.inl ⟨rfl, rfl⟩⟩⟩); (have p2 := belT (belT p1 (bl #[.slice none 0 0] 25)) b2))
    | (go_at_call 7; (refine (CH _).mono ?_); (rintro e w1 ⟨rfl, b1⟩); (have K1 := K0.grow b1); (have p1 := belT pr b1); (have q0 := (K1.grow (bl #[.slice none 0 0] 25)).c0); (have q1 := (K1.grow (bl #[.slice none 0 0] 25)).c1); (have q2 := (K1.grow (bl #[.slice none 0 0] 25)).c2); (have q3 := (K1.grow (bl #[.slice none 0 0] 25)).c3))
    | fail)
  have lo : w.heap.size < w1.heap.size := K1.lt
  simp only [World.size_alloc] at lg
  have ng : g ≠ w1.heap.size := by omega
  generalize w1.heap.size = bx at *
  clear q0 q1 q2 q3 K1 p1 K0 pr b1 b2 lg
  have LO : Hid (w.heap.size < bx) := lo
  have NG : Hid (g ≠ bx) := ng
  clear lo ng
  go_loopw [30] (fun t wr => ∃ i : Nat, i ≤ n ∧ t = .int .i64 (i : Int) ∧ St wr bx (Rl (fun _ => 1) F i) ∧ Tm wr g n F n ∧ Bb wr w.heap.size K W T (n : Int) ∧ Below w.heap.size w wr) (fun t _ => ((n : Int) - RowKit.intOf t).toNat)
  case atStart => exact ⟨0, by omega, rfl, S2, T2, K2, p2⟩
  case round =>
    clear S2 T2 K2 p2
    obtain ⟨i, hi, rfl, S2, T2, K2, p2⟩ := hrel
    by_cases lt : i < n
    · obtain ⟨cs, tb, ts, tv⟩ := T2
      have x0 := (tb.at i).trans (tv i lt)
      have TM : Tm wr g n F n := ⟨cs, tb, ts, tv⟩
      have y1 : IntKind.i64.wrap ((i : Int) + 1) = (i : Int) + 1 := wrapI _ (by omega) (by have := HB.out; omega)
      have i1 : (0 : Int) ≤ (i : Int) := by omega
      have i2 : ((i : Int)).toNat = i := by omega
      have i3 : (i : Int) < (n : Int) := by omega
      have AD := fun x s => add_c (F + (i : Int)) 1 (Rl (fun _ => 1) F i) bx x s (by have := Rl_len (fun _ => 1) F i; have := HB.out; omega)
      have HI : Hid (i + 1 ≤ n) := lt
      clear tb ts tv hi lt CH SU KO UN Ha Hb Hc
      go_wp2_with (first
        | (go_at_call 9; (refine (AD _ S2).mono ?_); (rintro e w3 ⟨rfl, S3, A3⟩); (have T3 := TM.adds A3 NG.out); (have K3 := K2.adds A3 (by have := LO.out; omega)); (have p3 := p2.trans (Below.mono A3.below (by have := LO.out; omega))))
        | fail)
      go_roundw
      case rel => exact ⟨i + 1, HI.out, rfl, S3, T3, K3, p3⟩
      case measure => simp [RowKit.intOf]; have := HI.out; omega
    · obtain rfl : i = n := by omega
      clear T2 CH SU
      have q0 := K2.c0
      go_wp2_with (first
        | (go_at_call 12; (have mk := S3); (refine (UN _).mono ?_); (rintro e w4 ⟨rfl, b4⟩); (have S4 := (S3.grow (bl #[.int .i64 K, .func (.func 16) #[] #[], .func (.func 18) #[] #[], .func (.func 17) #[] #[]] 42)).grow b4); (have V := Blk.new w3 #[.int .i64 K, .func (.func 16) #[] #[], .func (.func 18) #[] #[], .func (.func 17) #[] #[]] 42); (have P4 := V.below b4 V.lt); (have p4 := belT (belT p3 (bl #[.int .i64 K, .func (.func 16) #[] #[], .func (.func 18) #[] #[], .func (.func 17) #[] #[]] 42)) b4); (have lo4 : bx < w3.heap.size := by obtain ⟨_, bb, _⟩ := S3; exact bb.lt); (have sz := b4.size); (simp only [World.size_alloc] at sz))
        | (go_at_call 11; (refine (KO _).mono ?_); (rintro e w3 ⟨rfl, b3⟩); (have S3 := S2.grow b3); (have p3 := belT p2 b3); (have K3 := K2.grow b3); (have K4 := K3.grow (bl #[.int .i64 K, .func (.func 16) #[] #[], .func (.func 18) #[] #[], .func (.func 17) #[] #[]] 42)); (have q0 := K4.c0); (have q1 := K4.c1); (have q2 := K4.c2); (have q3 := K4.c3))
        | fail)
      have S5 := S4.grow (bl #[.int .i64 K, .int .i64 V1, .int .i64 V2, .int .i64 0] 23)
      have P5 := P4.alloc (.cells #[.int .i64 K, .int .i64 V1, .int .i64 V2, .int .i64 0] 23)
      have R5 := Bb.new w4 K V1 V2 0
      have p5 := belT p4 (bl #[.int .i64 K, .int .i64 V1, .int .i64 V2, .int .i64 0] 23)
      generalize w4.alloc (.cells #[.int .i64 K, .int .i64 V1, .int .i64 V2, .int .i64 0] 23) = W5 at *
      have NP : Hid (w3.heap.size ≠ bx ∧ w4.heap.size ≠ bx) := ⟨by omega, by omega⟩
      generalize w3.heap.size = P at *
      generalize w4.heap.size = R at *
      clear S2 S3 S4 P4 V p2 p3 p4 K2 K3 K4 q0 q1 q2 q3 b3 b4 lo4 sz KO UN hi lt
      go_loopw [47] (fun t wr => ∃ j : Nat, j ≤ k ∧ t = .int .i64 (j : Int) ∧ St wr bx (Rl (fun _ => 1) F i ++ Lp N TT j) ∧ Blk wr P #[.int .i64 K, .func (.func 16) #[] #[], .func (.func 18) #[] #[], .func (.func 17) #[] #[]] 42 ∧ Bb wr R K V1 V2 0 ∧ Below w.heap.size w wr) (fun t _ => ((k : Int) - RowKit.intOf t).toNat)
      case atStart => exact ⟨0, by omega, rfl, by rw [show Lp N TT 0 = [] from rfl, List.append_nil]; exact S5, P5, R5, p5⟩
      case round =>
        clear S5 P5 R5 p5
        obtain ⟨j, hj, rfl, S5, P5, R5, p5⟩ := hrel
        have LB : Hid ((Rl (fun _ => 1) F i ++ Lp N TT j).length ≤ 130 + 2 * j) := by
          have := Rl_len (fun _ => 1) F i
          have := Lp_len N TT j
          have := HB.out
          show _ ≤ _
          rw [List.length_append]
          omega
        by_cases lt : j < k
        · have y1 : IntKind.i64.wrap ((j : Int) + 1) = (j : Int) + 1 := wrapI _ (by omega) (by have := HB.out; omega)
          have i3 : (j : Int) < (k : Int) := by omega
          have AN := fun x => Ha x (j : Int) (by omega) (by have := HB.out; omega)
          have BN := fun x => Hb x (j : Int) (by omega) (by have := HB.out; omega)
          have A1 := fun x s => add_c (j : Int) (N j) (Rl (fun _ => 1) F i ++ Lp N TT j) bx x s (by have := LB.out; have := HB.out; omega)
          have A2 := fun x s => add_c ((j : Int) + 1) (TT j) ((Rl (fun _ => 1) F i ++ Lp N TT j) ++ opt (j : Int) (N j)) bx x s (by rw [List.length_append]; have := opt_len (j : Int) (N j); have := LB.out; have := HB.out; omega)
          have HJ : Hid (j + 1 ≤ k) := lt
          have EL : Hid (((Rl (fun _ => 1) F i ++ Lp N TT j) ++ opt (j : Int) (N j)) ++ opt ((j : Int) + 1) (TT j) = Rl (fun _ => 1) F i ++ Lp N TT (j + 1)) := by show _ = _; simp [Lp]
          generalize (Rl (fun _ => 1) F i ++ Lp N TT j) = L at *
          have x1 := P5.at 1
          simp at x1
          have r0 := R5.c0
          have r1 := R5.c1
          have r2 := R5.c2
          have r3 := R5.c3
          clear Ha Hb Hc hj lt
          go_wp2_with (first
            | (go_at_call 9; (have mk := S8); (refine (A2 _ S8).mono ?_); (rintro e w9 ⟨rfl, S9, E9⟩); (have P9 := E9.blk P8 NP.out.1 (by decide)); (have R9 := R8.adds E9 NP.out.2); (have p9 := p8.trans (Below.mono E9.below (by have := LO.out; omega))))
            | (go_at_call 18; (have mk := S7); (refine (BN _).mono ?_); (rintro e w8 ⟨rfl, b8⟩); (have S8 := S7.grow b8); (have P8 := P7.below b8 P7.lt); (have R8 := R7.grow b8); (have p8 := belT p7 b8))
            | (go_at_call 9; (have mk := S6); (refine (A1 _ S6).mono ?_); (rintro e w7 ⟨rfl, S7, E7⟩); (have P7 := E7.blk P6 NP.out.1 (by decide)); (have R7 := R6.adds E7 NP.out.2); (have p7 := p6.trans (Below.mono E7.below (by have := LO.out; omega))); (have x2 := P7.at 2); (simp at x2); (have r0 := R7.c0); (have r1 := R7.c1); (have r2 := R7.c2); (have r3 := R7.c3))
            | (go_at_call 16; (refine (AN _).mono ?_); (rintro e w6 ⟨rfl, b6⟩); (have S6 := S5.grow b6); (have P6 := P5.below b6 P5.lt); (have R6 := R5.grow b6); (have p6 := belT p5 b6))
            | fail)
          rw [EL.out] at S9
          go_roundw
          case rel => exact ⟨j + 1, HJ.out, rfl, S9, P9, R9, p9⟩
          case measure => simp [RowKit.intOf]; have := HJ.out; omega
        · obtain rfl : j = k := by omega
          have y1 : IntKind.i64.wrap ((j : Int) + 1) = (j : Int) + 1 := wrapI _ (by omega) (by have := HB.out; omega)
          have AN := fun x => Ha x (j : Int) (by omega) (by have := HB.out; omega)
          have BN := fun x => Hc x (j : Int) (by omega) (by have := HB.out; omega)
          have A1 := fun x s => add_c (j : Int) (N j) (Rl (fun _ => 1) F i ++ Lp N TT j) bx x s (by have := LB.out; have := HB.out; omega)
          have A2 := fun x s => add_c ((j : Int) + 1) (D j) ((Rl (fun _ => 1) F i ++ Lp N TT j) ++ opt (j : Int) (N j)) bx x s (by rw [List.length_append]; have := opt_len (j : Int) (N j); have := LB.out; have := HB.out; omega)
          have HL0 : ∃ L, Hid (Rl (fun _ => 1) F i ++ Lp N TT j = L) := ⟨_, rfl⟩
          obtain ⟨L, HL⟩ := HL0
          have hL := HL.out
          rw [hL] at S5
          simp only [hL] at A1 A2
          clear hL LB
          have x1 := P5.at 1
          simp at x1
          have r0 := R5.c0
          have r1 := R5.c1
          have r2 := R5.c2
          have r3 := R5.c3
          clear Ha Hb Hc hj lt
          go_wp2_with (first
            | (go_at_call 9; (have mk := S8); (refine (A2 _ S8).mono ?_); (rintro e w9 ⟨rfl, S9, E9⟩); (have p9 := p8.trans (Below.mono E9.below (by have := LO.out; omega))); (obtain ⟨v, bb, rr⟩ := S9); (have z0 := bb.at 0); (simp at z0))
            | (go_at_call 17; (have mk := S7); (refine (BN _).mono ?_); (rintro e w8 ⟨rfl, b8⟩); (have S8 := S7.grow b8); (have p8 := belT p7 b8))
            | (go_at_call 9; (have mk := S6); (refine (A1 _ S6).mono ?_); (rintro e w7 ⟨rfl, S7, E7⟩); (have P7 := E7.blk P6 NP.out.1 (by decide)); (have R7 := R6.adds E7 NP.out.2); (have p7 := p6.trans (Below.mono E7.below (by have := LO.out; omega))); (have x3 := P7.at 3); (simp at x3); (have r0 := R7.c0); (have r1 := R7.c1); (have r2 := R7.c2); (have r3 := R7.c3))
            | (go_at_call 16; (refine (AN _).mono ?_); (rintro e w6 ⟨rfl, b6⟩); (have S6 := S5.grow b6); (have P6 := P5.below b6 P5.lt); (have R6 := R5.grow b6); (have p6 := belT p5 b6))
            | fail)
          go_ret2
          rw [← HL.out] at rr
          exact ⟨v, rfl, own_mono (base := bx + 1) rr (by have := LO.out; omega), p9⟩
set_option maxRecDepth 100000 in
set_option maxHeartbeats 3200000 in
theorem Flows_y4 (K W T V1 V2 F : Int) (n k : Nat) (N TT D : Int → Int) (w : World) (hk : k ≤ 130) (hn : n ≤ 130) (hF : 0 ≤ F ∧ F ≤ 131)
    (CH : ∀ x, Calls Try.prog 7 #[.agg #[.int .i64 K, .int .i64 W, .int .i64 T, .int .i64 (n : Int)]] x fun e w' => e = .returned (.int .i64 0) ∧ Below x.heap.size x w')
    (SU : ∀ x, Calls Try.prog 10 #[.agg #[.int .i64 K, .int .i64 W, .int .i64 T, .int .i64 (n : Int)]] x fun e w' => ∃ g, e = .returned (.slice (some ⟨g, 0, none⟩) n n) ∧ x.heap.size ≤ g ∧ Tm w' g n F n ∧ Below x.heap.size x w')
    (KO : ∀ x, Calls Try.prog 11 #[.int .i64 K] x fun e w' => e = .returned (.tuple #[.agg #[.int .i64 K, .func (.func 17) #[] #[], .func (.func 16) #[] #[], .func (.func 16) #[] #[]], .bool true]) ∧ Below x.heap.size x w')
    (UN : ∀ x, Calls Try.prog 12 #[.agg #[.int .i64 K, .int .i64 W, .int .i64 T, .int .i64 (n : Int)]] x fun e w' => e = .returned (.agg #[.int .i64 K, .int .i64 V1, .int .i64 V2, .int .i64 0]) ∧ Below x.heap.size x w')
    (Ha : ∀ x (j : Int), 0 ≤ j → j ≤ 131 → Calls Try.prog 17 #[.agg #[.int .i64 K, .int .i64 V1, .int .i64 V2, .int .i64 0], .int .i64 j] x fun e w' => e = .returned (.int .i64 (N j)) ∧ Below x.heap.size x w')
    (Hb : ∀ x (j : Int), 0 ≤ j → j ≤ 131 → Calls Try.prog 16 #[.agg #[.int .i64 K, .int .i64 V1, .int .i64 V2, .int .i64 0], .int .i64 j] x fun e w' => e = .returned (.int .i64 (TT j)) ∧ Below x.heap.size x w')
    (Hc : ∀ x (j : Int), 0 ≤ j → j ≤ 131 → Calls Try.prog 16 #[.agg #[.int .i64 K, .int .i64 V1, .int .i64 V2, .int .i64 0], .int .i64 j] x fun e w' => e = .returned (.int .i64 (D j)) ∧ Below x.heap.size x w') :
    Calls Try.prog 5 #[.agg #[.int .i64 K, .int .i64 W, .int .i64 T, .int .i64 (n : Int)], .int .i64 (k : Int)] w fun e w' => ∃ v, e = .returned (.tuple #[v, .int .i64 0]) ∧ w'.ownsRow w.heap.size 34 2 v (((Rl (fun _ => 1) F n ++ Lp N TT k) ++ opt (k : Int) (N k)) ++ opt ((k : Int) + 1) (D k)).length (fc (((Rl (fun _ => 1) F n ++ Lp N TT k) ++ opt (k : Int) (N k)) ++ opt ((k : Int) + 1) (D k))) ∧ Below w.heap.size w w' := by
  have sf := fun w a fn x c m => run_store_fn Try.prog w a fn x c m
  have hmf : ∀ (fn : Fn) (first cap : Array Value) (w : World), (Instr.makeFunc fn first cap).run Try.prog w = .ok (.func fn first cap) w := fun _ _ _ _ => rfl
  have K0 := Bb.new w K W T (n : Int)
  have pr := bl (w := w) #[.int .i64 K, .int .i64 W, .int .i64 T, .int .i64 (n : Int)] 23
  have q0 := K0.c0
  have q1 := K0.c1
  have q2 := K0.c2
  have q3 := K0.c3
  have k0 : (0 : Int) ≤ (k : Int) := by omega
  have k1 : (k : Int) ≤ 130 := by omega
  have n0 : (0 : Int) ≤ (n : Int) := by omega
  have HB : Hid (k ≤ 130 ∧ n ≤ 130 ∧ 0 ≤ F ∧ F ≤ 131) := ⟨hk, hn, hF⟩
  clear hk hn hF
  go_enter Try.func5, Try.ntmps5
  go_wp2_with (first
    | (go_at_call 10; (refine (SU _).mono ?_); (rintro e w2 ⟨g, rfl, lg, T2, b2⟩); (have K2 := (K1.grow (bl #[.slice none 0 0] 25)).grow b2); (have S2 : St w2 w1.heap.size [] := ⟨_, (Blk.new w1 #[.slice none 0 0] 25).below b2 (Blk.lt (Blk.new w1 #[.slice none 0 0] 25)), ⟨rfl, Or.inl ⟨rfl, rfl⟩⟩⟩); (have p2 := belT (belT p1 (bl #[.slice none 0 0] 25)) b2))
    | (go_at_call 7; (refine (CH _).mono ?_); (rintro e w1 ⟨rfl, b1⟩); (have K1 := K0.grow b1); (have p1 := belT pr b1); (have q0 := (K1.grow (bl #[.slice none 0 0] 25)).c0); (have q1 := (K1.grow (bl #[.slice none 0 0] 25)).c1); (have q2 := (K1.grow (bl #[.slice none 0 0] 25)).c2); (have q3 := (K1.grow (bl #[.slice none 0 0] 25)).c3))
    | fail)
  have lo : w.heap.size < w1.heap.size := K1.lt
  simp only [World.size_alloc] at lg
  have ng : g ≠ w1.heap.size := by omega
  generalize w1.heap.size = bx at *
  clear q0 q1 q2 q3 K1 p1 K0 pr b1 b2 lg
  have LO : Hid (w.heap.size < bx) := lo
  have NG : Hid (g ≠ bx) := ng
  clear lo ng
  go_loopw [30] (fun t wr => ∃ i : Nat, i ≤ n ∧ t = .int .i64 (i : Int) ∧ St wr bx (Rl (fun _ => 1) F i) ∧ Tm wr g n F n ∧ Bb wr w.heap.size K W T (n : Int) ∧ Below w.heap.size w wr) (fun t _ => ((n : Int) - RowKit.intOf t).toNat)
  case atStart => exact ⟨0, by omega, rfl, S2, T2, K2, p2⟩
  case round =>
    clear S2 T2 K2 p2
    obtain ⟨i, hi, rfl, S2, T2, K2, p2⟩ := hrel
    by_cases lt : i < n
    · obtain ⟨cs, tb, ts, tv⟩ := T2
      have x0 := (tb.at i).trans (tv i lt)
      have TM : Tm wr g n F n := ⟨cs, tb, ts, tv⟩
      have y1 : IntKind.i64.wrap ((i : Int) + 1) = (i : Int) + 1 := wrapI _ (by omega) (by have := HB.out; omega)
      have i1 : (0 : Int) ≤ (i : Int) := by omega
      have i2 : ((i : Int)).toNat = i := by omega
      have i3 : (i : Int) < (n : Int) := by omega
      have AD := fun x s => add_c (F + (i : Int)) 1 (Rl (fun _ => 1) F i) bx x s (by have := Rl_len (fun _ => 1) F i; have := HB.out; omega)
      have HI : Hid (i + 1 ≤ n) := lt
      clear tb ts tv hi lt CH SU KO UN Ha Hb Hc
      go_wp2_with (first
        | (go_at_call 9; (refine (AD _ S2).mono ?_); (rintro e w3 ⟨rfl, S3, A3⟩); (have T3 := TM.adds A3 NG.out); (have K3 := K2.adds A3 (by have := LO.out; omega)); (have p3 := p2.trans (Below.mono A3.below (by have := LO.out; omega))))
        | fail)
      go_roundw
      case rel => exact ⟨i + 1, HI.out, rfl, S3, T3, K3, p3⟩
      case measure => simp [RowKit.intOf]; have := HI.out; omega
    · obtain rfl : i = n := by omega
      clear T2 CH SU
      have q0 := K2.c0
      go_wp2_with (first
        | (go_at_call 12; (have mk := S3); (refine (UN _).mono ?_); (rintro e w4 ⟨rfl, b4⟩); (have S4 := (S3.grow (bl #[.int .i64 K, .func (.func 17) #[] #[], .func (.func 16) #[] #[], .func (.func 16) #[] #[]] 42)).grow b4); (have V := Blk.new w3 #[.int .i64 K, .func (.func 17) #[] #[], .func (.func 16) #[] #[], .func (.func 16) #[] #[]] 42); (have P4 := V.below b4 V.lt); (have p4 := belT (belT p3 (bl #[.int .i64 K, .func (.func 17) #[] #[], .func (.func 16) #[] #[], .func (.func 16) #[] #[]] 42)) b4); (have lo4 : bx < w3.heap.size := by obtain ⟨_, bb, _⟩ := S3; exact bb.lt); (have sz := b4.size); (simp only [World.size_alloc] at sz))
        | (go_at_call 11; (refine (KO _).mono ?_); (rintro e w3 ⟨rfl, b3⟩); (have S3 := S2.grow b3); (have p3 := belT p2 b3); (have K3 := K2.grow b3); (have K4 := K3.grow (bl #[.int .i64 K, .func (.func 17) #[] #[], .func (.func 16) #[] #[], .func (.func 16) #[] #[]] 42)); (have q0 := K4.c0); (have q1 := K4.c1); (have q2 := K4.c2); (have q3 := K4.c3))
        | fail)
      have S5 := S4.grow (bl #[.int .i64 K, .int .i64 V1, .int .i64 V2, .int .i64 0] 23)
      have P5 := P4.alloc (.cells #[.int .i64 K, .int .i64 V1, .int .i64 V2, .int .i64 0] 23)
      have R5 := Bb.new w4 K V1 V2 0
      have p5 := belT p4 (bl #[.int .i64 K, .int .i64 V1, .int .i64 V2, .int .i64 0] 23)
      generalize w4.alloc (.cells #[.int .i64 K, .int .i64 V1, .int .i64 V2, .int .i64 0] 23) = W5 at *
      have NP : Hid (w3.heap.size ≠ bx ∧ w4.heap.size ≠ bx) := ⟨by omega, by omega⟩
      generalize w3.heap.size = P at *
      generalize w4.heap.size = R at *
      clear S2 S3 S4 P4 V p2 p3 p4 K2 K3 K4 q0 q1 q2 q3 b3 b4 lo4 sz KO UN hi lt
      go_loopw [47] (fun t wr => ∃ j : Nat, j ≤ k ∧ t = .int .i64 (j : Int) ∧ St wr bx (Rl (fun _ => 1) F i ++ Lp N TT j) ∧ Blk wr P #[.int .i64 K, .func (.func 17) #[] #[], .func (.func 16) #[] #[], .func (.func 16) #[] #[]] 42 ∧ Bb wr R K V1 V2 0 ∧ Below w.heap.size w wr) (fun t _ => ((k : Int) - RowKit.intOf t).toNat)
      case atStart => exact ⟨0, by omega, rfl, by rw [show Lp N TT 0 = [] from rfl, List.append_nil]; exact S5, P5, R5, p5⟩
      case round =>
        clear S5 P5 R5 p5
        obtain ⟨j, hj, rfl, S5, P5, R5, p5⟩ := hrel
        have LB : Hid ((Rl (fun _ => 1) F i ++ Lp N TT j).length ≤ 130 + 2 * j) := by
          have := Rl_len (fun _ => 1) F i
          have := Lp_len N TT j
          have := HB.out
          show _ ≤ _
          rw [List.length_append]
          omega
        by_cases lt : j < k
        · have y1 : IntKind.i64.wrap ((j : Int) + 1) = (j : Int) + 1 := wrapI _ (by omega) (by have := HB.out; omega)
          have i3 : (j : Int) < (k : Int) := by omega
          have AN := fun x => Ha x (j : Int) (by omega) (by have := HB.out; omega)
          have BN := fun x => Hb x (j : Int) (by omega) (by have := HB.out; omega)
          have A1 := fun x s => add_c (j : Int) (N j) (Rl (fun _ => 1) F i ++ Lp N TT j) bx x s (by have := LB.out; have := HB.out; omega)
          have A2 := fun x s => add_c ((j : Int) + 1) (TT j) ((Rl (fun _ => 1) F i ++ Lp N TT j) ++ opt (j : Int) (N j)) bx x s (by rw [List.length_append]; have := opt_len (j : Int) (N j); have := LB.out; have := HB.out; omega)
          have HJ : Hid (j + 1 ≤ k) := lt
          have EL : Hid (((Rl (fun _ => 1) F i ++ Lp N TT j) ++ opt (j : Int) (N j)) ++ opt ((j : Int) + 1) (TT j) = Rl (fun _ => 1) F i ++ Lp N TT (j + 1)) := by show _ = _; simp [Lp]
          generalize (Rl (fun _ => 1) F i ++ Lp N TT j) = L at *
          have x1 := P5.at 1
          simp at x1
          have r0 := R5.c0
          have r1 := R5.c1
          have r2 := R5.c2
          have r3 := R5.c3
          clear Ha Hb Hc hj lt
          go_wp2_with (first
            | (go_at_call 9; (have mk := S8); (refine (A2 _ S8).mono ?_); (rintro e w9 ⟨rfl, S9, E9⟩); (have P9 := E9.blk P8 NP.out.1 (by decide)); (have R9 := R8.adds E9 NP.out.2); (have p9 := p8.trans (Below.mono E9.below (by have := LO.out; omega))))
            | (go_at_call 16; (have mk := S7); (refine (BN _).mono ?_); (rintro e w8 ⟨rfl, b8⟩); (have S8 := S7.grow b8); (have P8 := P7.below b8 P7.lt); (have R8 := R7.grow b8); (have p8 := belT p7 b8))
            | (go_at_call 9; (have mk := S6); (refine (A1 _ S6).mono ?_); (rintro e w7 ⟨rfl, S7, E7⟩); (have P7 := E7.blk P6 NP.out.1 (by decide)); (have R7 := R6.adds E7 NP.out.2); (have p7 := p6.trans (Below.mono E7.below (by have := LO.out; omega))); (have x2 := P7.at 2); (simp at x2); (have r0 := R7.c0); (have r1 := R7.c1); (have r2 := R7.c2); (have r3 := R7.c3))
            | (go_at_call 17; (refine (AN _).mono ?_); (rintro e w6 ⟨rfl, b6⟩); (have S6 := S5.grow b6); (have P6 := P5.below b6 P5.lt); (have R6 := R5.grow b6); (have p6 := belT p5 b6))
            | fail)
          rw [EL.out] at S9
          go_roundw
          case rel => exact ⟨j + 1, HJ.out, rfl, S9, P9, R9, p9⟩
          case measure => simp [RowKit.intOf]; have := HJ.out; omega
        · obtain rfl : j = k := by omega
          have y1 : IntKind.i64.wrap ((j : Int) + 1) = (j : Int) + 1 := wrapI _ (by omega) (by have := HB.out; omega)
          have AN := fun x => Ha x (j : Int) (by omega) (by have := HB.out; omega)
          have BN := fun x => Hc x (j : Int) (by omega) (by have := HB.out; omega)
          have A1 := fun x s => add_c (j : Int) (N j) (Rl (fun _ => 1) F i ++ Lp N TT j) bx x s (by have := LB.out; have := HB.out; omega)
          have A2 := fun x s => add_c ((j : Int) + 1) (D j) ((Rl (fun _ => 1) F i ++ Lp N TT j) ++ opt (j : Int) (N j)) bx x s (by rw [List.length_append]; have := opt_len (j : Int) (N j); have := LB.out; have := HB.out; omega)
          have HL0 : ∃ L, Hid (Rl (fun _ => 1) F i ++ Lp N TT j = L) := ⟨_, rfl⟩
          obtain ⟨L, HL⟩ := HL0
          have hL := HL.out
          rw [hL] at S5
          simp only [hL] at A1 A2
          clear hL LB
          have x1 := P5.at 1
          simp at x1
          have r0 := R5.c0
          have r1 := R5.c1
          have r2 := R5.c2
          have r3 := R5.c3
          clear Ha Hb Hc hj lt
          go_wp2_with (first
            | (go_at_call 9; (have mk := S8); (refine (A2 _ S8).mono ?_); (rintro e w9 ⟨rfl, S9, E9⟩); (have p9 := p8.trans (Below.mono E9.below (by have := LO.out; omega))); (obtain ⟨v, bb, rr⟩ := S9); (have z0 := bb.at 0); (simp at z0))
            | (go_at_call 16; (have mk := S7); (refine (BN _).mono ?_); (rintro e w8 ⟨rfl, b8⟩); (have S8 := S7.grow b8); (have p8 := belT p7 b8))
            | (go_at_call 9; (have mk := S6); (refine (A1 _ S6).mono ?_); (rintro e w7 ⟨rfl, S7, E7⟩); (have P7 := E7.blk P6 NP.out.1 (by decide)); (have R7 := R6.adds E7 NP.out.2); (have p7 := p6.trans (Below.mono E7.below (by have := LO.out; omega))); (have x3 := P7.at 3); (simp at x3); (have r0 := R7.c0); (have r1 := R7.c1); (have r2 := R7.c2); (have r3 := R7.c3))
            | (go_at_call 17; (refine (AN _).mono ?_); (rintro e w6 ⟨rfl, b6⟩); (have S6 := S5.grow b6); (have P6 := P5.below b6 P5.lt); (have R6 := R5.grow b6); (have p6 := belT p5 b6))
            | fail)
          go_ret2
          rw [← HL.out] at rr
          exact ⟨v, rfl, own_mono (base := bx + 1) rr (by have := LO.out; omega), p9⟩
end Go.Proofs.Ytbfaebaoekimhaa.Vf
