import Derived.Test.YtbfaebaoekimhaaVf12
namespace Go.Proofs.Ytbfaebaoekimhaa.Vf
open Go.RowKit Tn

/-- A row of payments, of which those from lo on are told. -/
def Rf (W : World) (g lo : Nat) (L : List (Int × Int)) : Prop :=
  ∃ cur : Array Value, Blk W g cur 34 ∧ ∀ i p, lo ≤ i → L[i]? = some p → cur[i * 2]? = some (.int .i64 p.1) ∧ cur[i * 2 + 1]? = some (.int .i64 p.2)
theorem Rf.lt {W : World} {g lo : Nat} {L : List (Int × Int)} (h : Rf W g lo L) : g < W.heap.size := by
  obtain ⟨cur, h1, _⟩ := h
  exact h1.lt
theorem Rf.grow {W W' : World} {g lo : Nat} {L : List (Int × Int)} (h : Rf W g lo L) (k : Below W.heap.size W W') : Rf W' g lo L := by
  obtain ⟨cur, h1, h2⟩ := h
  exact ⟨cur, h1.below k h1.lt, h2⟩
theorem Rf.at {W : World} {g lo : Nat} {L : List (Int × Int)} (h : Rf W g lo L) {i : Nat} {p : Int × Int} (h1 : lo ≤ i) (h2 : L[i]? = some p) : W.cell? ⟨g, i * 2, none⟩ = some (.int .i64 p.1) ∧ W.cell? ⟨g, i * 2 + 1, none⟩ = some (.int .i64 p.2) := by
  obtain ⟨cur, b, r⟩ := h
  have := r i p h1 h2
  exact ⟨(b.at _).trans this.1, (b.at _).trans this.2⟩
theorem Rf.free {W : World} {g lo : Nat} {L : List (Int × Int)} (h : Rf W g lo L) (i : Nat) : W.frozen? ⟨g, i, none⟩ = false := by
  obtain ⟨cur, b, _⟩ := h
  exact b.free i
theorem Rf.strike {W : World} {g lo : Nat} {L : List (Int × Int)} (h : Rf W g lo L) (y : Value) : Rf (W.setCell ⟨g, lo * 2, none⟩ y) g (lo + 1) L := by
  obtain ⟨cur, b, r⟩ := h
  refine ⟨_, bput b _ _, fun i p h1 h2 => ?_⟩
  have := r i p (by omega) h2
  rw [Array.getElem?_setIfInBounds, Array.getElem?_setIfInBounds, if_neg (by omega), if_neg (by omega)]
  exact this
theorem Rf.skip {W : World} {g lo b i : Nat} {L : List (Int × Int)} (h : Rf W g lo L) (hb : b ≠ g) (v : Value) : Rf (W.setCell ⟨b, i, none⟩ v) g lo L := by
  obtain ⟨cur, k, r⟩ := h
  refine ⟨cur, ?_, r⟩
  have k' : W.heap[g]? = some (.cells cur 34 (0, 0)) := k
  show (W.setCell ⟨b, i, none⟩ v).heap[g]? = _
  simp [World.setCell, Array.getElem?_modify, k', hb]
/-- What is owned: a slice; and where it lies, if it has members. -/
theorem own_row {W : World} {base : Nat} {v : Value} {L : List (Int × Int)} (h : W.ownsRow base 34 2 v L.length (fc L)) : ∃ a cap, v = .slice a L.length cap ∧ (0 < L.length → ∃ g, a = some ⟨g, 0, none⟩ ∧ base ≤ g ∧ L.length ≤ cap ∧ cap ≤ maxLen ∧ Rf W g 0 L) := by
  obtain ⟨_, h⟩ := h
  rcases h with ⟨h, e⟩ | ⟨g, cap, cur, h1, h2, h3, h4, h5, h6, h7⟩
  · exact ⟨none, 0, by rw [h, e], fun k => by omega⟩
  · refine ⟨_, cap, h1, fun _ => ⟨g, rfl, h2, h4, h5, cur, h3, fun i p _ hp => ?_⟩⟩
    have d := fc_get L i p hp
    have lt : i < L.length := by
      obtain ⟨x, _⟩ := List.getElem?_eq_some_iff.1 hp
      exact x
    have e : ∀ j, j < L.length * 2 → cur[j]? = (fc L)[j]? := fun j hj => by
      rw [← h7, List.getElem?_take_of_lt hj, Array.getElem?_toList]
    rw [e _ (by omega), e _ (by omega)]
    exact d
theorem names_c (w : World) : Calls Try.prog 4 #[] w fun e w' => e = .returned (.bool true) ∧ w' = w := by
  go_enter Try.func4, Try.ntmps4
  go_wp2_with fail
  go_ret
  exact ⟨rfl, rfl⟩
theorem blN' {w W : World} {n : Nat} (h : Below w.heap.size w W) : Below w.heap.size w (W.drewN n) := blN h
set_option maxRecDepth 100000 in
set_option maxHeartbeats 3200000 in
theorem law_walk (K W T S k R c : Int) (L : List (Int × Int)) (hL : L.length ≤ 4096) (w : World)
    (A : ∀ x, Calls Try.prog 5 #[.agg #[.int .i64 K, .int .i64 W, .int .i64 T, .int .i64 S], .int .i64 k] x (Po L R x)) (B : ∀ x, Calls Try.prog 6 #[.agg #[.int .i64 K, .int .i64 W, .int .i64 T, .int .i64 S], .int .i64 k] x (Po L R x))
    (C : ∀ x, Calls Try.prog 7 #[.agg #[.int .i64 K, .int .i64 W, .int .i64 T, .int .i64 S]] x fun e w' => e = .returned (.int .i64 c) ∧ Below x.heap.size x w') (D : ∀ x, Calls Try.prog 8 #[.agg #[.int .i64 K, .int .i64 W, .int .i64 T, .int .i64 S]] x fun e w' => e = .returned (.int .i64 c) ∧ Below x.heap.size x w') :
    Calls Try.prog 3 #[.agg #[.int .i64 K, .int .i64 W, .int .i64 T, .int .i64 S], .int .i64 k] w fun e w' => e = .returned (.bool true) ∧ Below w.heap.size w w' := by
  have A' : ∀ x, Calls Try.prog 5 #[.agg #[.int .i64 K, .int .i64 W, .int .i64 T, .int .i64 S], .int .i64 k] x fun e w' => ∃ a cap, e = .returned (.tuple #[.slice a L.length cap, .int .i64 R]) ∧ (0 < L.length → ∃ g, a = some ⟨g, 0, none⟩ ∧ x.heap.size ≤ g ∧ L.length ≤ cap ∧ cap ≤ maxLen ∧ Rf w' g 0 L) ∧ Below x.heap.size x w' := fun x => (A x).mono fun e w' ⟨v, h1, h2, h3⟩ => by
    obtain ⟨a, cap, rfl, h4⟩ := own_row h2
    exact ⟨a, cap, h1, h4, h3⟩
  have B' : ∀ x, Calls Try.prog 6 #[.agg #[.int .i64 K, .int .i64 W, .int .i64 T, .int .i64 S], .int .i64 k] x fun e w' => ∃ a cap, e = .returned (.tuple #[.slice a L.length cap, .int .i64 R]) ∧ (0 < L.length → ∃ g, a = some ⟨g, 0, none⟩ ∧ x.heap.size ≤ g ∧ L.length ≤ cap ∧ cap ≤ maxLen ∧ Rf w' g 0 L) ∧ Below x.heap.size x w' := fun x => (B x).mono fun e w' ⟨v, h1, h2, h3⟩ => by
    obtain ⟨a, cap, rfl, h4⟩ := own_row h2
    exact ⟨a, cap, h1, h4, h3⟩
  clear A B
  have K0 := Bb.new w K W T S
  have pr := bl (w := w) #[.int .i64 K, .int .i64 W, .int .i64 T, .int .i64 S] 23
  have q0 := K0.c0
  have q1 := K0.c1
  have q2 := K0.c2
  have q3 := K0.c3
  have GG : ∃ G : Nat → Int × Int, Hid (∀ i, i < L.length → L[i]? = some (G i)) := ⟨fun i => L.getD i (0, 0), fun i hi => by simp [hi]⟩
  obtain ⟨G, HG⟩ := GG
  obtain ⟨n, hn⟩ : ∃ n, L.length = n := ⟨_, rfl⟩
  rw [hn] at hL
  simp only [hn] at A' B' HG
  clear hn
  go_enter Try.func3, Try.ntmps3
  go_wp2_with (first
    | (go_at_call 4; (refine (names_c _).mono ?_); (rintro e w9 ⟨rfl, hw9⟩); subst w9)
    | (go_at_call 6; (have mk := p2); (refine (B' _).mono ?_); (rintro e w3 ⟨a3, cap3, rfl, X3, b3⟩); (have K3 := K2.grow b3); (have p3 := belT p2 b3); (have q0 := K3.c0); (have q1 := K3.c1); (have q2 := K3.c2); (have q3 := K3.c3))
    | (go_at_call 5; (have mk := p1); (refine (A' _).mono ?_); (rintro e w2 ⟨a2, cap2, rfl, X2, b2⟩); (have K2 := K1.grow b2); (have p2 := belT p1 b2); (have q0 := K2.c0); (have q1 := K2.c1); (have q2 := K2.c2); (have q3 := K2.c3))
    | (go_at_call 5; (refine (A' _).mono ?_); (rintro e w1 ⟨a1, cap1, rfl, X1, b1⟩); (have K1 := K0.grow b1); (have p1 := belT pr b1); (have q0 := K1.c0); (have q1 := K1.c1); (have q2 := K1.c2); (have q3 := K1.c3))
    | fail)
  go_region_held3 (fun x => x.cell? ⟨w.heap.size, 0, none⟩ = some (.int .i64 K) ∧ x.cell? ⟨w.heap.size, 1, none⟩ = some (.int .i64 W) ∧ x.cell? ⟨w.heap.size, 2, none⟩ = some (.int .i64 T) ∧ x.cell? ⟨w.heap.size, 3, none⟩ = some (.int .i64 S)) (first | exact ⟨y0, y1, y2, y3⟩ | exact ⟨x0, x1, x2, x3⟩ | go_keep) (first
    | (go_at_call 8; (have mk := p4); (refine (D _).mono ?_); (rintro e w5 ⟨rfl, b5⟩); (have K5 := K4.grow b5); (have p5 := belT p4 b5); (have y0 := K5.c0); (have y1 := K5.c1); (have y2 := K5.c2); (have y3 := K5.c3))
    | (go_at_call 7; (refine (C _).mono ?_); (rintro e w4 ⟨rfl, b4⟩); (have K4 := K3.grow (undrew b4)); (have p4 := belT p3 (undrew b4)); (have x0 := K4.c0); (have x1 := K4.c1); (have x2 := K4.c2); (have x3 := K4.c3))
    | fail)
  clear C D K0 pr q0 q1 q2 q3 K1 K2 K3 K4 p1 p2 p4 A' B' mk
  by_cases h0 : 0 = n
  · subst h0
    go_wp2_with fail
    go_loop [11] (fun t => t = .int .i64 0) (fun _ => 0)
    case atStart => rfl
    case round =>
      subst hrel
      go_wp2_with fail
      go_loop [12] (fun t => t = .int .i64 0) (fun _ => 0)
      case atStart => rfl
      case round =>
        subst hrel
        go_wp2_with fail
        go_ret
        exact ⟨rfl, p5⟩
  · have n0 : 0 < n := by clear X1 X2 X3; omega
    obtain ⟨g1, rfl, l1, c1, m1, r1⟩ := X1 n0
    obtain ⟨g2, rfl, l2, c2, m2, r2⟩ := X2 n0
    obtain ⟨g3, rfl, l3, c3, m3, r3⟩ := X3 n0
    have ne12 : g1 ≠ g2 := by have := r1.lt; omega
    have lt2 := b2.size
    have ne13 : g1 ≠ g3 := by have := r1.lt; omega
    have t1 := (((r1.grow b2).grow b3).grow (undrew b4)).grow b5
    have t2 := ((r2.grow b3).grow (undrew b4)).grow b5
    have t3 := (r3.grow (undrew b4)).grow b5
    have lw : w.heap.size ≤ g1 := by simp only [World.size_alloc] at l1; omega
    have HF : Hid (g1 ≠ g2 ∧ g1 ≠ g3 ∧ w.heap.size ≤ g1) := ⟨ne12, ne13, lw⟩
    clear X1 X2 X3 r1 r2 r3 b1 b2 b3 b4 b5 ne12 ne13 lw lt2 l1 l2 l3 p3
    go_wp2_with fail
    go_loopw [11] (fun t wr => ∃ i : Nat, i ≤ n ∧ t = .int .i64 (i : Int) ∧ Rf wr g1 i L ∧ Rf wr g2 0 L ∧ Rf wr g3 0 L ∧ Below w.heap.size w wr) (fun t _ => ((n : Int) - RowKit.intOf t).toNat)
    case atStart => exact ⟨0, by omega, rfl, t1, t2, t3, p5⟩
    case round =>
      clear t1 t2 t3 p5
      obtain ⟨i, i1, rfl, t1, t2, t3, p⟩ := hrel
      by_cases ic : i < n
      · have ic' : (i : Int) < (n : Int) := by omega
        have in0 : (0 : Int) ≤ (i : Int) := by omega
        have it : ((i : Int)).toNat = i := by omega
        have e1 : IntKind.i64.wrap ((i : Int) + 1) = (i : Int) + 1 := wrapI _ (by omega) (by omega)
        obtain ⟨x0, x1⟩ := t1.at (Nat.le_refl i) (HG.out i ic)
        obtain ⟨y0, y1⟩ := t3.at (Nat.zero_le i) (HG.out i ic)
        have f0 := t1.free (i * 2)
        obtain ⟨⟨Y, M⟩, hf⟩ : ∃ z, G i = z := ⟨_, rfl⟩
        rw [hf] at x0 x1 y0 y1
        clear hf
        go_wp2_with fail
        go_quiet (fail)
        have Q1 : Rf (wr.drewN nq) g1 i L := t1
        have Q2 : Rf (wr.drewN nq) g2 0 L := t2
        have Q3 : Rf (wr.drewN nq) g3 0 L := t3
        have P0 := blN (n := nq) p
        have X0 : (wr.drewN nq).cell? ⟨g1, i * 2, none⟩ = some (.int .i64 Y) := x0
        have F0 : (wr.drewN nq).frozen? ⟨g1, i * 2, none⟩ = false := f0
        clear t1 t2 t3 p x0 x1 f0 y0 y1
        generalize wr.drewN nq = V at *
        go_wp2_with fail
        go_roundw
        case rel => exact ⟨i + 1, by omega, by go_num, Q1.strike _, Q2.skip HF.out.1 _, Q3.skip HF.out.2.1 _, P0.setCell (p := ⟨g1, i * 2, none⟩) HF.out.2.2 _⟩
        case measure => simp [RowKit.intOf]; omega
      · obtain rfl : i = n := by omega
        clear t1
        go_wp2_with fail
        go_loopw [12] (fun t wr => ∃ j : Nat, j ≤ i ∧ t = .int .i64 (j : Int) ∧ Rf wr g2 0 L ∧ Rf wr g3 0 L ∧ Below w.heap.size w wr) (fun t _ => ((i : Int) - RowKit.intOf t).toNat)
        case atStart => exact ⟨0, by omega, rfl, t2, t3, p⟩
        case round =>
          clear t2 t3 p
          obtain ⟨j, j1, rfl, t2, t3, p⟩ := hrel
          by_cases jc : j < i
          · have jc' : (j : Int) < (i : Int) := by omega
            have jn0 : (0 : Int) ≤ (j : Int) := by omega
            have jt : ((j : Int)).toNat = j := by omega
            have e1 : IntKind.i64.wrap ((j : Int) + 1) = (j : Int) + 1 := wrapI _ (by omega) (by omega)
            obtain ⟨x0, x1⟩ := t2.at (Nat.zero_le j) (HG.out j jc)
            obtain ⟨y0, y1⟩ := t3.at (Nat.zero_le j) (HG.out j jc)
            obtain ⟨⟨Y, M⟩, hf⟩ : ∃ z, G j = z := ⟨_, rfl⟩
            rw [hf] at x0 x1 y0 y1
            clear hf
            go_wp2_with fail
            go_quiet (fail)
            have Q2 : Rf (wr.drewN nq) g2 0 L := t2
            have Q3 : Rf (wr.drewN nq) g3 0 L := t3
            have P0 := blN (n := nq) p
            clear t2 t3 p x0 x1 y0 y1
            generalize wr.drewN nq = V at *
            go_wp2_with fail
            go_roundw
            case rel => exact ⟨j + 1, by omega, by go_num, Q2, Q3, P0⟩
            case measure => simp [RowKit.intOf]; omega
          · go_wp2_with fail
            go_ret
            exact ⟨rfl, p⟩
theorem flows_law (K W T S k : Int) (w : World) : Calls Try.prog 3 #[.agg #[.int .i64 K, .int .i64 W, .int .i64 T, .int .i64 S], .int .i64 k] w fun e w' => e = .returned (.bool true) ∧ Below w.heap.size w w' := by
  obtain ⟨L, R, hL, A, B⟩ := both_any K W T S k
  exact law_walk K W T S k R _ L hL w A B (fun x => Check_any K W T S x) (fun x => RCheck_any K W T S x)
end Go.Proofs.Ytbfaebaoekimhaa.Vf
