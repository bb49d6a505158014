import Derived.Test.YtohdbpnkenoclabDoorDd3
import Derived.Deep.QuietTactic
import Derived.BigQuiet
namespace Go.Proofs.YtohdbpnkenoclabDoor.Dy
open Go.RowKit Tn
set_option maxRecDepth 100000 in
set_option maxHeartbeats 1600000 in
theorem dues_walk (y m d E c R : Int) (n : Nat) (f : Nat → Int × Int × Int) (hn : n ≤ 4096) (w : World) (G : Gl w) (A : ∀ W, Gl W → Calls Tryd.prog 11 #[dt y m d, .int .i64 E, .int .i64 c] W fun x w' => ∃ a cap, x = .returned (.tuple #[.slice a n cap, .int .i64 R]) ∧ (0 < n → ∃ g, a = some ⟨g, 0, none⟩ ∧ W.heap.size ≤ g ∧ n ≤ cap ∧ cap ≤ maxLen ∧ Rw w' g cap 0 n f) ∧ Below W.heap.size W w') (B : ∀ W, Gl W → Calls Tryd.prog 12 #[dt y m d, .int .i64 E, .int .i64 c] W fun x w' => ∃ a cap, x = .returned (.tuple #[.slice a n cap, .int .i64 R]) ∧ (0 < n → ∃ g, a = some ⟨g, 0, none⟩ ∧ W.heap.size ≤ g ∧ n ≤ cap ∧ cap ≤ maxLen ∧ Rw w' g cap 0 n f) ∧ Below W.heap.size W w') :
    Calls Tryd.prog 4 #[dt y m d, .int .i64 E, .int .i64 c] w fun x w' => x = .returned (.bool true) ∧ Below w.heap.size w w' := by
  have Ka0 := Blk.new w #[.int .i64 y, .int .i64 m, .int .i64 d] 23
  have pr := bl (w := w) #[.int .i64 y, .int .i64 m, .int .i64 d] 23
  have G0 := (G).alloc (.cells #[.int .i64 y, .int .i64 m, .int .i64 d] 23)
  clear G
  unfold dt at *
  go_enter Tryd.func4, Tryd.ntmps4
  go_wp2_with (first
    | (go_at_call 11; refine (A _ G1).mono ?_; rintro x w2 ⟨a2, cap2, rfl, X2, b2⟩; have Ka2 := Ka1.below b2 Ka1.lt; have ka20 := Ka2.c0; have ka21 := Ka2.c1; have ka22 := Ka2.c2; have ka2l := Ka2.lt; have G2 := G1.grow b2; have p2 := belT p1 b2)
    | (go_at_call 11; refine (A _ G0).mono ?_; rintro x w1 ⟨a1, cap1, rfl, X1, b1⟩; have Ka1 := Ka0.below b1 Ka0.lt; have ka10 := Ka1.c0; have ka11 := Ka1.c1; have ka12 := Ka1.c2; have ka1l := Ka1.lt; have G1 := G0.grow b1; have p1 := belT pr b1)
    | (go_at_call 12; refine (B _ G2).mono ?_; rintro x w3 ⟨a3, cap3, rfl, X3, b3⟩; have Ka3 := Ka2.below b3 Ka2.lt; have ka30 := Ka3.c0; have ka31 := Ka3.c1; have ka32 := Ka3.c2; have ka3l := Ka3.lt; have G3 := G2.grow b3; have p3 := belT p2 b3)
    | fail)
  by_cases h0 : 0 = n
  · subst h0
    go_loop [13] (fun t => t = .int .i64 0) (fun _ => 0)
    case atStart => rfl
    case round =>
      subst hrel
      go_wp2_with fail
      go_loop [14] (fun t => t = .int .i64 0) (fun _ => 0)
      case atStart => rfl
      case round =>
        subst hrel
        go_wp2_with fail
        go_ret
        exact ⟨rfl, p3⟩
  · have n0 : 0 < n := by clear X1 X2 X3; omega
    obtain ⟨g1, rfl, l1, c1, m1, r1⟩ := X1 n0
    obtain ⟨g2, rfl, l2, c2, m2, r2⟩ := X2 n0
    obtain ⟨g3, rfl, l3, c3, m3, r3⟩ := X3 n0
    have ne12 : g1 ≠ g2 := by have := r1.lt; omega
    have lt2 := b2.size
    have lt3 := b3.size
    have ne13 : g1 ≠ g3 := by have := r1.lt; omega
    have q1 := (r1.grow b2).grow b3
    have q2 := r2.grow b3
    have lw : w.heap.size ≤ g1 := by have := pr.size; omega
    clear X1 X2 X3 r1 r2 A B
    go_loopw [13] (fun t wr => ∃ i : Nat, i ≤ n ∧ t = .int .i64 (i : Int) ∧ Rw wr g1 cap1 i n f ∧ Rw wr g2 cap2 0 n f ∧ Rw wr g3 cap3 0 n f ∧ Below w.heap.size w wr) (fun t _ => ((n : Int) - RowKit.intOf t).toNat)
    case atStart => exact ⟨0, by omega, rfl, q1, q2, r3, p3⟩
    case round =>
      clear q1 q2 r3 p3
      obtain ⟨i, i1, rfl, q1, q2, q3, p⟩ := hrel
      by_cases ic : i < n
      · have ic' : (i : Int) < (n : Int) := by omega
        have in0 : (0 : Int) ≤ (i : Int) := by omega
        have it : ((i : Int)).toNat = i := by omega
        have e1 : IntKind.i64.wrap ((i : Int) + 1) = (i : Int) + 1 := wrapI _ (by omega) (by omega)
        obtain ⟨x0, x1, x2⟩ := q1.cells (Nat.le_refl i) ic
        obtain ⟨y0, y1, y2⟩ := q3.cells (Nat.zero_le i) ic
        have f0 := q1.free (i * 3)
        have f1 := q1.free (i * 3 + 1)
        have f2 := q1.free (i * 3 + 2)
        obtain ⟨⟨Y, M, D⟩, hf⟩ : ∃ z, f i = z := ⟨_, rfl⟩
        rw [hf] at x0 x1 x2 y0 y1 y2
        clear hf
        go_wp2_with fail
        go_quiet (fail)
        have Q1 : Rw (wr.drewN nq) g1 cap1 i n f := q1
        have Q2 : Rw (wr.drewN nq) g2 cap2 0 n f := q2
        have Q3 : Rw (wr.drewN nq) g3 cap3 0 n f := q3
        have P0 := blN (n := nq) p
        have X0 : (wr.drewN nq).cell? ⟨g1, i * 3, none⟩ = some (.int .i64 Y) := x0
        have X1 : (wr.drewN nq).cell? ⟨g1, i * 3 + 1, none⟩ = some (.int .i64 M) := x1
        have X2 : (wr.drewN nq).cell? ⟨g1, i * 3 + 2, none⟩ = some (.int .i64 D) := x2
        have F0 : (wr.drewN nq).frozen? ⟨g1, i * 3, none⟩ = false := f0
        have F1 : (wr.drewN nq).frozen? ⟨g1, i * 3 + 1, none⟩ = false := f1
        have F2 : (wr.drewN nq).frozen? ⟨g1, i * 3 + 2, none⟩ = false := f2
        clear q1 q2 q3 p x0 x1 x2 f0 f1 f2 y0 y1 y2
        generalize wr.drewN nq = V at *
        go_wp2_with fail
        go_roundw
        case rel => exact ⟨i + 1, by omega, by go_num, Q1.strike, Q2.skip3 ne12, Q3.skip3 ne13, bset P0 lw⟩
        case measure => simp [RowKit.intOf]; omega
      · obtain rfl : i = n := by omega
        clear q1
        go_wp2_with fail
        go_loopw [14] (fun t wr => ∃ j : Nat, j ≤ i ∧ t = .int .i64 (j : Int) ∧ Rw wr g2 cap2 0 i f ∧ Rw wr g3 cap3 0 i f ∧ Below w.heap.size w wr) (fun t _ => ((i : Int) - RowKit.intOf t).toNat)
        case atStart => exact ⟨0, by omega, rfl, q2, q3, p⟩
        case round =>
          clear q2 q3 p
          obtain ⟨j, j1, rfl, q2, q3, p⟩ := hrel
          by_cases jc : j < i
          · have jc' : (j : Int) < (i : Int) := by omega
            have jn0 : (0 : Int) ≤ (j : Int) := by omega
            have jt : ((j : Int)).toNat = j := by omega
            have e1 : IntKind.i64.wrap ((j : Int) + 1) = (j : Int) + 1 := wrapI _ (by omega) (by omega)
            obtain ⟨x0, x1, x2⟩ := q2.cells (Nat.zero_le j) jc
            obtain ⟨y0, y1, y2⟩ := q3.cells (Nat.zero_le j) jc
            obtain ⟨⟨Y, M, D⟩, hf⟩ : ∃ z, f j = z := ⟨_, rfl⟩
            rw [hf] at x0 x1 x2 y0 y1 y2
            clear hf
            go_wp2_with fail
            go_quiet (fail)
            have Q2 : Rw (wr.drewN nq) g2 cap2 0 i f := q2
            have Q3 : Rw (wr.drewN nq) g3 cap3 0 i f := q3
            have P0 := blN (n := nq) p
            clear q2 q3 p x0 x1 x2 y0 y1 y2
            generalize wr.drewN nq = V at *
            go_wp2_with fail
            go_roundw
            case rel => exact ⟨j + 1, by omega, by go_num, Q2, Q3, P0⟩
            case measure => simp [RowKit.intOf]; omega
          · go_wp2_with fail
            go_ret
            exact ⟨rfl, p⟩
theorem dues_law (y m d E c : Int) (w : World) (G : Gl w) : Calls Tryd.prog 4 #[dt y m d, .int .i64 E, .int .i64 c] w fun x w' => x = .returned (.bool true) ∧ Below w.heap.size w w' := by
  have nil : ∀ (R : Int) (w0 W' : World) (x : Ending) (fn : Nat → Int × Int × Int), x = .returned (.tuple #[.slice none 0 0, .int .i64 R]) ∧ Below w0.heap.size w0 W' → ∃ a cap, x = .returned (.tuple #[.slice a 0 cap, .int .i64 R]) ∧ ((0 : Nat) < 0 → ∃ g, a = some ⟨g, 0, none⟩ ∧ w0.heap.size ≤ g ∧ 0 ≤ cap ∧ cap ≤ maxLen ∧ Rw W' g cap 0 0 fn) ∧ Below w0.heap.size w0 W' :=
    fun R w0 W' x fn h => ⟨none, 0, h.1, fun k => absurd k (by omega), h.2⟩
  cases g : good y m d
  · exact dues_walk y m d E c 70 0 (du y m d E) (by omega) w G (fun W GW => (Dues_w0 y m d E c W GW g).mono fun x W' h => nil 70 W W' x _ h) (fun W GW => (RDues_w0 y m d E c W GW g).mono fun x W' h => nil 70 W W' x _ h)
  by_cases h : E < 1 ∨ 1200 < E ∨ c < 0 ∨ 4096 < c
  · exact dues_walk y m d E c 1 0 (du y m d E) (by omega) w G (fun W GW => (Dues_w1 y m d E c W GW g h).mono fun x W' h => nil 1 W W' x _ h) (fun W GW => (RDues_w1 y m d E c W GW g h).mono fun x W' h => nil 1 W W' x _ h)
  obtain ⟨k, rfl⟩ : ∃ k : Nat, c = k := ⟨c.toNat, by omega⟩
  by_cases ok : ∀ j : Nat, j < k → mo y m + E * j ≤ 119987
  · refine dues_walk y m d E k 0 k (du y m d E) (by omega) w G (fun W GW => (Dues_w2 y m d E k W GW g (by omega) (by omega) (by omega)).mono fun x W' h => ?_) (fun W GW => (RDues_w2 y m d E k W GW g (by omega) (by omega) (by omega)).mono fun x W' h => ?_)
    · rcases h with ⟨_, r, e, l, q, b⟩ | ⟨⟨j, j1, j2⟩, _⟩
      · exact ⟨_, _, e, fun _ => ⟨r, rfl, l, Nat.le_refl _, by unfold maxLen; omega, q⟩, b⟩
      · have := ok j j1; omega
    · rcases h with ⟨_, v, e, q, b⟩ | ⟨⟨j, j1, j2⟩, _⟩
      · rcases q with ⟨rfl, q⟩ | ⟨r, cap, rfl, l, c1, c2, q⟩
        · subst q
          exact ⟨none, 0, e, fun z => absurd z (by omega), b⟩
        · exact ⟨_, _, e, fun _ => ⟨r, rfl, l, c1, c2, q⟩, b⟩
      · have := ok j j1; omega
  · have no : ∃ j : Nat, j < k ∧ 119987 < mo y m + E * j := by
      refine Classical.byContradiction fun z => ok fun j j1 => ?_
      refine Classical.byContradiction fun z2 => z ⟨j, j1, by omega⟩
    obtain ⟨i, i1, i2⟩ := no
    refine dues_walk y m d E k 1 0 (du y m d E) (by omega) w G (fun W GW => (Dues_w2 y m d E k W GW g (by omega) (by omega) (by omega)).mono fun x W' h => ?_) (fun W GW => (RDues_w2 y m d E k W GW g (by omega) (by omega) (by omega)).mono fun x W' h => ?_)
    · rcases h with ⟨z, _⟩ | ⟨_, z⟩
      · have := z i i1; omega
      · exact nil 1 W W' x _ z
    · rcases h with ⟨z, _⟩ | ⟨_, z⟩
      · have := z i i1; omega
      · exact nil 1 W W' x _ z
end Go.Proofs.YtohdbpnkenoclabDoor.Dy
