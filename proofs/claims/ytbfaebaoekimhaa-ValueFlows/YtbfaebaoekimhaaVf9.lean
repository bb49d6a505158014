import Derived.Test.YtbfaebaoekimhaaVf6
namespace Go.Proofs.Ytbfaebaoekimhaa.Vf
open Go.RowKit Tn

set_option maxRecDepth 100000 in
set_option maxHeartbeats 3200000 in
theorem RFlows_yes (K W T S E : Int) (k m : Nat) (P : Int → Int) (w : World) (hk : k ≤ 130) (hm : m ≤ 300) (hE : E + 1 = (m : Int)) (hWT : IntKind.i64.wrap (W + T) = E)
    (CH : ∀ x, Calls Try.prog 8 #[.agg #[.int .i64 K, .int .i64 W, .int .i64 T, .int .i64 S]] x fun e w' => e = .returned (.int .i64 0) ∧ Below x.heap.size x w')
    (PA : ∀ x (t : Nat), t < m → Calls Try.prog 13 #[.agg #[.int .i64 K, .int .i64 W, .int .i64 T, .int .i64 S], .int .i64 (k : Int), .int .i64 (t : Int)] x fun e w' => e = .returned (.int .i64 (P t)) ∧ Below x.heap.size x w') :
    Calls Try.prog 6 #[.agg #[.int .i64 K, .int .i64 W, .int .i64 T, .int .i64 S], .int .i64 (k : Int)] w fun e w' => ∃ v, e = .returned (.tuple #[v, .int .i64 0]) ∧ w'.ownsRow w.heap.size 34 2 v (Rl P 0 m).length (fc (Rl P 0 m)) ∧ Below w.heap.size w w' := by
  have K0 := Bb.new w K W T S
  have pr := bl (w := w) #[.int .i64 K, .int .i64 W, .int .i64 T, .int .i64 S] 23
  have q0 := K0.c0
  have q1 := K0.c1
  have q2 := K0.c2
  have q3 := K0.c3
  have k0 : (0 : Int) ≤ (k : Int) := by omega
  have k1 : (k : Int) ≤ 130 := by omega
  have HB : Hid (m ≤ 300 ∧ E + 1 = (m : Int)) := ⟨hm, hE⟩
  clear hk hm hE
  go_enter Try.func6, Try.ntmps6
  go_wp2_with (first
    | (go_at_call 8; (refine (CH _).mono ?_); (rintro e w1 ⟨rfl, b1⟩); (have K1 := K0.grow b1); (have p1 := belT pr b1))
    | fail)
  clear q0 q1 q2 q3 K0 pr b1
  obtain ⟨base, sz, lo⟩ : ∃ b, b ≤ w1.heap.size ∧ w.heap.size < b := ⟨_, Nat.le_refl _, K1.lt⟩
  have LO : Hid (w.heap.size < base) := lo
  clear lo CH
  go_loopw [7, 8] (fun l t wr => ∃ i : Nat, i ≤ m ∧ t = .int .i64 (i : Int) ∧ wr.ownsRow base 34 2 l (Rl P 0 i).length (fc (Rl P 0 i)) ∧ base ≤ wr.heap.size ∧ Bb wr w.heap.size K W T S ∧ Below w.heap.size w wr) (fun _ t _ => ((m : Int) - RowKit.intOf t).toNat)
  case atStart => exact ⟨0, by omega, rfl, ⟨rfl, Or.inl ⟨rfl, rfl⟩⟩, sz, K1, p1⟩
  case round =>
    clear K1 p1
    obtain ⟨i, hi, rfl, O1, s1, K1, p1⟩ := hrel
    have q0 := K1.c0
    have q1 := K1.c1
    have q2 := K1.c2
    have q3 := K1.c3
    by_cases lt : i < m
    · have y1 : IntKind.i64.wrap ((i : Int) + 1) = (i : Int) + 1 := wrapI _ (by omega) (by have := HB.out; omega)
      have i3 : (i : Int) ≤ E := by have := HB.out; omega
      have PP := fun x => PA x i lt
      have hlen : Hid ((Rl P 0 i).length ≤ 4096) := by have := Rl_len P 0 i; have := HB.out; show _ ≤ _; omega
      have HI : Hid (i + 1 ≤ m) := lt
      have EL : Hid (Rl P 0 (i + 1) = Rl P 0 i ++ opt (i : Int) (P i)) := by show _ = _; simp [Rl]
      obtain ⟨A, hA⟩ : ∃ A, P (i : Int) = A := ⟨_, rfl⟩
      rw [hA] at EL
      simp only [hA] at PP
      obtain ⟨L, hL⟩ : ∃ L, Rl P 0 i = L := ⟨_, rfl⟩
      rw [hL] at EL O1 hlen
      clear PA hA hL lt hi
      by_cases pos : 0 < A
      · have EO : Hid (opt (i : Int) A = [((i : Int), A)]) := if_pos pos
        go_wp2_with (first
          | (go_at_call 13; (refine (PP _).mono ?_); (rintro e w2 ⟨rfl, b2⟩); (have O2 := own_grow O1 b2); (have K2 := K1.grow b2); (have p2 := belT p1 b2); (have s2 := Nat.le_trans s1 b2.size))
          | (at_builtin; (refine push_flow rfl _ _ rfl _ L rfl base (own_grow O2 (bl _ _)) hlen.out _ _ (i : Int) A rfl (by simp) (by simp) (by simp; omega) ?_); (intro l' w3 O3 b3 _); (have p3 := (belT p2 (bl #[.int .i64 (i : Int), .int .i64 A] 34)).trans (Below.mono b3 (by have := LO.out; omega))); (have K3 : Bb w3 w.heap.size K W T S := Blk.below (K2.grow (bl #[.int .i64 (i : Int), .int .i64 A] 34)) b3 LO.out); (have s3 := Nat.le_trans s2 (Nat.le_trans (bl #[.int .i64 (i : Int), .int .i64 A] 34).size b3.size)))
          | fail)
        rw [← EO.out, ← EL.out] at O3
        go_roundw
        case rel => exact ⟨i + 1, HI.out, rfl, O3, s3, K3, p3⟩
        case measure => simp [RowKit.intOf]; have := HI.out; omega
      · have EO : Hid (opt (i : Int) A = []) := if_neg pos
        go_wp2_with (first
          | (go_at_call 13; (refine (PP _).mono ?_); (rintro e w2 ⟨rfl, b2⟩); (have O2 := own_grow O1 b2); (have K2 := K1.grow b2); (have p2 := belT p1 b2); (have s2 := Nat.le_trans s1 b2.size))
          | fail)
        have O3 := O2
        rw [← List.append_nil L, ← EO.out, ← EL.out] at O3
        go_roundw
        case rel => exact ⟨i + 1, HI.out, rfl, O3, s2, K2, p2⟩
        case measure => simp [RowKit.intOf]; have := HI.out; omega
    · obtain rfl : i = m := by omega
      have i3 : E < (i : Int) := by have := HB.out; omega
      clear PA
      go_wp2_with fail
      go_ret2
      exact ⟨_, rfl, own_mono O1 (by have := LO.out; omega), p1⟩
end Go.Proofs.Ytbfaebaoekimhaa.Vf
