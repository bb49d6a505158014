import Derived.Test.YthadighbhdekdaaDoorDt2
import Derived.Test.YthadighbhdekdaaDoorMt4
import Derived.Lib.AtoiAll
namespace Go.Proofs.YthadighbhdekdaaDoor.Dt
open Go.Lib Dc
theorem parse_digits (l : List UInt8) (h : ∀ c ∈ l, Dg c) (acc : Nat) (ha : acc < 18446744073709551616) :
    parseUint10 acc l = if acc * 10 ^ l.length + num l < 18446744073709551616 then .ok (acc * 10 ^ l.length + num l) else .range := by
  induction l generalizing acc with
  | nil => simp [parseUint10, num, ha]
  | cons c r ih =>
    have hc := h c (by simp)
    unfold Dg at hc
    have p : 0 < 10 ^ r.length := Nat.pow_pos (by decide)
    rw [parseUint10, if_pos hc, num_cons, List.length_cons, Nat.pow_succ]
    have e : acc * (10 ^ r.length * 10) + ((c.toNat - 48) * 10 ^ r.length + num r) = (acc * 10 + (c.toNat - 48)) * 10 ^ r.length + num r := by grind
    rw [e]
    generalize hb : acc * 10 + (c.toNat - 48) = b
    have le : b ≤ b * 10 ^ r.length := Nat.le_mul_of_pos_right _ p
    by_cases h1 : 1844674407370955162 ≤ acc
    · rw [if_pos h1, if_neg (by omega)]
    · rw [if_neg h1]
      by_cases h2 : 18446744073709551616 ≤ b
      · rw [if_pos h2, if_neg (by omega)]
      · rw [if_neg h2]
        exact ih (fun c hc => h c (by simp [hc])) b (by omega)
theorem atoi_digits (l : List UInt8) (h : ∀ c ∈ l, Dg c) (ne : l ≠ []) : atoiAll l = if num l < 9223372036854775808 then .ok (num l : Int) else .range := by
  cases l with
  | nil => exact absurd rfl ne
  | cons c r =>
    have hc := h c (by simp)
    unfold Dg at hc
    have e : parseMag (c :: r) = if num (c :: r) < 18446744073709551616 then .ok (num (c :: r)) else .range := by
      unfold parseMag
      rw [if_neg (by simp), parse_digits _ h 0 (by decide)]
      simp
    unfold atoiAll
    simp only
    rw [if_neg (by omega), e]
    generalize num (c :: r) = n
    have hn : ¬ c.toNat = 45 := by omega
    by_cases h1 : n < 9223372036854775808
    · rw [if_pos (show n < 18446744073709551616 by omega), if_pos h1]
      simp [hn]
      omega
    · rw [if_neg h1]
      by_cases h2 : n < 18446744073709551616
      · rw [if_pos h2]
        simp [hn]
        omega
      · rw [if_neg h2]
end Go.Proofs.YthadighbhdekdaaDoor.Dt
namespace Go.Proofs.YthadighbhdekdaaDoor.Dt
open Go.RowKit Go.Lib Go.Proofs.YthadighbhdekdaaDoor.Dy Dc
theorem Atoi_small (d : List UInt8) (hd : ∀ c ∈ d, Dg c) (ne : d ≠ []) (hl : d.length ≤ 18) (W : World) :
    Calls Tryd.prog 43 #[.string (bs d)] W fun e w' => e = .returned (.tuple #[.int .i64 (num d : Int), .nilIface]) ∧ Below W.heap.size W w' := by
  have hn : num d < 9223372036854775808 := by
    have := num_lt d hd
    have := Nat.pow_le_pow_right (show 0 < 10 by decide) hl
    have e : (10 : Nat) ^ 18 = 1000000000000000000 := by decide
    omega
  refine (Tryd.strconv_Atoi_ok (bs d) (by rw [bs_size]; omega) (num d : Int) ?_ W).mono ?_
  · show atoiAll d = _
    rw [atoi_digits d hd ne, if_pos hn]
  · rintro e w' ⟨rfl, h⟩
    refine ⟨rfl, ?_⟩
    rcases h with rfl | ⟨t, rfl⟩
    · exact Below.refl _ _
    · exact Lib.bytesWorld_below _ _ _
set_option maxHeartbeats 800000 in
set_option maxRecDepth 100000 in
theorem digitsOf_any (d : List UInt8) (hd : ∀ c ∈ d, Dg c) (ne : d ≠ []) (hl : d.length ≤ 18) (w : World) :
    Calls Tryd.prog 22 #[.string (bs d)] w fun e w' => e = .returned (.int .i64 (num d : Int)) ∧ Below w.heap.size w w' := by
  have A := Atoi_small d hd ne hl
  generalize bs d = S at *
  generalize (num d : Int) = N at *
  go_enter Tryd.func22, Tryd.ntmps22
  go_wp2_with (first
    | (go_at_call 43; refine (A _).mono ?_; rintro x w1 ⟨rfl, b1⟩)
    | fail)
  go_ret
  exact ⟨rfl, b1⟩
/-- Is the byte at a place of a date's text right? -/
def okb (s : ByteArray) (j : Nat) : Bool := if j = 4 ∨ j = 7 then decide (bt s j = 45) else dgt s j
def hf (s : ByteArray) : Bool := decide (s.size = 10) && (List.range 10).all (okb s)
theorem hf_yes {s : ByteArray} (h : ∀ j, j < 10 → okb s j = true) : (List.range 10).all (okb s) = true := by
  rw [List.all_eq_true]; intro x hx; exact h x (List.mem_range.1 hx)
theorem hf_no {s : ByteArray} {j : Nat} (h : j < 10) (k : okb s j = false) : (List.range 10).all (okb s) = false := by
  rw [Bool.eq_false_iff]; intro z; have := List.all_eq_true.1 z j (List.mem_range.2 h); rw [k] at this; cases this
theorem ten {k : Nat} (h : k < 10) : k = 0 ∨ k = 1 ∨ k = 2 ∨ k = 3 ∨ k = 4 ∨ k = 5 ∨ k = 6 ∨ k = 7 ∨ k = 8 ∨ k = 9 := by omega
theorem drewN_drewN (w : World) (a b : Nat) : (w.drewN a).drewN b = w.drewN (a + b) := by
  simp [World.drewN, Nat.add_assoc]
set_option maxHeartbeats 3200000 in
set_option maxRecDepth 100000 in
theorem hasForm_any (s : ByteArray) (w : World) : Calls Tryd.prog 21 #[.string s] w fun e w' => e = .returned (.bool (hf s)) ∧ ∃ q, w' = w.drewN q := by
  by_cases h0 : s.size = 10
  · have h0' : (s.size : Int) = 10 := by omega
    obtain ⟨R, hR⟩ : ∃ R, hf s = R := ⟨_, rfl⟩
    rw [hR]
    have HR : Hid ((List.range 10).all (okb s) = R) := by show _ = _; rw [← hR]; unfold hf; rw [decide_eq_true h0, Bool.true_and]
    clear hR
    go_enter Tryd.func21, Tryd.ntmps21
    go_wp2_with fail
    go_loopw [8] (fun t wr => ∃ (k : Nat) (q : Nat), k ≤ 10 ∧ t = .int .i64 (k : Int) ∧ Hid (∀ j, j < k → okb s j = true) ∧ wr = w.drewN q) (fun t _ => 10 - (RowKit.intOf t).toNat)
    case atStart => exact ⟨0, 0, by omega, rfl, fun j hj => absurd hj (by omega), rfl⟩
    case round =>
      obtain ⟨k, q, k1, rfl, hd, rfl⟩ := hrel
      by_cases kc : k < 10
      rcases ten kc with rfl | rfl | rfl | rfl | rfl | rfl | rfl | rfl | rfl | rfl
      · have B := bt_in (s := s) (i := 0) (by omega)
        by_cases b1 : bt s 0 < 48
        · have bi : (s[0].toNat : Int) < 48 := by rw [← B]; omega
          have bi2 : ((s[0].toNat : Int) != 48) = true := by rw [← B]; simp; omega
          have N : Hid (okb s 0 = false) := by show _ = _; unfold okb dgt; rw [if_neg (by omega)]; simp; omega
          clear B b1
          go_wp2_with fail
          go_quiet (fail)
          go_wp2_with fail
          go_ret
          refine ⟨?_, q + nq, by first | rfl | rw [drewN_drewN]⟩
          rw [← HR.out, hf_no (j := 0) (by omega) N.out]
          rfl
        by_cases b2 : 57 < bt s 0
        · have bi0 : (48 : Int) ≤ (s[0].toNat : Int) := by rw [← B]; omega
          have bi : (57 : Int) < (s[0].toNat : Int) := by rw [← B]; omega
          have bi3 : decide ((s[0].toNat : Int) ≤ 57) = false := decide_eq_false (by omega)
          have bi2 : ((s[0].toNat : Int) != 48) = true := by rw [← B]; simp; omega
          have N : Hid (okb s 0 = false) := by show _ = _; unfold okb dgt; rw [if_neg (by omega)]; simp; omega
          clear B b1 b2
          go_wp2_with fail
          go_quiet (fail)
          go_wp2_with fail
          go_ret
          refine ⟨?_, q + nq, by first | rfl | rw [drewN_drewN]⟩
          rw [← HR.out, hf_no (j := 0) (by omega) N.out]
          rfl
        · have bi : (48 : Int) ≤ (s[0].toNat : Int) := by rw [← B]; omega
          have bi2 : (s[0].toNat : Int) ≤ 57 := by rw [← B]; omega
          have N : Hid (∀ j, j < 0 + 1 → okb s j = true) := fun j hj => by
            by_cases c : j = 0
            · subst c; unfold okb dgt; rw [if_neg (by omega)]; simp; omega
            · exact hd.out j (by omega)
          clear B b1 b2
          go_wp2_with fail
          go_quiet (fail)
          go_wp2_with fail
          go_roundw
          case rel => exact ⟨0 + 1, q + nq, by omega, by go_num, N, by first | rfl | rw [drewN_drewN]⟩
          case measure => simp [RowKit.intOf]
      · have B := bt_in (s := s) (i := 1) (by omega)
        by_cases b1 : bt s 1 < 48
        · have bi : (s[1].toNat : Int) < 48 := by rw [← B]; omega
          have bi2 : ((s[1].toNat : Int) != 48) = true := by rw [← B]; simp; omega
          have N : Hid (okb s 1 = false) := by show _ = _; unfold okb dgt; rw [if_neg (by omega)]; simp; omega
          clear B b1
          go_wp2_with fail
          go_quiet (fail)
          go_wp2_with fail
          go_ret
          refine ⟨?_, q + nq, by first | rfl | rw [drewN_drewN]⟩
          rw [← HR.out, hf_no (j := 1) (by omega) N.out]
          rfl
        by_cases b2 : 57 < bt s 1
        · have bi0 : (48 : Int) ≤ (s[1].toNat : Int) := by rw [← B]; omega
          have bi : (57 : Int) < (s[1].toNat : Int) := by rw [← B]; omega
          have bi3 : decide ((s[1].toNat : Int) ≤ 57) = false := decide_eq_false (by omega)
          have bi2 : ((s[1].toNat : Int) != 48) = true := by rw [← B]; simp; omega
          have N : Hid (okb s 1 = false) := by show _ = _; unfold okb dgt; rw [if_neg (by omega)]; simp; omega
          clear B b1 b2
          go_wp2_with fail
          go_quiet (fail)
          go_wp2_with fail
          go_ret
          refine ⟨?_, q + nq, by first | rfl | rw [drewN_drewN]⟩
          rw [← HR.out, hf_no (j := 1) (by omega) N.out]
          rfl
        · have bi : (48 : Int) ≤ (s[1].toNat : Int) := by rw [← B]; omega
          have bi2 : (s[1].toNat : Int) ≤ 57 := by rw [← B]; omega
          have N : Hid (∀ j, j < 1 + 1 → okb s j = true) := fun j hj => by
            by_cases c : j = 1
            · subst c; unfold okb dgt; rw [if_neg (by omega)]; simp; omega
            · exact hd.out j (by omega)
          clear B b1 b2
          go_wp2_with fail
          go_quiet (fail)
          go_wp2_with fail
          go_roundw
          case rel => exact ⟨1 + 1, q + nq, by omega, by go_num, N, by first | rfl | rw [drewN_drewN]⟩
          case measure => simp [RowKit.intOf]
      · have B := bt_in (s := s) (i := 2) (by omega)
        by_cases b1 : bt s 2 < 48
        · have bi : (s[2].toNat : Int) < 48 := by rw [← B]; omega
          have bi2 : ((s[2].toNat : Int) != 48) = true := by rw [← B]; simp; omega
          have N : Hid (okb s 2 = false) := by show _ = _; unfold okb dgt; rw [if_neg (by omega)]; simp; omega
          clear B b1
          go_wp2_with fail
          go_quiet (fail)
          go_wp2_with fail
          go_ret
          refine ⟨?_, q + nq, by first | rfl | rw [drewN_drewN]⟩
          rw [← HR.out, hf_no (j := 2) (by omega) N.out]
          rfl
        by_cases b2 : 57 < bt s 2
        · have bi0 : (48 : Int) ≤ (s[2].toNat : Int) := by rw [← B]; omega
          have bi : (57 : Int) < (s[2].toNat : Int) := by rw [← B]; omega
          have bi3 : decide ((s[2].toNat : Int) ≤ 57) = false := decide_eq_false (by omega)
          have bi2 : ((s[2].toNat : Int) != 48) = true := by rw [← B]; simp; omega
          have N : Hid (okb s 2 = false) := by show _ = _; unfold okb dgt; rw [if_neg (by omega)]; simp; omega
          clear B b1 b2
          go_wp2_with fail
          go_quiet (fail)
          go_wp2_with fail
          go_ret
          refine ⟨?_, q + nq, by first | rfl | rw [drewN_drewN]⟩
          rw [← HR.out, hf_no (j := 2) (by omega) N.out]
          rfl
        · have bi : (48 : Int) ≤ (s[2].toNat : Int) := by rw [← B]; omega
          have bi2 : (s[2].toNat : Int) ≤ 57 := by rw [← B]; omega
          have N : Hid (∀ j, j < 2 + 1 → okb s j = true) := fun j hj => by
            by_cases c : j = 2
            · subst c; unfold okb dgt; rw [if_neg (by omega)]; simp; omega
            · exact hd.out j (by omega)
          clear B b1 b2
          go_wp2_with fail
          go_quiet (fail)
          go_wp2_with fail
          go_roundw
          case rel => exact ⟨2 + 1, q + nq, by omega, by go_num, N, by first | rfl | rw [drewN_drewN]⟩
          case measure => simp [RowKit.intOf]
      · have B := bt_in (s := s) (i := 3) (by omega)
        by_cases b1 : bt s 3 < 48
        · have bi : (s[3].toNat : Int) < 48 := by rw [← B]; omega
          have bi2 : ((s[3].toNat : Int) != 48) = true := by rw [← B]; simp; omega
          have N : Hid (okb s 3 = false) := by show _ = _; unfold okb dgt; rw [if_neg (by omega)]; simp; omega
          clear B b1
          go_wp2_with fail
          go_quiet (fail)
          go_wp2_with fail
          go_ret
          refine ⟨?_, q + nq, by first | rfl | rw [drewN_drewN]⟩
          rw [← HR.out, hf_no (j := 3) (by omega) N.out]
          rfl
        by_cases b2 : 57 < bt s 3
        · have bi0 : (48 : Int) ≤ (s[3].toNat : Int) := by rw [← B]; omega
          have bi : (57 : Int) < (s[3].toNat : Int) := by rw [← B]; omega
          have bi3 : decide ((s[3].toNat : Int) ≤ 57) = false := decide_eq_false (by omega)
          have bi2 : ((s[3].toNat : Int) != 48) = true := by rw [← B]; simp; omega
          have N : Hid (okb s 3 = false) := by show _ = _; unfold okb dgt; rw [if_neg (by omega)]; simp; omega
          clear B b1 b2
          go_wp2_with fail
          go_quiet (fail)
          go_wp2_with fail
          go_ret
          refine ⟨?_, q + nq, by first | rfl | rw [drewN_drewN]⟩
          rw [← HR.out, hf_no (j := 3) (by omega) N.out]
          rfl
        · have bi : (48 : Int) ≤ (s[3].toNat : Int) := by rw [← B]; omega
          have bi2 : (s[3].toNat : Int) ≤ 57 := by rw [← B]; omega
          have N : Hid (∀ j, j < 3 + 1 → okb s j = true) := fun j hj => by
            by_cases c : j = 3
            · subst c; unfold okb dgt; rw [if_neg (by omega)]; simp; omega
            · exact hd.out j (by omega)
          clear B b1 b2
          go_wp2_with fail
          go_quiet (fail)
          go_wp2_with fail
          go_roundw
          case rel => exact ⟨3 + 1, q + nq, by omega, by go_num, N, by first | rfl | rw [drewN_drewN]⟩
          case measure => simp [RowKit.intOf]
      · by_cases b : bt s 4 = 45
        · have B := bt_in (s := s) (i := 4) (by omega)
          have bi : (s[4].toNat : Int) = 45 := by rw [← B, b]; rfl
          have N : Hid (∀ j, j < 4 + 1 → okb s j = true) := fun j hj => by
            by_cases c : j = 4
            · subst c; unfold okb; rw [if_pos (by omega), decide_eq_true b]
            · exact hd.out j (by omega)
          clear B b
          go_wp2_with fail
          go_quiet (fail)
          go_wp2_with fail
          go_roundw
          case rel => exact ⟨4 + 1, q + nq, by omega, by go_num, N, by first | rfl | rw [drewN_drewN]⟩
          case measure => simp [RowKit.intOf]
        · have B := bt_in (s := s) (i := 4) (by omega)
          have bn : ¬ (s[4].toNat : Int) = 45 := by rw [← B]; omega
          have N : Hid (okb s 4 = false) := by show _ = _; unfold okb; rw [if_pos (by omega), decide_eq_false b]
          clear B b
          go_wp2_with fail
          go_quiet (fail)
          go_wp2_with fail
          case roundEnd =>
            rename_i h
            exact absurd ((bne_eq_false_iff_eq.1 h).trans rfl) bn
          go_ret
          refine ⟨?_, q + nq, by first | rfl | rw [drewN_drewN]⟩
          rw [← HR.out, hf_no (j := 4) (by omega) N.out]
          rfl
      · have B := bt_in (s := s) (i := 5) (by omega)
        by_cases b1 : bt s 5 < 48
        · have bi : (s[5].toNat : Int) < 48 := by rw [← B]; omega
          have bi2 : ((s[5].toNat : Int) != 48) = true := by rw [← B]; simp; omega
          have N : Hid (okb s 5 = false) := by show _ = _; unfold okb dgt; rw [if_neg (by omega)]; simp; omega
          clear B b1
          go_wp2_with fail
          go_quiet (fail)
          go_wp2_with fail
          go_ret
          refine ⟨?_, q + nq, by first | rfl | rw [drewN_drewN]⟩
          rw [← HR.out, hf_no (j := 5) (by omega) N.out]
          rfl
        by_cases b2 : 57 < bt s 5
        · have bi0 : (48 : Int) ≤ (s[5].toNat : Int) := by rw [← B]; omega
          have bi : (57 : Int) < (s[5].toNat : Int) := by rw [← B]; omega
          have bi3 : decide ((s[5].toNat : Int) ≤ 57) = false := decide_eq_false (by omega)
          have bi2 : ((s[5].toNat : Int) != 48) = true := by rw [← B]; simp; omega
          have N : Hid (okb s 5 = false) := by show _ = _; unfold okb dgt; rw [if_neg (by omega)]; simp; omega
          clear B b1 b2
          go_wp2_with fail
          go_quiet (fail)
          go_wp2_with fail
          go_ret
          refine ⟨?_, q + nq, by first | rfl | rw [drewN_drewN]⟩
          rw [← HR.out, hf_no (j := 5) (by omega) N.out]
          rfl
        · have bi : (48 : Int) ≤ (s[5].toNat : Int) := by rw [← B]; omega
          have bi2 : (s[5].toNat : Int) ≤ 57 := by rw [← B]; omega
          have N : Hid (∀ j, j < 5 + 1 → okb s j = true) := fun j hj => by
            by_cases c : j = 5
            · subst c; unfold okb dgt; rw [if_neg (by omega)]; simp; omega
            · exact hd.out j (by omega)
          clear B b1 b2
          go_wp2_with fail
          go_quiet (fail)
          go_wp2_with fail
          go_roundw
          case rel => exact ⟨5 + 1, q + nq, by omega, by go_num, N, by first | rfl | rw [drewN_drewN]⟩
          case measure => simp [RowKit.intOf]
      · have B := bt_in (s := s) (i := 6) (by omega)
        by_cases b1 : bt s 6 < 48
        · have bi : (s[6].toNat : Int) < 48 := by rw [← B]; omega
          have bi2 : ((s[6].toNat : Int) != 48) = true := by rw [← B]; simp; omega
          have N : Hid (okb s 6 = false) := by show _ = _; unfold okb dgt; rw [if_neg (by omega)]; simp; omega
          clear B b1
          go_wp2_with fail
          go_quiet (fail)
          go_wp2_with fail
          go_ret
          refine ⟨?_, q + nq, by first | rfl | rw [drewN_drewN]⟩
          rw [← HR.out, hf_no (j := 6) (by omega) N.out]
          rfl
        by_cases b2 : 57 < bt s 6
        · have bi0 : (48 : Int) ≤ (s[6].toNat : Int) := by rw [← B]; omega
          have bi : (57 : Int) < (s[6].toNat : Int) := by rw [← B]; omega
          have bi3 : decide ((s[6].toNat : Int) ≤ 57) = false := decide_eq_false (by omega)
          have bi2 : ((s[6].toNat : Int) != 48) = true := by rw [← B]; simp; omega
          have N : Hid (okb s 6 = false) := by show _ = _; unfold okb dgt; rw [if_neg (by omega)]; simp; omega
          clear B b1 b2
          go_wp2_with fail
          go_quiet (fail)
          go_wp2_with fail
          go_ret
          refine ⟨?_, q + nq, by first | rfl | rw [drewN_drewN]⟩
          rw [← HR.out, hf_no (j := 6) (by omega) N.out]
          rfl
        · have bi : (48 : Int) ≤ (s[6].toNat : Int) := by rw [← B]; omega
          have bi2 : (s[6].toNat : Int) ≤ 57 := by rw [← B]; omega
          have N : Hid (∀ j, j < 6 + 1 → okb s j = true) := fun j hj => by
            by_cases c : j = 6
            · subst c; unfold okb dgt; rw [if_neg (by omega)]; simp; omega
            · exact hd.out j (by omega)
          clear B b1 b2
          go_wp2_with fail
          go_quiet (fail)
          go_wp2_with fail
          go_roundw
          case rel => exact ⟨6 + 1, q + nq, by omega, by go_num, N, by first | rfl | rw [drewN_drewN]⟩
          case measure => simp [RowKit.intOf]
      · by_cases b : bt s 7 = 45
        · have B := bt_in (s := s) (i := 7) (by omega)
          have bi : (s[7].toNat : Int) = 45 := by rw [← B, b]; rfl
          have N : Hid (∀ j, j < 7 + 1 → okb s j = true) := fun j hj => by
            by_cases c : j = 7
            · subst c; unfold okb; rw [if_pos (by omega), decide_eq_true b]
            · exact hd.out j (by omega)
          clear B b
          go_wp2_with fail
          go_quiet (fail)
          go_wp2_with fail
          go_roundw
          case rel => exact ⟨7 + 1, q + nq, by omega, by go_num, N, by first | rfl | rw [drewN_drewN]⟩
          case measure => simp [RowKit.intOf]
        · have B := bt_in (s := s) (i := 7) (by omega)
          have bn : ¬ (s[7].toNat : Int) = 45 := by rw [← B]; omega
          have N : Hid (okb s 7 = false) := by show _ = _; unfold okb; rw [if_pos (by omega), decide_eq_false b]
          clear B b
          go_wp2_with fail
          go_quiet (fail)
          go_wp2_with fail
          case roundEnd =>
            rename_i h
            exact absurd ((bne_eq_false_iff_eq.1 h).trans rfl) bn
          go_ret
          refine ⟨?_, q + nq, by first | rfl | rw [drewN_drewN]⟩
          rw [← HR.out, hf_no (j := 7) (by omega) N.out]
          rfl
      · have B := bt_in (s := s) (i := 8) (by omega)
        by_cases b1 : bt s 8 < 48
        · have bi : (s[8].toNat : Int) < 48 := by rw [← B]; omega
          have bi2 : ((s[8].toNat : Int) != 48) = true := by rw [← B]; simp; omega
          have N : Hid (okb s 8 = false) := by show _ = _; unfold okb dgt; rw [if_neg (by omega)]; simp; omega
          clear B b1
          go_wp2_with fail
          go_quiet (fail)
          go_wp2_with fail
          go_ret
          refine ⟨?_, q + nq, by first | rfl | rw [drewN_drewN]⟩
          rw [← HR.out, hf_no (j := 8) (by omega) N.out]
          rfl
        by_cases b2 : 57 < bt s 8
        · have bi0 : (48 : Int) ≤ (s[8].toNat : Int) := by rw [← B]; omega
          have bi : (57 : Int) < (s[8].toNat : Int) := by rw [← B]; omega
          have bi3 : decide ((s[8].toNat : Int) ≤ 57) = false := decide_eq_false (by omega)
          have bi2 : ((s[8].toNat : Int) != 48) = true := by rw [← B]; simp; omega
          have N : Hid (okb s 8 = false) := by show _ = _; unfold okb dgt; rw [if_neg (by omega)]; simp; omega
          clear B b1 b2
          go_wp2_with fail
          go_quiet (fail)
          go_wp2_with fail
          go_ret
          refine ⟨?_, q + nq, by first | rfl | rw [drewN_drewN]⟩
          rw [← HR.out, hf_no (j := 8) (by omega) N.out]
          rfl
        · have bi : (48 : Int) ≤ (s[8].toNat : Int) := by rw [← B]; omega
          have bi2 : (s[8].toNat : Int) ≤ 57 := by rw [← B]; omega
          have N : Hid (∀ j, j < 8 + 1 → okb s j = true) := fun j hj => by
            by_cases c : j = 8
            · subst c; unfold okb dgt; rw [if_neg (by omega)]; simp; omega
            · exact hd.out j (by omega)
          clear B b1 b2
          go_wp2_with fail
          go_quiet (fail)
          go_wp2_with fail
          go_roundw
          case rel => exact ⟨8 + 1, q + nq, by omega, by go_num, N, by first | rfl | rw [drewN_drewN]⟩
          case measure => simp [RowKit.intOf]
      · have B := bt_in (s := s) (i := 9) (by omega)
        by_cases b1 : bt s 9 < 48
        · have bi : (s[9].toNat : Int) < 48 := by rw [← B]; omega
          have bi2 : ((s[9].toNat : Int) != 48) = true := by rw [← B]; simp; omega
          have N : Hid (okb s 9 = false) := by show _ = _; unfold okb dgt; rw [if_neg (by omega)]; simp; omega
          clear B b1
          go_wp2_with fail
          go_quiet (fail)
          go_wp2_with fail
          go_ret
          refine ⟨?_, q + nq, by first | rfl | rw [drewN_drewN]⟩
          rw [← HR.out, hf_no (j := 9) (by omega) N.out]
          rfl
        by_cases b2 : 57 < bt s 9
        · have bi0 : (48 : Int) ≤ (s[9].toNat : Int) := by rw [← B]; omega
          have bi : (57 : Int) < (s[9].toNat : Int) := by rw [← B]; omega
          have bi3 : decide ((s[9].toNat : Int) ≤ 57) = false := decide_eq_false (by omega)
          have bi2 : ((s[9].toNat : Int) != 48) = true := by rw [← B]; simp; omega
          have N : Hid (okb s 9 = false) := by show _ = _; unfold okb dgt; rw [if_neg (by omega)]; simp; omega
          clear B b1 b2
          go_wp2_with fail
          go_quiet (fail)
          go_wp2_with fail
          go_ret
          refine ⟨?_, q + nq, by first | rfl | rw [drewN_drewN]⟩
          rw [← HR.out, hf_no (j := 9) (by omega) N.out]
          rfl
        · have bi : (48 : Int) ≤ (s[9].toNat : Int) := by rw [← B]; omega
          have bi2 : (s[9].toNat : Int) ≤ 57 := by rw [← B]; omega
          have N : Hid (∀ j, j < 9 + 1 → okb s j = true) := fun j hj => by
            by_cases c : j = 9
            · subst c; unfold okb dgt; rw [if_neg (by omega)]; simp; omega
            · exact hd.out j (by omega)
          clear B b1 b2
          go_wp2_with fail
          go_quiet (fail)
          go_wp2_with fail
          go_roundw
          case rel => exact ⟨9 + 1, q + nq, by omega, by go_num, N, by first | rfl | rw [drewN_drewN]⟩
          case measure => simp [RowKit.intOf]
      · obtain rfl : k = 10 := by omega
        go_wp2_with fail
        go_ret
        refine ⟨?_, q, rfl⟩
        rw [← HR.out, hf_yes hd.out]
        rfl
  · have h0' : ((s.size : Int) != 10) = true := by simp; omega
    have R : hf s = false := by unfold hf; rw [decide_eq_false h0]; rfl
    rw [R]
    clear R
    go_enter Tryd.func21, Tryd.ntmps21
    go_wp2_with fail
    go_ret
    exact ⟨rfl, 0, rfl⟩
end Go.Proofs.YthadighbhdekdaaDoor.Dt

namespace Go.Proofs.YthadighbhdekdaaDoor.Dt
open Go.RowKit Go.Lib Go.Proofs.YthadighbhdekdaaDoor.Dy Dc
/-- The number of the digits of s from a on, so far as b. -/
def nv (s : ByteArray) (a b : Nat) : Int := (num ((s.data.toList.drop a).take (b - a)) : Int)
/-- What is told of a text. -/
def psR (s : ByteArray) : Value :=
  if s.size > 65536 then .tuple #[dt 0 0 0, .int .i64 3] else if hf s then (if good (nv s 0 4) (nv s 5 7) (nv s 8 10) then .tuple #[dt (nv s 0 4) (nv s 5 7) (nv s 8 10), .int .i64 0] else .tuple #[dt 0 0 0, .int .i64 70]) else .tuple #[dt 0 0 0, .int .i64 2]
theorem nv_0 (s : ByteArray) (a : Nat) : nv s a a = 0 := by simp [nv, Dc.num]
theorem nv_more (s : ByteArray) (a k : Nat) (ha : a ≤ k) (hk : k < s.size) (hd : 48 ≤ bt s k) : nv s a (k + 1) = nv s a k * 10 + ((bt s k : Int) - 48) := by
  have hk' : k < s.data.toList.length := by simpa using hk
  unfold nv
  rw [show k + 1 - a = (k - a) + 1 by omega, num_take _ _ (by simp; omega)]
  have e : (s.data.toList.drop a)[k - a]'(by simp; omega) = s.data.toList[k] := by
    rw [List.getElem_drop]; congr 1; omega
  rw [e]
  have b : bt s k = (s.data.toList[k]).toNat := bt_in hk
  omega
theorem nv_bd (s : ByteArray) (a k : Nat) (n : Nat) (hn : k - a ≤ n) (hd : ∀ j, a ≤ j → j < k → 48 ≤ bt s j ∧ bt s j ≤ 57) (hk : k ≤ s.size) (ha : a ≤ k) : 0 ≤ nv s a k ∧ nv s a k < 10 ^ n := by
  unfold nv
  refine ⟨by omega, ?_⟩
  have l : ((s.data.toList.drop a).take (k - a)).length = k - a := by
    have : s.size = s.data.toList.length := by rw [Array.length_toList]; rfl
    simp; omega
  have := num_lt ((s.data.toList.drop a).take (k - a)) (fun c hc => ?_)
  · rw [l] at this
    have p := Nat.pow_le_pow_right (show 0 < 10 by decide) hn
    have : num ((s.data.toList.drop a).take (k - a)) < 10 ^ n := by omega
    exact_mod_cast this
  · obtain ⟨i, hi, rfl⟩ := List.getElem_of_mem hc
    have hi' : i < k - a := by rw [l] at hi; exact hi
    have sl : s.size = s.data.toList.length := by rw [Array.length_toList]; rfl
    have := hd (a + i) (by omega) (by omega)
    rw [bt_in (by omega)] at this
    simp only [List.getElem_take, List.getElem_drop]
    exact this
end Go.Proofs.YthadighbhdekdaaDoor.Dt
