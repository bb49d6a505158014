import Derived.Test.YtcjlpfglnbddjaaDoorMt6
namespace Dc
theorem pat (s : ByteArray) (E : Nat) (hE : E ≤ s.size) : ((s.extract 0 E).toList == [45, 48, 46, 48, 48]) = decide (E = 5 ∧ bt s 0 = 45 ∧ bt s 1 = 48 ∧ bt s 2 = 46 ∧ bt s 3 = 48 ∧ bt s 4 = 48) := by
  have e : (s.extract 0 E).toList = s.data.toList.take E := by
    rw [Go.ByteArray.toList_eq]
    simp
  rw [e, Bool.eq_iff_iff, beq_iff_eq, decide_eq_true_iff]
  have b : ∀ i, i < s.size → bt s i = (s.data.toList.getD i 0).toNat := fun i h => by
    rw [bt_in h, List.getD_eq_getElem?_getD, List.getElem?_eq_getElem (by simpa using h)]
    rfl
  have hl : s.data.toList.length = s.size := by simp
  generalize hL : s.data.toList = l at *
  constructor
  · intro h
    have h5 := congrArg List.length h
    rw [List.length_take, Nat.min_eq_left (by omega)] at h5
    have h5' : E = 5 := by simpa using h5
    subst h5'
    have d := List.take_append_drop 5 l
    rw [h] at d
    have g : ∀ i (hi : i < 5), bt s i = ([45, 48, 46, 48, 48][i]'(by simpa using hi) : UInt8).toNat := by
      intro i hi
      rw [b i (by omega)]
      have : l.getD i 0 = (l.take 5).getD i 0 := by simp [List.getD_eq_getElem?_getD, hi]
      rw [this, h, List.getD_eq_getElem?_getD, List.getElem?_eq_getElem (by simpa using hi)]
      rfl
    exact ⟨rfl, g 0 (by decide), g 1 (by decide), g 2 (by decide), g 3 (by decide), g 4 (by decide)⟩
  · rintro ⟨rfl, h0, h1, h2, h3, h4⟩
    rw [b 0 (by omega)] at h0
    rw [b 1 (by omega)] at h1
    rw [b 2 (by omega)] at h2
    rw [b 3 (by omega)] at h3
    rw [b 4 (by omega)] at h4
    match l, hl, hE with
    | a0 :: a1 :: a2 :: a3 :: a4 :: r, _, _ =>
      simp only [List.getD_cons_zero, List.getD_cons_succ] at h0 h1 h2 h3 h4
      have q0 : a0 = 45 := UInt8.toNat_inj.1 h0
      have q1 : a1 = 48 := UInt8.toNat_inj.1 h1
      have q2 : a2 = 46 := UInt8.toNat_inj.1 h2
      have q3 : a3 = 48 := UInt8.toNat_inj.1 h3
      have q4 : a4 = 48 := UInt8.toNat_inj.1 h4
      subst q0 q1 q2 q3 q4
      rfl
    | [a0, a1, a2, a3], hl, hE => simp at hl; omega
    | [a0, a1, a2], hl, hE => simp at hl; omega
    | [a0, a1], hl, hE => simp at hl; omega
    | [a0], hl, hE => simp at hl; omega
    | [], hl, hE => simp at hl; omega
/-- The pattern, where the point stands. -/
theorem pat_tw (s : ByteArray) (k : Nat) (hk : k ≤ 2) (hp : bt s (tw s) = 46) (hE : tw s + 1 + k ≤ s.size) : ((s.extract 0 (tw s + 1 + k)).toList == [45, 48, 46, 48, 48]) = (decide (k = 2) && nought s) := by
  rw [pat s _ hE, Bool.eq_iff_iff, decide_eq_true_iff]
  simp only [nought, Bool.and_eq_true, decide_eq_true_iff]
  have en : neg s = true ↔ bt s 0 = 45 := by simp [neg]
  constructor
  · rintro ⟨e5, h0, h1, h2, h3, h4⟩
    have hn := en.2 h0
    have hf : fr s = 1 := by unfold fr; rw [hn]; rfl
    have ht : tw s = 2 := by unfold tw; rw [hf, h1]; rfl
    rw [ht] at e5 ⊢
    rw [hf]
    exact ⟨by omega, ⟨⟨⟨hn, rfl⟩, h1⟩, h3⟩, h4⟩
  · rintro ⟨rfl, ⟨⟨⟨hn, ht⟩, hb⟩, h3⟩, h4⟩
    have hf : fr s = 1 := by unfold fr; rw [hn]; rfl
    rw [hf] at ht hb
    rw [ht] at h3 h4 hp ⊢
    exact ⟨rfl, en.1 hn, hb, hp, h3, h4⟩
end Dc
namespace Go.Proofs.YtcjlpfglnbddjaaDoor.Mo
open Go.RowKit Go.Lib Dc

theorem begin_any (s : ByteArray) (w : World) (hs : s.size ≤ 65536) :
    Calls Tryd.prog 13 #[.string s] w fun e w' => e = .returned (.tuple #[.int .i64 ((beg s).1 : Int), .bool (beg s).2]) ∧ Below w.heap.size w w' := by
  have hz : (rest s).size = s.size - fr s := by rw [rest_ex, ex_size]
  have hf := fr_le s
  have ht := tw_le s
  have C1 := fun W => CutSign_any s W (by omega)
  have D1 := fun W => digitsAhead_all (rest s) W (by omega)
  have en : nd (rest s) 0 = nd s (fr s) := by rw [rest_ex, nd_ex]
  simp only [en] at D1
  have H0 := fun W => HasPrefix_one (rest s) 48 W
  have eb : bt (rest s) 0 = bt s (fr s) := by rw [rest_ex, bt_ex, Nat.add_zero]
  simp only [eb, show (48 : UInt8).toNat = 48 from rfl] at H0
  have H1 := fun W => HasPrefix_one (s.extract (tw s) s.size) 46 W
  simp only [bt_ex, Nat.add_zero, show (46 : UInt8).toNat = 46 from rfl] at H1
  have D2 := fun W => digitsAhead_two s (tw s + 1) W (by omega)
  generalize hT : tw s = T at *
  by_cases hq : bt s (fr s) = 48
  · have eT : T = fr s + 1 := by rw [← hT]; unfold tw; rw [if_pos hq]
    simp only [hq, decide_true] at H0
    have hat : (s.size : Int) - ((rest s).size : Int) + 1 = (T : Int) := by omega
    by_cases hp : bt s T = 46
    · have hTs := lt_of_bt (s := s) (i := T) (by omega)
      simp only [hp, decide_true] at H1
      have hk : two s (T + 1) = if dgt s (T + 1) = true then (if dgt s (T + 1 + 1) = true then 2 else 1) else 0 := rfl
      have hpt := fun k h2 hE => pat_tw s k h2 (by rw [hT]; exact hp) hE
      rw [hT] at hpt
      have bg : beg s = if dgt s (T + 1) = false then (T + 1, false) else if dgt s (T + 2) = false ∨ nought s = true then (T + 2, false) else (T + 3, decide (T + 3 = s.size)) := by
        unfold beg; rw [hT, if_neg (by simp [hp]; omega)]
      by_cases d1 : dgt s (T + 1) = true
      · have l1 := dgt_lt d1
        by_cases d2 : dgt s (T + 2) = true
        · have l2 := dgt_lt d2
          have hk2 : two s (T + 1) = 2 := by rw [hk, if_pos d1, if_pos d2]
          rw [hk2] at D2
          have z := hpt 2 (by omega) (by omega)
          simp only [decide_true, Bool.true_and] at z
          rw [if_neg (by rw [d1]; simp)] at bg
          rcases hno : nought s with _ | _
          · rw [hno] at z
            rw [if_neg (by rw [d2, hno]; simp)] at bg
            rw [bg]
            have r := begin_Y1 s (rest s) (neg s) _ T 2 (T + 1 + 2) w hs (by omega) C1 D1 H0 hat ht H1 D2 (by omega) rfl (by omega) z rfl
            refine r.mono ?_
            rintro e w' ⟨rfl, b⟩
            refine ⟨?_, b⟩
            have : (((T + 1 + 2 : Nat) : Int) == (s.size : Int)) = decide (T + 3 = s.size) := by
              rw [Bool.eq_iff_iff, beq_iff_eq, decide_eq_true_iff]; omega
            rw [this]
          · rw [hno] at z
            rw [if_pos (Or.inr hno)] at bg
            rw [bg]
            refine (begin_Z1 s (rest s) (neg s) _ T 2 (T + 1 + 2) w hs (by omega) C1 D1 H0 hat ht H1 D2 (by omega) rfl (by omega) z).mono ?_
            rintro e w' ⟨rfl, b⟩
            refine ⟨?_, b⟩
            rw [show ((T + 1 + 2 : Nat) : Int) - 1 = ((T + 2 : Nat) : Int) from by omega]
        · have d2' : dgt s (T + 2) = false := by simpa using d2
          have hk2 : two s (T + 1) = 1 := by rw [hk, if_pos d1, if_neg d2]
          rw [hk2] at D2
          have z := hpt 1 (by omega) (by omega)
          rw [if_neg (by rw [d1]; simp), if_pos (Or.inl d2')] at bg
          rw [bg]
          exact begin_N1 s (rest s) (neg s) _ T 1 (T + 1 + 1) w hs (by omega) C1 D1 H0 hat ht H1 D2 (by omega) rfl (by omega) (by simpa using z) (by omega)
      · have d1' : dgt s (T + 1) = false := by simpa using d1
        have hk2 : two s (T + 1) = 0 := by rw [hk, if_neg d1]
        rw [hk2] at D2
        have z := hpt 0 (by omega) (by omega)
        rw [if_pos d1'] at bg
        rw [bg]
        exact begin_N1 s (rest s) (neg s) _ T 0 (T + 1 + 0) w hs (by omega) C1 D1 H0 hat ht H1 D2 (by omega) rfl (by omega) (by simpa using z) (by omega)
    · simp only [hp, decide_false] at H1
      have eb : beg s = (T, false) := by unfold beg; rw [hT, if_pos (Or.inr hp)]
      rw [eb]
      exact begin_B1 s (rest s) (neg s) _ T w hs (by omega) C1 D1 H0 hat ht H1
  · simp only [hq, decide_false] at H0
    have eT : T = fr s + nd s (fr s) := by rw [← hT]; unfold tw; rw [if_neg hq]
    by_cases hn : nd s (fr s) = 0
    · have eb : beg s = (T, false) := by unfold beg; rw [hT, if_pos (Or.inl (by omega))]
      rw [eb]
      refine (begin_A s (rest s) (neg s) _ w hs (by omega) C1 D1 H0 hn).mono ?_
      rintro e w' ⟨rfl, b⟩
      refine ⟨?_, b⟩
      rw [show (s.size : Int) - ((rest s).size : Int) = (T : Int) from by omega]
    have hat : (s.size : Int) - ((rest s).size : Int) + (nd s (fr s) : Int) = (T : Int) := by omega
    by_cases hp : bt s T = 46
    · have hTs := lt_of_bt (s := s) (i := T) (by omega)
      simp only [hp, decide_true] at H1
      have hk : two s (T + 1) = if dgt s (T + 1) = true then (if dgt s (T + 1 + 1) = true then 2 else 1) else 0 := rfl
      have hpt := fun k h2 hE => pat_tw s k h2 (by rw [hT]; exact hp) hE
      rw [hT] at hpt
      have bg : beg s = if dgt s (T + 1) = false then (T + 1, false) else if dgt s (T + 2) = false ∨ nought s = true then (T + 2, false) else (T + 3, decide (T + 3 = s.size)) := by
        unfold beg; rw [hT, if_neg (by simp [hp]; omega)]
      by_cases d1 : dgt s (T + 1) = true
      · have l1 := dgt_lt d1
        by_cases d2 : dgt s (T + 2) = true
        · have l2 := dgt_lt d2
          have hk2 : two s (T + 1) = 2 := by rw [hk, if_pos d1, if_pos d2]
          rw [hk2] at D2
          have z := hpt 2 (by omega) (by omega)
          simp only [decide_true, Bool.true_and] at z
          rw [if_neg (by rw [d1]; simp)] at bg
          rcases hno : nought s with _ | _
          · rw [hno] at z
            rw [if_neg (by rw [d2, hno]; simp)] at bg
            rw [bg]
            have r := begin_Y0 s (rest s) (neg s) _ T 2 (T + 1 + 2) w hs (by omega) C1 D1 H0 (by omega) hat ht H1 D2 (by omega) rfl (by omega) z rfl
            refine r.mono ?_
            rintro e w' ⟨rfl, b⟩
            refine ⟨?_, b⟩
            have : (((T + 1 + 2 : Nat) : Int) == (s.size : Int)) = decide (T + 3 = s.size) := by
              rw [Bool.eq_iff_iff, beq_iff_eq, decide_eq_true_iff]; omega
            rw [this]
          · rw [hno] at z
            rw [if_pos (Or.inr hno)] at bg
            rw [bg]
            refine (begin_Z0 s (rest s) (neg s) _ T 2 (T + 1 + 2) w hs (by omega) C1 D1 H0 (by omega) hat ht H1 D2 (by omega) rfl (by omega) z).mono ?_
            rintro e w' ⟨rfl, b⟩
            refine ⟨?_, b⟩
            rw [show ((T + 1 + 2 : Nat) : Int) - 1 = ((T + 2 : Nat) : Int) from by omega]
        · have d2' : dgt s (T + 2) = false := by simpa using d2
          have hk2 : two s (T + 1) = 1 := by rw [hk, if_pos d1, if_neg d2]
          rw [hk2] at D2
          have z := hpt 1 (by omega) (by omega)
          rw [if_neg (by rw [d1]; simp), if_pos (Or.inl d2')] at bg
          rw [bg]
          exact begin_N0 s (rest s) (neg s) _ T 1 (T + 1 + 1) w hs (by omega) C1 D1 H0 (by omega) hat ht H1 D2 (by omega) rfl (by omega) (by simpa using z) (by omega)
      · have d1' : dgt s (T + 1) = false := by simpa using d1
        have hk2 : two s (T + 1) = 0 := by rw [hk, if_neg d1]
        rw [hk2] at D2
        have z := hpt 0 (by omega) (by omega)
        rw [if_pos d1'] at bg
        rw [bg]
        exact begin_N0 s (rest s) (neg s) _ T 0 (T + 1 + 0) w hs (by omega) C1 D1 H0 (by omega) hat ht H1 D2 (by omega) rfl (by omega) (by simpa using z) (by omega)
    · simp only [hp, decide_false] at H1
      have eb : beg s = (T, false) := by unfold beg; rw [hT, if_pos (Or.inr hp)]
      rw [eb]
      exact begin_B0 s (rest s) (neg s) _ T w hs (by omega) C1 D1 H0 (by omega) hat ht H1
end Go.Proofs.YtcjlpfglnbddjaaDoor.Mo
