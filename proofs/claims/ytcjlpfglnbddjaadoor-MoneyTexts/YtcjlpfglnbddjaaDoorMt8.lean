import Derived.Test.YtcjlpfglnbddjaaDoorMt7
import Derived.Lib.Replace
import Derived.Lib.AtoiAll
import Derived.Lib.CountLaws
namespace Dc
open Go.Lib

theorem num_cons (c : UInt8) (r : List UInt8) : num (c :: r) = (c.toNat - 48) * 10 ^ r.length + num r := by
  have := num_append [c] r
  rw [num_single] at this
  exact this
theorem parse_digits (l : List UInt8) (h : ∀ c ∈ l, Dg c) (acc : Nat) (ha : acc < 18446744073709551616) :
    parseUint10 acc l = if acc * 10 ^ l.length + num l < 18446744073709551616 then .ok (acc * 10 ^ l.length + num l) else .range := by
  induction l generalizing acc with
  | nil => simp [parseUint10, num, ha]
  | cons c r ih =>
    have hc := h c (by simp)
    unfold Dg at hc
    have p : 0 < 10 ^ r.length := Nat.pow_pos (by decide)
    rw [parseUint10, if_pos hc, num_cons, List.length_cons, Nat.pow_succ]
    have e : acc * (10 ^ r.length * 10) + ((c.toNat - 48) * 10 ^ r.length + num r) = (acc * 10 + (c.toNat - 48)) * 10 ^ r.length + num r := by grind
    rw [e]
    generalize hb : acc * 10 + (c.toNat - 48) = b
    have le : b ≤ b * 10 ^ r.length := Nat.le_mul_of_pos_right _ p
    by_cases h1 : 1844674407370955162 ≤ acc
    · rw [if_pos h1, if_neg (by omega)]
    · rw [if_neg h1]
      by_cases h2 : 18446744073709551616 ≤ b
      · rw [if_pos h2, if_neg (by omega)]
      · rw [if_neg h2]
        exact ih (fun c hc => h c (by simp [hc])) b (by omega)
theorem atoi_digits (l : List UInt8) (h : ∀ c ∈ l, Dg c) (ne : l ≠ []) : atoiAll l = if num l < 9223372036854775808 then .ok (num l : Int) else .range := by
  cases l with
  | nil => exact absurd rfl ne
  | cons c r =>
    have hc := h c (by simp)
    unfold Dg at hc
    have e : parseMag (c :: r) = if num (c :: r) < 18446744073709551616 then .ok (num (c :: r)) else .range := by
      unfold parseMag
      rw [if_neg (by simp), parse_digits _ h 0 (by decide)]
      simp
    unfold atoiAll
    simp only
    rw [if_neg (by omega), e]
    generalize num (c :: r) = n
    have hn : ¬ c.toNat = 45 := by omega
    by_cases h1 : n < 9223372036854775808
    · rw [if_pos (show n < 18446744073709551616 by omega), if_pos h1]
      simp [hn]
      omega
    · rw [if_neg h1]
      by_cases h2 : n < 18446744073709551616
      · rw [if_pos h2]
        simp [hn]
        omega
      · rw [if_neg h2]
theorem index_point (a b : List UInt8) (h : ∀ c ∈ a, c ≠ 46) : index (a ++ 46 :: b) [46] = (a.length : Int) := by
  induction a with
  | nil => simp [index, List.isPrefixOf]
  | cons c a ih =>
    have i := ih (fun c hc => h c (by simp [hc]))
    have hc := h c (by simp)
    rw [List.cons_append, index, if_neg (by simp [List.isPrefixOf]; exact fun e => hc e.symm), i, if_neg (by simp)]
    simp
theorem replace_point (a b : List UInt8) (h : ∀ c ∈ a, c ≠ 46) : replace (a ++ 46 :: b) [46] [] 1 = a ++ b := by
  have i := index_point a b h
  have c1 : 1 ≤ count (a ++ 46 :: b) [46] := by
    rw [Go.Lib.count_hit (by simp) i]
    omega
  unfold replace replaceNum
  rw [if_neg (by decide), if_neg (by omega), show (1 : Int).toNat = 0 + 1 from rfl, replaceK_hit _ _ _ _ _ i]
  simp [replaceK]
theorem beg_ok {s : ByteArray} (h : (beg s).2 = true) : tw s ≠ fr s ∧ bt s (tw s) = 46 ∧ dgt s (tw s + 1) = true ∧ dgt s (tw s + 2) = true ∧ nought s = false ∧ tw s + 3 = s.size := by
  unfold beg at h
  split at h
  · cases h
  · rename_i h1
    split at h
    · cases h
    · rename_i h2
      split at h
      · cases h
      · rename_i h3
        refine ⟨fun e => h1 (Or.inl e), ?_, by simpa using h2, ?_, ?_, by simpa using h⟩
        · by_cases c : bt s (tw s) = 46
          · exact c
          · exact absurd (Or.inr c) h1
        · by_cases c : dgt s (tw s + 2) = true
          · exact c
          · exact absurd (Or.inl (by simpa using c)) h3
        · by_cases c : nought s = true
          · exact absurd (Or.inr c) h3
          · simpa using c
theorem bt_list {s : ByteArray} {i : Nat} (h : i < s.data.toList.length) : bt s i = (s.data.toList[i]).toNat := bt_in (by simpa using h)
theorem split_at {s : ByteArray} (h : bt s (tw s) = 46) : s.data.toList = s.data.toList.take (tw s) ++ 46 :: s.data.toList.drop (tw s + 1) := by
  have hl : tw s < s.data.toList.length := by simpa using lt_of_bt (s := s) (i := tw s) (by omega)
  have e : s.data.toList[tw s] = 46 := UInt8.toNat_inj.1 (by rw [← bt_list hl]; exact h)
  have := List.take_append_drop (tw s) s.data.toList
  rw [List.drop_eq_getElem_cons hl, e] at this
  exact this.symm
theorem low_bt {s : ByteArray} {j : Nat} (h : j < fr s) : j = 0 ∧ bt s 0 = 45 ∧ neg s = true := by
  unfold fr at h
  split at h
  · rename_i hn
    exact ⟨by omega, by simpa [neg] using hn, hn⟩
  · omega
theorem no_point (s : ByteArray) : ∀ c ∈ s.data.toList.take (tw s), c ≠ 46 := by
  intro c hc e
  obtain ⟨j, hj, hjc⟩ := List.getElem_of_mem hc
  rw [List.length_take] at hj
  rw [List.getElem_take] at hjc
  have b := bt_list (s := s) (i := j) (by omega)
  rw [hjc, e] at b
  by_cases hf : j < fr s
  · obtain ⟨rfl, b0, _⟩ := low_bt hf
    rw [b0] at b
    cases b
  · have := tw_dgt s j (by omega) (by omega)
    simp [dgt, b] at this
theorem dg_of {s : ByteArray} {j : Nat} (h : j < s.data.toList.length) (hd : dgt s j = true) : Dg (s.data.toList[j]) := by
  simp only [dgt, decide_eq_true_iff, bt_list h] at hd
  exact hd
theorem digs_dg {s : ByteArray} (h : (beg s).2 = true) : ∀ c ∈ digs s, Dg c := by
  obtain ⟨h1, h2, h3, h4, h5, h6⟩ := beg_ok h
  have hl : s.data.toList.length = s.size := by simp
  intro c hc
  unfold digs at hc
  rcases List.mem_append.1 hc with hc | hc
  · obtain ⟨j, hj, rfl⟩ := List.getElem_of_mem hc
    rw [List.length_take, List.length_drop] at hj
    rw [List.getElem_take, List.getElem_drop]
    exact dg_of _ (tw_dgt s _ (by omega) (by omega))
  · obtain ⟨j, hj, rfl⟩ := List.getElem_of_mem hc
    rw [List.length_drop] at hj
    rw [List.getElem_drop]
    refine dg_of _ ?_
    match j, hj with
    | 0, _ => exact h3
    | 1, _ => exact h4
    | j + 2, hj => omega
theorem digs_ne {s : ByteArray} (h : (beg s).2 = true) : digs s ≠ [] := by
  obtain ⟨h1, h2, h3, h4, h5, h6⟩ := beg_ok h
  have hl : s.data.toList.length = s.size := by simp
  intro e
  have := congrArg List.length e
  unfold digs at this
  rw [List.length_append, List.length_drop] at this
  simp at this
  omega
/-- The text without its point. -/
def nop (s : ByteArray) : ByteArray := ⟨(s.data.toList.take (tw s) ++ s.data.toList.drop (tw s + 1)).toArray⟩
theorem nop_neg {s : ByteArray} (h : (beg s).2 = true) : neg (nop s) = neg s := by
  obtain ⟨h1, h2, h3, h4, h5, h6⟩ := beg_ok h
  have hf := fr_tw s
  have hl : s.data.toList.length = s.size := by simp
  unfold neg
  have e : bt (nop s) 0 = bt s 0 := by
    rw [bt_list (s := s) (i := 0) (by omega)]
    rw [bt_list (s := nop s) (i := 0) (by simp [nop]; omega)]
    simp only [nop]
    rw [List.getElem_append_left (by rw [List.length_take]; omega), List.getElem_take]
  rw [e]
theorem nop_rest {s : ByteArray} (h : (beg s).2 = true) : rest (nop s) = ⟨(digs s).toArray⟩ := by
  obtain ⟨h1, h2, h3, h4, h5, h6⟩ := beg_ok h
  have hf := fr_tw s
  have hl : s.data.toList.length = s.size := by simp
  rw [rest_ex]
  have ef : fr (nop s) = fr s := by unfold fr; rw [nop_neg h]
  rw [ef]
  apply ByteArray.ext
  apply Array.ext'
  unfold digs
  have hs : (nop s).size = (nop s).data.toList.length := by simp
  simp only [ByteArray.data_extract, Array.toList_extract, hs]
  simp only [nop]
  rw [List.extract_eq_take_drop, List.take_of_length_le (by simp), List.drop_append_of_le_length (by rw [List.length_take]; omega), List.drop_take]
theorem size_list (s : ByteArray) : s.size = s.data.toList.length := by rw [Array.length_toList]; rfl
theorem nop_size (s : ByteArray) : (nop s).size ≤ s.size := by
  rw [size_list, size_list s]
  show (s.data.toList.take (tw s) ++ s.data.toList.drop (tw s + 1)).length ≤ _
  rw [List.length_append, List.length_take, List.length_drop]
  omega
theorem digs_len (s : ByteArray) : (digs s).length ≤ s.size := by
  have a := fr_tw s
  have b := tw_le s
  unfold digs
  rw [List.length_append, List.length_take, List.length_drop, List.length_drop, ← size_list]
  omega
end Dc
