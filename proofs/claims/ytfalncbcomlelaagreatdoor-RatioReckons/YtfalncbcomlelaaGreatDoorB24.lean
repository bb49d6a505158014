import Derived.Test.YtfalncbcomlelaaGreatDoorQc1
import Derived.Test.YtfalncbcomlelaaGreatDoorQc2
import Derived.Test.YtfalncbcomlelaaGreatDoorQc3
namespace Go.Proofs.YtfalncbcomlelaaGreatDoor.L
open Go.RowKit Tl

/-- How two exact numbers stand to each other. -/
def cmpR (r s : Rat) : Int := if r < s then -1 else if s < r then 1 else 0
theorem cmpR_eq (r s : Rat) : cmpR r s = cmp3 (r.num * s.den) (s.num * r.den) := by
  unfold cmpR cmp3
  simp only [Rat.lt_iff]
theorem sg3_num {xs : List Int} {r : Rat} (h : Wd xs) (n : Nm xs) (v : val xs = (r.num.natAbs : Int)) : sg3 (decide (r.num < 0)) xs.length = if r.num < 0 then -1 else if r.num = 0 then 0 else 1 := by
  unfold sg3
  have e : xs.length = 0 ↔ r.num = 0 := by
    constructor
    · intro k
      have : xs = [] := List.eq_nil_of_length_eq_zero k
      rw [this] at v
      rw [val_nil] at v
      omega
    · intro k
      have : val xs = 0 := by rw [v, k]; rfl
      rw [val_eq_zero h n] at this
      rw [this]; rfl
  by_cases c : r.num = 0
  · rw [if_pos (e.2 c), if_neg (by omega), if_pos c]
  · rw [if_neg (fun k => c (e.1 k))]
    by_cases d : r.num < 0
    · rw [if_pos d, decide_eq_true d, if_pos rfl]
    · rw [if_neg d, if_neg c, decide_eq_false d, if_neg (by simp)]
theorem neg_mul_of {a b : Int} (ha : a < 0) (hb : 0 < b) : a * b < 0 := by
  have := Int.mul_lt_mul_of_pos_right ha hb; omega
/-- Q's Cmp of the reference. -/
theorem QCmp_any (a b : Value) (r s : Rat) (K : Nat) (w : World) (ha : IsQ w a r) (hb : IsQ w b s) (hr : QS r K) (hs : QS s K) (hK : K ≤ 1000000000) :
    Calls Tryz.prog 45 #[a, b] w fun e w' => e = .returned (.int .i64 (cmpR r s)) ∧ Below w.heap.size w w' := by
  obtain ⟨A, B, p1, p2, c1, c2, rfl, h1, n1, v1, h2, n2, v2⟩ := ha
  obtain ⟨C, D, p3, p4, c3, c4, rfl, h3, n3, v3, h4, n4, v4⟩ := hb
  have l1 : A.length ≤ K := len_of_lt h1.1 n1 (by rw [v1]; exact hr.1)
  have l2 : B.length ≤ K := len_of_lt h2.1 n2 (by rw [v2]; exact hr.2)
  have l3 : C.length ≤ K := len_of_lt h3.1 n3 (by rw [v3]; exact hs.1)
  have l4 : D.length ≤ K := len_of_lt h4.1 n4 (by rw [v4]; exact hs.2)
  have s1 := sg3_num h1.1 n1 v1
  have s2 := sg3_num h3.1 n3 v3
  have dr := den_pos' r
  have ds := den_pos' s
  have f1 : (r.num < 0 → r.num * s.den < 0) ∧ (r.num = 0 → r.num * s.den = 0) ∧ (0 < r.num → 0 < r.num * s.den) := ⟨fun k => neg_mul_of k ds, fun k => by rw [k, Int.zero_mul], fun k => Int.mul_pos k ds⟩
  have f2 : (s.num < 0 → s.num * r.den < 0) ∧ (s.num = 0 → s.num * r.den = 0) ∧ (0 < s.num → 0 < s.num * r.den) := ⟨fun k => neg_mul_of k dr, fun k => by rw [k, Int.zero_mul], fun k => Int.mul_pos k dr⟩
  rw [cmpR_eq]
  by_cases e : sg3 (decide (r.num < 0)) A.length = sg3 (decide (s.num < 0)) C.length
  · have hs : (sg3 (decide (r.num < 0)) A.length != sg3 (decide (s.num < 0)) C.length) = false := by rw [e]; simp
    rw [s1, s2] at e
    by_cases ng : r.num < 0
    · have ng2 : s.num < 0 := by
        rw [if_pos ng] at e
        by_cases k : s.num < 0
        · exact k
        · rw [if_neg k] at e; split at e <;> omega
      have := qcmp_neg _ _ p1 p2 p3 p4 c1 c2 c3 c4 A B C D w h1 h2 h3 h4 (by omega) (by omega) (by omega) (by omega) hs (decide_eq_true ng)
      rw [v1, v2, v3, v4, show (r.num.natAbs : Int) * s.den = -(r.num * s.den) from by rw [← Int.neg_mul]; congr 1; omega, show (s.num.natAbs : Int) * r.den = -(s.num * r.den) from by rw [← Int.neg_mul]; congr 1; omega] at this
      have c : -cmp3 (-(r.num * s.den)) (-(s.num * r.den)) = cmp3 (r.num * s.den) (s.num * r.den) := by
        unfold cmp3
        generalize r.num * s.den = x
        generalize s.num * r.den = y
        by_cases k : x < y
        · rw [if_neg (show ¬ -x < -y by omega), if_pos (show -y < -x by omega), if_pos k]
        · by_cases k2 : y < x
          · rw [if_pos (show -x < -y by omega), if_neg k, if_pos k2]; rfl
          · rw [if_neg (show ¬ -x < -y by omega), if_neg (show ¬ -y < -x by omega), if_neg k, if_neg k2]; rfl
      rw [c] at this
      exact this
    · have ng2 : ¬ s.num < 0 := by
        rw [if_neg ng] at e
        intro k
        rw [if_pos k] at e; split at e <;> omega
      have := qcmp_pos _ _ p1 p2 p3 p4 c1 c2 c3 c4 A B C D w h1 h2 h3 h4 (by omega) (by omega) (by omega) (by omega) hs (decide_eq_false ng)
      rw [v1, v2, v3, v4, show (r.num.natAbs : Int) = r.num from by omega, show (s.num.natAbs : Int) = s.num from by omega] at this
      exact this
  · have hs : (sg3 (decide (r.num < 0)) A.length != sg3 (decide (s.num < 0)) C.length) = true := by rw [bne_iff_ne]; exact e
    by_cases l : sg3 (decide (r.num < 0)) A.length < sg3 (decide (s.num < 0)) C.length
    · have := qcmp_below _ _ p1 p2 p3 p4 c1 c2 c3 c4 A B C D w h1 h2 h3 h4 hs l
      rw [s1, s2] at l
      have k : r.num * s.den < s.num * r.den := by
        by_cases x1 : r.num < 0
        · have := f1.1 x1
          by_cases x2 : s.num < 0
          · rw [if_pos x1, if_pos x2] at l; omega
          · by_cases x3 : s.num = 0
            · have := f2.2.1 x3; omega
            · have := f2.2.2 (by omega); omega
        · rw [if_neg x1] at l
          by_cases x2 : s.num < 0
          · rw [if_pos x2] at l; split at l <;> omega
          · rw [if_neg x2] at l
            by_cases x3 : s.num = 0
            · rw [if_pos x3] at l; split at l <;> omega
            · by_cases x4 : r.num = 0
              · have := f1.2.1 x4; have := f2.2.2 (by omega); omega
              · rw [if_neg x3, if_neg x4] at l; omega
      unfold cmp3
      rw [if_pos k]
      exact this
    · have := qcmp_above _ _ p1 p2 p3 p4 c1 c2 c3 c4 A B C D w h1 h2 h3 h4 hs l
      rw [s1, s2] at l e
      have k : s.num * r.den < r.num * s.den := by
        by_cases x1 : s.num < 0
        · have := f2.1 x1
          by_cases x2 : r.num < 0
          · rw [if_pos x1, if_pos x2] at e; exact absurd rfl e
          · by_cases x3 : r.num = 0
            · have := f1.2.1 x3; omega
            · have := f1.2.2 (by omega); omega
        · rw [if_neg x1] at l e
          by_cases x2 : r.num < 0
          · rw [if_pos x2] at l; split at l <;> omega
          · rw [if_neg x2] at l e
            by_cases x3 : r.num = 0
            · rw [if_pos x3] at l e
              by_cases x4 : s.num = 0
              · rw [if_pos x4] at e; exact absurd rfl e
              · rw [if_neg x4] at l; omega
            · by_cases x4 : s.num = 0
              · have := f2.2.1 x4; have := f1.2.2 (by omega); omega
              · rw [if_neg x3, if_neg x4] at e; exact absurd rfl e
      unfold cmp3
      rw [if_neg (by omega), if_pos k]
      exact this
end Go.Proofs.YtfalncbcomlelaaGreatDoor.L
