/- Plain: the calendar's numbers; no Go here. -/
import Derived.Test.YteepjipecfdkoaaDoorProg
namespace Go.Proofs.YteepjipecfdkoaaDoor.Dy
def lp (y : Int) : Bool := (decide (y % 4 = 0) && !decide (y % 100 = 0)) || decide (y % 400 = 0)
def ml (l : Bool) (m : Int) : Int := if m = 2 then (if l then 29 else 28) else if m = 4 ∨ m = 6 ∨ m = 9 ∨ m = 11 then 30 else 31
def cu (l : Bool) (m : Int) : Int :=
  if m ≤ 1 then 0 else if m = 2 then 31 else
  (if m = 3 then 59 else if m = 4 then 90 else if m = 5 then 120 else if m = 6 then 151 else if m = 7 then 181 else if m = 8 then 212 else if m = 9 then 243 else if m = 10 then 273 else if m = 11 then 304 else if m = 12 then 334 else 365) + (if l then 1 else 0)
def sz (l : Bool) : Int := if l then 366 else 365
def hd (y : Int) : Int := 365 * (y - 1) + (y - 1) / 4 - (y - 1) / 100 + (y - 1) / 400
theorem hd_succ (y : Int) : hd (y + 1) = hd y + sz (lp y) := by
  unfold hd sz lp
  by_cases h4 : y % 4 = 0 <;> by_cases h1 : y % 100 = 0 <;> by_cases h0 : y % 400 = 0 <;> simp [h4, h1, h0] <;> omega
theorem twelve {m : Int} (h1 : 1 ≤ m) (h2 : m ≤ 12) : m = 1 ∨ m = 2 ∨ m = 3 ∨ m = 4 ∨ m = 5 ∨ m = 6 ∨ m = 7 ∨ m = 8 ∨ m = 9 ∨ m = 10 ∨ m = 11 ∨ m = 12 := by omega
theorem cu_succ (l : Bool) {m : Int} (h1 : 1 ≤ m) (h2 : m ≤ 12) : cu l (m + 1) = cu l m + ml l m := by
  rcases twelve h1 h2 with rfl | rfl | rfl | rfl | rfl | rfl | rfl | rfl | rfl | rfl | rfl | rfl <;> cases l <;> decide
theorem cu_end (l : Bool) : cu l 13 = sz l := by cases l <;> decide
theorem cu_one (l : Bool) : cu l 1 = 0 := by cases l <;> decide
theorem ml_bd (l : Bool) (m : Int) : 28 ≤ ml l m ∧ ml l m ≤ 31 := by
  unfold ml; split
  · cases l <;> decide
  · split <;> decide
/-- Days ahead of the k-th month. -/
def mn (k : Int) : Int := hd (k / 12 + 1) + cu (lp (k / 12 + 1)) (k % 12 + 1)
def mk (k : Int) : Int := ml (lp (k / 12 + 1)) (k % 12 + 1)
theorem mk_bd (k : Int) : 28 ≤ mk k ∧ mk k ≤ 31 := ml_bd _ _
theorem mn_succ (k : Int) : mn (k + 1) = mn k + mk k := by
  unfold mn mk
  by_cases h : k % 12 = 11
  · have e1 : (k + 1) / 12 + 1 = (k / 12 + 1) + 1 := by omega
    have e2 : (k + 1) % 12 + 1 = 1 := by omega
    rw [e1, e2, cu_one, hd_succ, h]
    have c1 : cu (lp (k / 12 + 1)) 13 = _ := cu_succ (lp (k / 12 + 1)) (m := 12) (by omega) (by omega)
    have c2 := cu_end (lp (k / 12 + 1))
    show _ = _ + cu (lp (k / 12 + 1)) 12 + ml (lp (k / 12 + 1)) 12
    omega
  · have e1 : (k + 1) / 12 = k / 12 := by omega
    have e2 : (k + 1) % 12 + 1 = (k % 12 + 1) + 1 := by omega
    rw [e1, e2, cu_succ _ (by omega) (by omega)]
    omega
theorem mn_add (j : Int) (n : Nat) : mn j + mk j ≤ mn (j + (n + 1 : Nat)) := by
  induction n with
  | zero => have := mn_succ j; show _ ≤ mn (j + 1); omega
  | succ n ih =>
    have e : j + ((n + 1 + 1 : Nat) : Int) = (j + ((n + 1 : Nat) : Int)) + 1 := by omega
    rw [e, mn_succ]
    have := mk_bd (j + ((n + 1 : Nat) : Int))
    omega
theorem mn_lt {j k : Int} (h : j < k) : mn j + mk j ≤ mn k := by
  have := mn_add j (k - j - 1).toNat
  have e : j + (((k - j - 1).toNat + 1 : Nat) : Int) = k := by omega
  rwa [e] at this
/-- The number of the date n months on. -/
def nu (k d : Int) : Int := mn k + min d (mk k)
def mp (j d k e : Int) : Int := if min d (mk k) > e then k - j - 1 else k - j
theorem mp_iff {j d k e n : Int} (hd : 1 ≤ d) (he : 1 ≤ e) (hk : e ≤ mk k) : nu (j + n) d ≤ mn k + e ↔ n ≤ mp j d k e := by
  unfold nu mp
  have b := mk_bd (j + n)
  rcases Int.lt_trichotomy (j + n) k with h | h | h
  · have := mn_lt h
    constructor
    · intro _; split <;> omega
    · intro _; omega
  · rw [h]; split <;> omega
  · have := mn_lt h
    constructor
    · intro _; omega
    · intro h; split at h <;> omega

/-- The month of a date, from the calendar's beginning on. -/
def mo (y m : Int) : Int := 12 * (y - 1) + (m - 1)
theorem mo_y {y m : Int} (h1 : 1 ≤ m) (h2 : m ≤ 12) : mo y m / 12 + 1 = y := by unfold mo; omega
theorem mo_m {y m : Int} (h1 : 1 ≤ m) (h2 : m ≤ 12) : mo y m % 12 + 1 = m := by unfold mo; omega
theorem mn_mo {y m : Int} (h1 : 1 ≤ m) (h2 : m ≤ 12) : mn (mo y m) = hd y + cu (lp y) m := by unfold mn; rw [mo_y h1 h2, mo_m h1 h2]
theorem mk_mo {y m : Int} (h1 : 1 ≤ m) (h2 : m ≤ 12) : mk (mo y m) = ml (lp y) m := by unfold mk; rw [mo_y h1 h2, mo_m h1 h2]
/-- A right date. -/
def good (y m d : Int) : Bool := decide (1 ≤ y ∧ y ≤ 9999 ∧ 1 ≤ m ∧ m ≤ 12 ∧ 1 ≤ d ∧ d ≤ ml (lp y) m)
theorem good_iff {y m d : Int} : good y m d = true ↔ 1 ≤ y ∧ y ≤ 9999 ∧ 1 ≤ m ∧ m ≤ 12 ∧ 1 ≤ d ∧ d ≤ ml (lp y) m := by simp [good]
/-- The number of a date. -/
def num (y m d : Int) : Int := hd y + cu (lp y) m + d
theorem num_mo {y m d : Int} (h1 : 1 ≤ m) (h2 : m ≤ 12) : num y m d = mn (mo y m) + d := by rw [mn_mo h1 h2]; rfl
theorem hd_bd {y : Int} (h : 1 ≤ y) : 365 * (y - 1) ≤ hd y ∧ hd y ≤ 366 * (y - 1) := by unfold hd; omega
theorem cu_bd (l : Bool) {m : Int} (h1 : 1 ≤ m) (h2 : m ≤ 12) : 0 ≤ cu l m ∧ cu l m + ml l m ≤ sz l := by
  rcases twelve h1 h2 with rfl | rfl | rfl | rfl | rfl | rfl | rfl | rfl | rfl | rfl | rfl | rfl <;> cases l <;> decide
/-- A number has one date at most. -/
theorem mn_inj {j d k e : Int} (h1 : 1 ≤ d) (h2 : d ≤ mk j) (h3 : 1 ≤ e) (h4 : e ≤ mk k) (h : mn j + d = mn k + e) : j = k ∧ d = e := by
  rcases Int.lt_trichotomy j k with g | g | g
  · have := mn_lt g; omega
  · subst g; exact ⟨rfl, by omega⟩
  · have := mn_lt g; omega
theorem num_inj {y m d y' m' d' : Int} (h : good y m d = true) (h' : good y' m' d' = true) (e : num y m d = num y' m' d') : y = y' ∧ m = m' ∧ d = d' := by
  obtain ⟨a1, a2, a3, a4, a5, a6⟩ := good_iff.1 h
  obtain ⟨b1, b2, b3, b4, b5, b6⟩ := good_iff.1 h'
  rw [num_mo a3 a4, num_mo b3 b4] at e
  obtain ⟨f, g⟩ := mn_inj a5 (by rw [mk_mo a3 a4]; exact a6) b5 (by rw [mk_mo b3 b4]; exact b6) e
  refine ⟨?_, ?_, g⟩ <;> unfold mo at f <;> omega
theorem sz_bd (l : Bool) : sz l = 365 ∨ sz l = 366 := by cases l <;> decide
theorem num_lo {y m d : Int} (h : good y m d = true) : 1 ≤ num y m d := by
  obtain ⟨a1, a2, a3, a4, a5, a6⟩ := good_iff.1 h
  have := hd_bd a1
  have := cu_bd (lp y) a3 a4
  unfold num; omega
theorem hd_le {y z : Int} (h : y ≤ z) : hd y ≤ hd z := by
  unfold hd; omega
theorem num_hi {y m d : Int} (h : good y m d = true) : num y m d ≤ 3652059 := by
  obtain ⟨a1, a2, a3, a4, a5, a6⟩ := good_iff.1 h
  have e := hd_succ y
  have := cu_bd (lp y) a3 a4
  have g := hd_le (show y + 1 ≤ 10000 by omega)
  have : hd 10000 = 3652059 := by decide
  unfold num; omega
end Go.Proofs.YteepjipecfdkoaaDoor.Dy
