/- Plain: each number has its date. -/
import Derived.Test.YteepjipecfdkoaaDoorDy3
namespace Go.Proofs.YteepjipecfdkoaaDoor.Dy

theorem cu_12 (l : Bool) : cu l 12 + ml l 12 = sz l := by cases l <;> decide
/-- The next day. -/
def nx (p : Int × Int × Int) : Int × Int × Int :=
  if p.2.2 < ml (lp p.1) p.2.1 then (p.1, p.2.1, p.2.2 + 1) else if p.2.1 < 12 then (p.1, p.2.1 + 1, 1) else (p.1 + 1, 1, 1)
/-- The day with the number n + 1. -/
def dn : Nat → Int × Int × Int
  | 0 => (1, 1, 1)
  | n + 1 => nx (dn n)
theorem date_of (n : Nat) (h : n + 1 ≤ 3652059) : good (dn n).1 (dn n).2.1 (dn n).2.2 = true ∧ num (dn n).1 (dn n).2.1 (dn n).2.2 = (n : Int) + 1 := by
  induction n with
  | zero => exact ⟨by decide, by decide⟩
  | succ n ih =>
    obtain ⟨g, e⟩ := ih (by omega)
    show good (nx (dn n)).1 (nx (dn n)).2.1 (nx (dn n)).2.2 = true ∧ num (nx (dn n)).1 (nx (dn n)).2.1 (nx (dn n)).2.2 = _
    generalize dn n = p at *
    obtain ⟨y, m, d⟩ := p
    simp only at g e
    obtain ⟨a1, a2, a3, a4, a5, a6⟩ := good_iff.1 g
    by_cases c : d < ml (lp y) m
    · rw [show nx (y, m, d) = (y, m, d + 1) by simp [nx, c]]
      exact ⟨good_iff.2 ⟨a1, a2, a3, a4, by simp only; omega, by simp only; omega⟩, by unfold num at *; simp only; omega⟩
    by_cases f : m < 12
    · rw [show nx (y, m, d) = (y, m + 1, 1) by simp [nx, c, f]]
      refine ⟨good_iff.2 ⟨a1, a2, by simp only; omega, by simp only; omega, by simp only; omega, ?_⟩, ?_⟩
      · have := ml_bd (lp y) (m + 1); simp only; omega
      · unfold num at *; simp only; rw [cu_succ _ a3 a4]; omega
    obtain rfl : m = 12 := by omega
    rw [show nx (y, 12, d) = (y + 1, 1, 1) by simp [nx, c]]
    have s := hd_succ y
    have t := cu_12 (lp y)
    by_cases k : y < 9999
    · refine ⟨good_iff.2 ⟨by simp only; omega, by simp only; omega, by simp only; omega, by simp only; omega, by simp only; omega, ?_⟩, ?_⟩
      · have := ml_bd (lp (y + 1)) 1; simp only; omega
      · unfold num at *; simp only; rw [cu_one]; omega
    · obtain rfl : y = 9999 := by omega
      exfalso
      have : hd (9999 + 1) = 3652059 := by decide
      unfold num at e
      omega
/-- The date of a number. -/
def fr (n : Int) : Int × Int × Int := if 1 ≤ n ∧ n ≤ 3652059 then dn (n - 1).toNat else (0, 0, 0)
def fy (n : Int) : Int := (fr n).1
def fm (n : Int) : Int := (fr n).2.1
def fd (n : Int) : Int := (fr n).2.2
theorem nr_iff {n : Int} : nr n = true ↔ 1 ≤ n ∧ n ≤ 3652059 := by simp [nr]
theorem fr_good {n : Int} (h : nr n = true) : good (fy n) (fm n) (fd n) = true ∧ num (fy n) (fm n) (fd n) = n := by
  have g := nr_iff.1 h
  obtain ⟨a, b⟩ := date_of (n - 1).toNat (by omega)
  have e : fr n = dn (n - 1).toNat := by unfold fr; rw [if_pos g]
  unfold fy fm fd
  rw [e]
  exact ⟨a, by rw [b]; omega⟩
theorem fr_bad {n : Int} (h : nr n = false) : fy n = 0 ∧ fm n = 0 ∧ fd n = 0 := by
  have H : ¬ (1 ≤ n ∧ n ≤ 3652059) := fun k => by rw [nr_iff.2 k] at h; cases h
  have e : fr n = (0, 0, 0) := by unfold fr; rw [if_neg H]
  unfold fy fm fd
  rw [e]
  exact ⟨rfl, rfl, rfl⟩
theorem nr_num {y m d : Int} (h : good y m d = true) : nr (num y m d) = true := nr_iff.2 ⟨num_lo h, num_hi h⟩
theorem fr_num {y m d : Int} (h : good y m d = true) : fy (num y m d) = y ∧ fm (num y m d) = m ∧ fd (num y m d) = d := by
  obtain ⟨a, b⟩ := fr_good (nr_num h)
  exact num_inj a h b
theorem hd_lt {y z : Int} (h : y < z) : hd y < hd z := by
  unfold hd; omega
/-- What the loops over years and months look at. -/
theorem fr_year {n z : Int} (h : nr n = true) (hz : z ≤ fy n) : hd (z + 1) < n ↔ z < fy n := by
  obtain ⟨g, e⟩ := fr_good h
  obtain ⟨a1, a2, a3, a4, a5, a6⟩ := good_iff.1 g
  have c := cu_bd (lp (fy n)) a3 a4
  have s := hd_succ (fy n)
  unfold num at e
  constructor
  · intro k
    by_cases l : z = fy n
    · rw [l] at k; omega
    · omega
  · intro k
    have := hd_le (show z + 1 ≤ fy n by omega)
    omega
theorem fr_first {n z : Int} (h : nr n = true) (hz : hd z < n) : z ≤ fy n := by
  obtain ⟨g, e⟩ := fr_good h
  obtain ⟨a1, a2, a3, a4, a5, a6⟩ := good_iff.1 g
  have c := cu_bd (lp (fy n)) a3 a4
  have s := hd_succ (fy n)
  unfold num at e
  by_cases k : z ≤ fy n
  · exact k
  · have := hd_le (show fy n + 1 ≤ z by omega)
    omega
theorem cu_add (l : Bool) {z m : Int} (h1 : 1 ≤ z) (h2 : z < m) (h3 : m ≤ 12) : cu l z + ml l z ≤ cu l m := by
  rcases twelve h1 (by omega) with rfl | rfl | rfl | rfl | rfl | rfl | rfl | rfl | rfl | rfl | rfl | rfl <;>
  rcases twelve (m := m) (by omega) h3 with rfl | rfl | rfl | rfl | rfl | rfl | rfl | rfl | rfl | rfl | rfl | rfl <;>
  first | omega | (cases l <;> decide)
theorem fr_month {n z : Int} (h : nr n = true) (h1 : 1 ≤ z) (hz : z ≤ fm n) : ml (lp (fy n)) z < n - hd (fy n) - cu (lp (fy n)) z ↔ z < fm n := by
  obtain ⟨g, e⟩ := fr_good h
  obtain ⟨a1, a2, a3, a4, a5, a6⟩ := good_iff.1 g
  unfold num at e
  constructor
  · intro k
    by_cases l : z = fm n
    · rw [l] at k; omega
    · omega
  · intro k
    have := cu_add (lp (fy n)) h1 k a4
    omega
/-- What is told of a number. -/
def rg (b : Bool) : Int := if b then 0 else 1
end Go.Proofs.YteepjipecfdkoaaDoor.Dy
