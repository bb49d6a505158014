/- Plain: months past, birthdays, ages. -/
import Derived.Test.YteepjipecfdkoaaDoorDy7
namespace Go.Proofs.YteepjipecfdkoaaDoor.Dy
theorem mp_ge {j d k e n : Int} (hd : 1 ≤ d) (he : 1 ≤ e) (hk : e ≤ mk k) (h : nu (j + n) d ≤ mn k + e) : n ≤ mp j d k e := (mp_iff hd he hk).1 h
theorem nu_0 {j d : Int} (h : d ≤ mk j) : nu j d = mn j + d := by unfold nu; omega
theorem mp_0 {j d k e : Int} (hd : 1 ≤ d) (hj : d ≤ mk j) (he : 1 ≤ e) (hk : e ≤ mk k) (h : mn j + d ≤ mn k + e) : 0 ≤ mp j d k e := by
  refine mp_ge hd he hk ?_
  rw [show j + 0 = j by omega, nu_0 hj]
  exact h
theorem mp_le (j d k e : Int) : k - j - 1 ≤ mp j d k e ∧ mp j d k e ≤ k - j := by
  unfold mp; split <;> omega
/-- Birthdays rise. -/
theorem nu_lt {j k d : Int} (hd : 1 ≤ d) (h : j < k) : nu j d < nu k d := by
  have := mn_lt h
  have := mk_bd k
  unfold nu; omega
/-- The reference's way to the years. -/
theorem born_eq {yj mj d yk mk' e : Int} (m1 : 1 ≤ mj) (m2 : mj ≤ 12) (k1 : 1 ≤ mk') (k2 : mk' ≤ 12) (hd : 1 ≤ d) (he : 1 ≤ e) (hk : e ≤ mk (mo yk mk')) :
    (if mn (mo yk mk') + e < nu (mo yj mj + 12 * (yk - yj)) d then yk - yj - 1 else yk - yj) = mp (mo yj mj) d (mo yk mk') e / 12 := by
  have f := mp_iff (j := mo yj mj) (n := 12 * (yk - yj)) hd he hk
  have b := mp_le (mo yj mj) d (mo yk mk') e
  have hj : mo yj mj = 12 * (yj - 1) + (mj - 1) := rfl
  have hk' : mo yk mk' = 12 * (yk - 1) + (mk' - 1) := rfl
  generalize mp (mo yj mj) d (mo yk mk') e = P at *
  generalize mn (mo yk mk') + e = Q at *
  generalize nu (mo yj mj + 12 * (yk - yj)) d = R at *
  split <;> omega
/-- An age. -/
def agB (j d k e n : Int) : Int := mn k + e - nu (j + 12 * n) d
def agU (j d k e n : Int) : Int := nu (j + 12 * (n + 1)) d - (mn k + e)
def age (j d k e how : Int) : Int :=
  if how = 1 then mp j d k e / 12 else if how = 2 then (if agB j d k e (mp j d k e / 12) > 0 then mp j d k e / 12 + 1 else mp j d k e / 12) else (if agU j d k e (mp j d k e / 12) ≤ agB j d k e (mp j d k e / 12) then mp j d k e / 12 + 1 else mp j d k e / 12)
end Go.Proofs.YteepjipecfdkoaaDoor.Dy
