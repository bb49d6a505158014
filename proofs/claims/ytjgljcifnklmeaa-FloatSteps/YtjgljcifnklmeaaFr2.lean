import Derived.Test.YtjgljcifnklmeaaFr1
import Derived.Test.YtjgljcifnklmeaaFl6
import Derived.Laws.Shifts
namespace Go.Proofs.Ytjgljcifnklmeaa
open Go.RowKit Tn

/-- How what drops out stands to half of what stays. -/
def besideF (rest : Int) (places : Nat) (more : Bool) : Int :=
  if rest < 2 ^ (places - 1) then -1 else if 2 ^ (places - 1) < rest then 1 else if more = true then 1 else 0
set_option maxRecDepth 100000 in
set_option maxHeartbeats 800000 in
/-- float.besideHalf, of 1 to 64 places. -/
theorem besideHalf_any (rest h : Int) (places : Nat) (more : Bool) (p1 : 1 ≤ places) (p2 : places ≤ 64) (hh : h = 2 ^ (places - 1)) (w : World) :
    Calls Try.prog 106 #[.int .u64 rest, .int .i64 places, .bool more] w fun e w' => e = .returned (.int .i64 (besideF rest places more)) ∧ w' = w := by
  unfold besideF
  rw [← hh]
  have hb : (0 : Int) < h ∧ h ≤ 9223372036854775808 := by
    have e : ((2 ^ (places - 1) : Nat) : Int) = (2 : Int) ^ (places - 1) := by simp
    have a := Nat.two_pow_pos (places - 1)
    have b : 2 ^ (places - 1) ≤ 2 ^ 63 := Nat.pow_le_pow_right (by decide) (by omega)
    rw [hh, ← e]; omega
  have hx : IntKind.i64.wrap ((places : Int) - 1) = (places : Int) - 1 := w64 _ (by omega) (by omega)
  have hy : ((places : Int) - 1).toNat = places - 1 := by omega
  have hz : IntKind.u64.wrap ((2 : Int) ^ (places - 1)) = h := by rw [← hh]; exact wu64 _ (by omega) (by omega)
  have c1 : decide ((places : Int) > 64) = false := by rw [decide_eq_false_iff_not]; omega
  clear hh
  by_cases r1 : rest < h
  · have d1 : decide (rest < h) = true := decide_eq_true r1
    rw [if_pos r1]
    go_enter Try.func106, Try.ntmps106
    go_wp2
    go_ret
    exact ⟨rfl, rfl⟩
  · have d1 : decide (rest < h) = false := decide_eq_false r1
    rw [if_neg r1]
    by_cases r2 : h < rest
    · have d2 : decide (rest > h) = true := decide_eq_true r2
      rw [if_pos r2]
      clear r1 r2
      go_enter Try.func106, Try.ntmps106
      go_wp2
      go_ret
      exact ⟨rfl, rfl⟩
    · have d2 : decide (rest > h) = false := decide_eq_false r2
      rw [if_neg r2]
      clear r1 r2
      cases more
      · simp only [Bool.false_eq_true, if_false]
        go_enter Try.func106, Try.ntmps106
        go_wp2
        go_ret
        exact ⟨rfl, rfl⟩
      · simp only [if_true]
        go_enter Try.func106, Try.ntmps106
        go_wp2
        go_ret
        exact ⟨rfl, rfl⟩
set_option maxRecDepth 100000 in
set_option maxHeartbeats 800000 in
/-- Beyond 64 places. -/
theorem besideHalf_far (rest places : Int) (more : Bool) (p1 : 64 < places) (p2 : places < 9223372036854775808) (w : World) :
    Calls Try.prog 106 #[.int .u64 rest, .int .i64 places, .bool more] w fun e w' => e = .returned (.int .i64 (-1)) ∧ w' = w := by
  have hx : IntKind.i64.wrap (places - 1) = places - 1 := w64 _ (by omega) (by omega)
  have c1 : decide (places > 64) = true := decide_eq_true p1
  have h0 : (0 : Int) ≤ places - 1 := by omega
  have s1 : Op.shift .shl .u64 1 .i64 (places - 1) = pure (.int .u64 0) := by
    rw [shift_shl_any _ _ _ _ h0, show min (places - 1).toNat IntKind.u64.bits = 64 from by simp [IntKind.bits]; omega]
    rfl
  go_enter Try.func106, Try.ntmps106
  go_wp2
  go_ret
  exact ⟨rfl, rfl⟩
end Go.Proofs.Ytjgljcifnklmeaa
