import Derived.Test.YteepjipecfdkoaaDoorDy1
import Derived.Test.YteepjipecfdkoaaDoorBlk
namespace Go.Proofs.YteepjipecfdkoaaDoor.Dy
open Go.RowKit Tn

theorem wrapI (x : Int) (h0 : -9223372036854775808 ≤ x) (h1 : x < 9223372036854775808) : IntKind.i64.wrap x = x := by
  simp [IntKind.wrap, IntKind.bits, IntKind.signed]; omega
/-- A date as a value. -/
def dt (y m d : Int) : Value := .agg #[.int .i64 y, .int .i64 m, .int .i64 d]
/-- The table of the months' lengths, and where it lies. -/
def tb (i : Nat) : Int := [31, 28, 31, 30, 31, 30, 31, 31, 30, 31, 30, 31].getD i 0
def Gl (w : World) : Prop := ∀ i : Nat, i < 12 → w.cell? ⟨0, i, none⟩ = some (.int .i64 (tb i))
theorem Gl.grow {w w' : World} (h : Gl w) (k : Below w.heap.size w w') : Gl w' := fun i hi => (k.cell (p := ⟨0, i, none⟩) (lt_of_cell (h i hi))).trans (h i hi)
theorem Gl.alloc {w : World} (h : Gl w) (o : Obj) : Gl (w.alloc o) := h.grow ((Below.refl _ _).alloc (Nat.le_refl _) o)
def yr (y : Int) : Bool := decide (1 ≤ y ∧ y ≤ 9999)
def mt (m : Int) : Bool := decide (1 ≤ m ∧ m ≤ 12)
def nr (n : Int) : Bool := decide (1 ≤ n ∧ n ≤ 3652059)
set_option maxHeartbeats 400000 in
theorem isYear_any (p : Int) (w : World) : Calls Tryd.prog 26 #[.int .i64 p] w fun e w' => e = .returned (.bool (yr p)) ∧ w' = w := by
  by_cases h1 : 1 ≤ p
  · by_cases h2 : p ≤ 9999
    · have R : Hid (yr p = true) := by show _ = _; simp [yr]; omega
      go_enter Tryd.func26, Tryd.ntmps26
      go_wp2
      go_ret
      exact ⟨by rw [R.out]; rfl, rfl⟩
    · have R : Hid (yr p = false) := by show _ = _; simp [yr]; omega
      go_enter Tryd.func26, Tryd.ntmps26
      go_wp2
      go_ret
      exact ⟨by rw [R.out]; rfl, rfl⟩
  · have R : Hid (yr p = false) := by show _ = _; simp [yr]; omega
    go_enter Tryd.func26, Tryd.ntmps26
    go_wp2
    go_ret
    exact ⟨by rw [R.out]; rfl, rfl⟩
set_option maxHeartbeats 400000 in
theorem isMonth_any (p : Int) (w : World) : Calls Tryd.prog 27 #[.int .i64 p] w fun e w' => e = .returned (.bool (mt p)) ∧ w' = w := by
  by_cases h1 : 1 ≤ p
  · by_cases h2 : p ≤ 12
    · have R : Hid (mt p = true) := by show _ = _; simp [mt]; omega
      go_enter Tryd.func27, Tryd.ntmps27
      go_wp2
      go_ret
      exact ⟨by rw [R.out]; rfl, rfl⟩
    · have R : Hid (mt p = false) := by show _ = _; simp [mt]; omega
      go_enter Tryd.func27, Tryd.ntmps27
      go_wp2
      go_ret
      exact ⟨by rw [R.out]; rfl, rfl⟩
  · have R : Hid (mt p = false) := by show _ = _; simp [mt]; omega
    go_enter Tryd.func27, Tryd.ntmps27
    go_wp2
    go_ret
    exact ⟨by rw [R.out]; rfl, rfl⟩
set_option maxHeartbeats 400000 in
theorem isNumber_any (p : Int) (w : World) : Calls Tryd.prog 17 #[.int .i64 p] w fun e w' => e = .returned (.bool (nr p)) ∧ w' = w := by
  by_cases h1 : 1 ≤ p
  · by_cases h2 : p ≤ 3652059
    · have R : Hid (nr p = true) := by show _ = _; simp [nr]; omega
      go_enter Tryd.func17, Tryd.ntmps17
      go_wp2
      go_ret
      exact ⟨by rw [R.out]; rfl, rfl⟩
    · have R : Hid (nr p = false) := by show _ = _; simp [nr]; omega
      go_enter Tryd.func17, Tryd.ntmps17
      go_wp2
      go_ret
      exact ⟨by rw [R.out]; rfl, rfl⟩
  · have R : Hid (nr p = false) := by show _ = _; simp [nr]; omega
    go_enter Tryd.func17, Tryd.ntmps17
    go_wp2
    go_ret
    exact ⟨by rw [R.out]; rfl, rfl⟩
theorem lp_of {y a b c : Int} (ha : y % 4 = a) (hb : y % 100 = b) (hc : y % 400 = c) : lp y = (((a == 0) && (b != 0)) || (c == 0)) := by
  subst ha hb hc; rfl
set_option maxHeartbeats 400000 in
theorem isLeap_any (y : Int) (h : 0 ≤ y) (w : World) : Calls Tryd.prog 32 #[.int .i64 y] w fun e w' => e = .returned (.bool (lp y)) ∧ w' = w := by
  obtain ⟨a, ha⟩ : ∃ a, y % 4 = a := ⟨_, rfl⟩
  obtain ⟨b, hb⟩ : ∃ a, y % 100 = a := ⟨_, rfl⟩
  obtain ⟨c, hc⟩ : ∃ a, y % 400 = a := ⟨_, rfl⟩
  have L := lp_of ha hb hc
  have a1 : y.tmod 4 = a := by rw [Int.tmod_eq_emod_of_nonneg h]; exact ha
  have b1 : y.tmod 100 = b := by rw [Int.tmod_eq_emod_of_nonneg h]; exact hb
  have c1 : y.tmod 400 = c := by rw [Int.tmod_eq_emod_of_nonneg h]; exact hc
  have a2 : IntKind.i64.wrap a = a := wrapI _ (by omega) (by omega)
  have b2 : IntKind.i64.wrap b = b := wrapI _ (by omega) (by omega)
  have c2 : IntKind.i64.wrap c = c := wrapI _ (by omega) (by omega)
  generalize lp y = l at L ⊢
  clear ha hb hc h
  obtain ⟨p, hp⟩ : ∃ p, (a == 0) = p := ⟨_, rfl⟩
  obtain ⟨q, hq⟩ : ∃ p, (b != 0) = p := ⟨_, rfl⟩
  obtain ⟨r, hr⟩ : ∃ p, (c == 0) = p := ⟨_, rfl⟩
  rw [hp, hq, hr] at L
  subst L
  cases p <;> cases q <;> cases r
  all_goals
    go_enter Tryd.func32, Tryd.ntmps32
    go_wp2
    go_ret
    exact ⟨rfl, rfl⟩
set_option maxHeartbeats 400000 in
theorem RLeap_any (y : Int) (h : 0 ≤ y) (w : World) : Calls Tryd.prog 35 #[.int .i64 y] w fun e w' => e = .returned (.bool (lp y)) ∧ w' = w := by
  obtain ⟨a, ha⟩ : ∃ a, y % 4 = a := ⟨_, rfl⟩
  obtain ⟨b, hb⟩ : ∃ a, y % 100 = a := ⟨_, rfl⟩
  obtain ⟨c, hc⟩ : ∃ a, y % 400 = a := ⟨_, rfl⟩
  have L := lp_of ha hb hc
  have a1 : y.tmod 4 = a := by rw [Int.tmod_eq_emod_of_nonneg h]; exact ha
  have b1 : y.tmod 100 = b := by rw [Int.tmod_eq_emod_of_nonneg h]; exact hb
  have c1 : y.tmod 400 = c := by rw [Int.tmod_eq_emod_of_nonneg h]; exact hc
  have a2 : IntKind.i64.wrap a = a := wrapI _ (by omega) (by omega)
  have b2 : IntKind.i64.wrap b = b := wrapI _ (by omega) (by omega)
  have c2 : IntKind.i64.wrap c = c := wrapI _ (by omega) (by omega)
  generalize lp y = l at L ⊢
  clear ha hb hc h
  obtain ⟨p, hp⟩ : ∃ p, (a == 0) = p := ⟨_, rfl⟩
  obtain ⟨q, hq⟩ : ∃ p, (b != 0) = p := ⟨_, rfl⟩
  obtain ⟨r, hr⟩ : ∃ p, (c == 0) = p := ⟨_, rfl⟩
  rw [hp, hq, hr] at L
  subst L
  cases p <;> cases q <;> cases r
  all_goals
    go_enter Tryd.func35, Tryd.ntmps35
    go_wp2
    go_ret
    exact ⟨rfl, rfl⟩
theorem ml_tb {l : Bool} {i : Nat} (hi : i < 12) (h : i ≠ 1) : ml l ((i : Int) + 1) = tb i := by
  have : i = 0 ∨ i = 2 ∨ i = 3 ∨ i = 4 ∨ i = 5 ∨ i = 6 ∨ i = 7 ∨ i = 8 ∨ i = 9 ∨ i = 10 ∨ i = 11 := by omega
  rcases this with rfl | rfl | rfl | rfl | rfl | rfl | rfl | rfl | rfl | rfl | rfl <;> cases l <;> decide
set_option maxHeartbeats 400000 in
/-- How many days a month has. -/
theorem lengthOf_any (y m : Int) (hy : 0 ≤ y) (h1 : 1 ≤ m) (h2 : m ≤ 12) (w : World) (G : Gl w) : Calls Tryd.prog 20 #[.int .i64 y, .int .i64 m] w fun e w' => e = .returned (.int .i64 (ml (lp y) m)) ∧ w' = w := by
  have L := isLeap_any y hy
  by_cases hm : m = 2
  · subst hm
    have g := G 1 (by omega)
    rw [show tb 1 = 28 from rfl] at g
    cases l : lp y
    all_goals
      rw [l] at L
      go_enter Tryd.func20, Tryd.ntmps20
      go_wp2_with (first | (go_at_call 32; refine (L _).mono ?_; rintro x w1 ⟨rfl, rfl⟩) | fail)
      go_ret
      exact ⟨rfl, rfl⟩
  · obtain ⟨i, hi⟩ : ∃ i : Nat, m - 1 = i := ⟨(m - 1).toNat, by omega⟩
    have g := G i (by omega)
    have e : ml (lp y) m = tb i := by rw [← ml_tb (l := lp y) (by omega) (by omega), ← hi]; congr 1; omega
    rw [e]
    have x1 : IntKind.i64.wrap (m - 1) = i := by rw [wrapI _ (by omega) (by omega)]; omega
    have x2 : i < 12 := by omega
    generalize tb i = t at g ⊢
    clear e hi G
    go_enter Tryd.func20, Tryd.ntmps20
    go_wp2_with (first | (go_at_call 32; refine (L _).mono ?_; rintro x w1 ⟨rfl, rfl⟩) | fail)
    go_ret
    exact ⟨rfl, rfl⟩
set_option maxHeartbeats 400000 in
theorem RLength_any (y m : Int) (hy : 0 ≤ y) (h1 : 1 ≤ m) (h2 : m ≤ 12) (w : World) : Calls Tryd.prog 22 #[.int .i64 y, .int .i64 m] w fun e w' => e = .returned (.int .i64 (ml (lp y) m)) ∧ w' = w := by
  have L := RLeap_any y hy
  generalize lp y = l at L ⊢
  rcases twelve h1 h2 with rfl | rfl | rfl | rfl | rfl | rfl | rfl | rfl | rfl | rfl | rfl | rfl
  all_goals
    cases l
    all_goals
      go_enter Tryd.func22, Tryd.ntmps22
      go_wp2_with (first | (go_at_call 35; refine (L _).mono ?_; rintro x w1 ⟨rfl, rfl⟩) | fail)
      go_ret
      exact ⟨rfl, rfl⟩
end Go.Proofs.YteepjipecfdkoaaDoor.Dy
