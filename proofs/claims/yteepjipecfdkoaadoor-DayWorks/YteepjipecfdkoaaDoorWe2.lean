import Derived.Test.YteepjipecfdkoaaDoorWe1
import Derived.Test.YteepjipecfdkoaaDoorShelf
namespace Go.Proofs.YteepjipecfdkoaaDoor.Dy
open Go.RowKit Tn
set_option maxHeartbeats 800000 in
/-- Whether a number is that of a working day, by the sorted list. -/
theorem isWork_walk (x : Int) (L : List Int) (hs : L.Pairwise (· ≤ ·)) (hl : L.length ≤ 4096) (h1 : 1 ≤ x) (h2 : x ≤ 4000000) (v : Value) (w : World) (S : So w v L) :
    Calls Tryd.prog 21 #[.int .i64 x, v] w fun e w' => e = .returned (.bool (decide ((x - 1) % 7 + 1 < 6) && !L.contains x)) ∧ Below w.heap.size w w' := by
  have B : ∀ W : World, So W v L → Calls Tryd.prog 33 #[v, .int .i64 x] W fun e w' => (∃ k : Int, e = .returned (.tuple #[.int .i64 k, .bool (L.contains x)])) ∧ Below W.heap.size W w' := by
    intro W S
    obtain ⟨a, c, rfl, h⟩ := S
    by_cases l : 0 < L.length
    · obtain ⟨g, rfl, h'⟩ := h l
      refine (Tryd.slices_BinarySearch_int g 0 L.length c L x W (Nat.le_refl _) (by omega) (fun j hj => by rw [Nat.zero_add]; exact h' j hj) (by rw [List.take_length]; exact hs)).mono ?_
      rintro e w' ⟨rfl, q, rfl⟩
      rw [List.take_length]
      exact ⟨⟨_, rfl⟩, blD q⟩
    · have e : L = [] := List.eq_nil_of_length_eq_zero (by omega)
      subst e
      refine (Tryd.slices_BinarySearch_int_empty a c x W).mono ?_
      rintro e w' ⟨rfl, rfl⟩
      exact ⟨⟨_, rfl⟩, Below.refl _ _⟩
  have B' := B w S
  clear B S hs hl
  have K := weekdayOf_any x h1 h2
  obtain ⟨t, ht⟩ : ∃ t, (x - 1) % 7 + 1 = t := ⟨_, rfl⟩
  rw [ht] at K ⊢
  have t0 : 0 ≤ t := by omega
  clear ht
  generalize L.contains x = p at B' ⊢
  by_cases c : t < 6
  · rw [decide_eq_true c]
    go_enter Tryd.func21, Tryd.ntmps21
    go_wp2_with (first
      | (go_at_call 33; refine B'.mono ?_; rintro e w1 ⟨⟨k, rfl⟩, b1⟩)
      | (go_at_call 34; refine (K _).mono ?_; rintro e w2 ⟨rfl, rfl⟩)
      | fail)
    go_ret
    exact ⟨rfl, b1⟩
  · rw [decide_eq_false c]
    go_enter Tryd.func21, Tryd.ntmps21
    go_wp2_with (first
      | (go_at_call 33; refine B'.mono ?_; rintro e w1 ⟨⟨k, rfl⟩, b1⟩)
      | (go_at_call 34; refine (K _).mono ?_; rintro e w2 ⟨rfl, rfl⟩)
      | fail)
    go_ret
    exact ⟨rfl, b1⟩
theorem isWork_any (f : Nat → Int × Int × Int) (n : Nat) (x : Int) (hl : n ≤ 4096) (h1 : 1 ≤ x) (h2 : x ≤ 4000000) (v : Value) (w : World) (S : So w v (sl f n)) :
    Calls Tryd.prog 21 #[.int .i64 x, v] w fun e w' => e = .returned (.bool (wk f n x)) ∧ Below w.heap.size w w' := by
  have := isWork_walk x (sl f n) (sl_sorted f n) (by rw [sl_len]; exact hl) h1 h2 v w S
  rw [sl_has] at this
  exact this
set_option maxHeartbeats 800000 in
theorem workFrom_any (s : Int) (f : Nat → Int × Int × Int) (n : Nat) (x0 : Int) (hs : s = 1 ∨ s = -1) (hl : n ≤ 4096) (h1 : 1 ≤ x0) (h2 : x0 ≤ 3652059) (v : Value) (w : World) (S : So w v (sl f n)) :
    Calls Tryd.prog 9 #[.int .i64 x0, .int .i64 s, v] w fun e w' => e = .returned (.int .i64 (fi s f n x0)) ∧ Below w.heap.size w w' := by
  have Y := Wy.new (f := f) (n := n) hs h1 h2
  have I : Hid (∀ x, 1 ≤ x → x ≤ 4000000 → ∀ W, So W v (sl f n) → Calls Tryd.prog 21 #[.int .i64 x, v] W fun e w' => e = .returned (.bool (wk f n x)) ∧ Below W.heap.size W w') := fun x a b W S => isWork_any f n x hl a b v W S
  have s1 : -1 ≤ s := by omega
  have s2 : s ≤ 1 := by omega
  clear hs h1 h2
  go_enter Tryd.func9, Tryd.ntmps9
  go_wp2_with fail
  go_loopw [0] (fun t wr => ∃ x K, t = .int .i64 x ∧ Wy s f n x0 x K ∧ So wr v (sl f n) ∧ Below w.heap.size w wr) (fun t _ => (2000000 * (s + 1) - s * RowKit.intOf t).toNat)
  case atStart => exact ⟨x0, _, rfl, Y, S, Below.refl _ _⟩
  case round =>
    clear Y S
    obtain ⟨x, K, rfl, Y, S, p⟩ := hrel
    have YH : Hid (Wy s f n x0 x K) := Y
    have y1 := Y.2.1
    have y2 := Y.2.2.1
    clear Y
    have N := isNumber_any x
    cases c : nr x
    · rw [c] at N
      go_wp2_with (first
        | (go_at_call 17; refine (N _).mono ?_; rintro e w1 ⟨rfl, rfl⟩)
        | fail)
      go_ret
      exact ⟨by rw [← YH.out.stop (by simp [c])]; rfl, p⟩
    · rw [c] at N
      have := nr_iff.1 c
      have J := I.out x (by omega) (by omega)
      cases d : wk f n x
      · rw [d] at J
        obtain ⟨k, rfl⟩ := YH.out.pos c
        go_wp2_with (first
          | (go_at_call 17; refine (N _).mono ?_; rintro e w1 ⟨rfl, rfl⟩)
          | (go_at_call 21; refine (J _ S).mono ?_; rintro e w1 ⟨rfl, b1⟩; have S1 := S.grow b1; have p1 := belT p b1)
          | fail)
        refine ⟨⟨x + s, k, rfl, YH.out.go c d, S1, p1⟩, ?_⟩
        have := YH.out.2.2.2
        simp only [RowKit.intOf]
        rcases this with ⟨rfl, _⟩ | ⟨rfl, _⟩ <;> omega
      · rw [d] at J
        go_wp2_with (first
          | (go_at_call 17; refine (N _).mono ?_; rintro e w1 ⟨rfl, rfl⟩)
          | (go_at_call 21; refine (J _ S).mono ?_; rintro e w1 ⟨rfl, b1⟩; have S1 := S.grow b1; have p1 := belT p b1)
          | fail)
        go_ret
        exact ⟨by rw [← YH.out.stop (by simp [d])]; rfl, p1⟩
end Go.Proofs.YteepjipecfdkoaaDoor.Dy
