import Derived.Test.YtachlkcoghkjnaaTb2
import Derived.Test.YtachlkcoghkjnaaBlk
namespace Go.Proofs.Ytachlkcoghkjnaa.Ta
open Go.RowKit Go.Proofs.Ytachlkcoghkjnaa.L Dc
open Go.Proofs.Ytachlkcoghkjnaa.Mo (Ri wrapI)

/-- Are these rates, of which the last one alone is one? -/
def rwB (xs : List Int) : Bool := decide (0 < xs.length ∧ ∀ i, i < xs.length → 0 ≤ L.nth xs i ∧ L.nth xs i ≤ 10000000 ∧ (L.nth xs i = 10000000 ↔ i + 1 = xs.length))
theorem rwB_none {xs : List Int} (h : xs.length = 0) : rwB xs = false := by simp [rwB]; omega
theorem rwB_bad {xs : List Int} {k : Nat} (hk : k < xs.length) (h : ¬ (0 ≤ L.nth xs k ∧ L.nth xs k ≤ 10000000 ∧ (L.nth xs k = 10000000 ↔ k + 1 = xs.length))) : rwB xs = false := by
  cases c : rwB xs with
  | false => rfl
  | true =>
    simp only [rwB, decide_eq_true_iff] at c
    exact absurd (c.2 k hk) h
theorem rwB_all {xs : List Int} (h0 : 0 < xs.length) (h : ∀ i, i < xs.length → 0 ≤ L.nth xs i ∧ L.nth xs i ≤ 10000000 ∧ (L.nth xs i = 10000000 ↔ i + 1 = xs.length)) : rwB xs = true := by
  simp only [rwB, decide_eq_true_iff]; exact ⟨h0, h⟩
/-- The slice value v reads as the ints xs; it has no room if it is nil; it is not too long. -/
def Rx (w : World) (v : Value) (xs : List Int) : Prop := Ri w v xs ∧ (∃ ao c, v = .slice ao xs.length c ∧ (ao = none → c = 0)) ∧ xs.length * 8 ≤ 140737488351232
theorem Rx.grow {w w' : World} {v : Value} {xs : List Int} (h : Rx w v xs) (k : Below w.heap.size w w') : Rx w' v xs := ⟨h.1.grow k, h.2⟩
/-- The slice value v reads as the rows xss. -/
def Rr (w : World) (v : Value) (xss : List (List Int)) : Prop :=
  xss.length * 24 ≤ 140737488351232 ∧ ∃ ao c, v = .slice ao xss.length c ∧ (0 < xss.length → ∃ b o, ao = some ⟨b, o, none⟩ ∧ ∀ d, d < xss.length → ∃ vd, w.cell? ⟨b, o + d, none⟩ = some vd ∧ Rx w vd (xss.getD d []))
theorem Rr.grow {w w' : World} {v : Value} {xss : List (List Int)} (h : Rr w v xss) (k : Below w.heap.size w w') : Rr w' v xss := by
  obtain ⟨h1, ao, c, h2, h3⟩ := h
  refine ⟨h1, ao, c, h2, fun l => ?_⟩
  obtain ⟨b, o, e, f⟩ := h3 l
  refine ⟨b, o, e, fun d hd => ?_⟩
  obtain ⟨vd, c1, c2⟩ := f d hd
  exact ⟨vd, (k.cell (p := ⟨b, o + d, none⟩) (lt_of_cell c1)).trans c1, c2.grow k⟩

set_option maxRecDepth 100000 in
set_option maxHeartbeats 1600000 in
theorem row_any (v : Value) (xs : List Int) (w : World) (h : Rx w v xs) :
    Calls Try.prog 14 #[v] w fun e w' => e = .returned (.bool (rwB xs)) ∧ w' = w := by
  obtain ⟨⟨hb, a, cap, rfl, hl, hm, g⟩, _, hL⟩ := h
  go_enter Try.func14, Try.ntmps14
  go_wp2_with fail
  go_loopw [3] (fun i wr => ∃ k : Nat, k ≤ xs.length ∧ i = .int .i64 k ∧ Hid (∀ i, i < k → 0 ≤ L.nth xs i ∧ L.nth xs i ≤ 10000000 ∧ (L.nth xs i = 10000000 ↔ i + 1 = xs.length)) ∧ wr = w) (fun i _ => xs.length - (intOf i).toNat)
  case atStart => exact ⟨0, Nat.zero_le _, rfl, fun j hj => absurd hj (by omega), rfl⟩
  case round =>
    obtain ⟨k, hk, rfl, hd, rfl⟩ := hrel
    by_cases hlt : k < xs.length
    · obtain ⟨b, o, rfl, hc⟩ := g (by omega)
      have hc1 := hc.at hlt
      have b1 := hc.lt (by omega)
      have bn := hb k
      obtain ⟨M, hM⟩ : ∃ M : Int, (xs.length : Int) - 1 = M := ⟨_, rfl⟩
      have x1 : IntKind.i64.wrap ((xs.length : Int) - 1) = M := by rw [← hM]; exact wrapI _ (by omega) (by omega)
      have x3 : -1 ≤ M ∧ M ≤ 17592186043904 := by omega
      obtain ⟨p1, e1⟩ : ∃ p, decide (L.nth xs k < 0) = p := ⟨_, rfl⟩
      obtain ⟨p2, e2⟩ : ∃ p, decide (10000000 < L.nth xs k) = p := ⟨_, rfl⟩
      obtain ⟨p3, e3⟩ : ∃ p, (L.nth xs k == 10000000) = p := ⟨_, rfl⟩
      obtain ⟨p4, e4⟩ : ∃ p, ((k : Int) == M) = p := ⟨_, rfl⟩
      have E : (0 ≤ L.nth xs k ∧ L.nth xs k ≤ 10000000 ∧ (L.nth xs k = 10000000 ↔ k + 1 = xs.length)) ↔ (p1 = false ∧ p2 = false ∧ p3 = p4) := by
        subst e1 e2 e3 e4
        rw [decide_eq_false_iff_not, decide_eq_false_iff_not, Bool.eq_iff_iff, beq_iff_eq, beq_iff_eq]
        omega
      have HM : Hid ((xs.length : Int) - 1 = M) := hM
      clear hM
      by_cases hg : 0 ≤ L.nth xs k ∧ L.nth xs k ≤ 10000000 ∧ (L.nth xs k = 10000000 ↔ k + 1 = xs.length)
      · have N : Hid (∀ i, i < k + 1 → 0 ≤ L.nth xs i ∧ L.nth xs i ≤ 10000000 ∧ (L.nth xs i = 10000000 ↔ i + 1 = xs.length)) := fun j hjk => by
          by_cases e : j = k
          · subst e; exact hg
          · exact hd.out j (by omega)
        rw [E] at hg
        obtain ⟨rfl, rfl, rfl⟩ := hg
        clear E g hb
        generalize L.nth xs k = x at *
        cases p3
        all_goals
          go_wp2
          go_roundw
          case rel => exact ⟨k + 1, by omega, by go_num, N, trivial⟩
          case measure => simp [intOf]; omega
      · have R : Hid (rwB xs = false) := rwB_bad hlt hg
        rw [E] at hg
        clear E g hb
        generalize L.nth xs k = x at *
        cases p1
        · cases p2
          · cases p3 <;> cases p4
            · exact absurd ⟨rfl, rfl, rfl⟩ hg
            · clear hg
              go_wp2
              go_ret
              exact ⟨by rw [R.out]; rfl, rfl⟩
            · clear hg
              go_wp2
              go_ret
              exact ⟨by rw [R.out]; rfl, rfl⟩
            · exact absurd ⟨rfl, rfl, rfl⟩ hg
          · clear hg
            go_wp2
            go_ret
            exact ⟨by rw [R.out]; rfl, rfl⟩
        · clear hg
          go_wp2
          go_ret
          exact ⟨by rw [R.out]; rfl, rfl⟩
    · clear g hb
      by_cases z : xs.length = 0
      · have R : Hid (rwB xs = false) := rwB_none z
        have z' : decide (0 < xs.length) = false := decide_eq_false (by omega)
        clear z
        go_wp2
        go_ret
        exact ⟨by rw [R.out]; rfl, rfl⟩
      · have R : Hid (rwB xs = true) := rwB_all (by omega) (fun i hi => hd.out i (by omega))
        have z' : decide (0 < xs.length) = true := decide_eq_true (by omega)
        clear z
        go_wp2
        go_ret
        exact ⟨by rw [R.out]; rfl, rfl⟩

set_option maxRecDepth 100000 in
set_option maxHeartbeats 1600000 in
theorem areRates_any (v : Value) (xs : List Int) (w : World) (h : Rx w v xs) (h0 : 0 < xs.length) :
    Calls Try.prog 18 #[v] w fun e w' => e = .returned (.bool (rwB xs)) ∧ w' = w := by
  obtain ⟨⟨hb, a, cap, rfl, hl, hm, g⟩, _, hL⟩ := h
  obtain ⟨b, o, rfl, hc⟩ := g h0
  clear g
  have x1 : IntKind.i64.wrap ((xs.length : Int) - 1) = (xs.length : Int) - 1 := wrapI _ (by omega) (by omega)
  have b1 := hc.lt (by omega)
  obtain ⟨n, hn⟩ : ∃ n : Nat, xs.length = n + 1 := ⟨xs.length - 1, by omega⟩
  have x2 : ((xs.length : Int) - 1) = (n : Int) := by omega
  have hn1 : n < xs.length := by omega
  have hnL : n * 8 ≤ 140737488351232 := by omega
  rw [x2] at x1
  go_enter Try.func18, Try.ntmps18
  go_wp2_with fail
  go_loopw [9] (fun i wr => ∃ k : Nat, k ≤ n ∧ i = .int .i64 k ∧ Hid (∀ i, i < k → 0 ≤ L.nth xs i ∧ L.nth xs i ≤ 10000000 ∧ (L.nth xs i = 10000000 ↔ i + 1 = xs.length)) ∧ wr = w) (fun i _ => n - (intOf i).toNat)
  case atStart => exact ⟨0, Nat.zero_le _, rfl, fun j hj => absurd hj (by omega), rfl⟩
  case round =>
    obtain ⟨k, hk, rfl, hd, rfl⟩ := hrel
    by_cases hlt : k < n
    · have hc1 := hc.at (show k < xs.length by omega)
      have bn := hb k
      by_cases hg : 0 ≤ L.nth xs k ∧ L.nth xs k ≤ 10000000 ∧ (L.nth xs k = 10000000 ↔ k + 1 = xs.length)
      · have N : Hid (∀ i, i < k + 1 → 0 ≤ L.nth xs i ∧ L.nth xs i ≤ 10000000 ∧ (L.nth xs i = 10000000 ↔ i + 1 = xs.length)) := fun j hjk => by
          by_cases e : j = k
          · subst e; exact hg
          · exact hd.out j (by omega)
        have q1 : ¬ L.nth xs k < 0 := by omega
        have q2 : ¬ 10000000 ≤ L.nth xs k := by omega
        clear hg hb
        generalize L.nth xs k = x at *
        go_wp2
        go_roundw
        case rel => exact ⟨k + 1, by omega, by go_num, N, trivial⟩
        case measure => simp [intOf]; omega
      · have R : Hid (rwB xs = false) := rwB_bad (by omega) hg
        have q : L.nth xs k < 0 ∨ (¬ L.nth xs k < 0 ∧ 10000000 ≤ L.nth xs k) := by omega
        clear hg hb
        generalize L.nth xs k = x at *
        rcases q with q | ⟨q, q2⟩
        · go_wp2
          go_ret
          exact ⟨by rw [R.out]; rfl, rfl⟩
        · go_wp2
          go_ret
          exact ⟨by rw [R.out]; rfl, rfl⟩
    · obtain rfl : k = n := by omega
      have hc1 := hc.at hn1
      have bn := hb k
      by_cases hg : L.nth xs k = 10000000
      · have R : Hid (rwB xs = true) := rwB_all h0 (fun i hi => by
          by_cases e : i = k
          · subst e; omega
          · exact hd.out i (by omega))
        have q : (L.nth xs k == 10000000) = true := by rw [hg]; rfl
        clear hg hb
        generalize L.nth xs k = x at *
        go_wp2
        go_ret
        exact ⟨by rw [R.out]; rfl, rfl⟩
      · have R : Hid (rwB xs = false) := rwB_bad hn1 (by omega)
        have q : (L.nth xs k == 10000000) = false := by simpa using hg
        clear hg hb
        generalize L.nth xs k = x at *
        go_wp2
        go_ret
        exact ⟨by rw [R.out]; rfl, rfl⟩
/-- An age. -/
def isAg (p : Int) : Bool := decide (0 ≤ p ∧ p ≤ 130)
theorem isAge_any (p : Int) (w : World) : Calls Try.prog 17 #[.int .i64 p] w fun e w' => e = .returned (.bool (isAg p)) ∧ w' = w := by
  by_cases h1 : 0 ≤ p
  · by_cases h2 : p ≤ 130
    · have R : Hid (isAg p = true) := by show _ = _; simp [isAg]; omega
      go_enter Try.func17, Try.ntmps17
      go_wp2
      go_ret
      exact ⟨by rw [R.out]; rfl, rfl⟩
    · have R : Hid (isAg p = false) := by show _ = _; simp [isAg]; omega
      go_enter Try.func17, Try.ntmps17
      go_wp2
      go_ret
      exact ⟨by rw [R.out]; rfl, rfl⟩
  · have R : Hid (isAg p = false) := by show _ = _; simp [isAg]; omega
    go_enter Try.func17, Try.ntmps17
    go_wp2
    go_ret
    exact ⟨by rw [R.out]; rfl, rfl⟩
end Go.Proofs.Ytachlkcoghkjnaa.Ta
