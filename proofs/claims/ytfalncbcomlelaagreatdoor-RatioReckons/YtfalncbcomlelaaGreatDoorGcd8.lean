import Derived.Test.YtfalncbcomlelaaGreatDoorGcd7
namespace Go.Proofs.YtfalncbcomlelaaGreatDoor
open Go.RowKit Tn

theorem Bx.under {B : Nat} {w w' : World} {n : Nat} {v : Value} (h : Bx w n v) (k : Below B w w') (hn : n < B) : Bx w' n v := h.blocks (k.block n hn)
theorem Bx.set {w : World} {n : Nat} {v : Value} (h : Bx w n v) (u : Value) : Bx (w.setCell ⟨n, 0, none⟩ u) n u := by
  have hl := h.lt
  obtain ⟨t, e⟩ := h.3
  have e2 : (w.setCell ⟨n, 0, none⟩ u).heap[n]? = some (.cells #[u] t (0, 0)) := by
    have hl' : w.heap[n] = .cells #[v] t (0, 0) := by rw [Array.getElem?_eq_getElem hl] at e; exact Option.some.inj e
    simp [World.setCell, hl, Array.getElem_modify, hl']
  refine ⟨World.cell?_setCell_same _ _ _ h.1, ?_, t, e2⟩
  have := h.2
  simp only [World.frozen?, e, e2] at this ⊢
  exact this
/-- Two variables are written at once. -/
theorem put2 {W : World} {n : Nat} {a1 a2 : Option Addr} {l1 k1 l2 k2 : Nat} (b0 : Bx W n (.slice a1 l1 k1)) (b1 : Bx W (n + 1) (.slice a2 l2 k2)) (b2 : Bx W (n + 1 + 1) (.slice none 0 0)) (u1 u2 : Value) :
    Bx ((W.setCell ⟨n, 0, none⟩ u1).setCell ⟨n + 1, 0, none⟩ u2) n u1 ∧ Bx ((W.setCell ⟨n, 0, none⟩ u1).setCell ⟨n + 1, 0, none⟩ u2) (n + 1) u2 ∧ Bx ((W.setCell ⟨n, 0, none⟩ u1).setCell ⟨n + 1, 0, none⟩ u2) (n + 1 + 1) (.slice none 0 0) ∧ (∀ v xs, Rd W v xs → Rd ((W.setCell ⟨n, 0, none⟩ u1).setCell ⟨n + 1, 0, none⟩ u2) v xs) ∧ (∀ B w, B ≤ n → Below B w W → Below B w ((W.setCell ⟨n, 0, none⟩ u1).setCell ⟨n + 1, 0, none⟩ u2)) ∧ (∀ g k, OwnN W g k → OwnN ((W.setCell ⟨n, 0, none⟩ u1).setCell ⟨n + 1, 0, none⟩ u2) g k) := by
  have T := two_boxes u1 u2 b0 b1
  have Wa : Wr n 0 1 W (W.setCell ⟨n, 0, none⟩ u1) := (Wr.refl _ _ _ _).setCell 0 (by omega) _
  have Wb : Wr (n + 1) 0 1 (W.setCell ⟨n, 0, none⟩ u1) ((W.setCell ⟨n, 0, none⟩ u1).setCell ⟨n + 1, 0, none⟩ u2) := (Wr.refl _ _ _ _).setCell 0 (by omega) _
  exact ⟨(b0.set u1).wr Wb (by omega), (b1.wr Wa (by omega)).set u2, (b2.wr Wa (by omega)).wr Wb (by omega), T.2.2.1, T.2.2.2, fun g k h => (h.wr Wa).wr Wb⟩

/-- Two rows of the call's own, apart. -/
def Two (w : World) (n : Nat) (u v : Value) : Prop := ∃ g1 g2 l1 l2 c1 c2, u = .slice (some ⟨g1, 0, none⟩) l1 c1 ∧ v = .slice (some ⟨g2, 0, none⟩) l2 c2 ∧ g1 ≠ g2 ∧ n + 1 + 1 + 1 ≤ g1 ∧ n + 1 + 1 + 1 ≤ g2 ∧ OwnN w g1 c1 ∧ OwnN w g2 c2
/-- Where GCD stands: its three variables, the two numbers, their divisor. -/
def St (n : Nat) (G : Nat) (L : Nat) (own : Bool) (w wr : World) : Prop := ∃ a1 l1 c1 a2 l2 c2 A B, Bx wr n (.slice a1 l1 c1) ∧ Bx wr (n + 1) (.slice a2 l2 c2) ∧ Bx wr (n + 1 + 1) (.slice none 0 0) ∧ Rd wr (.slice a1 l1 c1) A ∧ Rd wr (.slice a2 l2 c2) B ∧ Nm A ∧ Nm B ∧ val B ≤ val A ∧ Int.gcd (val A) (val B) = G ∧ A.length ≤ L ∧ (own = true → 1 < l2 → Two wr n (.slice a1 l1 c1) (.slice a2 l2 c2)) ∧ Below n w wr

def cellNum (w : World) (p : Addr) : Int := match w.cell? p with | some (.int _ x) => x | _ => 0
def rowNum (w : World) : Value → Nat
  | .slice (some p) l _ => (val ((List.range l).map fun i => cellNum w ⟨p.block, p.off + i, none⟩)).toNat
  | _ => 0
def boxNum (n : Nat) (w : World) : Nat := match w.cell? ⟨n, 0, none⟩ with | some v => rowNum w v | none => 0
theorem rowNum_rd {w : World} {v : Value} {xs : List Int} (h : Rd w v xs) : rowNum w v = (val xs).toNat := by
  obtain ⟨_, a, c, rfl, _, _, g⟩ := h
  by_cases h0 : xs = []
  · subst h0; cases a <;> simp [rowNum, val]
  · obtain ⟨b, o, rfl, hc⟩ := g (List.length_pos_iff.2 h0)
    simp only [rowNum]
    congr 2
    apply List.ext_getElem?
    intro i
    by_cases hi : i < xs.length
    · have := hc i hi
      simp [List.getElem?_map, List.getElem?_range hi, cellNum, this, nth, List.getD_eq_getElem?_getD, List.getElem?_eq_getElem hi]
    · rw [List.getElem?_eq_none (by simp; omega), List.getElem?_eq_none (by omega)]
theorem boxNum_rd {n : Nat} {w : World} {v : Value} {xs : List Int} (b : Bx w n v) (h : Rd w v xs) : boxNum n w = (val xs).toNat := by
  unfold boxNum; rw [b.1]; exact rowNum_rd h
theorem len_mono {A B : List Int} (hA : Wd A) (hB : Wd B) (nB : Nm B) (h : val B ≤ val A) : B.length ≤ A.length := by
  by_cases c : B.length ≤ A.length
  · exact c
  · have := val_lt_of_length hA hB nB (by omega); omega
theorem St.drew {n G L : Nat} {o : Bool} {w wr : World} (h : St n G L o w wr) : St n G L o w wr.drew := by
  obtain ⟨a1, l1, c1, a2, l2, c2, A, B, b0, b1, b2, r1, r2, n1, n2, v, g, l, t, b⟩ := h
  exact ⟨a1, l1, c1, a2, l2, c2, A, B, b0.drew, b1.drew, b2.drew, r1.drew, r2.drew, n1, n2, v, g, l, t, b.drew⟩
theorem gcd_of_div {a b z r : Int} (h : a = z * b + r) : Int.gcd b r = Int.gcd a b := by
  have e : r = a - z * b := by omega
  rw [e]; exact gcd_step a b z
theorem low_word {rs : List Int} (h : Wd rs) (n : Nm rs) (hv : val rs < 18446744073709551616) : nth rs 0 = val rs := by
  match rs, h, n, hv with
  | [], _, _, _ => simp [nth, val]
  | [x], _, _, _ => simp [nth, val]
  | x :: y :: t, h, n, hv =>
    have := val_low h n (by simp)
    have h3 := pw_mono (show 1 ≤ (x :: y :: t).length - 1 by simp)
    have : pw 1 = 18446744073709551616 := rfl
    omega
theorem gcd_word {d y : Int} (d0 : 0 < d) (d1 : d < 18446744073709551616) : (Int.gcd d y : Int) < 18446744073709551616 := by
  have h := Int.gcd_dvd_left (a := d) (b := y)
  have := Int.le_of_dvd d0 h
  omega
theorem gcd_nought {a : Int} (h : 0 ≤ a) : a = (Int.gcd a 0 : Int) := by
  rw [Int.gcd_zero_right]; omega
end Go.Proofs.YtfalncbcomlelaaGreatDoor
