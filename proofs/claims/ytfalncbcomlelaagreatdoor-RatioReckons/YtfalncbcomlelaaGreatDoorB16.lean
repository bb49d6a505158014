import Derived.Test.YtfalncbcomlelaaGreatDoorB15
import Derived.Test.YtfalncbcomlelaaGreatDoorLl
import Derived.Deep.RegionHeld3
namespace Go.Proofs.YtfalncbcomlelaaGreatDoor.L
open Go.RowKit Tl

/-- The number that a row holds. -/
def cellNum (w : World) (p : Addr) : Int := match w.cell? p with | some (.int _ x) => x | _ => 0
def rowNum (w : World) : Value → Nat
  | .slice (some p) l _ => (val ((List.range l).map fun i => cellNum w ⟨p.block, p.off + i, none⟩)).toNat
  | _ => 0
theorem rowNum_rd {w : World} {v : Value} {xs : List Int} (h : Rd w v xs) : rowNum w v = (val xs).toNat := by
  obtain ⟨_, a, c, rfl, _, _, g⟩ := h
  by_cases h0 : xs = []
  · subst h0; cases a <;> simp [rowNum, val]
  · obtain ⟨b, o, rfl, hc⟩ := g (List.length_pos_iff.2 h0)
    simp only [rowNum]
    congr 2
    apply List.ext_getElem?
    intro i
    by_cases hi : i < xs.length
    · have := hc i hi
      simp [List.getElem?_map, List.getElem?_range hi, cellNum, this, nth, List.getD_eq_getElem?_getD, List.getElem?_eq_getElem hi]
    · rw [List.getElem?_eq_none (by simp; omega), List.getElem?_eq_none (by omega)]
theorem gcd_of_div {a b z r : Int} (h : a = z * b + r) : Int.gcd b r = Int.gcd a b := by
  have e : r = a - z * b := by omega
  rw [e, Int.gcd_comm a b, Int.mul_comm, Int.gcd_sub_mul_left_right]
theorem gcd_nought {a : Int} (h : 0 ≤ a) : a = (Int.gcd a 0 : Int) := by
  rw [Int.gcd_zero_right]; omega
theorem nm_pos {xs : List Int} (h : Wd xs) (n : Nm xs) (l : 0 < xs.length) : 0 < val xs := by
  have := val_low h n (by intro e; rw [e] at l; simp at l)
  have := pw_pos (xs.length - 1)
  omega
theorem nm_nil {xs : List Int} (l : ¬ 0 < xs.length) : xs = [] := List.eq_nil_of_length_eq_zero (by omega)
set_option maxHeartbeats 1600000 in
set_option maxRecDepth 100000 in
/-- Gcd of the reference. -/
theorem Gcd_any (v1 v2 : Value) (xs ys : List Int) (L : Nat) (w : World) (h1 : Rd w v1 xs) (h2 : Rd w v2 ys) (n1 : Nm xs) (n2 : Nm ys) (l1 : xs.length ≤ L) (l2 : ys.length ≤ L) (hL : L ≤ 274877906944) :
    Calls Tryz.prog 37 #[v1, v2] w fun e w' => ∃ r zs, e = .returned r ∧ Rd w' r zs ∧ Nm zs ∧ val zs = (Int.gcd (val xs) (val ys) : Int) ∧ zs.length ≤ L ∧ Below w.heap.size w w' := by
  obtain ⟨G, hG⟩ : ∃ G, Int.gcd (val xs) (val ys) = G := ⟨_, rfl⟩
  rw [hG]
  go_enter Tryz.func37, Tryz.ntmps37
  go_wp2_with fail
  go_loopw [0, 1] (fun a b wr => ∃ A B, Rd wr a A ∧ Nm A ∧ Rd wr b B ∧ Nm B ∧ Int.gcd (val A) (val B) = G ∧ A.length ≤ L ∧ B.length ≤ L ∧ Below w.heap.size w wr) (fun _ b wr => rowNum wr b)
  case atStart => exact ⟨xs, ys, h1, n1, h2, n2, hG, l1, l2, Below.refl _ _⟩
  case round =>
    obtain ⟨A, B, hA, nA, hB, nB, hg, lA, lB, hb⟩ := hrel
    have HG : Hid (Int.gcd (val A) (val B) = G) := hg
    have hB' : Hid (Rd wr u1 B) := hB
    obtain ⟨wB, a2, c2, rfl, _, _, _⟩ := hB
    clear hg hG
    by_cases hlt : 0 < B.length
    · have MB : Hid _ := rowNum_rd hB'.out
      have vB := nm_pos wB nB hlt
      go_wp2_with (first
        | (go_at_call 76; (refine (DivMod_any _ _ A B _ hA hB'.out nA nB (by omega) vB).mono ?_); rintro e w2 ⟨q, r, zs, rs, rfl, hq, nq, hr, nr, hv, r0, r1, hb2⟩)
        | fail)
      go_roundw
      case rel => exact ⟨B, rs, hB'.out.grow hb2, nB, hr, nr, (gcd_of_div hv).trans HG.out, lB, Nat.le_trans (len_mono wB hr.1 nr (by omega)) lB, hb.trans (hb2.mono hb.size)⟩
      case measure =>
        show rowNum w2 r < rowNum wr _
        rw [MB.out, rowNum_rd hr]; omega
    · have e0 : Hid (B = []) := nm_nil hlt
      have RG : Hid (val A = (G : Int)) := by
        have := HG.out
        rw [e0.out] at this
        show val A = (G : Int)
        rw [← this]
        exact gcd_nought (val_nonneg hA.1)
      go_wp2
      go_ret
      exact ⟨_, A, rfl, hA, nA, RG.out, lA, hb⟩
end Go.Proofs.YtfalncbcomlelaaGreatDoor.L
