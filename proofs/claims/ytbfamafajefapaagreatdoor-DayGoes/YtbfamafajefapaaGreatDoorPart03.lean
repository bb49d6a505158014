import Derived.Test.YtbfamafajefapaaGreatDoorPart02
import Derived.Deep.QuietTactic
import Derived.BigQuiet
import Derived.Deep.RegionWith

namespace Go.Proofs.YtbfamafajefapaaGreatDoor.Dy
open Go.RowKit Tn

theorem yr_iff {y : Int} : yr y = true ↔ 1 ≤ y ∧ y ≤ 9999 := by simp [yr]
theorem mt_iff {y : Int} : mt y = true ↔ 1 ≤ y ∧ y ≤ 12 := by simp [mt]
theorem bl {w : World} (c : Array Value) (t : TypeId) : Below w.heap.size w (w.alloc (.cells c t)) := (Below.refl _ _).alloc (Nat.le_refl _) _
theorem blN {w W : World} {n : Nat} (h : Below w.heap.size w W) : Below w.heap.size w (W.drewN n) := ⟨h.os, h.tape, h.output, h.size, h.block⟩
theorem belN {n : Nat} {w W w1 : World} (h : Below w.heap.size w W) (k : Below (W.drewN n).heap.size (W.drewN n) w1) : Below w.heap.size w w1 := h.trans (Below.mono (show Below W.heap.size W w1 from ⟨k.os, k.tape, k.output, k.size, k.block⟩) h.size)
theorem belT {w W w1 : World} (h : Below w.heap.size w W) (k : Below W.heap.size W w1) : Below w.heap.size w w1 := h.trans (Below.mono k h.size)
theorem _root_.Go.Proofs.YtbfamafajefapaaGreatDoor.Blk.c0 {w : World} {n : Nat} {y m d : Int} {t : TypeId} (h : Blk w n #[.int .i64 y, .int .i64 m, .int .i64 d] t) : w.cell? ⟨n, 0, none⟩ = some (.int .i64 y) := h.at 0
theorem _root_.Go.Proofs.YtbfamafajefapaaGreatDoor.Blk.c1 {w : World} {n : Nat} {y m d : Int} {t : TypeId} (h : Blk w n #[.int .i64 y, .int .i64 m, .int .i64 d] t) : w.cell? ⟨n, 1, none⟩ = some (.int .i64 m) := h.at 1
theorem _root_.Go.Proofs.YtbfamafajefapaaGreatDoor.Blk.c2 {w : World} {n : Nat} {y m d : Int} {t : TypeId} (h : Blk w n #[.int .i64 y, .int .i64 m, .int .i64 d] t) : w.cell? ⟨n, 2, none⟩ = some (.int .i64 d) := h.at 2
theorem Gl.drew {w : World} (h : Gl w) (n : Nat) : Gl (w.drewN n) := fun i hi => h i hi
/-- What is told of a date that is or isn't right. -/
def er (b : Bool) : Int := if b then 0 else 70
set_option maxHeartbeats 400000 in
theorem Check_walk (y m d l : Int) (a b c f : Bool) (w : World) (G : Gl w) (Y : ∀ W, Calls Tryz.prog 112 #[.int .i64 y] W fun e w' => e = .returned (.bool a) ∧ w' = W)
    (M : ∀ W, Calls Tryz.prog 113 #[.int .i64 m] W fun e w' => e = .returned (.bool b) ∧ w' = W)
    (L : a = true → b = true → ∀ W, Gl W → Calls Tryz.prog 114 #[.int .i64 y, .int .i64 m] W fun e w' => e = .returned (.int .i64 l) ∧ w' = W)
    (hc : decide (d < 1) = c) (hf : decide (d > l) = f) : Calls Tryz.prog 47 #[dt y m d] w fun e w' => e = .returned (.int .i64 (er (a && b && !c && !f))) ∧ Below w.heap.size w w' := by
  have K0 := Blk.new w #[.int .i64 y, .int .i64 m, .int .i64 d] 38
  have pr := bl (w := w) #[.int .i64 y, .int .i64 m, .int .i64 d] 38
  have G' := G.alloc (.cells #[.int .i64 y, .int .i64 m, .int .i64 d] 38)
  unfold dt
  clear G
  cases a
  · clear L
    go_enter Tryz.func47, Tryz.ntmps47
    go_wp2_with fail
    generalize w.alloc (.cells #[.int .i64 y, .int .i64 m, .int .i64 d] 38) = W at *
    have q0 : W.cell? ⟨w.heap.size, 0, none⟩ = some (.int .i64 y) := K0.at 0
    have q1 : W.cell? ⟨w.heap.size, 1, none⟩ = some (.int .i64 m) := K0.at 1
    have q2 : W.cell? ⟨w.heap.size, 2, none⟩ = some (.int .i64 d) := K0.at 2
    clear K0
    go_quiet ((go_at_call 112; exact Calls.quiet_of_same (Y _)))
    go_wp2_with fail
    go_ret
    exact ⟨rfl, blN pr⟩
  cases b
  · clear L
    go_enter Tryz.func47, Tryz.ntmps47
    go_wp2_with fail
    generalize w.alloc (.cells #[.int .i64 y, .int .i64 m, .int .i64 d] 38) = W at *
    have q0 : W.cell? ⟨w.heap.size, 0, none⟩ = some (.int .i64 y) := K0.at 0
    have q1 : W.cell? ⟨w.heap.size, 1, none⟩ = some (.int .i64 m) := K0.at 1
    have q2 : W.cell? ⟨w.heap.size, 2, none⟩ = some (.int .i64 d) := K0.at 2
    clear K0
    go_quiet ((first | (go_at_call 112; exact Calls.quiet_of_same (Y _)) | (go_at_call 113; exact Calls.quiet_of_same (M _))))
    go_wp2_with fail
    go_ret
    exact ⟨rfl, blN pr⟩
  replace L := L rfl rfl
  cases c
  · cases f
    all_goals
      go_enter Tryz.func47, Tryz.ntmps47
      go_wp2_with fail
      generalize w.alloc (.cells #[.int .i64 y, .int .i64 m, .int .i64 d] 38) = W at *
      have q0 : W.cell? ⟨w.heap.size, 0, none⟩ = some (.int .i64 y) := K0.at 0
      have q1 : W.cell? ⟨w.heap.size, 1, none⟩ = some (.int .i64 m) := K0.at 1
      have q2 : W.cell? ⟨w.heap.size, 2, none⟩ = some (.int .i64 d) := K0.at 2
      clear K0
      go_quiet ((first | (go_at_call 112; exact Calls.quiet_of_same (Y _)) | (go_at_call 113; exact Calls.quiet_of_same (M _)) | (go_at_call 114; exact Calls.quiet_of_same (L _ (G'.drew _)))))
      go_wp2_with fail
      go_ret
      exact ⟨rfl, blN pr⟩
  · clear L
    go_enter Tryz.func47, Tryz.ntmps47
    go_wp2_with fail
    generalize w.alloc (.cells #[.int .i64 y, .int .i64 m, .int .i64 d] 38) = W at *
    have q0 : W.cell? ⟨w.heap.size, 0, none⟩ = some (.int .i64 y) := K0.at 0
    have q1 : W.cell? ⟨w.heap.size, 1, none⟩ = some (.int .i64 m) := K0.at 1
    have q2 : W.cell? ⟨w.heap.size, 2, none⟩ = some (.int .i64 d) := K0.at 2
    clear K0
    go_quiet ((first | (go_at_call 112; exact Calls.quiet_of_same (Y _)) | (go_at_call 113; exact Calls.quiet_of_same (M _))))
    go_wp2_with fail
    go_ret
    exact ⟨rfl, blN pr⟩
theorem good_eq (y m d : Int) : (yr y && mt m && !decide (d < 1) && !decide (d > ml (lp y) m)) = good y m d := by
  rw [Bool.eq_iff_iff]
  simp [yr, mt, good]
  omega
theorem Check_any (y m d : Int) (w : World) (G : Gl w) : Calls Tryz.prog 47 #[dt y m d] w fun e w' => e = .returned (.int .i64 (er (good y m d))) ∧ Below w.heap.size w w' := by
  rw [← good_eq]
  exact Check_walk y m d _ _ _ _ _ w G (isYear_any y) (isMonth_any m) (fun a b W g => lengthOf_any y m (by have := yr_iff.1 a; omega) (mt_iff.1 b).1 (mt_iff.1 b).2 W g) rfl rfl
theorem good_eq2 (y m d : Int) : (decide (y ≥ 1) && decide (y ≤ 9999) && decide (m ≥ 1) && decide (m ≤ 12) && decide (d ≥ 1) && decide (d ≤ ml (lp y) m)) = good y m d := by
  rw [Bool.eq_iff_iff]
  simp [good]
  omega
end Go.Proofs.YtbfamafajefapaaGreatDoor.Dy

/- Plain: each number has its date. -/
namespace Go.Proofs.YtbfamafajefapaaGreatDoor.Dy

theorem cu_12 (l : Bool) : cu l 12 + ml l 12 = sz l := by cases l <;> decide
/-- The next day. -/
def nx (p : Int × Int × Int) : Int × Int × Int :=
  if p.2.2 < ml (lp p.1) p.2.1 then (p.1, p.2.1, p.2.2 + 1) else if p.2.1 < 12 then (p.1, p.2.1 + 1, 1) else (p.1 + 1, 1, 1)
/-- The day with the number n + 1. -/
def dn : Nat → Int × Int × Int
  | 0 => (1, 1, 1)
  | n + 1 => nx (dn n)
theorem date_of (n : Nat) (h : n + 1 ≤ 3652059) : good (dn n).1 (dn n).2.1 (dn n).2.2 = true ∧ num (dn n).1 (dn n).2.1 (dn n).2.2 = (n : Int) + 1 := by
  induction n with
  | zero => exact ⟨by decide, by decide⟩
  | succ n ih =>
    obtain ⟨g, e⟩ := ih (by omega)
    show good (nx (dn n)).1 (nx (dn n)).2.1 (nx (dn n)).2.2 = true ∧ num (nx (dn n)).1 (nx (dn n)).2.1 (nx (dn n)).2.2 = _
    generalize dn n = p at *
    obtain ⟨y, m, d⟩ := p
    simp only at g e
    obtain ⟨a1, a2, a3, a4, a5, a6⟩ := good_iff.1 g
    by_cases c : d < ml (lp y) m
    · rw [show nx (y, m, d) = (y, m, d + 1) by simp [nx, c]]
      exact ⟨good_iff.2 ⟨a1, a2, a3, a4, by simp only; omega, by simp only; omega⟩, by unfold num at *; simp only; omega⟩
    by_cases f : m < 12
    · rw [show nx (y, m, d) = (y, m + 1, 1) by simp [nx, c, f]]
      refine ⟨good_iff.2 ⟨a1, a2, by simp only; omega, by simp only; omega, by simp only; omega, ?_⟩, ?_⟩
      · have := ml_bd (lp y) (m + 1); simp only; omega
      · unfold num at *; simp only; rw [cu_succ _ a3 a4]; omega
    obtain rfl : m = 12 := by omega
    rw [show nx (y, 12, d) = (y + 1, 1, 1) by simp [nx, c]]
    have s := hd_succ y
    have t := cu_12 (lp y)
    by_cases k : y < 9999
    · refine ⟨good_iff.2 ⟨by simp only; omega, by simp only; omega, by simp only; omega, by simp only; omega, by simp only; omega, ?_⟩, ?_⟩
      · have := ml_bd (lp (y + 1)) 1; simp only; omega
      · unfold num at *; simp only; rw [cu_one]; omega
    · obtain rfl : y = 9999 := by omega
      exfalso
      have : hd (9999 + 1) = 3652059 := by decide
      unfold num at e
      omega
/-- The date of a number. -/
def fr (n : Int) : Int × Int × Int := if 1 ≤ n ∧ n ≤ 3652059 then dn (n - 1).toNat else (0, 0, 0)
def fy (n : Int) : Int := (fr n).1
def fm (n : Int) : Int := (fr n).2.1
def fd (n : Int) : Int := (fr n).2.2
theorem nr_iff {n : Int} : nr n = true ↔ 1 ≤ n ∧ n ≤ 3652059 := by simp [nr]
theorem fr_good {n : Int} (h : nr n = true) : good (fy n) (fm n) (fd n) = true ∧ num (fy n) (fm n) (fd n) = n := by
  have g := nr_iff.1 h
  obtain ⟨a, b⟩ := date_of (n - 1).toNat (by omega)
  have e : fr n = dn (n - 1).toNat := by unfold fr; rw [if_pos g]
  unfold fy fm fd
  rw [e]
  exact ⟨a, by rw [b]; omega⟩
theorem fr_bad {n : Int} (h : nr n = false) : fy n = 0 ∧ fm n = 0 ∧ fd n = 0 := by
  have H : ¬ (1 ≤ n ∧ n ≤ 3652059) := fun k => by rw [nr_iff.2 k] at h; cases h
  have e : fr n = (0, 0, 0) := by unfold fr; rw [if_neg H]
  unfold fy fm fd
  rw [e]
  exact ⟨rfl, rfl, rfl⟩
theorem nr_num {y m d : Int} (h : good y m d = true) : nr (num y m d) = true := nr_iff.2 ⟨num_lo h, num_hi h⟩
theorem fr_num {y m d : Int} (h : good y m d = true) : fy (num y m d) = y ∧ fm (num y m d) = m ∧ fd (num y m d) = d := by
  obtain ⟨a, b⟩ := fr_good (nr_num h)
  exact num_inj a h b
theorem hd_lt {y z : Int} (h : y < z) : hd y < hd z := by
  unfold hd; omega
/-- What the loops over years and months look at. -/
theorem fr_year {n z : Int} (h : nr n = true) (hz : z ≤ fy n) : hd (z + 1) < n ↔ z < fy n := by
  obtain ⟨g, e⟩ := fr_good h
  obtain ⟨a1, a2, a3, a4, a5, a6⟩ := good_iff.1 g
  have c := cu_bd (lp (fy n)) a3 a4
  have s := hd_succ (fy n)
  unfold num at e
  constructor
  · intro k
    by_cases l : z = fy n
    · rw [l] at k; omega
    · omega
  · intro k
    have := hd_le (show z + 1 ≤ fy n by omega)
    omega
theorem fr_first {n z : Int} (h : nr n = true) (hz : hd z < n) : z ≤ fy n := by
  obtain ⟨g, e⟩ := fr_good h
  obtain ⟨a1, a2, a3, a4, a5, a6⟩ := good_iff.1 g
  have c := cu_bd (lp (fy n)) a3 a4
  have s := hd_succ (fy n)
  unfold num at e
  by_cases k : z ≤ fy n
  · exact k
  · have := hd_le (show fy n + 1 ≤ z by omega)
    omega
theorem cu_add (l : Bool) {z m : Int} (h1 : 1 ≤ z) (h2 : z < m) (h3 : m ≤ 12) : cu l z + ml l z ≤ cu l m := by
  rcases twelve h1 (by omega) with rfl | rfl | rfl | rfl | rfl | rfl | rfl | rfl | rfl | rfl | rfl | rfl <;>
  rcases twelve (m := m) (by omega) h3 with rfl | rfl | rfl | rfl | rfl | rfl | rfl | rfl | rfl | rfl | rfl | rfl <;>
  first | omega | (cases l <;> decide)
theorem fr_month {n z : Int} (h : nr n = true) (h1 : 1 ≤ z) (hz : z ≤ fm n) : ml (lp (fy n)) z < n - hd (fy n) - cu (lp (fy n)) z ↔ z < fm n := by
  obtain ⟨g, e⟩ := fr_good h
  obtain ⟨a1, a2, a3, a4, a5, a6⟩ := good_iff.1 g
  unfold num at e
  constructor
  · intro k
    by_cases l : z = fm n
    · rw [l] at k; omega
    · omega
  · intro k
    have := cu_add (lp (fy n)) h1 k a4
    omega
/-- What is told of a number. -/
def rg (b : Bool) : Int := if b then 0 else 1
end Go.Proofs.YtbfamafajefapaaGreatDoor.Dy

namespace Go.Proofs.YtbfamafajefapaaGreatDoor.Dy
open Go.RowKit Tn

set_option maxHeartbeats 400000 in
theorem leapsAhead_any (y : Int) (h1 : 1 ≤ y) (h2 : y ≤ 20000) (w : World) : Calls Tryz.prog 115 #[.int .i64 y] w fun e w' => e = .returned (.int .i64 ((y - 1) / 4 - (y - 1) / 100 + (y - 1) / 400)) ∧ w' = w := by
  obtain ⟨a, ha⟩ : ∃ a, y - 1 = a := ⟨_, rfl⟩
  obtain ⟨p, hp⟩ : ∃ a', a / 4 = a' := ⟨_, rfl⟩
  obtain ⟨q, hq⟩ : ∃ a', a / 100 = a' := ⟨_, rfl⟩
  obtain ⟨r, hr⟩ : ∃ a', a / 400 = a' := ⟨_, rfl⟩
  have e0 : IntKind.i64.wrap (y - 1) = a := by rw [wrapI _ (by omega) (by omega)]; exact ha
  have e1 : a.tdiv 4 = p := by rw [Int.tdiv_eq_ediv_of_nonneg (by omega)]; exact hp
  have e2 : a.tdiv 100 = q := by rw [Int.tdiv_eq_ediv_of_nonneg (by omega)]; exact hq
  have e3 : a.tdiv 400 = r := by rw [Int.tdiv_eq_ediv_of_nonneg (by omega)]; exact hr
  have f1 : IntKind.i64.wrap p = p := wrapI _ (by omega) (by omega)
  have f2 : IntKind.i64.wrap q = q := wrapI _ (by omega) (by omega)
  have f3 : IntKind.i64.wrap r = r := wrapI _ (by omega) (by omega)
  have f4 : IntKind.i64.wrap (p - q) = p - q := wrapI _ (by omega) (by omega)
  have f5 : IntKind.i64.wrap (p - q + r) = p - q + r := wrapI _ (by omega) (by omega)
  rw [ha, hp, hq, hr]
  clear ha hp hq hr h1 h2
  go_enter Tryz.func115, Tryz.ntmps115
  go_wp2
  go_ret
  exact ⟨rfl, rfl⟩
set_option maxHeartbeats 400000 in
theorem daysAhead_any (y : Int) (h1 : 1 ≤ y) (h2 : y ≤ 20000) (w : World) : Calls Tryz.prog 156 #[.int .i64 y] w fun e w' => e = .returned (.int .i64 (hd y)) ∧ w' = w := by
  have A := leapsAhead_any y h1 h2
  obtain ⟨a, ha⟩ : ∃ a, y - 1 = a := ⟨_, rfl⟩
  obtain ⟨p, hp⟩ : ∃ p, (y - 1) / 4 - (y - 1) / 100 + (y - 1) / 400 = p := ⟨_, rfl⟩
  have H : hd y = 365 * a + p := by unfold hd; omega
  have e0 : IntKind.i64.wrap (y - 1) = a := by rw [wrapI _ (by omega) (by omega)]; exact ha
  have e1 : IntKind.i64.wrap (365 * a) = 365 * a := wrapI _ (by omega) (by omega)
  have e2 : IntKind.i64.wrap (365 * a + p) = 365 * a + p := wrapI _ (by omega) (by omega)
  rw [hp] at A
  rw [H]
  clear ha hp H h1 h2
  go_enter Tryz.func156, Tryz.ntmps156
  go_wp2_with (first | (go_at_call 115; refine (A _).mono ?_; rintro x w1 ⟨rfl, rfl⟩) | fail)
  go_ret
  exact ⟨rfl, rfl⟩
set_option maxHeartbeats 400000 in
theorem oneMore_any (n : Int) (b : Bool) (h1 : 0 ≤ n) (h2 : n ≤ 20000) (w : World) : Calls Tryz.prog 111 #[.int .i64 n, .bool b] w fun e w' => e = .returned (.int .i64 (if b then n + 1 else n)) ∧ w' = w := by
  have e0 : IntKind.i64.wrap (n + 1) = n + 1 := wrapI _ (by omega) (by omega)
  clear h1 h2
  cases b
  all_goals
    go_enter Tryz.func111, Tryz.ntmps111
    go_wp2
    go_ret
    exact ⟨rfl, rfl⟩
theorem hd_400 {q : Int} : hd (q * 400 + 1) = q * 146097 := by unfold hd; omega
end Go.Proofs.YtbfamafajefapaaGreatDoor.Dy

namespace Go.Proofs.YtbfamafajefapaaGreatDoor.Dy
open Go.RowKit Tn
set_option maxHeartbeats 400000 in
theorem dayInYear_any (y m d : Int) (h1 : 0 ≤ y) (m1 : 1 ≤ m) (m2 : m ≤ 12) (d1 : 0 ≤ d) (d2 : d ≤ 31) (w : World) (G : Gl w) : Calls Tryz.prog 117 #[dt y m d] w fun e w' => e = .returned (.int .i64 (cu (lp y) m + d)) ∧ Below w.heap.size w w' := by
  have K0 := Blk.new w #[.int .i64 y, .int .i64 m, .int .i64 d] 38
  have pr := bl (w := w) #[.int .i64 y, .int .i64 m, .int .i64 d] 38
  have G' := G.alloc (.cells #[.int .i64 y, .int .i64 m, .int .i64 d] 38)
  unfold dt
  clear G
  go_enter Tryz.func117, Tryz.ntmps117
  go_wp2_with fail
  generalize w.alloc (.cells #[.int .i64 y, .int .i64 m, .int .i64 d] 38) = W at *
  have q0 : W.cell? ⟨w.heap.size, 0, none⟩ = some (.int .i64 y) := K0.at 0
  have q1 : W.cell? ⟨w.heap.size, 1, none⟩ = some (.int .i64 m) := K0.at 1
  clear K0
  go_loop [3, 4] (fun n t => ∃ z : Int, 1 ≤ z ∧ z ≤ m ∧ t = .int .i64 z ∧ n = .int .i64 (cu (lp y) z + d)) (fun _ t => (m - RowKit.intOf t).toNat)
  case atStart => exact ⟨1, by omega, by omega, rfl, by rw [cu_one]; simp⟩
  case round =>
    obtain ⟨z, z1, z2, rfl, rfl⟩ := hrel
    by_cases c : z < m
    · have S := lengthOf_any y z h1 z1 (by omega) W G'
      have cb := cu_bd (lp y) z1 (by omega)
      have sb : sz (lp y) = 365 ∨ sz (lp y) = 366 := by cases lp y <;> decide
      have mb := ml_bd (lp y) z
      have f6 : IntKind.i64.wrap (z + 1) = z + 1 := wrapI _ (by omega) (by omega)
      obtain ⟨H, hH⟩ : ∃ H, cu (lp y) z + d = H := ⟨_, rfl⟩
      have E : Hid (H + ml (lp y) z = cu (lp y) (z + 1) + d) := by show _ = _; rw [cu_succ _ z1 (by omega)]; omega
      have f5 : IntKind.i64.wrap (H + ml (lp y) z) = H + ml (lp y) z := wrapI _ (by omega) (by omega)
      rw [hH]
      clear cb sb mb hH
      generalize ml (lp y) z = S0 at *
      go_wp2_with (first | (go_at_call 114; refine S.mono ?_; rintro x w1 ⟨rfl, rfl⟩) | fail)
      go_round
      case rel => exact ⟨z + 1, by omega, by omega, rfl, by rw [E.out]⟩
      case measure => simp [RowKit.intOf]; omega
    · obtain rfl : z = m := by omega
      go_wp2_with fail
      go_ret
      exact ⟨rfl, pr⟩
set_option maxHeartbeats 400000 in
theorem numberOf_any (y m d : Int) (h1 : 1 ≤ y) (h2 : y ≤ 20000) (m1 : 1 ≤ m) (m2 : m ≤ 12) (d1 : 0 ≤ d) (d2 : d ≤ 31) (w : World) (G : Gl w) : Calls Tryz.prog 105 #[dt y m d] w fun e w' => e = .returned (.int .i64 (num y m d)) ∧ Below w.heap.size w w' := by
  have K0 := Blk.new w #[.int .i64 y, .int .i64 m, .int .i64 d] 38
  have pr := bl (w := w) #[.int .i64 y, .int .i64 m, .int .i64 d] 38
  have G' := G.alloc (.cells #[.int .i64 y, .int .i64 m, .int .i64 d] 38)
  have A := daysAhead_any y h1 h2
  have D := dayInYear_any y m d (by omega) m1 m2 d1 d2
  have cb := cu_bd (lp y) m1 m2
  have sb : sz (lp y) = 365 ∨ sz (lp y) = 366 := by cases lp y <;> decide
  have mb := ml_bd (lp y) m
  have hb := hd_bd h1
  have f5 : IntKind.i64.wrap (hd y + (cu (lp y) m + d)) = num y m d := by rw [wrapI _ (by omega) (by omega)]; unfold num; omega
  clear cb sb mb hb G h1 h2 m1 m2 d1 d2
  generalize num y m d = N at *
  generalize hd y = H at *
  generalize cu (lp y) m + d = C at *
  unfold dt at *
  go_enter Tryz.func105, Tryz.ntmps105
  go_wp2_with fail
  generalize w.alloc (.cells #[.int .i64 y, .int .i64 m, .int .i64 d] 38) = W at *
  have q0 : W.cell? ⟨w.heap.size, 0, none⟩ = some (.int .i64 y) := K0.at 0
  have q1 : W.cell? ⟨w.heap.size, 1, none⟩ = some (.int .i64 m) := K0.at 1
  have q2 : W.cell? ⟨w.heap.size, 2, none⟩ = some (.int .i64 d) := K0.at 2
  clear K0
  go_region_with (first
    | (go_at_call 156; refine (A _).mono ?_; rintro x w1 ⟨rfl, rfl⟩)
    | (go_at_call 117; refine (D _ (Gl.drew G' _)).mono ?_; rintro x w1 ⟨rfl, b1⟩))
  all_goals
    go_wp2_with fail
    go_ret
    exact ⟨rfl, belN pr b1⟩
set_option maxHeartbeats 400000 in
theorem Number_any (y m d : Int) (w : World) (G : Gl w) : Calls Tryz.prog 43 #[dt y m d] w fun e w' => e = .returned (.tuple #[.int .i64 (if good y m d then num y m d else 0), .int .i64 (er (good y m d))]) ∧ Below w.heap.size w w' := by
  have K0 := Blk.new w #[.int .i64 y, .int .i64 m, .int .i64 d] 38
  have pr := bl (w := w) #[.int .i64 y, .int .i64 m, .int .i64 d] 38
  have G' := G.alloc (.cells #[.int .i64 y, .int .i64 m, .int .i64 d] 38)
  have C := Check_any y m d
  clear G
  cases g : good y m d
  · rw [g] at C
    unfold dt er at *
    go_enter Tryz.func43, Tryz.ntmps43
    go_wp2_with (first
      | (go_at_call 47; refine (C _ G').mono ?_; rintro x w1 ⟨rfl, b1⟩)
      | fail)
    go_ret2
    exact ⟨rfl, belT pr b1⟩
  · have gg := good_iff.1 g
    have mb := ml_bd (lp y) m
    have N := numberOf_any y m d (by omega) (by omega) (by omega) (by omega) (by omega) (by omega)
    clear gg mb
    rw [g] at C
    clear g
    generalize num y m d = N0 at *
    unfold dt er at *
    go_enter Tryz.func43, Tryz.ntmps43
    go_wp2_with (first
      | (go_at_call 47; refine (C _ G').mono ?_; rintro x w1 ⟨rfl, b1⟩; have K1 := K0.below b1 K0.lt; have G1 := G'.grow b1; have k0 := K1.c0; have k1 := K1.c1; have k2 := K1.c2)
      | (go_at_call 105; refine (N _ G1).mono ?_; rintro x w2 ⟨rfl, b2⟩)
      | fail)
    go_ret2
    exact ⟨rfl, belT (belT pr b1) b2⟩
end Go.Proofs.YtbfamafajefapaaGreatDoor.Dy

namespace Go.Proofs.YtbfamafajefapaaGreatDoor.Dy
open Go.RowKit Tn

end Go.Proofs.YtbfamafajefapaaGreatDoor.Dy

namespace Go.Proofs.YtbfamafajefapaaGreatDoor.Dy
open Go.RowKit Tn
end Go.Proofs.YtbfamafajefapaaGreatDoor.Dy

namespace Go.Proofs.YtbfamafajefapaaGreatDoor.Dy
open Go.RowKit Tn

theorem dput {w : World} {n : Nat} {c : Array Value} {t : TypeId} (h : Blk w n c t) (i : Nat) (v : Value) : Blk (w.setCell ⟨n, i, none⟩ v) n (c.setIfInBounds i v) t := by
  have h' : w.heap[n]? = some (.cells c t (0, 0)) := h
  show (w.setCell ⟨n, i, none⟩ v).heap[n]? = _
  simp [World.setCell, Array.getElem?_modify, h']
theorem dskip {w : World} {n b : Nat} {c : Array Value} {t : TypeId} (h : Blk w n c t) (hb : b ≠ n) (i : Nat) (v : Value) : Blk (w.setCell ⟨b, i, none⟩ v) n c t := by
  have h' : w.heap[n]? = some (.cells c t (0, 0)) := h
  show (w.setCell ⟨b, i, none⟩ v).heap[n]? = _
  simp [World.setCell, Array.getElem?_modify, h', hb]
/-- The date of a variable, in the two loops. -/
def Dv (w : World) (b0 b1 : Nat) (y m : Int) (W : World) : Prop :=
  Blk W b0 #[.int .i64 0, .int .i64 0, .int .i64 0] 38 ∧ Blk W b1 #[.int .i64 y, .int .i64 m, .int .i64 1] 38 ∧ Below w.heap.size w W
def ci (b i : Nat) (W : World) : Int := RowKit.intOf ((W.cell? ⟨b, i, none⟩).getD undef)
theorem ci_of {b i : Nat} {W : World} {z : Int} (h : W.cell? ⟨b, i, none⟩ = some (.int .i64 z)) : ci b i W = z := by unfold ci; rw [h]; rfl
theorem Dv.year {w : World} {b0 b1 : Nat} {y m : Int} {W : World} (h : Dv w b0 b1 y m W) (h0 : w.heap.size ≤ b1) (ne : b1 ≠ b0) (z : Int) : Dv w b0 b1 z m (W.setCell ⟨b1, 0, none⟩ (.int .i64 z)) :=
  ⟨dskip h.1 ne 0 _, dput h.2.1 0 _, h.2.2.setCell (p := ⟨b1, 0, none⟩) h0 _⟩
theorem Dv.month {w : World} {b0 b1 : Nat} {y m : Int} {W : World} (h : Dv w b0 b1 y m W) (h0 : w.heap.size ≤ b1) (ne : b1 ≠ b0) (z : Int) : Dv w b0 b1 y z (W.setCell ⟨b1, 1, none⟩ (.int .i64 z)) :=
  ⟨dskip h.1 ne 1 _, dput h.2.1 1 _, h.2.2.setCell (p := ⟨b1, 1, none⟩) h0 _⟩
theorem dput3 {w : World} {n : Nat} {a b c : Value} {t : TypeId} (h : Blk w n #[a, b, c] t) (x y z : Int) : Blk (((w.setCell ⟨n, 0, none⟩ (.int .i64 x)).setCell ⟨n, 1, none⟩ (.int .i64 y)).setCell ⟨n, 2, none⟩ (.int .i64 z)) n #[.int .i64 x, .int .i64 y, .int .i64 z] t := dput (dput (dput h 0 _) 1 _) 2 _
theorem dset3 {w W : World} {n : Nat} {x y z : Value} (h : Below w.heap.size w W) (hn : w.heap.size ≤ n) : Below w.heap.size w (((W.setCell ⟨n, 0, none⟩ x).setCell ⟨n, 1, none⟩ y).setCell ⟨n, 2, none⟩ z) :=
  ((h.setCell (p := ⟨n, 0, none⟩) hn x).setCell (p := ⟨n, 1, none⟩) hn y).setCell (p := ⟨n, 2, none⟩) hn z
end Go.Proofs.YtbfamafajefapaaGreatDoor.Dy
