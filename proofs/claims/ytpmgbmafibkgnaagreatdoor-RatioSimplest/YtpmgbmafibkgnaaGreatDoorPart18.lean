import Derived.Test.YtpmgbmafibkgnaaGreatDoorPart17
import Derived.Deep.RegionHeld3
import Derived.Laws.Strings
import Derived.Test.YtpmgbmafibkgnaaGreatDoorPart02

namespace Go.Proofs.YtpmgbmafibkgnaaGreatDoor
open Go.RowKit Tn

theorem mul_len {xs ys zs : List Int} (hx : Wd xs) (hy : Wd ys) (hz : Wd zs) (nz : Nm zs) (h : val zs = val xs * val ys) : zs.length ≤ xs.length + ys.length := by
  by_cases c : zs.length ≤ xs.length + ys.length
  · exact c
  · have h0 : zs ≠ [] := by rintro rfl; simp at c
    have h1 := val_low hz nz h0
    have h2 := pw_mono (show xs.length + ys.length ≤ zs.length - 1 by omega)
    rw [pw_add] at h2
    have h3 := Int.mul_le_mul_of_nonneg_right (Int.le_of_lt (val_lt hx)) (val_nonneg hy)
    have h4 := Int.mul_lt_mul_of_pos_left (val_lt hy) (pw_pos xs.length)
    omega

/-- What compare answers, of sign, numerator and denominator. -/
def cmpF (g1 : Bool) (a b : Int) (g2 : Bool) (c d : Int) : Int :=
  if g1 = true then (if g2 = true then cmp3 (c * b) (a * d) else -1) else (if g2 = true then 1 else cmp3 (a * d) (c * b))

set_option maxRecDepth 100000 in
set_option maxHeartbeats 1600000 in
theorem compare_plain (v1 v2 v3 v4 : Value) (A B C D : List Int) (w : World) (h1 : Rd w v1 A) (h2 : Rd w v2 B) (h3 : Rd w v3 C) (h4 : Rd w v4 D) (l1 : A.length < 80) (l2 : B.length ≤ 274877906944) (l3 : C.length < 80) (l4 : D.length ≤ 274877906944) :
    Calls Tryz.prog 14 #[.agg #[.bool false, v1, v2], .agg #[.bool false, v3, v4]] w fun e w' => e = .returned (.int .i64 (cmp3 (val A * val D) (val C * val B))) ∧ Below w.heap.size w w' := by
  have H1 : Hid (Rd w v1 A) := h1
  have H2 : Hid (Rd w v2 B) := h2
  have H3 : Hid (Rd w v3 C) := h3
  have H4 : Hid (Rd w v4 D) := h4
  obtain ⟨a1, m1, c1, rfl⟩ := h1.shape
  obtain ⟨a2, m2, c2, rfl⟩ := h2.shape
  obtain ⟨a3, m3, c3, rfl⟩ := h3.shape
  obtain ⟨a4, m4, c4, rfl⟩ := h4.shape
  clear h1 h2 h3 h4
  have pr : Below w.heap.size w ((w.alloc (.cells #[.bool false, .slice a1 m1 c1, .slice a2 m2 c2] 41)).alloc (.cells #[.bool false, .slice a3 m3 c3, .slice a4 m4 c4] 41)) := ((Below.refl _ _).alloc (Nat.le_refl _) _).alloc (by simp) _
  go_enter Tryz.func14, Tryz.ntmps14
  go_wp2_with fail
  have K0 : Blk ((w.alloc (.cells #[.bool false, .slice a1 m1 c1, .slice a2 m2 c2] 41)).alloc (.cells #[.bool false, .slice a3 m3 c3, .slice a4 m4 c4] 41)) w.heap.size #[.bool false, .slice a1 m1 c1, .slice a2 m2 c2] 41 := (Blk.new _ _ _).alloc _
  have K1 := Blk.new (w.alloc (.cells #[.bool false, .slice a1 m1 c1, .slice a2 m2 c2] 41)) #[.bool false, .slice a3 m3 c3, .slice a4 m4 c4] 41
  simp only [World.size_alloc] at K1
  have R1 : Hid _ := H1.out.grow pr
  have R2 : Hid _ := H2.out.grow pr
  have R3 : Hid _ := H3.out.grow pr
  have R4 : Hid _ := H4.out.grow pr
  clear H1 H2 H3 H4
  generalize (w.alloc (.cells #[.bool false, .slice a1 m1 c1, .slice a2 m2 c2] 41)).alloc (.cells #[.bool false, .slice a3 m3 c3, .slice a4 m4 c4] 41) = W at *
  have e01 : W.cell? ⟨w.heap.size, 1, none⟩ = some (.slice a1 m1 c1) := K0.at 1
  have e02 : W.cell? ⟨w.heap.size, 2, none⟩ = some (.slice a2 m2 c2) := K0.at 2
  have e11 : W.cell? ⟨w.heap.size + 1, 1, none⟩ = some (.slice a3 m3 c3) := K1.at 1
  have e12 : W.cell? ⟨w.heap.size + 1, 2, none⟩ = some (.slice a4 m4 c4) := K1.at 2
  have L0 := K0.lt; have L1 := K1.lt
  go_region_held3 (fun x => x.cell? ⟨w.heap.size, 1, none⟩ = some (.slice a1 m1 c1) ∧ x.cell? ⟨w.heap.size, 2, none⟩ = some (.slice a2 m2 c2) ∧ x.cell? ⟨w.heap.size + 1, 1, none⟩ = some (.slice a3 m3 c3) ∧ x.cell? ⟨w.heap.size + 1, 2, none⟩ = some (.slice a4 m4 c4)) (go_keep) (first
    | (go_at_call_of 23 c1; refine (Mul_short _ _ A D _ (Rd.drew R1.out) (Rd.drew R4.out) (by omega) (by omega) l4).mono ?_; rintro e w1 ⟨r1, zs, rfl, q1, n1, u1, b1⟩; obtain ⟨i1, i2, i3, rfl⟩ := q1.shape; have U1 : Hid _ := u1; clear u1; have f01 := (b1.cell (p := ⟨w.heap.size, 1, none⟩) L0).trans e01; have f02 := (b1.cell (p := ⟨w.heap.size, 2, none⟩) L0).trans e02; have f11 := (b1.cell (p := ⟨w.heap.size + 1, 1, none⟩) L1).trans e11; have f12 := (b1.cell (p := ⟨w.heap.size + 1, 2, none⟩) L1).trans e12)
    | (go_at_call_of 23 c3; refine (Mul_short _ _ C B _ ((Rd.drew R3.out).grow b1) ((Rd.drew R2.out).grow b1) (by omega) (by omega) l2).mono ?_; rintro e w2 ⟨r2, rs, rfl, q2, n2, u2, b2⟩; obtain ⟨j1, j2, j3, rfl⟩ := q2.shape; have U2 : Hid _ := u2; clear u2; have g01 := (b2.cell (p := ⟨w.heap.size, 1, none⟩) (lt_of_cell f01)).trans f01; have g02 := (b2.cell (p := ⟨w.heap.size, 2, none⟩) (lt_of_cell f02)).trans f02; have g11 := (b2.cell (p := ⟨w.heap.size + 1, 1, none⟩) (lt_of_cell f11)).trans f11; have g12 := (b2.cell (p := ⟨w.heap.size + 1, 2, none⟩) (lt_of_cell f12)).trans f12)
    | (go_at_call 30; refine (Cmp_any _ _ zs rs _ (q1.grow b2) q2 n1 n2 (by have := mul_len R1.out.1 R4.out.1 q1.1 n1 U1.out; omega)).mono ?_; rintro e w3 ⟨rfl, b3⟩; rw [U1.out, U2.out]; have k01 := (b3.cell (p := ⟨w.heap.size, 1, none⟩) (lt_of_cell g01)).trans g01; have k02 := (b3.cell (p := ⟨w.heap.size, 2, none⟩) (lt_of_cell g02)).trans g02; have k11 := (b3.cell (p := ⟨w.heap.size + 1, 1, none⟩) (lt_of_cell g11)).trans g11; have k12 := (b3.cell (p := ⟨w.heap.size + 1, 2, none⟩) (lt_of_cell g12)).trans g12)
    | fail)
  all_goals
    have ds : W.drew.heap.size = W.heap.size := rfl
    have p1 := pr.drew.trans (b1.mono (by have := pr.size; omega))
    have p2 := p1.trans (b2.mono p1.size)
    have p3 := p2.trans (b3.mono p2.size)
    go_wp2
    go_ret
    exact ⟨rfl, p3⟩
end Go.Proofs.YtpmgbmafibkgnaaGreatDoor

namespace Go.Proofs.YtpmgbmafibkgnaaGreatDoor
open Go.RowKit Tn

set_option maxRecDepth 100000 in
theorem compare_left (a1 a2 a3 a4 : Option Addr) (m1 c1 m2 c2 m3 c3 m4 c4 : Nat) (w : World) :
    Calls Tryz.prog 14 #[.agg #[.bool true, .slice a1 m1 c1, .slice a2 m2 c2], .agg #[.bool false, .slice a3 m3 c3, .slice a4 m4 c4]] w fun e w' => e = .returned (.int .i64 (-1)) ∧ Below w.heap.size w w' := by
  go_enter Tryz.func14, Tryz.ntmps14
  go_wp2
  go_ret
  exact ⟨rfl, ((Below.refl _ _).alloc (Nat.le_refl _) _).alloc (by simp) _⟩
set_option maxRecDepth 100000 in
theorem compare_right (a1 a2 a3 a4 : Option Addr) (m1 c1 m2 c2 m3 c3 m4 c4 : Nat) (w : World) :
    Calls Tryz.prog 14 #[.agg #[.bool false, .slice a1 m1 c1, .slice a2 m2 c2], .agg #[.bool true, .slice a3 m3 c3, .slice a4 m4 c4]] w fun e w' => e = .returned (.int .i64 1) ∧ Below w.heap.size w w' := by
  go_enter Tryz.func14, Tryz.ntmps14
  go_wp2
  go_ret
  exact ⟨rfl, ((Below.refl _ _).alloc (Nat.le_refl _) _).alloc (by simp) _⟩
set_option maxRecDepth 100000 in
set_option maxHeartbeats 1600000 in
theorem compare_neg (v1 v2 v3 v4 : Value) (A B C D : List Int) (w : World) (h1 : Rd w v1 A) (h2 : Rd w v2 B) (h3 : Rd w v3 C) (h4 : Rd w v4 D) (l1 : A.length < 80) (l2 : B.length ≤ 274877906944) (l3 : C.length < 80) (l4 : D.length ≤ 274877906944) :
    Calls Tryz.prog 14 #[.agg #[.bool true, v3, v4], .agg #[.bool true, v1, v2]] w fun e w' => e = .returned (.int .i64 (cmp3 (val A * val D) (val C * val B))) ∧ Below w.heap.size w w' := by
  have H1 : Hid (Rd w v1 A) := h1
  have H2 : Hid (Rd w v2 B) := h2
  have H3 : Hid (Rd w v3 C) := h3
  have H4 : Hid (Rd w v4 D) := h4
  obtain ⟨a1, m1, c1, rfl⟩ := h1.shape
  obtain ⟨a2, m2, c2, rfl⟩ := h2.shape
  obtain ⟨a3, m3, c3, rfl⟩ := h3.shape
  obtain ⟨a4, m4, c4, rfl⟩ := h4.shape
  clear h1 h2 h3 h4
  have pr : Below w.heap.size w ((w.alloc (.cells #[.bool true, .slice a1 m1 c1, .slice a2 m2 c2] 41)).alloc (.cells #[.bool true, .slice a3 m3 c3, .slice a4 m4 c4] 41)) := ((Below.refl _ _).alloc (Nat.le_refl _) _).alloc (by simp) _
  go_enter Tryz.func14, Tryz.ntmps14
  go_wp2_with fail
  have K0 : Blk ((w.alloc (.cells #[.bool true, .slice a1 m1 c1, .slice a2 m2 c2] 41)).alloc (.cells #[.bool true, .slice a3 m3 c3, .slice a4 m4 c4] 41)) w.heap.size #[.bool true, .slice a1 m1 c1, .slice a2 m2 c2] 41 := (Blk.new _ _ _).alloc _
  have K1 := Blk.new (w.alloc (.cells #[.bool true, .slice a1 m1 c1, .slice a2 m2 c2] 41)) #[.bool true, .slice a3 m3 c3, .slice a4 m4 c4] 41
  simp only [World.size_alloc] at K1
  have R1 : Hid _ := H1.out.grow pr
  have R2 : Hid _ := H2.out.grow pr
  have R3 : Hid _ := H3.out.grow pr
  have R4 : Hid _ := H4.out.grow pr
  clear H1 H2 H3 H4
  generalize (w.alloc (.cells #[.bool true, .slice a1 m1 c1, .slice a2 m2 c2] 41)).alloc (.cells #[.bool true, .slice a3 m3 c3, .slice a4 m4 c4] 41) = W at *
  have e01 : W.cell? ⟨w.heap.size, 1, none⟩ = some (.slice a1 m1 c1) := K0.at 1
  have e02 : W.cell? ⟨w.heap.size, 2, none⟩ = some (.slice a2 m2 c2) := K0.at 2
  have e11 : W.cell? ⟨w.heap.size + 1, 1, none⟩ = some (.slice a3 m3 c3) := K1.at 1
  have e12 : W.cell? ⟨w.heap.size + 1, 2, none⟩ = some (.slice a4 m4 c4) := K1.at 2
  have L0 := K0.lt; have L1 := K1.lt
  go_region_held3 (fun x => x.cell? ⟨w.heap.size, 1, none⟩ = some (.slice a1 m1 c1) ∧ x.cell? ⟨w.heap.size, 2, none⟩ = some (.slice a2 m2 c2) ∧ x.cell? ⟨w.heap.size + 1, 1, none⟩ = some (.slice a3 m3 c3) ∧ x.cell? ⟨w.heap.size + 1, 2, none⟩ = some (.slice a4 m4 c4)) (go_keep) (first
    | (go_at_call_of 23 c1; refine (Mul_short _ _ A D _ (Rd.drew R1.out) (Rd.drew R4.out) (by omega) (by omega) l4).mono ?_; rintro e w1 ⟨r1, zs, rfl, q1, n1, u1, b1⟩; obtain ⟨i1, i2, i3, rfl⟩ := q1.shape; have U1 : Hid _ := u1; clear u1; have f01 := (b1.cell (p := ⟨w.heap.size, 1, none⟩) L0).trans e01; have f02 := (b1.cell (p := ⟨w.heap.size, 2, none⟩) L0).trans e02; have f11 := (b1.cell (p := ⟨w.heap.size + 1, 1, none⟩) L1).trans e11; have f12 := (b1.cell (p := ⟨w.heap.size + 1, 2, none⟩) L1).trans e12)
    | (go_at_call_of 23 c3; refine (Mul_short _ _ C B _ ((Rd.drew R3.out).grow b1) ((Rd.drew R2.out).grow b1) (by omega) (by omega) l2).mono ?_; rintro e w2 ⟨r2, rs, rfl, q2, n2, u2, b2⟩; obtain ⟨j1, j2, j3, rfl⟩ := q2.shape; have U2 : Hid _ := u2; clear u2; have g01 := (b2.cell (p := ⟨w.heap.size, 1, none⟩) (lt_of_cell f01)).trans f01; have g02 := (b2.cell (p := ⟨w.heap.size, 2, none⟩) (lt_of_cell f02)).trans f02; have g11 := (b2.cell (p := ⟨w.heap.size + 1, 1, none⟩) (lt_of_cell f11)).trans f11; have g12 := (b2.cell (p := ⟨w.heap.size + 1, 2, none⟩) (lt_of_cell f12)).trans f12)
    | (go_at_call 30; refine (Cmp_any _ _ zs rs _ (q1.grow b2) q2 n1 n2 (by have := mul_len R1.out.1 R4.out.1 q1.1 n1 U1.out; omega)).mono ?_; rintro e w3 ⟨rfl, b3⟩; rw [U1.out, U2.out]; have k01 := (b3.cell (p := ⟨w.heap.size, 1, none⟩) (lt_of_cell g01)).trans g01; have k02 := (b3.cell (p := ⟨w.heap.size, 2, none⟩) (lt_of_cell g02)).trans g02; have k11 := (b3.cell (p := ⟨w.heap.size + 1, 1, none⟩) (lt_of_cell g11)).trans g11; have k12 := (b3.cell (p := ⟨w.heap.size + 1, 2, none⟩) (lt_of_cell g12)).trans g12)
    | fail)
  all_goals
    have ds : W.drew.heap.size = W.heap.size := rfl
    have p1 := pr.drew.trans (b1.mono (by have := pr.size; omega))
    have p2 := p1.trans (b2.mono p1.size)
    have p3 := p2.trans (b3.mono p2.size)
    go_wp2
    go_ret
    exact ⟨rfl, p3⟩

/-- ratio.compare. -/
theorem compare_any (g1 g2 : Bool) (v1 v2 v3 v4 : Value) (A B C D : List Int) (w : World) (h1 : Rd w v1 A) (h2 : Rd w v2 B) (h3 : Rd w v3 C) (h4 : Rd w v4 D) (l1 : A.length < 80) (l2 : B.length ≤ 274877906944) (l3 : C.length < 80) (l4 : D.length ≤ 274877906944) :
    Calls Tryz.prog 14 #[.agg #[.bool g1, v1, v2], .agg #[.bool g2, v3, v4]] w fun e w' => e = .returned (.int .i64 (cmpF g1 (val A) (val B) g2 (val C) (val D))) ∧ Below w.heap.size w w' := by
  cases g1 <;> cases g2
  · exact compare_plain v1 v2 v3 v4 A B C D w h1 h2 h3 h4 l1 l2 l3 l4
  · obtain ⟨_, _, _, rfl⟩ := h1.shape
    obtain ⟨_, _, _, rfl⟩ := h2.shape
    obtain ⟨_, _, _, rfl⟩ := h3.shape
    obtain ⟨_, _, _, rfl⟩ := h4.shape
    exact compare_right _ _ _ _ _ _ _ _ _ _ _ _ w
  · obtain ⟨_, _, _, rfl⟩ := h1.shape
    obtain ⟨_, _, _, rfl⟩ := h2.shape
    obtain ⟨_, _, _, rfl⟩ := h3.shape
    obtain ⟨_, _, _, rfl⟩ := h4.shape
    exact compare_left _ _ _ _ _ _ _ _ _ _ _ _ w
  · exact compare_neg v3 v4 v1 v2 C D A B w h3 h4 h1 h2 l3 l4 l1 l2
end Go.Proofs.YtpmgbmafibkgnaaGreatDoor

namespace Go.Proofs.YtpmgbmafibkgnaaGreatDoor
open Go.RowKit Tn

/-- A byte that is a decimal digit. -/
def Dg (b : UInt8) : Prop := 48 ≤ (b.toNat : Int) ∧ (b.toNat : Int) ≤ 57
/-- One decimal digit or more. -/
def Digs (s : ByteArray) : Prop := 0 < s.size ∧ ∀ i (h : i < s.size), Dg s[i]
theorem empty_iff (s : ByteArray) : s.toList.isEmpty = decide (s.size = 0) := by
  rw [ByteArray.toList_eq, Bool.eq_iff_iff, List.isEmpty_iff, decide_eq_true_iff, ← List.length_eq_zero_iff, Array.length_toList]
  rfl

set_option maxRecDepth 100000 in
theorem isDigits_yes (s : ByteArray) (w : World) (hs : s.size ≤ 1099511627776) (h : Digs s) :
    Calls Tryz.prog 76 #[.string s] w fun e w' => e = .returned (.bool true) ∧ w' = w := by
  have he : Hid (s.toList.isEmpty = false) := by show _ = _; rw [empty_iff, decide_eq_false_iff_not]; have := h.1; omega
  go_enter Tryz.func76, Tryz.ntmps76
  go_wp2_with fail
  go_loopw [6] (fun i wr => ∃ k : Nat, k ≤ s.size ∧ i = .int .i64 k ∧ wr = w) (fun i _ => s.size - (intOf i).toNat)
  case atStart => exact ⟨0, Nat.zero_le _, rfl, rfl⟩
  case round =>
    obtain ⟨k, hk, rfl, rfl⟩ := hrel
    by_cases hlt : k < s.size
    · obtain ⟨d1, d2⟩ := h.2 k hlt
      go_wp2
      go_roundw
      case rel => exact ⟨k + 1, by omega, by go_num, trivial⟩
      case measure => simp [intOf]; omega
    · go_wp2
      go_ret
      exact ⟨by rw [he.out]; rfl, rfl⟩

set_option maxRecDepth 100000 in
theorem isDigits_no (s : ByteArray) (w : World) (hs : s.size ≤ 1099511627776) (h : ¬ Digs s) :
    Calls Tryz.prog 76 #[.string s] w fun e w' => e = .returned (.bool false) ∧ w' = w := by
  have H : Hid (¬ Digs s) := h
  clear h
  go_enter Tryz.func76, Tryz.ntmps76
  go_wp2_with fail
  go_loopw [6] (fun i wr => ∃ k : Nat, k ≤ s.size ∧ i = .int .i64 k ∧ Hid (∀ j (h : j < s.size), j < k → Dg s[j]) ∧ wr = w) (fun i _ => s.size - (intOf i).toNat)
  case atStart => exact ⟨0, Nat.zero_le _, rfl, fun j _ hj => absurd hj (by omega), rfl⟩
  case round =>
    obtain ⟨k, hk, rfl, hd, rfl⟩ := hrel
    by_cases hlt : k < s.size
    · by_cases hg : Dg s[k]
      · have N : Hid (∀ j (h : j < s.size), j < k + 1 → Dg s[j]) := fun j hj hjk => by
          by_cases e : j = k
          · subst e; exact hg
          · exact hd.out j hj (by omega)
        obtain ⟨d1, d2⟩ := hg
        go_wp2
        go_roundw
        case rel => exact ⟨k + 1, by omega, by go_num, N, trivial⟩
        case measure => simp [intOf]; omega
      · have hg' : (s[k].toNat : Int) < 48 ∨ 57 < (s[k].toNat : Int) := by unfold Dg at hg; omega
        clear hg
        rcases hg' with hg | hg
        · go_wp2
          go_ret
          exact ⟨rfl, rfl⟩
        · go_wp2
          all_goals first | (go_ret; exact ⟨rfl, rfl⟩) | (exfalso; omega)
    · have he : Hid (s.toList.isEmpty = true) := by
        show _ = _
        rw [empty_iff, decide_eq_true_iff]
        by_cases e : s.size = 0
        · exact e
        · exact absurd ⟨by omega, fun j hj => hd.out j hj (by omega)⟩ H.out
      go_wp2
      go_ret
      exact ⟨by rw [he.out]; rfl, rfl⟩
end Go.Proofs.YtpmgbmafibkgnaaGreatDoor

namespace Go.Proofs.YtpmgbmafibkgnaaGreatDoor
open Go.RowKit Tn

set_option maxRecDepth 100000 in
theorem cutSign_neg (s : ByteArray) (w : World) (hs : s.size ≤ 1099511627776) (h0 : 0 < s.size) (h : (s[0].toNat : Int) = 45) :
    Calls Tryz.prog 42 #[.string s] w fun e w' => e = .returned (.tuple #[.bool true, .string (s.extract 1 s.size)]) ∧ ∃ n, w' = w.drewN n := by
  have he : s.toList.isEmpty = false := by rw [empty_iff, decide_eq_false_iff_not]; omega
  have hz : (1 : Int) ≤ (s.size : Int) := by omega
  go_enter Tryz.func42, Tryz.ntmps42
  go_wp2
  go_region
  all_goals
    go_wp2
    exact bodyPost_ret (v := .tuple #[.bool true, .string (s.extract 1 s.size)]) (by simp [results, Tryz.results42, go_sem]) rfl ⟨rfl, 1, rfl⟩
set_option maxRecDepth 100000 in
theorem cutSign_none (s : ByteArray) (w : World) (h0 : s.size = 0) :
    Calls Tryz.prog 42 #[.string s] w fun e w' => e = .returned (.tuple #[.bool false, .string s]) ∧ w' = w := by
  have he : s.toList.isEmpty = true := by rw [empty_iff, decide_eq_true_iff]; omega
  go_enter Tryz.func42, Tryz.ntmps42
  go_wp2
  exact bodyPost_ret (v := .tuple #[.bool false, .string s]) (by simp [results, Tryz.results42, go_sem]) rfl ⟨rfl, rfl⟩
set_option maxRecDepth 100000 in
theorem cutSign_pos (s : ByteArray) (w : World) (h0 : 0 < s.size) (h : (s[0].toNat : Int) ≠ 45) :
    Calls Tryz.prog 42 #[.string s] w fun e w' => e = .returned (.tuple #[.bool false, .string s]) ∧ w' = w := by
  have he : s.toList.isEmpty = false := by rw [empty_iff, decide_eq_false_iff_not]; omega
  have hb : ((s[0].toNat : Int) == 45) = false := by rw [beq_eq_false_iff_ne]; exact h
  go_enter Tryz.func42, Tryz.ntmps42
  go_wp2
  exact bodyPost_ret (v := .tuple #[.bool false, .string s]) (by simp [results, Tryz.results42, go_sem]) rfl ⟨rfl, rfl⟩
end Go.Proofs.YtpmgbmafibkgnaaGreatDoor

namespace Go.Proofs.YtpmgbmafibkgnaaGreatDoor
open Go.RowKit Tn

set_option maxRecDepth 100000 in
theorem isNatural_no (s : ByteArray) (w : World) (hs : s.size ≤ 1099511627776) (h : ¬ Digs s) :
    Calls Tryz.prog 41 #[.string s] w fun e w' => e = .returned (.bool false) ∧ w' = w := by
  go_enter Tryz.func41, Tryz.ntmps41
  go_wp2_with (go_at_call 76; go_must (refine (isDigits_no s _ hs h).mono ?_; rintro e w' ⟨rfl, rfl⟩))
  go_ret
  exact ⟨rfl, rfl⟩
set_option maxRecDepth 100000 in
theorem isNatural_long (s : ByteArray) (w : World) (hs : s.size ≤ 1099511627776) (h : Digs s) (h0 : (s[0]'h.1).toNat ≠ 48) :
    Calls Tryz.prog 41 #[.string s] w fun e w' => e = .returned (.bool true) ∧ w' = w := by
  have hz := h.1
  have hb : ((s[0].toNat : Int) != 48) = true := by rw [bne_iff_ne]; omega
  go_enter Tryz.func41, Tryz.ntmps41
  go_wp2_with (go_at_call 76; go_must (refine (isDigits_yes s _ hs h).mono ?_; rintro e w' ⟨rfl, rfl⟩))
  go_ret
  exact ⟨rfl, rfl⟩
set_option maxRecDepth 100000 in
theorem isNatural_nought (s : ByteArray) (w : World) (hs : s.size ≤ 1099511627776) (h : Digs s) (h0 : (s[0]'h.1).toNat = 48) :
    Calls Tryz.prog 41 #[.string s] w fun e w' => e = .returned (.bool (s.toList == [48])) ∧ w' = w := by
  have hz := h.1
  have hb : ((s[0].toNat : Int) != 48) = false := by rw [bne_eq_false_iff_eq]; omega
  go_enter Tryz.func41, Tryz.ntmps41
  go_wp2_with (go_at_call 76; go_must (refine (isDigits_yes s _ hs h).mono ?_; rintro e w' ⟨rfl, rfl⟩))
  go_ret
  exact ⟨rfl, rfl⟩

/-- A whole number from nought on, as the Words have it. -/
def Natl (s : ByteArray) : Prop := Digs s ∧ (s.size = 1 ∨ ∀ h : 0 < s.size, s[0].toNat ≠ 48)
theorem one_nought (s : ByteArray) (hz : 0 < s.size) (h : s[0].toNat = 48) : (s.toList == [48]) = decide (s.size = 1) := by
  rw [ByteArray.toList_eq]
  obtain ⟨⟨l⟩⟩ := s
  match l, hz, h with
  | [], hz, _ => exact absurd hz (by decide)
  | [x], _, h =>
    have e : x = 48 := UInt8.toNat_inj.1 h
    subst e
    rfl
  | x :: y :: t, _, _ =>
    have e : (ByteArray.mk ⟨x :: y :: t⟩).size = t.length + 2 := rfl
    rw [e]
    simp
/-- ratio.isNatural. -/
theorem isNatural_yes (s : ByteArray) (w : World) (hs : s.size ≤ 1099511627776) (h : Natl s) :
    Calls Tryz.prog 41 #[.string s] w fun e w' => e = .returned (.bool true) ∧ w' = w := by
  by_cases h0 : (s[0]'h.1.1).toNat = 48
  · have := isNatural_nought s w hs h.1 h0
    rw [one_nought s h.1.1 h0] at this
    rcases h.2 with e | e
    · rw [decide_eq_true e] at this; exact this
    · exact absurd h0 (e h.1.1)
  · exact isNatural_long s w hs h.1 h0
theorem isNatural_not (s : ByteArray) (w : World) (hs : s.size ≤ 1099511627776) (h : ¬ Natl s) :
    Calls Tryz.prog 41 #[.string s] w fun e w' => e = .returned (.bool false) ∧ w' = w := by
  by_cases d : Digs s
  · by_cases h0 : (s[0]'d.1).toNat = 48
    · have := isNatural_nought s w hs d h0
      rw [one_nought s d.1 h0] at this
      by_cases e : s.size = 1
      · exact absurd ⟨d, Or.inl e⟩ h
      · rw [decide_eq_false e] at this; exact this
    · exact absurd ⟨d, Or.inr fun _ => h0⟩ h
  · exact isNatural_no s w hs d
end Go.Proofs.YtpmgbmafibkgnaaGreatDoor

namespace Go.Proofs.YtpmgbmafibkgnaaGreatDoor.Mo
open Go.RowKit Dc

/-- Is a text a whole number from nought on? -/
def natB (s : ByteArray) : Bool := s.data.toList.all (fun c => decide (48 ≤ c.toNat ∧ c.toNat ≤ 57)) && decide (0 < s.size) && (decide (s.size = 1) || !decide (bt s 0 = 48))
/-- Is it 0? -/
def is0 (s : ByteArray) : Bool := s.toList == [48]
def is1 (s : ByteArray) : Bool := s.toList == [49]
theorem all_iff (s : ByteArray) : s.data.toList.all (fun c => decide (48 ≤ c.toNat ∧ c.toNat ≤ 57)) = true ↔ ∀ i (h : i < s.size), Dg s[i] := by
  rw [List.all_eq_true]
  constructor
  · intro h i hi
    have := h (s.data.toList[i]'(by simpa using hi)) (List.getElem_mem _)
    simp only [decide_eq_true_iff] at this
    show 48 ≤ ((s[i]).toNat : Int) ∧ ((s[i]).toNat : Int) ≤ 57
    have e : s[i] = s.data.toList[i]'(by simpa using hi) := rfl
    rw [e]
    omega
  · intro h c hc
    obtain ⟨i, hi, rfl⟩ := List.getElem_of_mem hc
    have := h i (by simpa using hi)
    unfold Go.Proofs.YtpmgbmafibkgnaaGreatDoor.Dg at this
    have e : s[i]'(by simpa using hi) = s.data.toList[i] := rfl
    rw [e] at this
    simp only [decide_eq_true_iff]
    omega
theorem natB_iff (s : ByteArray) : natB s = true ↔ Natl s := by
  unfold natB Natl Digs
  rw [Bool.and_eq_true, Bool.and_eq_true, all_iff, decide_eq_true_iff, Bool.or_eq_true, decide_eq_true_iff]
  have e : (!decide (bt s 0 = 48)) = true ↔ ∀ h : 0 < s.size, s[0].toNat ≠ 48 := by
    by_cases h0 : 0 < s.size
    · rw [bt_in h0]
      simp [h0]
    · rw [bt_out (by omega)]
      simp [h0]
  rw [e]
  constructor
  · rintro ⟨⟨a, b⟩, c⟩; exact ⟨⟨b, a⟩, c⟩
  · rintro ⟨⟨b, a⟩, c⟩; exact ⟨⟨a, b⟩, c⟩
theorem IsNatural_any (s : ByteArray) (w : World) (hs : s.size ≤ 1099511627776) :
    Calls Tryz.prog 41 #[.string s] w fun e w' => e = .returned (.bool (natB s)) ∧ w' = w := by
  rcases h : natB s with _ | _
  · exact isNatural_not s w hs (fun e => by rw [(natB_iff s).2 e] at h; cases h)
  · exact isNatural_yes s w hs ((natB_iff s).1 h)
/-- Is a text a whole number? -/
def whB (s : ByteArray) : Bool := natB (rest s) && !(neg s && is0 (rest s))
theorem rest_size (s : ByteArray) : (rest s).size ≤ s.size := by rw [rest_ex, ex_size]; omega
set_option maxHeartbeats 800000 in
set_option maxRecDepth 100000 in
theorem IsWhole_any (s : ByteArray) (w : World) (hs : s.size ≤ 1099511627776) :
    Calls Tryz.prog 40 #[.string s] w fun e w' => e = .returned (.bool (whB s)) ∧ Below w.heap.size w w' := by
  have hr := rest_size s
  have C := fun W => CutSign_any s W hs
  have N := fun W => IsNatural_any (rest s) W (by omega)
  unfold whB is0
  generalize rest s = z at *
  generalize neg s = g at *
  generalize natB z = b at *
  obtain ⟨q, hq⟩ : ∃ q, (z.toList == [48]) = q := ⟨_, rfl⟩
  rw [hq]
  cases b <;> cases g <;> cases q
  all_goals
    go_enter Tryz.func40, Tryz.ntmps40
    go_wp2_with (first
      | (go_at_call 42; (refine (C _).mono ?_); rintro e w' ⟨rfl, b1⟩)
      | (go_at_call 41; (refine (N _).mono ?_); rintro e w' ⟨rfl, rfl⟩))
    go_ret
    exact ⟨rfl, b1⟩
end Go.Proofs.YtpmgbmafibkgnaaGreatDoor.Mo
