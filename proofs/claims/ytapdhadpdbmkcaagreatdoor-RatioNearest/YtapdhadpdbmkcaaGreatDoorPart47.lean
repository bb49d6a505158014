import Derived.Test.YtapdhadpdbmkcaaGreatDoorPart45
import Derived.Test.YtapdhadpdbmkcaaGreatDoorPart46

namespace Go.Proofs.YtapdhadpdbmkcaaGreatDoor.Mo
open Go.RowKit Fu Tn Go.Lib Dc

def q13 : Rat := ⟨1, 3, by decide, by decide⟩
def q16 : Rat := ⟨1, 6, by decide, by decide⟩
def q12 : Rat := ⟨1, 2, by decide, by decide⟩
def q32 : Rat := ⟨-3, 2, by decide, by decide⟩
def q310 : Rat := ⟨3, 10, by decide, by decide⟩
def q25 : Rat := ⟨2, 5, by decide, by decide⟩
theorem d10 : decDigits 10 = [49, 48] := by simp [decDigits]
theorem d150 : decDigits 150 = [49, 53, 48] := by simp [decDigits]
theorem w13 : wrt q13 = .agg #[.string ⟨#[49]⟩, .string ⟨#[51]⟩] := by simp [wrt, q13, sg, sB, decDigits]
theorem w16 : wrt q16 = .agg #[.string ⟨#[49]⟩, .string ⟨#[54]⟩] := by simp [wrt, q16, sg, sB, decDigits]
theorem w12 : wrt q12 = .agg #[.string ⟨#[49]⟩, .string ⟨#[50]⟩] := by simp [wrt, q12, sg, sB, decDigits]
theorem w32 : wrt q32 = .agg #[.string ⟨#[45, 51]⟩, .string ⟨#[50]⟩] := by simp [wrt, q32, sg, sB, decDigits]
theorem w310 : wrt q310 = .agg #[.string ⟨#[51]⟩, .string ⟨#[49, 48]⟩] := by simp [wrt, q310, sg, sB, decDigits]
theorem w25 : wrt q25 = .agg #[.string ⟨#[50]⟩, .string ⟨#[53]⟩] := by simp [wrt, q25, sg, sB, decDigits]
theorem ps1 {r : Rat} (h1 : r.num.natAbs < 18446744073709551616) (h2 : r.den < 18446744073709551616) : PS r 1 := by
 have p1 : pw 1 = 18446744073709551616 := by decide
 unfold PS
 rw [p1]
 exact ⟨by omega, by omega⟩
theorem p13 : PS q13 1 := ps1 (by decide) (by decide)
theorem p16 : PS q16 1 := ps1 (by decide) (by decide)
theorem p12 : PS q12 1 := ps1 (by decide) (by decide)
theorem p32 : PS q32 1 := ps1 (by decide) (by decide)
theorem p310 : PS q310 1 := ps1 (by decide) (by decide)
theorem p25 : PS q25 1 := ps1 (by decide) (by decide)
theorem Of_ex (w : World) (G : Gw w) : Calls Tryz.prog 7 #[.int .i64 6, .int .i64 (-4)] w fun e w' => e = .returned (.tuple #[.agg #[.string ⟨#[45, 51]⟩, .string ⟨#[50]⟩], .int .i64 0]) ∧ Below w.heap.size w w' := by
 have := Of_p 6 (-4) w (by decide) (by decide) (by decide) (by decide) (by decide) G
 rw [show (((6 : Int) : Rat) / ((-4 : Int) : Rat)) = q32 by decide +kernel, w32] at this
 exact this
theorem Add_ex (w : World) (G : Gw w) : Calls Tryz.prog 12 #[.agg #[.string ⟨#[49]⟩, .string ⟨#[51]⟩], .agg #[.string ⟨#[49]⟩, .string ⟨#[54]⟩]] w fun e w' => e = .returned (.tuple #[.agg #[.string ⟨#[49]⟩, .string ⟨#[50]⟩], .int .i64 0]) ∧ Below w.heap.size w w' := by
 have := Add_r (p13.rdy (by decide)) (p16.rdy (by decide)) p13 p16 (by unfold MulOK; omega) (by decide) w G
 rw [show q13 + q16 = q12 by decide +kernel, p12.short (by decide), w13, w16, w12] at this
 exact this
theorem Between_ex (w : World) (G : Gw w) : Calls Tryz.prog 14 #[.agg #[.string ⟨#[51]⟩, .string ⟨#[49, 48]⟩], .agg #[.string ⟨#[50]⟩, .string ⟨#[53]⟩]] w fun e w' => e = .returned (.tuple #[.agg #[.string ⟨#[49]⟩, .string ⟨#[51]⟩], .int .i64 0]) ∧ Below w.heap.size w w' := by
 have := Between_pos (t := q13) 10 1 3 (p310.rdy (by decide)) (p25.rdy (by decide)) p310 p25 (by decide) (by decide) (by decide) (by decide) (by decide +kernel)
  ⟨by decide, by decide, by decide, by decide, by decide, by decide, by decide, by decide, by decide, by decide, by decide, by decide, by decide⟩ (by decide +kernel) ⟨rfl, rfl⟩ w G
 rw [p13.short (by decide), w310, w25, w13] at this
 exact this
theorem Decimal_ex (w : World) (G : Gw w) : Calls Tryz.prog 13 #[.agg #[.string ⟨#[45, 51]⟩, .string ⟨#[50]⟩], .int .i64 2, .int .i64 3] w fun e w' => e = .returned (.tuple #[.string ⟨#[45, 49, 46, 53, 48]⟩, .int .i64 0]) ∧ Below w.heap.size w w' := by
 have lp : (300 : Int) < pw 1 := by decide
 refine Decimal_way _ _ ⟨#[49, 53, 48]⟩ ⟨#[49]⟩ ⟨#[53, 48]⟩ ⟨#[45, 49]⟩ ⟨#[46, 53, 48]⟩ _ true true 3 2 100 300 150 2 3 w G (by decide) (by decide) (by decide) (by decide) (by decide) (by decide) (by decide) 1 (by decide) (by decide) (by decide) (by decide) (by decide) (by decide) (by decide) (by decide) (by decide) ?_ ?_ ?_ ?_ ?_ ?_ ?_ ?_
 ·intro x _
  have := Read_r (p32.rdy (by decide)) x
  rw [w32] at this
  exact this
 ·intro x
  exact IsWay_any 3 x
 ·intro x
  exact Of_n 10 x (by decide) (by decide)
 ·intro x a l c h
  have := Pow_n a l c 10 2 x h (by decide) (by decide)
  exact this
 ·intro x a l c a' l' c' h h'
  have := Mul_n h h' (m := 1) (n := 1) (by decide) (by decide) (by unfold MulOK; omega)
  exact this
 ·rintro x a l c a' l' c' ⟨xs, r1, n1, v1⟩ ⟨ys, r2, n2, v2⟩
  have l1 := len_of r1.1 n1 (n := 1) (by rw [v1]; decide)
  have l2 := len_of r2.1 n2 (n := 1) (by rw [v2]; decide)
  refine (Round_any true _ _ xs ys 3 x r1 r2 n1 n2 (by rw [v2]; decide) (by omega) (by omega) (by decide) (by decide)).mono ?_
  rintro e w' ⟨u1, u2, zs, us, rfl, z1, z2, z3, z4, _, _, b⟩
  obtain ⟨e1, e2, e3, rfl⟩ := z1.shape
  obtain ⟨e4, e5, e6, rfl⟩ := z4.shape
  rw [v1, v2, show rndA true 300 2 3 = 150 by decide] at z3
  refine ⟨(e1, e4), (e2, e5), (e3, e6), ?_, ⟨zs, z1, z2, z3⟩, b⟩
  rw [z3]; rfl
 ·intro x a l c h g
  have := Text_any a l c 150 x h (by decide +kernel) g
  rw [d150] at this
  exact this
 ·intro x
  exact WSign_any true [49] x (by decide)
set_option maxHeartbeats 1600000 in
theorem works_any (w : World) (G : Gw w) : Calls Tryz.prog 4 #[] w fun e w' => e = .returned (.bool true) ∧ Below w.heap.size w w' := by
 have RT := fun (x : World) (s t : ByteArray) => (Below.refl x.heap.size x).alloc (Nat.le_refl _) (.cells #[.string s, .string t] 23)
 go_enter Tryz.func4, Tryz.ntmps4
 go_wp2_with (first
  | (go_at_call 7; refine (Of_ex _ G).mono ?_; rintro e w1 ⟨rfl, b1⟩; have p1 := bel' b1 (RT w1 ⟨#[45, 51]⟩ ⟨#[50]⟩); have X1 := Blk.new w1 #[.string ⟨#[45, 51]⟩, .string ⟨#[50]⟩] 23)
  | (go_at_call 12; refine (Add_ex _ (G.grow p1)).mono ?_; rintro e w2 ⟨rfl, b2⟩; have q2 := bel' b2 (RT w2 ⟨#[49]⟩ ⟨#[50]⟩); have p2 := bel' p1 q2; have X12 := X1.below q2 X1.lt; have X2 := Blk.new w2 #[.string ⟨#[49]⟩, .string ⟨#[50]⟩] 23; have x0 := X12.at 0; have x1 := X12.at 1; simp at x0 x1; have xl := X12.lt)
  | (go_at_call 13; refine (Decimal_ex _ (G.grow p2)).mono ?_; rintro e w3 ⟨rfl, b3⟩; have p3 := bel' p2 b3; have X13 := X12.below b3 X12.lt; have X23 := X2.below b3 X2.lt)
  | (go_at_call 14; refine (Between_ex _ (G.grow p3)).mono ?_; rintro e w4 ⟨rfl, b4⟩; have q4 := bel' b4 (RT w4 ⟨#[49]⟩ ⟨#[51]⟩); have p4 := bel' p3 q4; have X14 := X13.below q4 X13.lt; have X24 := X23.below q4 X23.lt; have X4 := Blk.new w4 #[.string ⟨#[49]⟩, .string ⟨#[51]⟩] 23; have y0 := X14.at 0; have y1 := X14.at 1; have z0 := X24.at 0; have z1 := X24.at 1; have v0 := X4.at 0; have v1 := X4.at 1; simp at y0 y1 z0 z1 v0 v1; have yl := X14.lt; have zl := X24.lt; have vl := X4.lt)
  | fail)
 go_ret
 exact ⟨rfl, p4⟩
set_option maxHeartbeats 800000 in
theorem small_any (n d : ByteArray) (w : World) : Calls Tryz.prog 5 #[.agg #[.string n, .string d]] w fun e w' => e = .returned (.bool (decide (n.size ≤ 300 ∧ d.size ≤ 300 ∧ goodE n d = 0))) ∧ Below w.heap.size w w' := by
 have KA := Blk.new w #[.string n, .string d] 23
 have pr : Below w.heap.size w (w.alloc (.cells #[.string n, .string d] 23)) := (Below.refl _ _).alloc (Nat.le_refl _) _
 by_cases h1 : n.size ≤ 300
 ·have h1' : (n.size : Int) ≤ 300 := by omega
  by_cases h2 : d.size ≤ 300
  ·have h2' : (d.size : Int) ≤ 300 := by omega
   have C := fun x => Check_any n d x (by omega) (by omega)
   obtain ⟨k, hk⟩ : ∃ k, goodE n d = k := ⟨_, rfl⟩
   rw [hk] at C ⊢
   by_cases h3 : k = 0
   ·subst h3
    rw [decide_eq_true ⟨h1, h2, rfl⟩]
    go_enter Tryz.func5, Tryz.ntmps5
    go_wp2_with (first
     | (go_at_call 15; refine (C _).mono ?_; rintro e w1 ⟨rfl, b1⟩)
     | fail)
    go_ret
    exact ⟨rfl, bel' pr b1⟩
   ·rw [decide_eq_false (by simp [h3])]
    have h3' : (k == 0) = false := by simpa using h3
    go_enter Tryz.func5, Tryz.ntmps5
    go_wp2_with (first
     | (go_at_call 15; refine (C _).mono ?_; rintro e w1 ⟨rfl, b1⟩)
     | fail)
    go_ret
    exact ⟨rfl, bel' pr b1⟩
  ·have h2' : ¬ (d.size : Int) ≤ 300 := by omega
   rw [decide_eq_false (by simp [h2])]
   go_enter Tryz.func5, Tryz.ntmps5
   go_wp2
   go_ret
   exact ⟨rfl, pr⟩
 ·have h1' : ¬ (n.size : Int) ≤ 300 := by omega
  rw [decide_eq_false (by simp [h1])]
  go_enter Tryz.func5, Tryz.ntmps5
  go_wp2
  go_ret
  exact ⟨rfl, pr⟩
end Go.Proofs.YtapdhadpdbmkcaaGreatDoor.Mo

namespace Go.Proofs.YtapdhadpdbmkcaaGreatDoor.Mo
open Go.RowKit Fu Tn Go.Lib Dc

theorem ba_ext {a b : ByteArray} (h : a.toList = b.toList) : a = b := by
 rw [ByteArray.toList_eq, ByteArray.toList_eq] at h
 rw [← sB_data a, h, sB_data]
/-- A text's parts. -/
def tn (r : Rat) : ByteArray := sB (sg (decide (r.num < 0)) (decDigits r.num.natAbs))
def td (r : Rat) : ByteArray := sB (decDigits r.den)
theorem wrt_eq (r : Rat) : wrt r = .agg #[.string (tn r), .string (td r)] := rfl
theorem w0 : wrt 0 = .agg #[.string ⟨#[48]⟩, .string ⟨#[49]⟩] := by simp [wrt, sg, sB, decDigits]
theorem w1 : wrt 1 = .agg #[.string ⟨#[49]⟩, .string ⟨#[49]⟩] := by simp [wrt, sg, sB, decDigits]
theorem tn_zero (r : Rat) : ((tn r).toList == [48]) = decide (r = 0) := by
 unfold tn
 by_cases g : r.num < 0
 ·have : r ≠ 0 := by rintro rfl; simp at g
  rw [decide_eq_false this, sB_tl]
  simp [sg, g]
 ·have e : sg (decide (r.num < 0)) (decDigits r.num.natAbs) = decDigits r.num.natAbs := by simp [sg, g]
  rw [e]
  have := dec_is0 r.num.natAbs
  unfold is0 at this
  rw [this, decide_eq_decide]
  rw [← Rat.num_eq_zero]
  omega
/-- Contracts of small numbers: m words at most. -/
theorem add_c {r s : Rat} {m n : Nat} (h1 : PS r m) (h2 : PS s n) (hm : m < 80) (hn : n < 80) (W : World) (G : Gw W) : Calls Tryz.prog 12 #[wrt r, wrt s] W fun x w' => x = .returned (.tuple #[wrt (r + s), .int .i64 0]) ∧ Below W.heap.size W w' := by
 have := Add_r (h1.rdy (by omega)) (h2.rdy (by omega)) h1 h2 (by unfold MulOK; omega) (by omega) W G
 rw [(h1.add h2).short (by omega)] at this
 exact this
theorem sub_c {r s : Rat} {m n : Nat} (h1 : PS r m) (h2 : PS s n) (hm : m < 80) (hn : n < 80) (W : World) (G : Gw W) : Calls Tryz.prog 8 #[wrt r, wrt s] W fun x w' => x = .returned (.tuple #[wrt (r - s), .int .i64 0]) ∧ Below W.heap.size W w' := by
 have := Sub_r (h1.rdy (by omega)) (h2.rdy (by omega)) h1 h2 (by unfold MulOK; omega) (by omega) W G
 have e : PS (r - s) (m + n + 1) := by rw [Rat.sub_eq_add_neg]; exact h1.add h2.neg
 rw [e.short (by omega)] at this
 exact this
theorem PS.sub {r s : Rat} {m n : Nat} (h : PS r m) (k : PS s n) : PS (r - s) (m + n + 1) := by rw [Rat.sub_eq_add_neg]; exact h.add k.neg
theorem PS.div {r s : Rat} {m n : Nat} (h : PS r m) (k : PS s n) (h0 : s ≠ 0) : PS (r / s) (m + n) := by rw [Rat.div_def]; exact h.mul (k.inv h0)
theorem neg_c {r : Rat} {m : Nat} (h1 : PS r m) (hm : m < 80) (W : World) (G : Gw W) : Calls Tryz.prog 9 #[wrt r] W fun x w' => x = .returned (.tuple #[wrt (-r), .int .i64 0]) ∧ Below W.heap.size W w' := by
 have := Neg_r (h1.rdy (by omega)) h1 (by omega) W G
 rw [h1.neg.short (by omega)] at this
 exact this
theorem check_c {r : Rat} {m : Nat} (h1 : PS r m) (hm : m ≤ 200) (W : World) : Calls Tryz.prog 15 #[wrt r] W fun x w' => x = .returned (.int .i64 0) ∧ Below W.heap.size W w' := Check_r (h1.rdy hm) W
/-- A small number that is right. -/
theorem small_r {n d : ByteArray} (h : n.size ≤ 300 ∧ d.size ≤ 300 ∧ goodE n d = 0) : ∃ r : Rat, n = tn r ∧ d = td r ∧ PS r 16 := by
 obtain ⟨r, e, l1, l2, _, _⟩ := good_wrt h.2.2
 rw [wrt_eq] at e
 have e1 : n = tn r := by injection e with e; simp at e; exact e.1
 have e2 : d = td r := by injection e with e; simp at e; exact e.2
 exact ⟨r, e1, e2, few_words (by omega), few_words (by omega)⟩
theorem small_t {r : Rat} {n d : ByteArray} (h : n.size ≤ 300 ∧ d.size ≤ 300 ∧ goodE n d = 0) (e1 : n = tn r) (e2 : d = td r) (W : World) : Calls Tryz.prog 5 #[wrt r] W fun x w' => x = .returned (.bool true) ∧ Below W.heap.size W w' := by
 have := small_any n d W
 rw [decide_eq_true h, e1, e2] at this
 exact this
theorem one_c (r : Rat) (h : r ≠ 0) : r / r = 1 := by rw [Rat.div_def, Rat.mul_inv_cancel r h]
end Go.Proofs.YtapdhadpdbmkcaaGreatDoor.Mo
