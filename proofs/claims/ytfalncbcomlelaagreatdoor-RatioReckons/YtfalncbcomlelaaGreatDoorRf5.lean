import Derived.Test.YtfalncbcomlelaaGreatDoorRf3
import Derived.Test.YtfalncbcomlelaaGreatDoorRf4
namespace Go.Proofs.YtfalncbcomlelaaGreatDoor.Mo
open Go.RowKit Fu Tn Go.Lib Dc

/-- What is written. -/
def wn (r : Rat) : ByteArray := (wA (decide (r.num < 0)) r.num.natAbs r.den).1.1
def wd (r : Rat) : ByteArray := (wA (decide (r.num < 0)) r.num.natAbs r.den).1.2
/-- A number that is read: neither part has more than 4096 digits. -/
def Rdy (r : Rat) : Prop := (decDigits r.num.natAbs).length ≤ 4096 ∧ (decDigits r.den).length ≤ 4096
theorem Read_r {r : Rat} (h : Rdy r) (x : World) : Calls Tryz.prog 23 #[wrt r] x fun e w' => ∃ (a : Option Addr × Option Addr) (l c : Nat × Nat), e = .returned (.tuple #[.agg #[.bool (decide (r.num < 0)), .slice a.1 l.1 c.1, .slice a.2 l.2 c.2], .int .i64 0]) ∧ (Nn w' a.1 l.1 c.1 (r.num.natAbs : Int) ∧ Nn w' a.2 l.2 c.2 (r.den : Int)) ∧ Below x.heap.size x w' := by
  refine (Read_p r x h.1 h.2).mono ?_
  rintro e w' ⟨v, rfl, ⟨a, l, c, a', l', c', rfl, k1, k2⟩, b⟩
  exact ⟨(a, a'), (l, l'), (c, c'), rfl, ⟨k1, k2⟩, b⟩
theorem Add_r {r s : Rat} {m n : Nat} (hr : Rdy r) (hs : Rdy s) (h1 : PS r m) (h2 : PS s n) (hk : MulOK m n) (hb : m + n + 1 ≤ 1000000) (w : World) (G : Gw w) :
    Calls Tryz.prog 11 #[wrt r, wrt s] w fun e w' => e = .returned (.tuple #[(wrA (r + s)).1, .int .i64 (wrA (r + s)).2]) ∧ Below w.heap.size w w' := by
  refine Add_raw _ _ _ _ _ _ _ _ _ _ _ _ _ w (fun x _ => readTwo_p r s x hr.1 hr.2 hs.1 hs.2) ?_
  intro x a l c b n1 n2
  refine (Plus_p _ _ r s m n x ⟨_, _, _, _, _, _, rfl, n1.1, n1.2⟩ ⟨_, _, _, _, _, _, rfl, n2.1, n2.2⟩ h1 h2 hk hb).mono ?_
  rintro e w' ⟨y, rfl, hy, b'⟩
  exact ⟨y, rfl, fun z bz => Ratio_any y (r + s) z (hy.grow bz) ((h1.add h2).mono hb) (G.grow (bel' (bel' b b') bz)), b'⟩
theorem Mul_r {r s : Rat} {m n : Nat} (hr : Rdy r) (hs : Rdy s) (h1 : PS r m) (h2 : PS s n) (hk : MulOK m n) (hb : m + n ≤ 1000000) (w : World) (G : Gw w) :
    Calls Tryz.prog 13 #[wrt r, wrt s] w fun e w' => e = .returned (.tuple #[(wrA (r * s)).1, .int .i64 (wrA (r * s)).2]) ∧ Below w.heap.size w w' := by
  refine Mul_raw _ _ _ _ _ _ _ _ _ _ _ _ _ w (fun x _ => readTwo_p r s x hr.1 hr.2 hs.1 hs.2) ?_
  intro x a l c b n1 n2
  refine (Times_p _ _ r s m n x ⟨_, _, _, _, _, _, rfl, n1.1, n1.2⟩ ⟨_, _, _, _, _, _, rfl, n2.1, n2.2⟩ h1 h2 hk).mono ?_
  rintro e w' ⟨y, rfl, hy, b'⟩
  exact ⟨y, rfl, fun z bz => Ratio_any y (r * s) z (hy.grow bz) ((h1.mul h2).mono hb) (G.grow (bel' (bel' b b') bz)), b'⟩
theorem Sub_r {r s : Rat} {m n : Nat} (hr : Rdy r) (hs : Rdy s) (h1 : PS r m) (h2 : PS s n) (hk : MulOK m n) (hb : m + n + 1 ≤ 1000000) (w : World) (G : Gw w) :
    Calls Tryz.prog 12 #[wrt r, wrt s] w fun e w' => e = .returned (.tuple #[(wrA (r - s)).1, .int .i64 (wrA (r - s)).2]) ∧ Below w.heap.size w w' := by
  rw [Rat.sub_eq_add_neg]
  refine Sub_raw _ _ _ _ _ _ _ _ _ _ _ _ _ (-s) (r + -s) w (fun x _ => readTwo_p r s x hr.1 hr.2 hs.1 hs.2) ?_ ?_ ?_
  · intro x a l c k1 k2
    exact Negated_p _ s x ⟨_, _, _, _, _, _, rfl, k1, k2⟩
  · intro x a l c y k1 k2 hy
    exact Plus_p _ y r (-s) m n x ⟨_, _, _, _, _, _, rfl, k1, k2⟩ hy h1 h2.neg hk hb
  · intro x y hy b
    exact Ratio_any y (r + -s) x hy ((h1.add h2.neg).mono hb) (G.grow b)
theorem Div_r {r s : Rat} {m n : Nat} (hr : Rdy r) (hs : Rdy s) (h1 : PS r m) (h2 : PS s n) (hk : MulOK m n) (hb : m + n ≤ 1000000) (h0 : s ≠ 0) (w : World) (G : Gw w) :
    Calls Tryz.prog 14 #[wrt r, wrt s] w fun e w' => e = .returned (.tuple #[(wrA (r / s)).1, .int .i64 (wrA (r / s)).2]) ∧ Below w.heap.size w w' := by
  rw [Rat.div_def]
  refine Div_raw _ _ _ _ _ _ _ _ _ _ _ _ _ s⁻¹ (r * s⁻¹) w (fun x _ => readTwo_p r s x hr.1 hr.2 hs.1 hs.2) ?_ ?_ ?_ ?_
  · intro x a l c k1 k2
    exact Inverse_p _ s x ⟨_, _, _, _, _, _, rfl, k1, k2⟩ h0
  · intro x a l c y k1 k2 hy
    exact Times_p _ y r s⁻¹ m n x ⟨_, _, _, _, _, _, rfl, k1, k2⟩ hy h1 (h2.inv h0) hk
  · intro x y hy b
    exact Ratio_any y (r * s⁻¹) x hy ((h1.mul (h2.inv h0)).mono hb) (G.grow b)
  · intro x a l c k
    have := IsZero_n k
    rwa [decide_eq_false (by have := mt Rat.num_eq_zero.1 h0; omega)] at this
theorem Div_r0 {r : Rat} (hr : Rdy r) (w : World) :
    Calls Tryz.prog 14 #[wrt r, wrt 0] w fun e w' => e = .returned (.tuple #[.agg #[.string ⟨#[]⟩, .string ⟨#[]⟩], .int .i64 4]) ∧ Below w.heap.size w w' := by
  have hs : Rdy (0 : Rat) := ⟨by decide +kernel, by decide +kernel⟩
  refine Div_zero _ _ _ _ _ _ _ _ _ _ w (fun x _ => readTwo_p r 0 x hr.1 hr.2 hs.1 hs.2) ?_
  intro x a l c k
  have := IsZero_n k
  rwa [decide_eq_true (by simp)] at this
theorem Neg_r {r : Rat} {m : Nat} (hr : Rdy r) (h1 : PS r m) (hm : m ≤ 1000000) (w : World) (G : Gw w) :
    Calls Tryz.prog 6 #[wrt r] w fun e w' => e = .returned (.tuple #[(wrA (-r)).1, .int .i64 (wrA (-r)).2]) ∧ Below w.heap.size w w' := by
  refine Neg_raw _ _ _ _ _ _ _ _ (-r) w (fun x _ => Read_r hr x) ?_ ?_
  · intro x a l c k1 k2
    exact Negated_p _ r x ⟨_, _, _, _, _, _, rfl, k1, k2⟩
  · intro x y hy b
    exact Ratio_any y (-r) x hy (h1.neg.mono hm) (G.grow b)
theorem Sign_r {r : Rat} (hr : Rdy r) (w : World) :
    Calls Tryz.prog 17 #[wrt r] w fun e w' => e = .returned (.tuple #[.int .i64 (psg r), .int .i64 0]) ∧ Below w.heap.size w w' := by
  refine Sign_raw _ _ _ _ _ _ w (fun x _ => Read_r hr x) ?_
  intro x a l c k1 k2
  exact Sign_p _ r x ⟨_, _, _, _, _, _, rfl, k1, k2⟩
theorem Check_any (n d : ByteArray) (w : World) (hn : n.size ≤ 9223372036854775807) (hd : d.size ≤ 9223372036854775807) :
    Calls Tryz.prog 8 #[.agg #[.string n, .string d]] w fun e w' => e = .returned (.int .i64 (goodE n d)) ∧ Below w.heap.size w w' := by
  refine Check_raw _ _ _ w (fun x _ => ?_)
  refine (Read_any n d x hn hd).mono ?_
  rintro e w' ⟨b, h | h⟩
  · exact ⟨false, (none, none), (0, 0), (0, 0), h.2, b⟩
  · obtain ⟨h0, v1, v2, xs, ys, rfl, r1, _, _, _, r2, _⟩ := h
    obtain ⟨a, l, c, rfl⟩ := r1.shape
    obtain ⟨a', l', c', rfl⟩ := r2.shape
    rw [h0]
    exact ⟨_, (a, a'), (l, l'), (c, c'), rfl, b⟩
end Go.Proofs.YtfalncbcomlelaaGreatDoor.Mo
