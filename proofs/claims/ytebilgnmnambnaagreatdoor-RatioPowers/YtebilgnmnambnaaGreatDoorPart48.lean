import Derived.Test.YtebilgnmnambnaaGreatDoorPart44
import Derived.Test.YtebilgnmnambnaaGreatDoorPart47
import Derived.Test.YtebilgnmnambnaaGreatDoorPart11
import Derived.Test.YtebilgnmnambnaaGreatDoorPart12
import Derived.Test.YtebilgnmnambnaaGreatDoorPart34
import Derived.Test.YtebilgnmnambnaaGreatDoorPart33
import Derived.Lib.SmallJoins

namespace Go.Proofs.YtebilgnmnambnaaGreatDoor.Mo
open Go.RowKit Fu Tn Go.Lib Dc Wt Ip

theorem lt_dec (V : Nat) : V < 10 ^ (decDigits V).length := by
  have := Dc.num_lt (decDigits V) (dec_dg V)
  rwa [dec_num] at this
theorem digs_more {V k : Nat} (h : 10 ^ k ≤ V) : k < (decDigits V).length := by
  by_cases c : k < (decDigits V).length
  · exact c
  · exact absurd (Nat.lt_of_lt_of_le (lt_dec V) (Nat.le_trans (Nat.pow_le_pow_right (by decide) (by omega)) h)) (Nat.lt_irrefl _)
theorem nb_more {V k : Nat} (h : 2 ^ k ≤ V) : k < nb V := by
  by_cases c : k < nb V
  · exact c
  · exact absurd (Nat.lt_of_lt_of_le (nb_spec V).1 (Nat.le_trans (Nat.pow_le_pow_right (by decide) (by omega)) h)) (Nat.lt_irrefl _)
theorem under_two {V m a k : Nat} (h : nb V * m ≤ a) (hk : a < k) : V ^ m < 2 ^ k := by
  refine Nat.lt_of_le_of_lt (Nat.pow_le_pow_left (Nat.le_of_lt (nb_spec V).1) m) ?_
  rw [← Nat.pow_mul]
  exact Nat.pow_lt_pow_right (by decide) (Nat.lt_of_le_of_lt h hk)
theorem under_ten {V m a k : Nat} (h : (decDigits V).length * m ≤ a) (hk : 4 * a < k) : V ^ m < 2 ^ k := by
  refine Nat.lt_of_le_of_lt (Nat.pow_le_pow_left (Nat.le_of_lt (lt_dec V)) m) ?_
  rw [← Nat.pow_mul]
  refine Nat.lt_of_le_of_lt (Nat.pow_le_pow_left (show 10 ≤ 2 ^ 4 by decide) _) ?_
  rw [← Nat.pow_mul]
  exact Nat.pow_lt_pow_right (by decide) (Nat.lt_of_le_of_lt (Nat.mul_le_mul_left 4 h) hk)
theorem words_of {V m a K : Nat} (h : nb V * m ≤ a) (hk : a < 64 * K) : ((V ^ m : Nat) : Int) < Tn.pw K := by
  rw [pw_64]
  exact Int.ofNat_lt.2 (under_two h hk)
theorem limbs_of {V m a K : Nat} (h : (decDigits V).length * m ≤ a) (hk : 4 * a < 30 * K) : ((V ^ m : Nat) : Int) < Tl.pw K := by
  rw [pw_30]
  exact Int.ofNat_lt.2 (under_ten h hk)
/-- What the program deems too long is too long. -/
theorem pow_long {V m : Nat} (h : 13654 < ((nb V : Int) - 1) * m) : 4096 < (decDigits (V ^ m)).length := by
  have n1 : 1 ≤ nb V := by
    by_cases c : 1 ≤ nb V
    · exact c
    · have e : nb V = 0 := by omega
      rw [e] at h
      have : (((0 : Nat) : Int) - 1) * m = -(m : Int) := by omega
      omega
  have h' : 13654 < (nb V - 1) * m := by
    have e : ((nb V : Int) - 1) = ((nb V - 1 : Nat) : Int) := by omega
    rw [e, ← Int.natCast_mul] at h
    exact Int.ofNat_lt.1 h
  have h2 : 2 ^ (nb V - 1) ≤ V := by
    rcases (nb_spec V).2 with c | c
    · omega
    · exact c
  refine long_bits (Nat.lt_trans h' (nb_more ?_))
  rw [Nat.pow_mul]
  exact Nat.pow_le_pow_left h2 m
/-- What it does not deem so is small enough to be reckoned. -/
theorem pow_words {V m : Nat} (h : ¬ 13654 < ((nb V : Int) - 1) * m) (hm : m ≤ 4096) : ((V ^ m : Nat) : Int) < Tn.pw 280 := by
  have h' : nb V * m ≤ 17750 := by
    rw [Int.sub_mul, Int.one_mul, ← Int.natCast_mul] at h
    omega
  exact words_of h' (by decide)
/-- The same of the reference. -/
theorem pow_long' {V m : Nat} (h : 4096 < (((decDigits V).length : Int) - 1) * m) : 4096 < (decDigits (V ^ m)).length := by
  obtain ⟨c, t, e, _⟩ := dec_cons V
  have l1 : 1 ≤ (decDigits V).length := by rw [e]; exact Nat.succ_le_succ (Nat.zero_le _)
  have h' : 4096 < ((decDigits V).length - 1) * m := by
    have e : (((decDigits V).length : Int) - 1) = (((decDigits V).length - 1 : Nat) : Int) := by omega
    rw [e, ← Int.natCast_mul] at h
    exact Int.ofNat_lt.1 h
  have V0 : 0 < V := by
    by_cases z : V = 0
    · subst z
      have : (decDigits 0).length = 1 := by simp [decDigits]
      rw [this] at h'
      omega
    · omega
  refine Nat.lt_trans h' (digs_more ?_)
  rw [Nat.pow_mul]
  exact Nat.pow_le_pow_left (ten_le_of_digits V V0) m
theorem pow_limbs {V m : Nat} (h : ¬ 4096 < (((decDigits V).length : Int) - 1) * m) (hm : m ≤ 4096) : ((V ^ m : Nat) : Int) < Tl.pw 1100 := by
  have h' : (decDigits V).length * m ≤ 8192 := by
    rw [Int.sub_mul, Int.one_mul, ← Int.natCast_mul] at h
    omega
  exact limbs_of h' (by decide)
end Go.Proofs.YtebilgnmnambnaaGreatDoor.Mo

namespace Go.Proofs.YtebilgnmnambnaaGreatDoor.Mo
open Go.RowKit Fu Tn Go.Lib Dc Wt Ip

theorem pw_one {K : Nat} (h : 0 < K) : 1 < Tn.pw K := Tn.pw_lt h
theorem pl_one {K : Nat} (h : 0 < K) : 1 < Tl.pw K := Tl.pw_lt h
theorem ps_pow {r : Rat} {m : Nat} (h1 : ¬ 13654 < ((nb r.num.natAbs : Int) - 1) * m) (h2 : ¬ 13654 < ((nb r.den : Int) - 1) * m) (hm : m ≤ 4096) : PS (r ^ m) 280 := by
  refine ⟨?_, ?_⟩
  · rw [Rat.num_pow, Int.natAbs_pow]
    exact pow_words h1 hm
  · rw [Rat.den_pow]
    exact pow_words h2 hm
theorem qs_pow {r : Rat} {m : Nat} (h1 : ¬ 4096 < (((decDigits r.num.natAbs).length : Int) - 1) * m) (h2 : ¬ 4096 < (((decDigits r.den).length : Int) - 1) * m) (hm : m ≤ 4096) : L.QS (r ^ m) 1100 := by
  refine ⟨?_, ?_⟩
  · rw [Rat.num_pow, Int.natAbs_pow]
    exact pow_limbs h1 hm
  · rw [Rat.den_pow]
    exact pow_limbs h2 hm
theorem too_long1 {r : Rat} {m : Nat} (h : 4096 < (decDigits (r.num.natAbs ^ m)).length) : wrA (r ^ m) = (.agg #[.string ⟨#[]⟩, .string ⟨#[]⟩], 3) := by
  refine wrA_long fun c => ?_
  have := c.1
  rw [Rat.num_pow, Int.natAbs_pow] at this
  omega
theorem too_long2 {r : Rat} {m : Nat} (h : 4096 < (decDigits (r.den ^ m)).length) : wrA (r ^ m) = (.agg #[.string ⟨#[]⟩, .string ⟨#[]⟩], 3) := by
  refine wrA_long fun c => ?_
  have := c.2
  rw [Rat.den_pow] at this
  omega
theorem is_nil {r : Rat} {u v : ByteArray} {er : Int} (hw : wrA r = (.agg #[.string u, .string v], er)) (h : wrA r = (.agg #[.string ⟨#[]⟩, .string ⟨#[]⟩], 3)) : u = ⟨#[]⟩ ∧ v = ⟨#[]⟩ ∧ er = 3 := by
  have e := hw.symm.trans h
  simp only [Prod.mk.injEq, Value.agg.injEq, Array.mk.injEq, List.cons.injEq, Value.string.injEq, and_true] at e
  exact ⟨e.1.1, e.1.2, e.2⟩
/-- Text of the reference of a number of few limbs. -/
theorem text_n {x : World} {a : Option Addr} {l c V : Nat} (h : Nl x a l c (V : Int)) (hV : (V : Int) < Tl.pw 768) : Calls Tryz.prog 55 #[.slice a l c] x fun e w' => e = .returned (.string (sB (decDigits V))) ∧ Below x.heap.size x w' := by
  obtain ⟨xs, h1, n1, v1⟩ := h
  have k1 : xs.length ≤ 768 := L.len_of_lt h1.1 n1 (by rw [v1]; exact hV)
  exact L.Text_any _ xs _ x h1 n1 (by omega) v1
theorem Of1_q (x : World) : Calls Tryz.prog 36 #[.int .i64 1] x (Qf ((1 : Int) : Rat) x) := by
  refine (L.Of_q 1 x (by decide) (by decide)).mono ?_
  rintro e w' ⟨v, rfl, h, b⟩
  obtain ⟨a, l, c, a', l', c', rfl, _⟩ := nl_isq h
  exact ⟨_, a, l, c, a', l', c', rfl, h, b⟩
theorem dd_bd {D m : Int} (d0 : -1 ≤ D) (d1 : D ≤ 4096) (m0 : 0 ≤ m) (m1 : m ≤ 4096) : IntKind.i64.wrap (D * m) = D * m := by
  have h1 := Int.mul_le_mul_of_nonneg_right d0 m0
  have h2 := Int.mul_le_mul_of_nonneg_right d1 m0
  exact wrapI _ (by omega) (by omega)
theorem dg_wrap {V : Nat} (h : (decDigits V).length ≤ 4096) : IntKind.i64.wrap (((sB (decDigits V)).size : Int) - 1) = ((decDigits V).length : Int) - 1 := by
  rw [sB_size]
  exact wrapI _ (by omega) (by omega)

/-- Pow of the program, upwards: what is told of the power. -/
theorem Pow_up (n d : ByteArray) (m : Nat) (r : Rat) (u v : ByteArray) (er : Int) (w : World) (hm : m ≤ 4096) (RE : ∀ x, Below w.heap.size w x → Calls Tryz.prog 47 #[.agg #[.string n, .string d]] x fun e w' => ∃ g a l c a' l' c', e = .returned (.tuple #[.agg #[.bool g, .slice a l c, .slice a' l' c'], .int .i64 0]) ∧ PF w' (.agg #[.bool g, .slice a l c, .slice a' l' c']) r ∧ Below x.heap.size x w') (hr : PS r 256) (G : Gw w) (hw : wrA (r ^ m) = (.agg #[.string u, .string v], er)) : Calls Tryz.prog 10 #[.agg #[.string n, .string d], .int .i64 (m : Int)] w fun e w' => e = .returned (.tuple #[.agg #[.string u, .string v], .int .i64 er]) ∧ Below w.heap.size w w' := by
  have ps := hr
  have T1 : ∀ x a l c, Nn x a l c ((r).num.natAbs : Int) → Calls Tryz.prog 49 #[.agg #[.slice a l c], .int .i64 (m : Int)] x fun e w' => e = .returned (.bool (decide (13654 < ((nb (r).num.natAbs : Int) - 1) * m))) ∧ Below x.heap.size x w' := fun x a l c h => long_n a l c _ m x h ps.1 (by omega) (by omega)
  have T2 : ∀ x a l c, Nn x a l c ((r).den : Int) → Calls Tryz.prog 49 #[.agg #[.slice a l c], .int .i64 (m : Int)] x fun e w' => e = .returned (.bool (decide (13654 < ((nb (r).den : Int) - 1) * m))) ∧ Below x.heap.size x w' := fun x a l c h => long_n a l c _ m x h ps.2 (by omega) (by omega)
  have P : ¬ 13654 < ((nb (r).num.natAbs : Int) - 1) * m → ¬ 13654 < ((nb (r).den : Int) - 1) * m → (∀ x y, PF x y (r) → Calls Tryz.prog 50 #[y, .int .i64 (m : Int)] x (Fa (r ^ m) x)) ∧ (∀ x y, Below w.heap.size w x → PF x y (r ^ m) → Calls Tryz.prog 44 #[y] x fun e w' => e = .returned (.tuple #[.agg #[.string u, .string v], .int .i64 er]) ∧ Below x.heap.size x w') := by
    intro l1 l2
    have p := ps_pow l1 l2 hm
    refine ⟨fun x y h => Power_all y _ m 280 x h (by omega) p (by decide) (pw_one (by decide)), fun x y b h => ?_⟩
    have := Ratio_any y _ x h (p.mono (by decide)) (G.grow b)
    rwa [hw] at this
  by_cases l1 : 13654 < ((nb (r).num.natAbs : Int) - 1) * m
  · obtain ⟨rfl, rfl, rfl⟩ := is_nil hw (too_long1 (pow_long l1))
    rw [decide_eq_true l1] at T1
    by_cases z : (r.num.natAbs : Int) = 0
    · exact Pow_upz_l1 n d _ _ r w (by omega) (by omega) (by omega) rfl (decide_eq_true z) RE T1
    · exact Pow_up_l1 n d _ _ r w (by omega) (by omega) (by omega) rfl (decide_eq_false z) RE T1
  · rw [decide_eq_false l1] at T1
    by_cases l2 : 13654 < ((nb (r).den : Int) - 1) * m
    · obtain ⟨rfl, rfl, rfl⟩ := is_nil hw (too_long2 (pow_long l2))
      rw [decide_eq_true l2] at T2
      by_cases z : (r.num.natAbs : Int) = 0
      · exact Pow_upz_l2 n d _ _ r w (by omega) (by omega) (by omega) rfl (decide_eq_true z) RE T1 T2
      · exact Pow_up_l2 n d _ _ r w (by omega) (by omega) (by omega) rfl (decide_eq_false z) RE T1 T2
    · rw [decide_eq_false l2] at T2
      obtain ⟨PO, RA⟩ := P l1 l2
      by_cases z : (r.num.natAbs : Int) = 0
      · exact Pow_upz_ok n d _ _ r _ u v er w (by omega) (by omega) (by omega) rfl (decide_eq_true z) RE T1 T2 PO RA
      · exact Pow_up_ok n d _ _ r _ u v er w (by omega) (by omega) (by omega) rfl (decide_eq_false z) RE T1 T2 PO RA
/-- Pow of the program, downwards: what is told of the power. -/
theorem Pow_dn (n d : ByteArray) (m : Nat) (r : Rat) (u v : ByteArray) (er : Int) (w : World) (hm : m ≤ 4096) (r0 : r ≠ 0) (m0 : 0 < m) (RE : ∀ x, Below w.heap.size w x → Calls Tryz.prog 47 #[.agg #[.string n, .string d]] x fun e w' => ∃ g a l c a' l' c', e = .returned (.tuple #[.agg #[.bool g, .slice a l c, .slice a' l' c'], .int .i64 0]) ∧ PF w' (.agg #[.bool g, .slice a l c, .slice a' l' c']) r ∧ Below x.heap.size x w') (hr : PS r 256) (G : Gw w) (hw : wrA (r⁻¹ ^ m) = (.agg #[.string u, .string v], er)) : Calls Tryz.prog 10 #[.agg #[.string n, .string d], .int .i64 (-(m : Int))] w fun e w' => e = .returned (.tuple #[.agg #[.string u, .string v], .int .i64 er]) ∧ Below w.heap.size w w' := by
  have ps : PS r⁻¹ 256 := hr.inv r0
  have hk : IntKind.i64.wrap (-(-(m : Int))) = (m : Int) := by rw [Int.neg_neg]; exact wrapI _ (by omega) (by omega)
  have T1 : ∀ x a l c, Nn x a l c ((r⁻¹).num.natAbs : Int) → Calls Tryz.prog 49 #[.agg #[.slice a l c], .int .i64 (m : Int)] x fun e w' => e = .returned (.bool (decide (13654 < ((nb (r⁻¹).num.natAbs : Int) - 1) * m))) ∧ Below x.heap.size x w' := fun x a l c h => long_n a l c _ m x h ps.1 (by omega) (by omega)
  have T2 : ∀ x a l c, Nn x a l c ((r⁻¹).den : Int) → Calls Tryz.prog 49 #[.agg #[.slice a l c], .int .i64 (m : Int)] x fun e w' => e = .returned (.bool (decide (13654 < ((nb (r⁻¹).den : Int) - 1) * m))) ∧ Below x.heap.size x w' := fun x a l c h => long_n a l c _ m x h ps.2 (by omega) (by omega)
  have P : ¬ 13654 < ((nb (r⁻¹).num.natAbs : Int) - 1) * m → ¬ 13654 < ((nb (r⁻¹).den : Int) - 1) * m → (∀ x y, PF x y (r⁻¹) → Calls Tryz.prog 50 #[y, .int .i64 (m : Int)] x (Fa (r⁻¹ ^ m) x)) ∧ (∀ x y, Below w.heap.size w x → PF x y (r⁻¹ ^ m) → Calls Tryz.prog 44 #[y] x fun e w' => e = .returned (.tuple #[.agg #[.string u, .string v], .int .i64 er]) ∧ Below x.heap.size x w') := by
    intro l1 l2
    have p := ps_pow l1 l2 hm
    refine ⟨fun x y h => Power_all y _ m 280 x h (by omega) p (by decide) (pw_one (by decide)), fun x y b h => ?_⟩
    have := Ratio_any y _ x h (p.mono (by decide)) (G.grow b)
    rwa [hw] at this
  by_cases l1 : 13654 < ((nb (r⁻¹).num.natAbs : Int) - 1) * m
  · obtain ⟨rfl, rfl, rfl⟩ := is_nil hw (too_long1 (pow_long l1))
    rw [decide_eq_true l1] at T1
    exact Pow_dn_l1 n d _ _ r w (by omega) (by omega) (by omega) hk r0 (decide_eq_false (fun z => r0 (Rat.num_eq_zero.1 (by omega)))) RE T1
  · rw [decide_eq_false l1] at T1
    by_cases l2 : 13654 < ((nb (r⁻¹).den : Int) - 1) * m
    · obtain ⟨rfl, rfl, rfl⟩ := is_nil hw (too_long2 (pow_long l2))
      rw [decide_eq_true l2] at T2
      exact Pow_dn_l2 n d _ _ r w (by omega) (by omega) (by omega) hk r0 (decide_eq_false (fun z => r0 (Rat.num_eq_zero.1 (by omega)))) RE T1 T2
    · rw [decide_eq_false l2] at T2
      obtain ⟨PO, RA⟩ := P l1 l2
      exact Pow_dn_ok n d _ _ r _ u v er w (by omega) (by omega) (by omega) hk r0 (decide_eq_false (fun z => r0 (Rat.num_eq_zero.1 (by omega)))) RE T1 T2 PO RA
/-- Pow of the reference, upwards. -/
theorem RPow_up (n d : ByteArray) (m : Nat) (r : Rat) (u v : ByteArray) (er : Int) (w : World) (hm : m ≤ 4096) (GD : ∀ x, Below w.heap.size w x → Calls Tryz.prog 51 #[.agg #[.string n, .string d]] x fun e w' => e = .returned (.int .i64 0) ∧ Below x.heap.size x w') (IN : ∀ x, Below w.heap.size w x → Calls Tryz.prog 52 #[.agg #[.string n, .string d]] x (Qf r x)) (rd : Rdy r) (hr : PS r 256) (hw : wrA (r ^ m) = (.agg #[.string u, .string v], er)) : Calls Tryz.prog 11 #[.agg #[.string n, .string d], .int .i64 (m : Int)] w fun e w' => e = .returned (.tuple #[.agg #[.string u, .string v], .int .i64 er]) ∧ Below w.heap.size w w' := by
  have ps := hr
  obtain ⟨d1, d2⟩ := rd
  have qs : L.QS _ 768 := qs_k ps (by decide)
  have T1 : ∀ x a l c, Nl x a l c ((r).num.natAbs : Int) → Calls Tryz.prog 55 #[.slice a l c] x fun e w' => e = .returned (.string (sB (decDigits (r).num.natAbs))) ∧ Below x.heap.size x w' := fun x a l c h => text_n h qs.1
  have T2 : ∀ x a l c, Nl x a l c ((r).den : Int) → Calls Tryz.prog 55 #[.slice a l c] x fun e w' => e = .returned (.string (sB (decDigits (r).den))) ∧ Below x.heap.size x w' := fun x a l c h => text_n h qs.2
  have P : ¬ 4096 < (((decDigits (r).num.natAbs).length : Int) - 1) * m → ¬ 4096 < (((decDigits (r).den).length : Int) - 1) * m → (∀ x y, L.IsQ x y (r) → Calls Tryz.prog 56 #[y, .int .i64 (m : Int)] x (Qf (r ^ m) x)) ∧ (∀ x y, L.IsQ x y (r ^ m) → Calls Tryz.prog 46 #[y] x fun e w' => e = .returned (.tuple #[.agg #[.string u, .string v], .int .i64 er]) ∧ Below x.heap.size x w') := by
    intro l1 l2
    have p := qs_pow l1 l2 hm
    refine ⟨fun x y h => QPow_all y _ m 1100 x h (by omega) p (by decide) (pl_one (by decide)), fun x y h => ?_⟩
    have := L.Out_any y _ 1100 x h p (by decide)
    rwa [hw] at this
  by_cases m0 : m = 0
  · subst m0
    obtain ⟨PO, OU⟩ := P (by simp) (by simp)
    exact RPow_up_nil n d _ _ r _ u v er w (by omega) (by omega) rfl rfl GD IN PO OU
  have m1 : (0 : Int) < m := by omega
  have w1 := dd_bd (D := ((decDigits (r).num.natAbs).length : Int) - 1) (m := m) (by omega) (by omega) (by omega) (by omega)
  have w2 := dd_bd (D := ((decDigits (r).den).length : Int) - 1) (m := m) (by omega) (by omega) (by omega) (by omega)
  by_cases l1 : 4096 < (((decDigits (r).num.natAbs).length : Int) - 1) * m
  · obtain ⟨rfl, rfl, rfl⟩ := is_nil hw (too_long1 (pow_long' l1))
    exact RPow_up_l1 n d _ _ r _ _ _ w (by omega) (by omega) rfl m1 GD IN T1 (dg_wrap d1) w1 (decide_eq_true l1)
  · by_cases l2 : 4096 < (((decDigits (r).den).length : Int) - 1) * m
    · obtain ⟨rfl, rfl, rfl⟩ := is_nil hw (too_long2 (pow_long' l2))
      exact RPow_up_l2 n d _ _ r _ _ _ _ _ _ w (by omega) (by omega) rfl m1 GD IN T1 (dg_wrap d1) w1 (decide_eq_false l1) T2 (dg_wrap d2) w2 (decide_eq_true l2)
    · obtain ⟨PO, OU⟩ := P l1 l2
      exact RPow_up_ok n d _ _ r _ u v er _ _ _ _ _ _ w (by omega) (by omega) rfl m1 GD IN T1 (dg_wrap d1) w1 (decide_eq_false l1) T2 (dg_wrap d2) w2 (decide_eq_false l2) PO OU
/-- Pow of the reference, downwards. -/
theorem RPow_dn (n d : ByteArray) (m : Nat) (r : Rat) (u v : ByteArray) (er : Int) (w : World) (hm : m ≤ 4096) (r0 : r ≠ 0) (m0 : 0 < m) (GD : ∀ x, Below w.heap.size w x → Calls Tryz.prog 51 #[.agg #[.string n, .string d]] x fun e w' => e = .returned (.int .i64 0) ∧ Below x.heap.size x w') (IN : ∀ x, Below w.heap.size w x → Calls Tryz.prog 52 #[.agg #[.string n, .string d]] x (Qf r x)) (rd : Rdy r) (hr : PS r 256) (hw : wrA (r⁻¹ ^ m) = (.agg #[.string u, .string v], er)) : Calls Tryz.prog 11 #[.agg #[.string n, .string d], .int .i64 (-(m : Int))] w fun e w' => e = .returned (.tuple #[.agg #[.string u, .string v], .int .i64 er]) ∧ Below w.heap.size w w' := by
  have ps : PS r⁻¹ 256 := hr.inv r0
  have hk : IntKind.i64.wrap (-(-(m : Int))) = (m : Int) := by rw [Int.neg_neg]; exact wrapI _ (by omega) (by omega)
  obtain ⟨_, i2, i3⟩ := inv_num r r0
  have d1 : (decDigits (r⁻¹).num.natAbs).length ≤ 4096 := by rw [i2]; exact rd.2
  have d2 : (decDigits (r⁻¹).den).length ≤ 4096 := by rw [i3]; exact rd.1
  have sn : (L.sgn r == 0) = false := by
    have n0 : r.num ≠ 0 := fun z => r0 (Rat.num_eq_zero.1 z)
    unfold L.sgn
    rw [if_neg n0]
    split <;> decide
  have DV : ∀ x v1 v2, L.IsQ x v1 ((1 : Int) : Rat) → L.IsQ x v2 r → Calls Tryz.prog 54 #[v1, v2] x (Qf r⁻¹ x) := by
    intro x v1 v2 h h'
    have := QDiv_s v1 v2 ((1 : Int) : Rat) r 768 x h h' ⟨pl_one (by decide), pl_one (by decide)⟩ (qs_k hr (by decide)) (by decide) r0
    rwa [show ((1 : Int) : Rat) / r = r⁻¹ by rw [Rat.div_def]; exact Rat.one_mul _] at this
  have qs : L.QS _ 768 := qs_k ps (by decide)
  have T1 : ∀ x a l c, Nl x a l c ((r⁻¹).num.natAbs : Int) → Calls Tryz.prog 55 #[.slice a l c] x fun e w' => e = .returned (.string (sB (decDigits (r⁻¹).num.natAbs))) ∧ Below x.heap.size x w' := fun x a l c h => text_n h qs.1
  have T2 : ∀ x a l c, Nl x a l c ((r⁻¹).den : Int) → Calls Tryz.prog 55 #[.slice a l c] x fun e w' => e = .returned (.string (sB (decDigits (r⁻¹).den))) ∧ Below x.heap.size x w' := fun x a l c h => text_n h qs.2
  have P : ¬ 4096 < (((decDigits (r⁻¹).num.natAbs).length : Int) - 1) * m → ¬ 4096 < (((decDigits (r⁻¹).den).length : Int) - 1) * m → (∀ x y, L.IsQ x y (r⁻¹) → Calls Tryz.prog 56 #[y, .int .i64 (m : Int)] x (Qf (r⁻¹ ^ m) x)) ∧ (∀ x y, L.IsQ x y (r⁻¹ ^ m) → Calls Tryz.prog 46 #[y] x fun e w' => e = .returned (.tuple #[.agg #[.string u, .string v], .int .i64 er]) ∧ Below x.heap.size x w') := by
    intro l1 l2
    have p := qs_pow l1 l2 hm
    refine ⟨fun x y h => QPow_all y _ m 1100 x h (by omega) p (by decide) (pl_one (by decide)), fun x y h => ?_⟩
    have := L.Out_any y _ 1100 x h p (by decide)
    rwa [hw] at this
  have m1 : (0 : Int) < m := by omega
  have w1 := dd_bd (D := ((decDigits (r⁻¹).num.natAbs).length : Int) - 1) (m := m) (by omega) (by omega) (by omega) (by omega)
  have w2 := dd_bd (D := ((decDigits (r⁻¹).den).length : Int) - 1) (m := m) (by omega) (by omega) (by omega) (by omega)
  by_cases l1 : 4096 < (((decDigits (r⁻¹).num.natAbs).length : Int) - 1) * m
  · obtain ⟨rfl, rfl, rfl⟩ := is_nil hw (too_long1 (pow_long' l1))
    exact RPow_dn_l1 n d _ _ r _ _ _ _ w (by omega) (by omega) (by omega) hk m1 (L.sgn r) sn (fun x y h => L.Sign_q y r x h) Of1_q DV GD IN T1 (dg_wrap d1) w1 (decide_eq_true l1)
  · by_cases l2 : 4096 < (((decDigits (r⁻¹).den).length : Int) - 1) * m
    · obtain ⟨rfl, rfl, rfl⟩ := is_nil hw (too_long2 (pow_long' l2))
      exact RPow_dn_l2 n d _ _ r _ _ _ _ _ _ _ w (by omega) (by omega) (by omega) hk m1 (L.sgn r) sn (fun x y h => L.Sign_q y r x h) Of1_q DV GD IN T1 (dg_wrap d1) w1 (decide_eq_false l1) T2 (dg_wrap d2) w2 (decide_eq_true l2)
    · obtain ⟨PO, OU⟩ := P l1 l2
      exact RPow_dn_ok n d _ _ r _ _ u v er _ _ _ _ _ _ w (by omega) (by omega) (by omega) hk m1 (L.sgn r) sn (fun x y h => L.Sign_q y r x h) Of1_q DV GD IN T1 (dg_wrap d1) w1 (decide_eq_false l1) T2 (dg_wrap d2) w2 (decide_eq_false l2) PO OU
/-- Both powers tell the same, of any two texts and any second. -/
theorem both_Pow (n d : ByteArray) (k : Int) (w : World) (hn : n.size ≤ 9223372036854775807) (hd : d.size ≤ 9223372036854775807) (G : Gw w) : ∃ (u v : ByteArray) (e : Int), (∀ x, Below w.heap.size w x → Calls Tryz.prog 10 #[.agg #[.string n, .string d], .int .i64 k] x fun e' w' => e' = .returned (.tuple #[.agg #[.string u, .string v], .int .i64 e]) ∧ Below x.heap.size x w') ∧ (∀ x, Below w.heap.size w x → Calls Tryz.prog 11 #[.agg #[.string n, .string d], .int .i64 k] x fun e' w' => e' = .returned (.tuple #[.agg #[.string u, .string v], .int .i64 e]) ∧ Below x.heap.size x w') := by
  by_cases h1 : goodE n d = 0
  · obtain ⟨r, e1, r1, h3, I1⟩ := good_ok h1 hn
    have GD : ∀ y, Calls Tryz.prog 51 #[.agg #[.string n, .string d]] y fun e w' => e = .returned (.int .i64 0) ∧ Below y.heap.size y w' := fun y => by have := Good_any n d y hn hd; rwa [h1] at this
    have RE : ∀ y, Calls Tryz.prog 47 #[.agg #[.string n, .string d]] y fun e w' => ∃ g a l c a' l' c', e = .returned (.tuple #[.agg #[.bool g, .slice a l c, .slice a' l' c'], .int .i64 0]) ∧ PF w' (.agg #[.bool g, .slice a l c, .slice a' l' c']) r ∧ Below y.heap.size y w' := fun y => by
      rw [e1]
      refine (Read_p r y r1.1 r1.2).mono ?_
      rintro e w' ⟨v, rfl, h, b⟩
      obtain ⟨a, l, c, a', l', c', rfl, k1, k2⟩ := h
      exact ⟨_, a, l, c, a', l', c', rfl, ⟨a, l, c, a', l', c', rfl, k1, k2⟩, b⟩
    by_cases k1 : k < -4096
    · exact ⟨⟨#[]⟩, ⟨#[]⟩, 1, fun x b => Pow_range1 n d k r x k1 (fun y _ => RE y), fun x b => RPow_range1 n d k x k1 (fun y _ => GD y)⟩
    by_cases k2 : 4096 < k
    · exact ⟨⟨#[]⟩, ⟨#[]⟩, 1, fun x b => Pow_range2 n d k r x k2 (fun y _ => RE y), fun x b => RPow_range2 n d k x k2 (fun y _ => GD y)⟩
    by_cases k3 : k < 0
    · obtain ⟨m, rfl⟩ : ∃ m : Nat, k = -(m : Int) := ⟨k.natAbs, by omega⟩
      by_cases z : r = 0
      · refine ⟨⟨#[]⟩, ⟨#[]⟩, 4, fun x b => Pow_nought n d _ r x (by omega) k3 (show _ = _ by rw [z]; decide +kernel) (fun y _ => RE y), fun x b => RPow_nought n d _ r x (by omega) k3 (fun y _ => GD y) (fun y _ => I1 y) (fun y v1 h => by have := L.Sign_q v1 r y h; rwa [show L.sgn r = 0 by rw [z]; decide +kernel] at this)⟩
      · exact ⟨wn (r⁻¹ ^ m), wd (r⁻¹ ^ m), (wrA (r⁻¹ ^ m)).2, fun x b => Pow_dn n d m r _ _ _ x (by omega) z (by omega) (fun y _ => RE y) h3 (G.grow b) rfl, fun x b => RPow_dn n d m r _ _ _ x (by omega) z (by omega) (fun y _ => GD y) (fun y _ => I1 y) r1 h3 rfl⟩
    · obtain ⟨m, rfl⟩ : ∃ m : Nat, k = (m : Int) := ⟨k.natAbs, by omega⟩
      exact ⟨wn (r ^ m), wd (r ^ m), (wrA (r ^ m)).2, fun x b => Pow_up n d m r _ _ _ x (by omega) (fun y _ => RE y) h3 (G.grow b) rfl, fun x b => RPow_up n d m r _ _ _ x (by omega) (fun y _ => GD y) (fun y _ => I1 y) r1 h3 rfl⟩
  · exact ⟨⟨#[]⟩, ⟨#[]⟩, goodE n d, fun x _ => Pow_err n d k _ x (bne_z h1) (fun y _ => read_no h1 hn hd y), fun x _ => RPow_err n d k _ x (bne_z h1) (fun y _ => Good_any n d y hn hd)⟩
end Go.Proofs.YtebilgnmnambnaaGreatDoor.Mo

namespace Go.Proofs.YtebilgnmnambnaaGreatDoor.Mo
open Go.RowKit Tn Go.Lib Fu

set_option maxHeartbeats 800000 in
set_option maxRecDepth 100000 in
theorem OfInt_below (k : Int) (w : World) (h0 : -9223372036854775808 ≤ k) (hk : k < 0) :
    Calls Tryz.prog 41 #[.int .i64 k] w fun e w' => ∃ v1 v2 xs ys, e = .returned (.agg #[.bool (decide (k < 0)), v1, v2]) ∧ Rd w' v1 xs ∧ Nm xs ∧ val xs = (k.natAbs : Int) ∧ Rd w' v2 ys ∧ Nm ys ∧ val ys = 1 ∧ Below w.heap.size w w' := by
  have O := fun W => Of_any (k.natAbs : Int) W (by omega) (by omega)
  have e1 : IntKind.u64.wrap k = k + 18446744073709551616 := by rw [wrap_u64]; omega
  have e2 : IntKind.u64.wrap (-(k + 18446744073709551616)) = (k.natAbs : Int) := by rw [wrap_u64]; omega
  have HK : Hid (decide (k < 0) = true ∧ k.natAbs ≠ 0) := ⟨decide_eq_true hk, by omega⟩
  clear h0
  generalize k.natAbs = q at *
  have K1 := Rb.new w (.bool false) (.slice none 0 0) (.slice none 0 0) 67
  have pr : Below w.heap.size w (w.alloc (.cells #[.bool false, .slice none 0 0, .slice none 0 0] 67)) := (Below.refl _ _).alloc (Nat.le_refl _) _
  go_enter Tryz.func41, Tryz.ntmps41
  go_wp2_with (first
    | (go_at_call 65; go_must (refine (O _).mono ?_; rintro e w1 ⟨r, xs, rfl, hr, hn, hv, b1⟩; obtain ⟨a1, m1, c1, rfl⟩ := hr.shape; have HVX : Hid (val xs = (q : Int)) := hv; clear hv))
    | (go_at_call 102; go_must (refine (OfWhole_any true _ xs _ hr hn).mono ?_; rw [show (true && !decide (val xs = 0)) = true from (by rw [HVX.out]; simp; try exact HK.out.2)]; rintro e w2 ⟨r2, ys, rfl, hr1, hr2, hn2, hv2, b2⟩; obtain ⟨a2, m2, c2, rfl⟩ := hr2.shape; have HV2 : Hid (val ys = 1) := hv2; clear hv2; have bb := bel' b1 b2; have R := K1.grow bb; replace pr := bel' pr bb; have r0 := R.c0; have r1 := R.c1; have r2 := R.c2; have s0 := R.f0; have s1 := R.f1; have s2 := R.f2))
    | fail)
  obtain ⟨F0, F1, F2⟩ := R.put (.bool true) (.slice a1 m1 c1) (.slice a2 m2 c2)
  exact bodyPost_ret (v := .agg #[.bool true, .slice a1 m1 c1, .slice a2 m2 c2]) (by simp [results, Tryz.results41, go_sem, F0, F1, F2]) rfl ⟨_, _, xs, ys, by rw [HK.out.1], Rd.putF hr1 R, hn, HVX.out, Rd.putF hr2 R, hn2, HV2.out, bset3 pr (by omega)⟩
theorem OfInt_all (k : Int) (w : World) (h0 : -9223372036854775808 ≤ k) (h1 : k ≤ 9223372036854775807) :
    Calls Tryz.prog 41 #[.int .i64 k] w fun e w' => ∃ v, e = .returned v ∧ PF w' v (k : Rat) ∧ Below w.heap.size w w' := by
  by_cases hk : k < 0
  · refine (OfInt_below k w h0 hk).mono ?_
    rintro e w' ⟨v1, v2, xs, ys, rfl, r1, n1, q1, r2, n2, q2, b⟩
    obtain ⟨a, l, c, rfl⟩ := r1.shape
    obtain ⟨a', l', c', rfl⟩ := r2.shape
    exact ⟨_, rfl, ⟨a, l, c, a', l', c', rfl, ⟨xs, r1, n1, q1⟩, ⟨ys, r2, n2, q2⟩⟩, b⟩
  · exact OfInt_p k w (by omega) h1
set_option maxRecDepth 100000 in
set_option maxHeartbeats 1600000 in
/-- ratio.Of of two ints, any one above. -/
theorem Of_all (p q : Int) (w : World) (hp0 : -9223372036854775808 ≤ p) (hp1 : p ≤ 9223372036854775807) (hq0 : -9223372036854775808 ≤ q) (hq1 : q ≤ 9223372036854775807) (hq : q ≠ 0) (G : Gw w) :
    Calls Tryz.prog 8 #[.int .i64 p, .int .i64 q] w fun e w' => e = .returned (.tuple #[wrt ((p : Rat) / (q : Rat)), .int .i64 0]) ∧ Below w.heap.size w w' := by
  have q0 : (q : Rat) ≠ 0 := by simpa using hq
  have hqb : (q == 0) = false := by simpa using hq
  have O1 := fun x => OfInt_all p x hp0 hp1
  have O2 := fun x => OfInt_all q x hq0 hq1
  have IV := fun v x h => Inverse_p v (q : Rat) x h q0
  have TM := fun v1 v2 x h1 h2 => Times_p v1 v2 (p : Rat) ((q : Rat))⁻¹ 1 1 x h1 h2 (int_ps p (by omega)) (inv_ps (int_ps q (by omega)) q0) ⟨by omega, by decide, by decide⟩
  have RT := fun v x h g => Ratio_one v ((p : Rat) * ((q : Rat))⁻¹) x h (quot_small p q hq (by omega) (by omega)) g
  rw [Rat.div_def]
  have WF : ∃ s t, wrt ((p : Rat) * ((q : Rat))⁻¹) = .agg #[.string s, .string t] := ⟨_, _, rfl⟩
  obtain ⟨s, t, e⟩ := WF
  rw [e] at RT ⊢
  generalize (p : Rat) * ((q : Rat))⁻¹ = z at *
  generalize ((q : Rat))⁻¹ = qi at *
  generalize (p : Rat) = pr at *
  generalize (q : Rat) = qr at *
  clear e q0 hp0 hp1 hq0 hq1 hq
  have KR := Blk.new w #[.string ⟨#[]⟩, .string ⟨#[]⟩] 23
  have pr0 : Below w.heap.size w (w.alloc (.cells #[.string ⟨#[]⟩, .string ⟨#[]⟩] 23)) := (Below.refl _ _).alloc (Nat.le_refl _) _
  go_enter Tryz.func8, Tryz.ntmps8
  go_wp2_with (first
    | (go_at_call 44; refine (RT _ _ f4 (G.grow p4)).mono ?_; rintro e w5 ⟨rfl, b5⟩; have p5 := bel' p4 b5; have KR5 := KR4.below b5 KR4.lt; have kr0 := KR5.at 0; have kr1 := KR5.at 1; have kf0 := KR5.free 0; have kf1 := KR5.free 1; simp at kr0 kr1)
    | (go_at_call 42; refine (TM _ _ _ (f1.grow (bel' b2 b3)) f3).mono ?_; rintro e w4 ⟨v4, rfl, f4, b4⟩; have p4 := bel' p3 b4; have KR4 := KR3.below b4 KR3.lt)
    | (go_at_call 43; refine (IV _ _ f2).mono ?_; rintro e w3 ⟨v3, rfl, f3, b3⟩; have p3 := bel' p2 b3; have KR3 := KR2.below b3 KR2.lt)
    | (go_at_call 41; have q := b1; refine (O2 _).mono ?_; rintro e w2 ⟨v2, rfl, f2, b2⟩; have p2 := bel' p1 b2; have KR2 := KR1.below b2 KR1.lt)
    | (go_at_call 41; refine (O1 _).mono ?_; rintro e w1 ⟨v1, rfl, f1, b1⟩; have p1 := bel' pr0 b1; have KR1 := KR.below b1 KR.lt)
    | fail)
  have KE := bput (bput KR5 0 (.string s)) 1 (.string t)
  have bE := (p5.setCell (p := ⟨w.heap.size, 0, none⟩) (Nat.le_refl _) (.string s)).setCell (p := ⟨w.heap.size, 1, none⟩) (Nat.le_refl _) (.string t)
  generalize (w5.setCell ⟨w.heap.size, 0, none⟩ (.string s)).setCell ⟨w.heap.size, 1, none⟩ (.string t) = WE at *
  have z0 := KE.at 0
  have z1 := KE.at 1
  simp at z0 z1
  exact bodyPost_ret (v := .tuple #[.agg #[.string s, .string t], .int .i64 0]) (by simp [results, Tryz.results8, go_sem, z0, z1]) rfl ⟨rfl, bE⟩
end Go.Proofs.YtebilgnmnambnaaGreatDoor.Mo

namespace Go.Proofs.YtebilgnmnambnaaGreatDoor.Mo
open Go.RowKit Fu Tn Go.Lib Dc Wt Ip

set_option maxRecDepth 100000 in
set_option maxHeartbeats 6400000 in
theorem Of_zero (p : Int) (w : World) : Calls Tryz.prog 8 #[.int .i64 p, .int .i64 0] w fun e' w' => e' = .returned (.tuple #[.agg #[.string ⟨#[]⟩, .string ⟨#[]⟩], .int .i64 4]) ∧ Below w.heap.size w w' := by
  have pr : Below w.heap.size w (w.alloc (.cells #[.string ⟨#[]⟩, .string ⟨#[]⟩] 23)) := (Below.refl _ _).alloc (Nat.le_refl _) _
  go_enter Tryz.func8, Tryz.ntmps8
  go_wp2
  exact bodyPost_ret (v := .tuple #[.agg #[.string ⟨#[]⟩, .string ⟨#[]⟩], .int .i64 4]) (by simp [results, Tryz.results8, go_sem]) rfl ⟨rfl, pr⟩
set_option maxRecDepth 100000 in
set_option maxHeartbeats 6400000 in
theorem ROf_zero (p : Int) (w : World) : Calls Tryz.prog 9 #[.int .i64 p, .int .i64 0] w fun e' w' => e' = .returned (.tuple #[.agg #[.string ⟨#[]⟩, .string ⟨#[]⟩], .int .i64 4]) ∧ Below w.heap.size w w' := by
  have pr : Below w.heap.size w (w.alloc (.cells #[.string ⟨#[]⟩, .string ⟨#[]⟩] 23)) := (Below.refl _ _).alloc (Nat.le_refl _) _
  go_enter Tryz.func9, Tryz.ntmps9
  go_wp2
  exact bodyPost_ret (v := .tuple #[.agg #[.string ⟨#[]⟩, .string ⟨#[]⟩], .int .i64 4]) (by simp [results, Tryz.results9, go_sem]) rfl ⟨rfl, pr⟩
set_option maxRecDepth 100000 in
set_option maxHeartbeats 6400000 in
theorem ROf_walk (p q : Int) (t : Rat) (u v : ByteArray) (er : Int) (w : World) (hq : (q == 0) = false) (FR : ∀ x, Below w.heap.size w x → Calls Tryz.prog 45 #[.int .i64 p, .int .i64 q] x (Qf t x)) (OU : ∀ x y, L.IsQ x y t → Calls Tryz.prog 46 #[y] x fun e' w' => e' = .returned (.tuple #[.agg #[.string u, .string v], .int .i64 er]) ∧ Below x.heap.size x w') : Calls Tryz.prog 9 #[.int .i64 p, .int .i64 q] w fun e' w' => e' = .returned (.tuple #[.agg #[.string u, .string v], .int .i64 er]) ∧ Below w.heap.size w w' := by
  have KR := Blk.new w #[.string ⟨#[]⟩, .string ⟨#[]⟩] 23
  have pr : Below w.heap.size w (w.alloc (.cells #[.string ⟨#[]⟩, .string ⟨#[]⟩] 23)) := (Below.refl _ _).alloc (Nat.le_refl _) _
  go_enter Tryz.func9, Tryz.ntmps9
  go_wp2_with (first
    | (go_at_call 46; (have mk := t1); (refine (OU _ _ t1).mono ?_); (rintro e w2 ⟨rfl, b2⟩); (have p2 := bel' p1 b2); (have K2 := K1.below b2 K1.lt); (have z0 := K2.at 0); (have z1 := K2.at 1); (have y0 := K2.free 0); (have y1 := K2.free 1); (simp at z0 z1))
    | (go_at_call 45; (refine (FR _ pr).mono ?_); (rintro e w1 ⟨g, a, l, c, a', l', c', rfl, t1, b1⟩); (have p1 := bel' pr b1); (have K1 := KR.below b1 KR.lt))
    | fail)
  have KE := bput (bput K2 0 (.string u)) 1 (.string v)
  have bE := (p2.setCell (p := ⟨w.heap.size, 0, none⟩) (Nat.le_refl _) (.string u)).setCell (p := ⟨w.heap.size, 1, none⟩) (Nat.le_refl _) (.string v)
  have q0 := KE.at 0
  have q1 := KE.at 1
  simp at q0 q1
  exact bodyPost_ret (v := .tuple #[.agg #[.string u, .string v], .int .i64 er]) (by simp [results, Tryz.results9, go_sem, q0, q1]) rfl ⟨rfl, bE⟩
/-- Of of both sides tells the same of any two ints. -/
theorem both_Of (p q : Int) (w : World) (p0 : -9223372036854775808 ≤ p) (p1 : p ≤ 9223372036854775807) (q0 : -9223372036854775808 ≤ q) (q1 : q ≤ 9223372036854775807) (G : Gw w) : ∃ (u v : ByteArray) (e : Int), (∀ x, Below w.heap.size w x → Calls Tryz.prog 8 #[.int .i64 p, .int .i64 q] x fun e' w' => e' = .returned (.tuple #[.agg #[.string u, .string v], .int .i64 e]) ∧ Below x.heap.size x w') ∧ (∀ x, Below w.heap.size w x → Calls Tryz.prog 9 #[.int .i64 p, .int .i64 q] x fun e' w' => e' = .returned (.tuple #[.agg #[.string u, .string v], .int .i64 e]) ∧ Below x.heap.size x w') := by
  by_cases z : q = 0
  · subst z
    exact ⟨⟨#[]⟩, ⟨#[]⟩, 4, fun x _ => Of_zero p x, fun x _ => ROf_zero p x⟩
  · have ps : PS ((p : Rat) / (q : Rat)) (1 + 1) := by
      have h1 := int_ps p (by omega)
      have h2 := inv_ps (int_ps q (by omega)) (by simpa using z)
      rw [Rat.div_def]
      exact h1.mul h2
    have hw : wrA ((p : Rat) / (q : Rat)) = (wrt ((p : Rat) / (q : Rat)), 0) := ps.short (by decide)
    obtain ⟨s, t, e⟩ : ∃ s t, wrt ((p : Rat) / (q : Rat)) = .agg #[.string s, .string t] := ⟨_, _, rfl⟩
    rw [e] at hw
    refine ⟨s, t, 0, fun x b => ?_, fun x b => ?_⟩
    · have := Of_all p q x p0 p1 q0 q1 z (G.grow b)
      rwa [e] at this
    · refine ROf_walk p q ((p : Rat) / (q : Rat)) s t 0 x (by simpa using z) (fun y _ => ?_) (fun y v h => ?_)
      rotate_left
      · have := L.Out_any v _ 6 y h (qs_k ps (by decide)) (by decide)
        rwa [hw] at this
      refine (L.Frac_all p q y p0 (by omega) z q0 (by omega)).mono ?_
      rintro e w' ⟨v, rfl, h, b⟩
      obtain ⟨a, l, c, a', l', c', rfl, _⟩ := nl_isq h
      exact ⟨_, a, l, c, a', l', c', rfl, h, b⟩
end Go.Proofs.YtebilgnmnambnaaGreatDoor.Mo

namespace Go.Proofs.YtebilgnmnambnaaGreatDoor.Mo
open Go.RowKit Fu Tn Go.Lib Dc Wt Ip

set_option maxRecDepth 100000 in
set_option maxHeartbeats 6400000 in
theorem isSameP (u v : ByteArray) (e : Int) (w : World) : Calls Tryz.prog 12 #[.agg #[.string u, .string v], .int .i64 e, .agg #[.string u, .string v], .int .i64 e] w fun e' w' => e' = .returned (.bool true) ∧ Below w.heap.size w w' := by
  have pr : Below w.heap.size w ((w.alloc (.cells #[.string u, .string v] 23)).alloc (.cells #[.string u, .string v] 23)) := ((Below.refl _ _).alloc (Nat.le_refl _) _).alloc (by simp) _
  go_enter Tryz.func12, Tryz.ntmps12
  go_wp2
  go_ret
  exact ⟨rfl, pr⟩
set_option maxRecDepth 100000 in
set_option maxHeartbeats 6400000 in
theorem powers_walk (p q k : Int) (n d s t u v : ByteArray) (e1 e2 : Int) (w : World) (O1 : ∀ x, Below w.heap.size w x → Calls Tryz.prog 8 #[.int .i64 p, .int .i64 q] x fun e' w' => e' = .returned (.tuple #[.agg #[.string s, .string t], .int .i64 e1]) ∧ Below x.heap.size x w') (O2 : ∀ x, Below w.heap.size w x → Calls Tryz.prog 9 #[.int .i64 p, .int .i64 q] x fun e' w' => e' = .returned (.tuple #[.agg #[.string s, .string t], .int .i64 e1]) ∧ Below x.heap.size x w') (P1 : ∀ x, Below w.heap.size w x → Calls Tryz.prog 10 #[.agg #[.string n, .string d], .int .i64 k] x fun e' w' => e' = .returned (.tuple #[.agg #[.string u, .string v], .int .i64 e2]) ∧ Below x.heap.size x w') (P2 : ∀ x, Below w.heap.size w x → Calls Tryz.prog 11 #[.agg #[.string n, .string d], .int .i64 k] x fun e' w' => e' = .returned (.tuple #[.agg #[.string u, .string v], .int .i64 e2]) ∧ Below x.heap.size x w') : Calls Tryz.prog 3 #[.int .i64 p, .int .i64 q, .agg #[.string n, .string d], .int .i64 k] w fun e' w' => e' = .returned (.bool true) ∧ Below w.heap.size w w' := by
  have KA := Blk.new w #[.string n, .string d] 23
  have pr : Below w.heap.size w (w.alloc (.cells #[.string n, .string d] 23)) := (Below.refl _ _).alloc (Nat.le_refl _) _
  go_enter Tryz.func3, Tryz.ntmps3
  go_wp2_with (first
    | (go_at_call 12; (have mk6 := p5); (refine (isSameP u v e2 _).mono ?_); (rintro e w6 ⟨rfl, b6⟩); (have p6 := bel' p5 b6); (have KA6 := KA5.below b6 KA5.lt); (have KX6 := KX5.below b6 KX5.lt); (have KY6 := KY5.below b6 KY5.lt); (have KZ6 := KZ5.below b6 KZ5.lt); (have KW6 := KW5.below b6 KW5.lt))
    | (go_at_call 12; (have mk5 := p4); (refine (isSameP s t e1 _).mono ?_); (rintro e w5 ⟨rfl, b5⟩); (have p5 := bel' p4 b5); (have KA5 := KA4.below b5 KA4.lt); (have KX5 := KX4.below b5 KX4.lt); (have KY5 := KY4.below b5 KY4.lt); (have KZ5 := KZ4.below b5 KZ4.lt); (have KW5 := KW.below b5 KW.lt); (have hKZ50 := KZ5.at 0); (have hKZ51 := KZ5.at 1); (simp at hKZ50 hKZ51); (have hKW50 := KW5.at 0); (have hKW51 := KW5.at 1); (simp at hKW50 hKW51))
    | (go_at_call 11; (have mk4 := p3); (refine (P2 _ p3).mono ?_); (rintro e w4 ⟨rfl, b4⟩); (have al4 := (Below.refl w4.heap.size w4).alloc (Nat.le_refl _) (.cells #[.string u, .string v] 23)); (have KW := Blk.new w4 #[.string u, .string v] 23); (have bb4 := bel' b4 al4); (have p4 := bel' p3 bb4); (have KA4 := KA3.below bb4 KA3.lt); (have KX4 := KX3.below bb4 KX3.lt); (have KY4 := KY3.below bb4 KY3.lt); (have KZ4 := KZ.below bb4 KZ.lt); (have hKX40 := KX4.at 0); (have hKX41 := KX4.at 1); (simp at hKX40 hKX41); (have hKY40 := KY4.at 0); (have hKY41 := KY4.at 1); (simp at hKY40 hKY41); (have hKZ40 := KZ4.at 0); (have hKZ41 := KZ4.at 1); (simp at hKZ40 hKZ41); (have hKW40 := KW.at 0); (have hKW41 := KW.at 1); (simp at hKW40 hKW41))
    | (go_at_call 10; (have mk3 := p2); (refine (P1 _ p2).mono ?_); (rintro e w3 ⟨rfl, b3⟩); (have al3 := (Below.refl w3.heap.size w3).alloc (Nat.le_refl _) (.cells #[.string u, .string v] 23)); (have KZ := Blk.new w3 #[.string u, .string v] 23); (have bb3 := bel' b3 al3); (have p3 := bel' p2 bb3); (have KA3 := KA2.below bb3 KA2.lt); (have KX3 := KX2.below bb3 KX2.lt); (have KY3 := KY.below bb3 KY.lt); (have hKA30 := KA3.at 0); (have hKA31 := KA3.at 1); (simp at hKA30 hKA31))
    | (go_at_call 9; (have mk2 := p1); (refine (O2 _ p1).mono ?_); (rintro e w2 ⟨rfl, b2⟩); (have al2 := (Below.refl w2.heap.size w2).alloc (Nat.le_refl _) (.cells #[.string s, .string t] 23)); (have KY := Blk.new w2 #[.string s, .string t] 23); (have bb2 := bel' b2 al2); (have p2 := bel' p1 bb2); (have KA2 := KA1.below bb2 KA1.lt); (have KX2 := KX.below bb2 KX.lt); (have hKA20 := KA2.at 0); (have hKA21 := KA2.at 1); (simp at hKA20 hKA21))
    | (go_at_call 8; (refine (O1 _ pr).mono ?_); (rintro e w1 ⟨rfl, b1⟩); (have al1 := (Below.refl w1.heap.size w1).alloc (Nat.le_refl _) (.cells #[.string s, .string t] 23)); (have KX := Blk.new w1 #[.string s, .string t] 23); (have bb1 := bel' b1 al1); (have p1 := bel' pr bb1); (have KA1 := KA.below bb1 KA.lt))
    | fail)
  go_ret
  exact ⟨rfl, p6⟩
theorem powers_law (p q : Int) (n d : ByteArray) (k : Int) (w : World) (p0 : -9223372036854775808 ≤ p) (p1 : p ≤ 9223372036854775807) (q0 : -9223372036854775808 ≤ q) (q1 : q ≤ 9223372036854775807) (hn : n.size ≤ 9223372036854775807) (hd : d.size ≤ 9223372036854775807) (G : Gw w) : Calls Tryz.prog 3 #[.int .i64 p, .int .i64 q, .agg #[.string n, .string d], .int .i64 k] w fun e' w' => e' = .returned (.bool true) ∧ Below w.heap.size w w' := by
  obtain ⟨s, t, e1, O1, O2⟩ := both_Of p q w p0 p1 q0 q1 G
  obtain ⟨u, v, e2, P1, P2⟩ := both_Pow n d k w hn hd G
  exact powers_walk p q k n d s t u v e1 e2 w O1 O2 P1 P2
theorem wf_both {x : Int} (h : (Lit.int .i64 x).wf = true) : -9223372036854775808 ≤ x ∧ x ≤ 9223372036854775807 := ⟨of_decide_eq_true (Bool.and_eq_true_iff.1 h).1, of_decide_eq_true (Bool.and_eq_true_iff.1 h).2⟩
theorem powers_wf (p q : Int) (n d : ByteArray) (k : Int) (w : World) (hp : (Lit.int .i64 p).wf = true) (hq : (Lit.int .i64 q).wf = true) (hn : n.size ≤ 9223372036854775807) (hd : d.size ≤ 9223372036854775807) (G : Gw w) : Calls Tryz.prog 3 #[.int .i64 p, .int .i64 q, .agg #[.string n, .string d], .int .i64 k] w fun e' w' => e' = .returned (.bool true) ∧ Below w.heap.size w w' := powers_law p q n d k w (wf_both hp).1 (wf_both hp).2 (wf_both hq).1 (wf_both hq).2 hn hd G
end Go.Proofs.YtebilgnmnambnaaGreatDoor.Mo

namespace Go.Proofs.YtebilgnmnambnaaGreatDoor.Dy
open Mo
theorem gPow : Tryz.prog.globalNamed "internal/strconv.uint64pow10" = some 2 := by kernel_rfl
theorem gw_of {w : World} (h : Go.Lib.TabIs Tryz.prog w "internal/strconv.uint64pow10" .u64 Go.Lib.pow10Tab) : Gw w := fun _ b => Go.Joins.var_stays gPow h b (Nat.le_refl _)
end Go.Proofs.YtebilgnmnambnaaGreatDoor.Dy
