import Derived.Test.YtiaeoknmgidehaaGreatDoorPart44
import Derived.Test.YtiaeoknmgidehaaGreatDoorPart41
import Derived.Test.YtiaeoknmgidehaaGreatDoorPart26
import Derived.Test.YtiaeoknmgidehaaGreatDoorPart31
import Derived.Lib.SmallJoins

namespace Go.Proofs.YtiaeoknmgidehaaGreatDoor.Mo
open Go.RowKit Fu Tn Go.Lib Ip

theorem one_lt64 {K : Nat} (h : 1 ≤ K) : 1 < Tn.pw K := by
  rw [pw_64]
  have := Nat.pow_le_pow_right (show 0 < 2 by decide) (show 1 ≤ 64 * K by omega)
  omega
/-- A power, of either sign. -/
def gp (r : Rat) (n : Int) : Rat := if 0 ≤ n then r ^ n.toNat else r⁻¹ ^ (-n).toNat
theorem gp_up (r : Rat) (m : Nat) : gp r (m : Int) = r ^ m := by unfold gp; rw [if_pos (by omega), Int.toNat_natCast]
theorem gp_down (r : Rat) {n : Int} {m : Nat} (h : n < 0) (e : -n = (m : Int)) : gp r n = r⁻¹ ^ m := by unfold gp; rw [if_neg (by omega), e, Int.toNat_natCast]
theorem Bd.gp {r : Rat} {B : Nat} (h : Bd r B) (h0 : r ≠ 0) (n : Int) {M : Nat} (hn : n.natAbs ≤ M) : Bd (gp r n) (B * M + 1) := by
  have q := Nat.mul_le_mul_left B hn
  by_cases c : 0 ≤ n
  · obtain ⟨m, rfl⟩ : ∃ m : Nat, n = m := ⟨n.toNat, by omega⟩
    rw [gp_up]
    exact (h.pow m).mono (by simp at q; omega)
  · obtain ⟨m, hm⟩ : ∃ m : Nat, -n = (m : Int) := ⟨(-n).toNat, by omega⟩
    rw [gp_down r (by omega) hm]
    have e : n.natAbs = m := by omega
    rw [e] at q
    exact ((h.inv h0).pow m).mono (by omega)
theorem pos_ne {r : Rat} (h : 0 < r) : r ≠ 0 := fun e => Rat.lt_irrefl (e ▸ h)
/-- Power of a number above nought. -/
theorem Power_p (v : Value) (r : Rat) (n : Int) (B : Nat) (w : World) (h : PF w v r) (h0 : 0 < r) (hB : Bd r B) (hb : B ≤ 64) (n0 : -400 ≤ n) (n1 : n ≤ 400) :
    Calls Tryz.prog 29 #[v, .int .i64 n] w (Fa (gp r n) w) := by
  obtain ⟨a, l, c, a', l', c', rfl, k1, k2⟩ := h
  rw [num_neg h0]
  have C : ∀ (a : Option Addr) (l c N : Nat), Nn w a l c (N : Int) → N < 2 ^ B → ∀ m : Nat, m ≤ 400 → ∀ x, Below w.heap.size w x → Calls Tryz.prog 61 #[.agg #[.slice a l c], .int .i64 (m : Int)] x fun e w' => ∃ a l c, e = .returned (.agg #[.slice a l c]) ∧ Nn w' a l c ((N ^ m : Nat) : Int) ∧ Below x.heap.size x w' := by
    intro a l c N k hN m hm x b
    have := Nat.mul_le_mul hb hm
    exact Pow_n a l c N m x (k.grow b) (by omega) (one_lt64 (K := 401) (by decide)) (by decide) (lt_64 (lt_pow2 hN m) (by omega))
  by_cases c0 : 0 ≤ n
  · obtain ⟨m, rfl⟩ : ∃ m : Nat, n = m := ⟨n.toNat, by omega⟩
    rw [gp_up]
    refine (Power_raw a a' a a' l c l' c' l c l' c' m m _ _ w (Or.inl ⟨by omega, rfl, ⟨rfl, rfl, rfl⟩, rfl, rfl, rfl⟩) (C a l c _ k1 hB.1 m (by omega)) (C a' l' c' _ k2 hB.2 m (by omega))).mono ?_
    rintro e w' ⟨a, l, c, a', l', c', rfl, q1, q2, b⟩
    have e0 : decide ((r ^ m).num < 0) = false := by
      rw [Rat.num_pow]
      have := pow_nn (x := r.num) (by have := of_decide_eq_false (num_neg h0); omega) m
      exact decide_eq_false (by omega)
    exact ⟨false, a, l, c, a', l', c', rfl, ⟨a, l, c, a', l', c', by rw [e0], by rw [Rat.num_pow, Int.natAbs_pow]; exact q1, by rw [Rat.den_pow]; exact q2⟩, b⟩
  · obtain ⟨m, hm⟩ : ∃ m : Nat, -n = (m : Int) := ⟨(-n).toNat, by omega⟩
    rw [gp_down r (by omega) hm]
    refine (Power_raw a a' a' a l c l' c' l' c' l c n m _ _ w (Or.inr ⟨by omega, by rw [hm]; exact Wt.wrapI _ (by omega) (by omega), ⟨rfl, rfl, rfl⟩, rfl, rfl, rfl⟩) (C a' l' c' _ k2 hB.2 m (by omega)) (C a l c _ k1 hB.1 m (by omega))).mono ?_
    rintro e w' ⟨a, l, c, a', l', c', rfl, q1, q2, b⟩
    obtain ⟨i1, i2, i3⟩ := inv_num r (pos_ne h0)
    have e0 : decide ((r⁻¹ ^ m).num < 0) = false := by
      rw [Rat.num_pow]
      have := pow_nn (x := (r⁻¹).num) (by have := of_decide_eq_false (i1.trans (num_neg h0)); omega) m
      exact decide_eq_false (by omega)
    exact ⟨false, a, l, c, a', l', c', rfl, ⟨a, l, c, a', l', c', by rw [e0], by rw [Rat.num_pow, Int.natAbs_pow, i2]; exact q1, by rw [Rat.den_pow, i3]; exact q2⟩, b⟩
theorem two_ten : (2 : Nat) ^ 13606 ≤ 10 ^ 4096 := by decide +kernel
theorem dig_le {N B k n : Nat} (h : N < 2 ^ B) (hB : B ≤ k) (h2 : 2 ^ k ≤ 10 ^ n) (hn : 0 < n) : (decDigits N).length ≤ n := by
  rw [decDigits_length]
  exact _root_.Dc.nDigits_le hn (Nat.lt_of_lt_of_le h (Nat.le_trans (Nat.pow_le_pow_right (by decide) hB) h2))
theorem dig_short {N B : Nat} (h : N < 2 ^ B) (hB : B ≤ 13606) : (decDigits N).length ≤ 4096 := dig_le h hB two_ten (by decide)
theorem Ratio_s (v : Value) (r : Rat) (B : Nat) (w : World) (h : PF w v r) (hB : Bd r B) (h13 : B ≤ 13606) (G : Gw w) :
    Calls Tryz.prog 30 #[v] w fun e w' => e = .returned (.tuple #[wrt r, .int .i64 0]) ∧ Below w.heap.size w w' := by
  have := Ratio_any v r w h (Bd.ps hB (by omega)) G
  rw [wrA_short (dig_short hB.1 h13) (dig_short hB.2 h13)] at this
  exact this
/-- What is told: an exact number, or that something is out of its range. -/
def gA (b : Bool) (r : Rat) : Value := if b then .tuple #[wrt r, .int .i64 0] else .tuple #[.agg #[.string ⟨#[]⟩, .string ⟨#[]⟩], .int .i64 1]
theorem gA_form (b : Bool) (r : Rat) : ∃ s t e, gA b r = .tuple #[.agg #[.string s, .string t], .int .i64 e] := by
  cases b
  · exact ⟨_, _, _, rfl⟩
  · exact ⟨_, _, _, rfl⟩
theorem gr_bd {k : Int} (h : okR k = true) : Bd (gr k) 27 ∧ 0 < gr k := by
  have h' : -10000000 < k ∧ k ≤ 100000000 := by simpa [okR] using h
  exact ⟨Bd.quo (by omega) (by decide) (by decide), gr_pos h'.1⟩
theorem okY_iff {n : Int} (h : okY n = true) : 0 ≤ n ∧ n ≤ 130 := by simpa [okY] using h
theorem Grown_any (k n : Int) (w : World) (G : Gw w) : Calls Tryz.prog 8 #[.int .i64 k, .int .i64 n] w fun e w' => e = .returned (gA (okR k && okY n) (gp (gr k) n)) ∧ Below w.heap.size w w' := by
  cases h : (okR k && okY n)
  · exact Grown_no k n w h
  · obtain ⟨h1, h2⟩ := Bool.and_eq_true_iff.1 h
    obtain ⟨b, p⟩ := gr_bd h1
    have y := okY_iff h2
    have bb := Bd.gp b (pos_ne p) n (M := 130) (by omega)
    exact Grown_yes k n _ _ _ _ 0 w (fun x => growth_p k x h1) (fun x v h => Power_p v _ n 27 x h p b (by decide) (by omega) (by omega)) (fun x v b' h => Ratio_s v _ _ x h bb (by decide) (G.grow b')) h1 h2
theorem Discounted_any (k n : Int) (w : World) (G : Gw w) : Calls Tryz.prog 10 #[.int .i64 k, .int .i64 n] w fun e w' => e = .returned (gA (okR k && okY n) (gp (gr k) (-n))) ∧ Below w.heap.size w w' := by
  cases h : (okR k && okY n)
  · exact Discounted_no k n w h
  · obtain ⟨h1, h2⟩ := Bool.and_eq_true_iff.1 h
    obtain ⟨b, p⟩ := gr_bd h1
    have y := okY_iff h2
    have bb := Bd.gp b (pos_ne p) (-n) (M := 130) (by omega)
    exact Discounted_yes k n (-n) _ _ _ _ 0 w (Wt.wrapI _ (by omega) (by omega)) (fun x => growth_p k x h1) (fun x v h => Power_p v _ (-n) 27 x h p b (by decide) (by omega) (by omega)) (fun x v b' h => Ratio_s v _ _ x h bb (by decide) (G.grow b')) h1 h2
/-- What a nominal rate comes to in a part of the year. -/
def ea (k n : Int) : Rat := ((n * 10000000 + k : Int) : Rat) * ((n * 10000000 : Int) : Rat)⁻¹
theorem ea_bd {k n : Int} (h : okR k = true) (h2 : okT n = true) : Bd (ea k n) 32 ∧ 0 < ea k n ∧ 1 ≤ n ∧ n ≤ 366 ∧ -10000000 < k ∧ k ≤ 100000000 := by
  have h' : -10000000 < k ∧ k ≤ 100000000 := by simpa [okR] using h
  have h2' : 1 ≤ n ∧ n ≤ 366 := by simpa [okT] using h2
  exact ⟨Bd.quo (by omega) (by omega) (by omega), quo_pos (by omega) (by omega), h2'.1, h2'.2, h'.1, h'.2⟩
theorem Effective_any (k n : Int) (w : World) (G : Gw w) : Calls Tryz.prog 12 #[.int .i64 k, .int .i64 n] w fun e w' => e = .returned (gA (okR k && okT n) (gp (ea k n) n + ((-1 : Int) : Rat))) ∧ Below w.heap.size w w' := by
  cases h : (okR k && okT n)
  · exact Effective_no k n w h
  · obtain ⟨h1, h2⟩ := Bool.and_eq_true_iff.1 h
    obtain ⟨b, p, y1, y2, y3, y4⟩ := ea_bd h1 h2
    have bb := Bd.gp b (pos_ne p) n (M := 366) (by omega)
    have b1 : Bd ((-1 : Int) : Rat) 1 := Bd.int (by decide) (by decide)
    exact Effective_yes k n (n * 10000000) (n * 10000000 + k) _ _ _ _ _ _ 0 w (Wt.wrapI _ (by omega) (by omega)) (Wt.wrapI _ (by omega) (by omega)) (fun x => quotient_p _ _ x (by omega) (by omega) (by omega) (by omega)) (fun x v h => Power_p v _ n 32 x h p b (by decide) (by omega) (by omega))
      (fun x => fa_of (OfInt_p (-1) x (by decide) (by decide))) (fun x v1 v2 q1 q2 => fa_of (Plus_p v1 v2 _ _ 184 1 x q1 q2 (Bd.ps bb (by decide)) (Bd.ps b1 (by decide)) (by unfold MulOK; omega) (by decide))) (fun x v b' h => Ratio_s v _ _ x h (bb.add b1) (by decide) (G.grow b')) h1 h2
end Go.Proofs.YtiaeoknmgidehaaGreatDoor.Mo

namespace Go.Proofs.YtiaeoknmgidehaaGreatDoor.Mo
open Go.RowKit Fu Go.Lib Ip

theorem one_lt30 {K : Nat} (h : 1 ≤ K) : 1 < Tl.pw K := by
  rw [pw_30]
  have := Nat.pow_le_pow_right (show 0 < 2 by decide) (show 1 ≤ 30 * K by omega)
  omega
theorem Bd.frac {p q : Int} {m : Nat} (h : p.natAbs < 2 ^ m) (h2 : q.natAbs < 2 ^ m) (hq : 0 < q) : Bd ((p : Rat) / (q : Rat)) m := by
  rw [Rat.div_def]; exact Bd.quo h h2 hq
theorem pow_ps {x : Int} (h : 0 < x) : ∀ n : Nat, 0 < x ^ n
  | 0 => by simp
  | n + 1 => by rw [Int.pow_succ]; exact Int.mul_pos (pow_ps h n) h
theorem RRate_q (k : Int) (w : World) (h0 : -9223372036854775808 ≤ k) (h1 : k < 9223372036854775808) : Calls Tryz.prog 39 #[.int .i64 k] w (Qf ((k : Rat) / ((10000000 : Int) : Rat)) w) :=
  Rate_r k _ w (fun x => qf_of (L.Frac_q k 10000000 x h0 h1 (by decide) (by decide)))
theorem gr_ref (k : Int) : ((1 : Int) : Rat) + (k : Rat) / ((10000000 : Int) : Rat) = gr k := by
  unfold gr
  rw [Rat.div_def, Rat.intCast_add]
  have : ((10000000 : Int) : Rat) * ((10000000 : Int) : Rat)⁻¹ = 1 := by decide +kernel
  have : ((1 : Int) : Rat) = 1 := rfl
  grind
theorem One_q (k : Int) (w : World) (h : okR k = true) : Calls Tryz.prog 63 #[.int .i64 k] w (Qf (gr k) w) := by
  have h' : -10000000 < k ∧ k ≤ 100000000 := by simpa [okR] using h
  have b1 : Bd ((1 : Int) : Rat) 1 := Bd.int (by decide) (by decide)
  have b2 : Bd ((k : Rat) / ((10000000 : Int) : Rat)) 27 := Bd.frac (by omega) (by decide) (by decide)
  rw [← gr_ref]
  exact One_r k _ _ _ w (fun x => qf_of (L.Of_q 1 x (by decide) (by decide))) (fun x => RRate_q k x (by omega) (by omega)) (fun x v1 v2 q1 q2 => qf_of (L.QAdd_any v1 v2 _ _ 1 x q1 q2 (Bd.qs b1 (by decide)) (Bd.qs b2 (by decide)) (by decide)))
theorem Worth_q (k n : Int) (w : World) (h : okR k = true) (n0 : -400 ≤ n) (n1 : n ≤ 400) : Calls Tryz.prog 33 #[.int .i64 k, .int .i64 n] w (Qf (gp (gr k) n) w) := by
  obtain ⟨b, p⟩ := gr_bd h
  by_cases c : n ≥ 0
  · obtain ⟨m, rfl⟩ : ∃ m : Nat, n = m := ⟨n.toNat, by omega⟩
    rw [gp_up]
    exact Worth_up k m _ _ w c (fun x => One_q k x h) (fun x v q => QPow_q v _ m 400 x q (num_neg p) (by omega) (Bd.qs (b.pow m) (by omega)) (by decide) (one_lt30 (by decide)))
  · obtain ⟨m, hm⟩ : ∃ m : Nat, -n = (m : Int) := ⟨(-n).toNat, by omega⟩
    rw [gp_down _ (by omega) hm, inv_pow, ← Rat.one_mul ((gr k) ^ m)⁻¹, ← Rat.div_def]
    have b1 : Bd ((1 : Int) : Rat) 1 := Bd.int (by decide) (by decide)
    have z : (gr k) ^ m ≠ 0 := fun e => by
      have := congrArg Rat.num e
      rw [Rat.num_pow] at this
      have q : 0 < (gr k).num := by
        have := of_decide_eq_false (num_neg p)
        have : (gr k).num ≠ 0 := fun e => pos_ne p (Rat.num_eq_zero.1 e)
        omega
      have q2 := pow_ps q m
      rw [this] at q2
      exact absurd q2 (by decide)
    exact Worth_down k n m _ _ _ _ w c (by rw [hm]; exact Wt.wrapI _ (by omega) (by omega)) (fun x => qf_of (L.Of_q 1 x (by decide) (by decide))) (fun x => One_q k x h) (fun x v q => QPow_q v _ m 400 x q (num_neg p) (by omega) (Bd.qs (b.pow m) (by omega)) (by decide) (one_lt30 (by decide)))
      (fun x v1 v2 q1 q2 => qf_of (L.QDiv_any v1 v2 _ _ 400 x q1 q2 (Bd.qs b1 (by decide)) (Bd.qs (b.pow m) (by omega)) (by decide) z))
theorem Out_s (v : Value) (r : Rat) (B : Nat) (w : World) (h : L.IsQ w v r) (hB : Bd r B) (h13 : B ≤ 13606) :
    Calls Tryz.prog 34 #[v] w fun e w' => e = .returned (.tuple #[wrt r, .int .i64 0]) ∧ Below w.heap.size w w' :=
  L.Out_q v r 1000 w h (Bd.qs hB (by omega)) (by decide) (dig_short hB.1 h13) (dig_short hB.2 h13)
theorem RGrown_any (k n : Int) (w : World) : Calls Tryz.prog 9 #[.int .i64 k, .int .i64 n] w fun e w' => e = .returned (gA (okR k && okY n) (gp (gr k) n)) ∧ Below w.heap.size w w' := by
  cases h : (okR k && okY n)
  · exact RGrown_no k n w h
  · obtain ⟨h1, h2⟩ := Bool.and_eq_true_iff.1 h
    obtain ⟨b, p⟩ := gr_bd h1
    have y := okY_iff h2
    have bb := Bd.gp b (pos_ne p) n (M := 130) (by omega)
    exact RGrown_yes k n _ _ _ 0 w (fun x => Worth_q k n x h1 (by omega) (by omega)) (fun x v h => Out_s v _ _ x h bb (by decide)) h1 h2
theorem RDiscounted_any (k n : Int) (w : World) : Calls Tryz.prog 11 #[.int .i64 k, .int .i64 n] w fun e w' => e = .returned (gA (okR k && okY n) (gp (gr k) (-n))) ∧ Below w.heap.size w w' := by
  cases h : (okR k && okY n)
  · exact RDiscounted_no k n w h
  · obtain ⟨h1, h2⟩ := Bool.and_eq_true_iff.1 h
    obtain ⟨b, p⟩ := gr_bd h1
    have y := okY_iff h2
    have bb := Bd.gp b (pos_ne p) (-n) (M := 130) (by omega)
    exact RDiscounted_yes k n (-n) _ _ _ 0 w (Wt.wrapI _ (by omega) (by omega)) (fun x => Worth_q k (-n) x h1 (by omega) (by omega)) (fun x v h => Out_s v _ _ x h bb (by decide)) h1 h2
theorem ea_ref (k : Int) (n : Int) (hn : 1 ≤ n) : ((1 : Int) : Rat) + (k : Rat) / ((10000000 : Int) : Rat) / (n : Rat) = ea k n := by
  unfold ea
  rw [Rat.div_def, Rat.div_def, Rat.intCast_add, Rat.intCast_mul, Rat.inv_mul_rev]
  have z : (n : Rat) ≠ 0 := by simpa using show n ≠ 0 by omega
  have h1 := Rat.mul_inv_cancel _ z
  have h2 : ((10000000 : Int) : Rat) * ((10000000 : Int) : Rat)⁻¹ = 1 := by decide +kernel
  have h3 : ((1 : Int) : Rat) = 1 := rfl
  grind
theorem REffective_any (k n : Int) (w : World) : Calls Tryz.prog 13 #[.int .i64 k, .int .i64 n] w fun e w' => e = .returned (gA (okR k && okT n) (gp (ea k n) n + ((-1 : Int) : Rat))) ∧ Below w.heap.size w w' := by
  cases h : (okR k && okT n)
  · exact REffective_no k n w h
  · obtain ⟨h1, h2⟩ := Bool.and_eq_true_iff.1 h
    obtain ⟨b, p, y1, y2, y3, y4⟩ := ea_bd h1 h2
    have b1 : Bd ((1 : Int) : Rat) 1 := Bd.int (by decide) (by decide)
    have bm : Bd ((-1 : Int) : Rat) 1 := Bd.int (by decide) (by decide)
    have bk : Bd ((k : Rat) / ((10000000 : Int) : Rat)) 27 := Bd.frac (by omega) (by decide) (by decide)
    have bn : Bd (n : Rat) 9 := Bd.int (by omega) (by decide)
    have z : (n : Rat) ≠ 0 := by simpa using show n ≠ 0 by omega
    have bd : Bd ((k : Rat) / ((10000000 : Int) : Rat) / (n : Rat)) 36 := by rw [Rat.div_def _ (n : Rat)]; exact bk.mul (bn.inv z)
    obtain ⟨m, rfl⟩ : ∃ m : Nat, n = m := ⟨n.toNat, by omega⟩
    have bb := (b.pow m).mono (show 32 * m + 1 ≤ 11713 by omega)
    have er := ea_ref k m y1
    rw [gp_up, show (ea k m) ^ m + ((-1 : Int) : Rat) = (ea k m) ^ m - ((1 : Int) : Rat) by rw [Rat.sub_eq_add_neg]; rfl]
    refine REffective_yes k m _ _ _ _ _ _ _ _ _ 0 w (fun x => RRate_q k x (by omega) (by omega)) (fun x => qf_of (L.Of_q m x (by omega) (by omega))) (fun x v1 v2 q1 q2 => qf_of (L.QDiv_any v1 v2 _ _ 2 x q1 q2 (Bd.qs bk (by decide)) (Bd.qs bn (by decide)) (by decide) z))
      (fun x => qf_of (L.Of_q 1 x (by decide) (by decide))) (fun x v1 v2 q1 q2 => ?_) (fun x v q => QPow_q v _ m 400 x q (num_neg p) (by omega) (Bd.qs bb (by decide)) (by decide) (one_lt30 (by decide))) (fun x v1 v2 q1 q2 => QSub_q v1 v2 _ _ 400 x q1 q2 (Bd.qs bb (by decide)) (Bd.qs b1 (by decide)) (by decide))
      (fun x v h => Out_s v _ (11713 + 1 + 1) x h (by rw [Rat.sub_eq_add_neg]; exact bb.add bm) (by decide)) h1 (by omega) (by omega)
    have := qf_of (L.QAdd_any v1 v2 _ _ 2 x q1 q2 (Bd.qs b1 (by decide)) (Bd.qs bd (by decide)) (by decide))
    rw [er] at this
    exact this
end Go.Proofs.YtiaeoknmgidehaaGreatDoor.Mo

namespace Go.Proofs.YtiaeoknmgidehaaGreatDoor.Mo
open Go.RowKit

set_option maxRecDepth 100000 in
theorem names8 (w : World) : Calls Tryz.prog 7 #[] w fun e w' => e = .returned (.bool true) ∧ w' = w := by
  go_enter Tryz.func7, Tryz.ntmps7
  go_wp2
  go_ret
  exact ⟨rfl, rfl⟩
set_option maxRecDepth 100000 in
set_option maxHeartbeats 3200000 in
theorem grows_walk (k n m e1 e2 e3 : Int) (s1 t1 s2 t2 s3 t3 : ByteArray) (w : World) (C1 : ∀ x, Below w.heap.size w x → Calls Tryz.prog 8 #[.int .i64 k, .int .i64 n] x fun e w' => e = .returned (.tuple #[.agg #[.string s1, .string t1], .int .i64 e1]) ∧ Below x.heap.size x w') (C2 : ∀ x, Below w.heap.size w x → Calls Tryz.prog 9 #[.int .i64 k, .int .i64 n] x fun e w' => e = .returned (.tuple #[.agg #[.string s1, .string t1], .int .i64 e1]) ∧ Below x.heap.size x w') (C3 : ∀ x, Below w.heap.size w x → Calls Tryz.prog 10 #[.int .i64 k, .int .i64 n] x fun e w' => e = .returned (.tuple #[.agg #[.string s2, .string t2], .int .i64 e2]) ∧ Below x.heap.size x w') (C4 : ∀ x, Below w.heap.size w x → Calls Tryz.prog 11 #[.int .i64 k, .int .i64 n] x fun e w' => e = .returned (.tuple #[.agg #[.string s2, .string t2], .int .i64 e2]) ∧ Below x.heap.size x w') (C5 : ∀ x, Below w.heap.size w x → Calls Tryz.prog 12 #[.int .i64 k, .int .i64 m] x fun e w' => e = .returned (.tuple #[.agg #[.string s3, .string t3], .int .i64 e3]) ∧ Below x.heap.size x w') (C6 : ∀ x, Below w.heap.size w x → Calls Tryz.prog 13 #[.int .i64 k, .int .i64 m] x fun e w' => e = .returned (.tuple #[.agg #[.string s3, .string t3], .int .i64 e3]) ∧ Below x.heap.size x w') (C7 : ∀ x, Below w.heap.size w x → Calls Tryz.prog 8 #[.int .i64 500000, .int .i64 2] x fun e w' => e = .returned (.tuple #[.agg #[.string ⟨#[52, 52, 49]⟩, .string ⟨#[52, 48, 48]⟩], .int .i64 0]) ∧ Below x.heap.size x w') :
    Calls Tryz.prog 3 #[.agg #[.int .i64 k, .int .i64 n, .int .i64 m]] w fun e w' => e = .returned (.bool true) ∧ Below w.heap.size w w' := by
  have KD := Blk.new w #[.int .i64 k, .int .i64 n, .int .i64 m] 23
  have pr : Below w.heap.size w (w.alloc (.cells #[.int .i64 k, .int .i64 n, .int .i64 m] 23)) := (Below.refl _ _).alloc (Nat.le_refl _) _
  have NM := names8
  go_enter Tryz.func3, Tryz.ntmps3
  go_wp2_with (first
    | (go_at_call 7; refine (NM _).mono ?_; rintro e w9 ⟨rfl, hw9⟩; subst w9)
    | (go_at_call 8; (have z7 := p6); (refine (C7 _ p6).mono ?_); (rintro e w7 ⟨rfl, b7⟩); (have al7 := (Below.refl w7.heap.size w7).alloc (Nat.le_refl _) (.cells #[.string ⟨#[52, 52, 49]⟩, .string ⟨#[52, 48, 48]⟩] 26)); (have V7 := Blk.new w7 #[.string ⟨#[52, 52, 49]⟩, .string ⟨#[52, 48, 48]⟩] 26); (have bb7 := bel' b7 al7); (have p7 := bel' p6 bb7); (have KD7 := KD6.below bb7 KD6.lt); (have V1_7 := V1_6.below bb7 V1_6.lt); (have V2_7 := V2_6.below bb7 V2_6.lt); (have V3_7 := V3_6.below bb7 V3_6.lt); (have V4_7 := V4_6.below bb7 V4_6.lt); (have V5_7 := V5_6.below bb7 V5_6.lt); (have V6_7 := V6.below bb7 V6.lt); (have dk7 := KD7.at 0); (have dn7 := KD7.at 1); (have dm7 := KD7.at 2); (simp at dk7 dn7 dm7); (have q0 := V1_7.at 0); (have q1 := V1_7.at 1); (simp at q0 q1); (have q2 := V2_7.at 0); (have q3 := V2_7.at 1); (simp at q2 q3); (have q4 := V3_7.at 0); (have q5 := V3_7.at 1); (simp at q4 q5); (have q6 := V4_7.at 0); (have q7 := V4_7.at 1); (simp at q6 q7); (have q8 := V5_7.at 0); (have q9 := V5_7.at 1); (simp at q8 q9); (have q10 := V6_7.at 0); (have q11 := V6_7.at 1); (simp at q10 q11); (have q12 := V7.at 0); (have q13 := V7.at 1); (simp at q12 q13))
    | (go_at_call 13; (have z6 := p5); (refine (C6 _ p5).mono ?_); (rintro e w6 ⟨rfl, b6⟩); (have al6 := (Below.refl w6.heap.size w6).alloc (Nat.le_refl _) (.cells #[.string s3, .string t3] 26)); (have V6 := Blk.new w6 #[.string s3, .string t3] 26); (have bb6 := bel' b6 al6); (have p6 := bel' p5 bb6); (have KD6 := KD5.below bb6 KD5.lt); (have V1_6 := V1_5.below bb6 V1_5.lt); (have V2_6 := V2_5.below bb6 V2_5.lt); (have V3_6 := V3_5.below bb6 V3_5.lt); (have V4_6 := V4_5.below bb6 V4_5.lt); (have V5_6 := V5.below bb6 V5.lt); (have dk6 := KD6.at 0); (have dn6 := KD6.at 1); (have dm6 := KD6.at 2); (simp at dk6 dn6 dm6))
    | (go_at_call 12; (have z5 := p4); (refine (C5 _ p4).mono ?_); (rintro e w5 ⟨rfl, b5⟩); (have al5 := (Below.refl w5.heap.size w5).alloc (Nat.le_refl _) (.cells #[.string s3, .string t3] 26)); (have V5 := Blk.new w5 #[.string s3, .string t3] 26); (have bb5 := bel' b5 al5); (have p5 := bel' p4 bb5); (have KD5 := KD4.below bb5 KD4.lt); (have V1_5 := V1_4.below bb5 V1_4.lt); (have V2_5 := V2_4.below bb5 V2_4.lt); (have V3_5 := V3_4.below bb5 V3_4.lt); (have V4_5 := V4.below bb5 V4.lt); (have dk5 := KD5.at 0); (have dn5 := KD5.at 1); (have dm5 := KD5.at 2); (simp at dk5 dn5 dm5))
    | (go_at_call 11; (have z4 := p3); (refine (C4 _ p3).mono ?_); (rintro e w4 ⟨rfl, b4⟩); (have al4 := (Below.refl w4.heap.size w4).alloc (Nat.le_refl _) (.cells #[.string s2, .string t2] 26)); (have V4 := Blk.new w4 #[.string s2, .string t2] 26); (have bb4 := bel' b4 al4); (have p4 := bel' p3 bb4); (have KD4 := KD3.below bb4 KD3.lt); (have V1_4 := V1_3.below bb4 V1_3.lt); (have V2_4 := V2_3.below bb4 V2_3.lt); (have V3_4 := V3.below bb4 V3.lt); (have dk4 := KD4.at 0); (have dn4 := KD4.at 1); (have dm4 := KD4.at 2); (simp at dk4 dn4 dm4))
    | (go_at_call 10; (have z3 := p2); (refine (C3 _ p2).mono ?_); (rintro e w3 ⟨rfl, b3⟩); (have al3 := (Below.refl w3.heap.size w3).alloc (Nat.le_refl _) (.cells #[.string s2, .string t2] 26)); (have V3 := Blk.new w3 #[.string s2, .string t2] 26); (have bb3 := bel' b3 al3); (have p3 := bel' p2 bb3); (have KD3 := KD2.below bb3 KD2.lt); (have V1_3 := V1_2.below bb3 V1_2.lt); (have V2_3 := V2.below bb3 V2.lt); (have dk3 := KD3.at 0); (have dn3 := KD3.at 1); (have dm3 := KD3.at 2); (simp at dk3 dn3 dm3))
    | (go_at_call 9; (have z2 := p1); (refine (C2 _ p1).mono ?_); (rintro e w2 ⟨rfl, b2⟩); (have al2 := (Below.refl w2.heap.size w2).alloc (Nat.le_refl _) (.cells #[.string s1, .string t1] 26)); (have V2 := Blk.new w2 #[.string s1, .string t1] 26); (have bb2 := bel' b2 al2); (have p2 := bel' p1 bb2); (have KD2 := KD1.below bb2 KD1.lt); (have V1_2 := V1.below bb2 V1.lt); (have dk2 := KD2.at 0); (have dn2 := KD2.at 1); (have dm2 := KD2.at 2); (simp at dk2 dn2 dm2))
    | (go_at_call 8; (refine (C1 _ pr).mono ?_); (rintro e w1 ⟨rfl, b1⟩); (have al1 := (Below.refl w1.heap.size w1).alloc (Nat.le_refl _) (.cells #[.string s1, .string t1] 26)); (have V1 := Blk.new w1 #[.string s1, .string t1] 26); (have bb1 := bel' b1 al1); (have p1 := bel' pr bb1); (have KD1 := KD.below bb1 KD.lt); (have dk1 := KD1.at 0); (have dn1 := KD1.at 1); (have dm1 := KD1.at 2); (simp at dk1 dn1 dm1))
    | fail)
  go_ret
  exact ⟨rfl, p7⟩
end Go.Proofs.YtiaeoknmgidehaaGreatDoor.Mo

namespace Go.Proofs.YtiaeoknmgidehaaGreatDoor.Mo
open Go.RowKit Go.Lib Ip

theorem grown_one : gA (okR 500000 && okY 2) (gp (gr 500000) 2) = .tuple #[.agg #[.string ⟨#[52, 52, 49]⟩, .string ⟨#[52, 48, 48]⟩], .int .i64 0] := by
  have e : gp (gr 500000) 2 = mkRat 441 400 := by decide +kernel
  have s1 : sB (sg (decide ((mkRat 441 400).num < 0)) (decDigits (mkRat 441 400).num.natAbs)) = ⟨#[52, 52, 49]⟩ := by decide +kernel
  have s2 : sB (decDigits (mkRat 441 400).den) = ⟨#[52, 48, 48]⟩ := by decide +kernel
  rw [e]
  unfold gA wrt
  rw [if_pos (by decide), s1, s2]
/-- The law. -/
theorem grows_law (k n m : Int) (w : World) (G : Gw w) : Calls Tryz.prog 3 #[.agg #[.int .i64 k, .int .i64 n, .int .i64 m]] w fun e w' => e = .returned (.bool true) ∧ Below w.heap.size w w' := by
  obtain ⟨s1, t1, e1, f1⟩ := gA_form (okR k && okY n) (gp (gr k) n)
  obtain ⟨s2, t2, e2, f2⟩ := gA_form (okR k && okY n) (gp (gr k) (-n))
  obtain ⟨s3, t3, e3, f3⟩ := gA_form (okR k && okT m) (gp (ea k m) m + ((-1 : Int) : Rat))
  have c1 := fun x (b : Below w.heap.size w x) => Grown_any k n x (G.grow b)
  have c2 := fun x (_ : Below w.heap.size w x) => RGrown_any k n x
  have c3 := fun x (b : Below w.heap.size w x) => Discounted_any k n x (G.grow b)
  have c4 := fun x (_ : Below w.heap.size w x) => RDiscounted_any k n x
  have c5 := fun x (b : Below w.heap.size w x) => Effective_any k m x (G.grow b)
  have c6 := fun x (_ : Below w.heap.size w x) => REffective_any k m x
  have c7 := fun x (b : Below w.heap.size w x) => Grown_any 500000 2 x (G.grow b)
  simp only [f1] at c1 c2
  simp only [f2] at c3 c4
  simp only [f3] at c5 c6
  rw [grown_one] at c7
  exact grows_walk k n m e1 e2 e3 s1 t1 s2 t2 s3 t3 w c1 c2 c3 c4 c5 c6 c7
end Go.Proofs.YtiaeoknmgidehaaGreatDoor.Mo

namespace Go.Proofs.YtiaeoknmgidehaaGreatDoor.Dy
open Mo
theorem gPow : Tryz.prog.globalNamed "internal/strconv.uint64pow10" = some 2 := by kernel_rfl
theorem gw_of {w : World} (h : Go.Lib.TabIs Tryz.prog w "internal/strconv.uint64pow10" .u64 Go.Lib.pow10Tab) : Gw w := fun _ b => Go.Joins.var_stays gPow h b (Nat.le_refl _)
end Go.Proofs.YtiaeoknmgidehaaGreatDoor.Dy
