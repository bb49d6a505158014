import Derived.Test.YtiaeoknmgidehaaGreatDoorPart44
import Derived.Test.YtiaeoknmgidehaaGreatDoorPart41
import Derived.Deep.RegionHeld3

namespace Go.Proofs.YtiaeoknmgidehaaGreatDoor.Mo
open Go.RowKit Fu Tn Go.Lib Ip

theorem one_lt64 {K : Nat} (h : 1 ≤ K) : 1 < Tn.pw K := by
  rw [pw_64]
  have := Nat.pow_le_pow_right (show 0 < 2 by decide) (show 1 ≤ 64 * K by omega)
  omega
/-- A power, of either sign. -/
def gp (r : Rat) (n : Int) : Rat := if 0 ≤ n then r ^ n.toNat else r⁻¹ ^ (-n).toNat
theorem gp_up (r : Rat) (m : Nat) : gp r (m : Int) = r ^ m := by unfold gp; rw [if_pos (by omega), Int.toNat_natCast]
theorem gp_down (r : Rat) {n : Int} {m : Nat} (h : n < 0) (e : -n = (m : Int)) : gp r n = r⁻¹ ^ m := by unfold gp; rw [if_neg (by omega), e, Int.toNat_natCast]
theorem Bd.gp {r : Rat} {B : Nat} (h : Bd r B) (h0 : r ≠ 0) (n : Int) {M : Nat} (hn : n.natAbs ≤ M) : Bd (gp r n) (B * M + 1) := by
  have q := Nat.mul_le_mul_left B hn
  by_cases c : 0 ≤ n
  · obtain ⟨m, rfl⟩ : ∃ m : Nat, n = m := ⟨n.toNat, by omega⟩
    rw [gp_up]
    exact (h.pow m).mono (by simp at q; omega)
  · obtain ⟨m, hm⟩ : ∃ m : Nat, -n = (m : Int) := ⟨(-n).toNat, by omega⟩
    rw [gp_down r (by omega) hm]
    have e : n.natAbs = m := by omega
    rw [e] at q
    exact ((h.inv h0).pow m).mono (by omega)
theorem pos_ne {r : Rat} (h : 0 < r) : r ≠ 0 := fun e => Rat.lt_irrefl (e ▸ h)
/-- Power of a number above nought. -/
theorem Power_p (v : Value) (r : Rat) (n : Int) (B : Nat) (w : World) (h : PF w v r) (h0 : 0 < r) (hB : Bd r B) (hb : B ≤ 64) (n0 : -400 ≤ n) (n1 : n ≤ 400) :
    Calls Tryz.prog 29 #[v, .int .i64 n] w (Fa (gp r n) w) := by
  obtain ⟨a, l, c, a', l', c', rfl, k1, k2⟩ := h
  rw [num_neg h0]
  have C : ∀ (a : Option Addr) (l c N : Nat), Nn w a l c (N : Int) → N < 2 ^ B → ∀ m : Nat, m ≤ 400 → ∀ x, Below w.heap.size w x → Calls Tryz.prog 61 #[.agg #[.slice a l c], .int .i64 (m : Int)] x fun e w' => ∃ a l c, e = .returned (.agg #[.slice a l c]) ∧ Nn w' a l c ((N ^ m : Nat) : Int) ∧ Below x.heap.size x w' := by
    intro a l c N k hN m hm x b
    have := Nat.mul_le_mul hb hm
    exact Pow_n a l c N m x (k.grow b) (by omega) (one_lt64 (K := 401) (by decide)) (by decide) (lt_64 (lt_pow2 hN m) (by omega))
  by_cases c0 : 0 ≤ n
  · obtain ⟨m, rfl⟩ : ∃ m : Nat, n = m := ⟨n.toNat, by omega⟩
    rw [gp_up]
    refine (Power_raw a a' a a' l c l' c' l c l' c' m m _ _ w (Or.inl ⟨by omega, rfl, ⟨rfl, rfl, rfl⟩, rfl, rfl, rfl⟩) (C a l c _ k1 hB.1 m (by omega)) (C a' l' c' _ k2 hB.2 m (by omega))).mono ?_
    rintro e w' ⟨a, l, c, a', l', c', rfl, q1, q2, b⟩
    have e0 : decide ((r ^ m).num < 0) = false := by
      rw [Rat.num_pow]
      have := pow_nn (x := r.num) (by have := of_decide_eq_false (num_neg h0); omega) m
      exact decide_eq_false (by omega)
    exact ⟨false, a, l, c, a', l', c', rfl, ⟨a, l, c, a', l', c', by rw [e0], by rw [Rat.num_pow, Int.natAbs_pow]; exact q1, by rw [Rat.den_pow]; exact q2⟩, b⟩
  · obtain ⟨m, hm⟩ : ∃ m : Nat, -n = (m : Int) := ⟨(-n).toNat, by omega⟩
    rw [gp_down r (by omega) hm]
    refine (Power_raw a a' a' a l c l' c' l' c' l c n m _ _ w (Or.inr ⟨by omega, by rw [hm]; exact Wt.wrapI _ (by omega) (by omega), ⟨rfl, rfl, rfl⟩, rfl, rfl, rfl⟩) (C a' l' c' _ k2 hB.2 m (by omega)) (C a l c _ k1 hB.1 m (by omega))).mono ?_
    rintro e w' ⟨a, l, c, a', l', c', rfl, q1, q2, b⟩
    obtain ⟨i1, i2, i3⟩ := inv_num r (pos_ne h0)
    have e0 : decide ((r⁻¹ ^ m).num < 0) = false := by
      rw [Rat.num_pow]
      have := pow_nn (x := (r⁻¹).num) (by have := of_decide_eq_false (i1.trans (num_neg h0)); omega) m
      exact decide_eq_false (by omega)
    exact ⟨false, a, l, c, a', l', c', rfl, ⟨a, l, c, a', l', c', by rw [e0], by rw [Rat.num_pow, Int.natAbs_pow, i2]; exact q1, by rw [Rat.den_pow, i3]; exact q2⟩, b⟩
theorem two_ten : (2 : Nat) ^ 13606 ≤ 10 ^ 4096 := by decide +kernel
theorem dig_le {N B k n : Nat} (h : N < 2 ^ B) (hB : B ≤ k) (h2 : 2 ^ k ≤ 10 ^ n) (hn : 0 < n) : (decDigits N).length ≤ n := by
  rw [decDigits_length]
  exact _root_.Dc.nDigits_le hn (Nat.lt_of_lt_of_le h (Nat.le_trans (Nat.pow_le_pow_right (by decide) hB) h2))
theorem dig_short {N B : Nat} (h : N < 2 ^ B) (hB : B ≤ 13606) : (decDigits N).length ≤ 4096 := dig_le h hB two_ten (by decide)
theorem Ratio_s (v : Value) (r : Rat) (B : Nat) (w : World) (h : PF w v r) (hB : Bd r B) (h13 : B ≤ 13606) (G : Gw w) :
    Calls Tryz.prog 30 #[v] w fun e w' => e = .returned (.tuple #[wrt r, .int .i64 0]) ∧ Below w.heap.size w w' := by
  have := Ratio_any v r w h (Bd.ps hB (by omega)) G
  rw [wrA_short (dig_short hB.1 h13) (dig_short hB.2 h13)] at this
  exact this
/-- What is told: an exact number, or that something is out of its range. -/
def gA (b : Bool) (r : Rat) : Value := if b then .tuple #[wrt r, .int .i64 0] else .tuple #[.agg #[.string ⟨#[]⟩, .string ⟨#[]⟩], .int .i64 1]
theorem gA_form (b : Bool) (r : Rat) : ∃ s t e, gA b r = .tuple #[.agg #[.string s, .string t], .int .i64 e] := by
  cases b
  · exact ⟨_, _, _, rfl⟩
  · exact ⟨_, _, _, rfl⟩
theorem gr_bd {k : Int} (h : okR k = true) : Bd (gr k) 27 ∧ 0 < gr k := by
  have h' : -10000000 < k ∧ k ≤ 100000000 := by simpa [okR] using h
  exact ⟨Bd.quo (by omega) (by decide) (by decide), gr_pos h'.1⟩
theorem okY_iff {n : Int} (h : okY n = true) : 0 ≤ n ∧ n ≤ 130 := by simpa [okY] using h
theorem Grown_any (k n : Int) (w : World) (G : Gw w) : Calls Tryz.prog 8 #[.int .i64 k, .int .i64 n] w fun e w' => e = .returned (gA (okR k && okY n) (gp (gr k) n)) ∧ Below w.heap.size w w' := by
  cases h : (okR k && okY n)
  · exact Grown_no k n w h
  · obtain ⟨h1, h2⟩ := Bool.and_eq_true_iff.1 h
    obtain ⟨b, p⟩ := gr_bd h1
    have y := okY_iff h2
    have bb := Bd.gp b (pos_ne p) n (M := 130) (by omega)
    exact Grown_yes k n _ _ _ _ 0 w (fun x => growth_p k x h1) (fun x v h => Power_p v _ n 27 x h p b (by decide) (by omega) (by omega)) (fun x v b' h => Ratio_s v _ _ x h bb (by decide) (G.grow b')) h1 h2
theorem Discounted_any (k n : Int) (w : World) (G : Gw w) : Calls Tryz.prog 10 #[.int .i64 k, .int .i64 n] w fun e w' => e = .returned (gA (okR k && okY n) (gp (gr k) (-n))) ∧ Below w.heap.size w w' := by
  cases h : (okR k && okY n)
  · exact Discounted_no k n w h
  · obtain ⟨h1, h2⟩ := Bool.and_eq_true_iff.1 h
    obtain ⟨b, p⟩ := gr_bd h1
    have y := okY_iff h2
    have bb := Bd.gp b (pos_ne p) (-n) (M := 130) (by omega)
    exact Discounted_yes k n (-n) _ _ _ _ 0 w (Wt.wrapI _ (by omega) (by omega)) (fun x => growth_p k x h1) (fun x v h => Power_p v _ (-n) 27 x h p b (by decide) (by omega) (by omega)) (fun x v b' h => Ratio_s v _ _ x h bb (by decide) (G.grow b')) h1 h2
/-- What a nominal rate comes to in a part of the year. -/
def ea (k n : Int) : Rat := ((n * 10000000 + k : Int) : Rat) * ((n * 10000000 : Int) : Rat)⁻¹
theorem ea_bd {k n : Int} (h : okR k = true) (h2 : okT n = true) : Bd (ea k n) 32 ∧ 0 < ea k n ∧ 1 ≤ n ∧ n ≤ 366 ∧ -10000000 < k ∧ k ≤ 100000000 := by
  have h' : -10000000 < k ∧ k ≤ 100000000 := by simpa [okR] using h
  have h2' : 1 ≤ n ∧ n ≤ 366 := by simpa [okT] using h2
  exact ⟨Bd.quo (by omega) (by omega) (by omega), quo_pos (by omega) (by omega), h2'.1, h2'.2, h'.1, h'.2⟩
theorem Effective_any (k n : Int) (w : World) (G : Gw w) : Calls Tryz.prog 12 #[.int .i64 k, .int .i64 n] w fun e w' => e = .returned (gA (okR k && okT n) (gp (ea k n) n + ((-1 : Int) : Rat))) ∧ Below w.heap.size w w' := by
  cases h : (okR k && okT n)
  · exact Effective_no k n w h
  · obtain ⟨h1, h2⟩ := Bool.and_eq_true_iff.1 h
    obtain ⟨b, p, y1, y2, y3, y4⟩ := ea_bd h1 h2
    have bb := Bd.gp b (pos_ne p) n (M := 366) (by omega)
    have b1 : Bd ((-1 : Int) : Rat) 1 := Bd.int (by decide) (by decide)
    exact Effective_yes k n (n * 10000000) (n * 10000000 + k) _ _ _ _ _ _ 0 w (Wt.wrapI _ (by omega) (by omega)) (Wt.wrapI _ (by omega) (by omega)) (fun x => quotient_p _ _ x (by omega) (by omega) (by omega) (by omega)) (fun x v h => Power_p v _ n 32 x h p b (by decide) (by omega) (by omega))
      (fun x => fa_of (OfInt_p (-1) x (by decide) (by decide))) (fun x v1 v2 q1 q2 => fa_of (Plus_p v1 v2 _ _ 184 1 x q1 q2 (Bd.ps bb (by decide)) (Bd.ps b1 (by decide)) (by unfold MulOK; omega) (by decide))) (fun x v b' h => Ratio_s v _ _ x h (bb.add b1) (by decide) (G.grow b')) h1 h2
end Go.Proofs.YtiaeoknmgidehaaGreatDoor.Mo

namespace Go.Proofs.YtiaeoknmgidehaaGreatDoor.Mo
open Go.RowKit Fu Go.Lib Ip

theorem one_lt30 {K : Nat} (h : 1 ≤ K) : 1 < Tl.pw K := by
  rw [pw_30]
  have := Nat.pow_le_pow_right (show 0 < 2 by decide) (show 1 ≤ 30 * K by omega)
  omega
theorem Bd.frac {p q : Int} {m : Nat} (h : p.natAbs < 2 ^ m) (h2 : q.natAbs < 2 ^ m) (hq : 0 < q) : Bd ((p : Rat) / (q : Rat)) m := by
  rw [Rat.div_def]; exact Bd.quo h h2 hq
theorem pow_ps {x : Int} (h : 0 < x) : ∀ n : Nat, 0 < x ^ n
  | 0 => by simp
  | n + 1 => by rw [Int.pow_succ]; exact Int.mul_pos (pow_ps h n) h
theorem RRate_q (k : Int) (w : World) (h0 : -9223372036854775808 ≤ k) (h1 : k < 9223372036854775808) : Calls Tryz.prog 39 #[.int .i64 k] w (Qf ((k : Rat) / ((10000000 : Int) : Rat)) w) :=
  Rate_r k _ w (fun x => qf_of (L.Frac_q k 10000000 x h0 h1 (by decide) (by decide)))
theorem gr_ref (k : Int) : ((1 : Int) : Rat) + (k : Rat) / ((10000000 : Int) : Rat) = gr k := by
  unfold gr
  rw [Rat.div_def, Rat.intCast_add]
  have : ((10000000 : Int) : Rat) * ((10000000 : Int) : Rat)⁻¹ = 1 := by decide +kernel
  have : ((1 : Int) : Rat) = 1 := rfl
  grind
theorem One_q (k : Int) (w : World) (h : okR k = true) : Calls Tryz.prog 63 #[.int .i64 k] w (Qf (gr k) w) := by
  have h' : -10000000 < k ∧ k ≤ 100000000 := by simpa [okR] using h
  have b1 : Bd ((1 : Int) : Rat) 1 := Bd.int (by decide) (by decide)
  have b2 : Bd ((k : Rat) / ((10000000 : Int) : Rat)) 27 := Bd.frac (by omega) (by decide) (by decide)
  rw [← gr_ref]
  exact One_r k _ _ _ w (fun x => qf_of (L.Of_q 1 x (by decide) (by decide))) (fun x => RRate_q k x (by omega) (by omega)) (fun x v1 v2 q1 q2 => qf_of (L.QAdd_any v1 v2 _ _ 1 x q1 q2 (Bd.qs b1 (by decide)) (Bd.qs b2 (by decide)) (by decide)))
theorem Worth_q (k n : Int) (w : World) (h : okR k = true) (n0 : -400 ≤ n) (n1 : n ≤ 400) : Calls Tryz.prog 33 #[.int .i64 k, .int .i64 n] w (Qf (gp (gr k) n) w) := by
  obtain ⟨b, p⟩ := gr_bd h
  by_cases c : n ≥ 0
  · obtain ⟨m, rfl⟩ : ∃ m : Nat, n = m := ⟨n.toNat, by omega⟩
    rw [gp_up]
    exact Worth_up k m _ _ w c (fun x => One_q k x h) (fun x v q => QPow_q v _ m 400 x q (num_neg p) (by omega) (Bd.qs (b.pow m) (by omega)) (by decide) (one_lt30 (by decide)))
  · obtain ⟨m, hm⟩ : ∃ m : Nat, -n = (m : Int) := ⟨(-n).toNat, by omega⟩
    rw [gp_down _ (by omega) hm, inv_pow, ← Rat.one_mul ((gr k) ^ m)⁻¹, ← Rat.div_def]
    have b1 : Bd ((1 : Int) : Rat) 1 := Bd.int (by decide) (by decide)
    have z : (gr k) ^ m ≠ 0 := fun e => by
      have := congrArg Rat.num e
      rw [Rat.num_pow] at this
      have q : 0 < (gr k).num := by
        have := of_decide_eq_false (num_neg p)
        have : (gr k).num ≠ 0 := fun e => pos_ne p (Rat.num_eq_zero.1 e)
        omega
      have q2 := pow_ps q m
      rw [this] at q2
      exact absurd q2 (by decide)
    exact Worth_down k n m _ _ _ _ w c (by rw [hm]; exact Wt.wrapI _ (by omega) (by omega)) (fun x => qf_of (L.Of_q 1 x (by decide) (by decide))) (fun x => One_q k x h) (fun x v q => QPow_q v _ m 400 x q (num_neg p) (by omega) (Bd.qs (b.pow m) (by omega)) (by decide) (one_lt30 (by decide)))
      (fun x v1 v2 q1 q2 => qf_of (L.QDiv_any v1 v2 _ _ 400 x q1 q2 (Bd.qs b1 (by decide)) (Bd.qs (b.pow m) (by omega)) (by decide) z))
theorem Out_s (v : Value) (r : Rat) (B : Nat) (w : World) (h : L.IsQ w v r) (hB : Bd r B) (h13 : B ≤ 13606) :
    Calls Tryz.prog 34 #[v] w fun e w' => e = .returned (.tuple #[wrt r, .int .i64 0]) ∧ Below w.heap.size w w' :=
  L.Out_q v r 1000 w h (Bd.qs hB (by omega)) (by decide) (dig_short hB.1 h13) (dig_short hB.2 h13)
theorem RGrown_any (k n : Int) (w : World) : Calls Tryz.prog 9 #[.int .i64 k, .int .i64 n] w fun e w' => e = .returned (gA (okR k && okY n) (gp (gr k) n)) ∧ Below w.heap.size w w' := by
  cases h : (okR k && okY n)
  · exact RGrown_no k n w h
  · obtain ⟨h1, h2⟩ := Bool.and_eq_true_iff.1 h
    obtain ⟨b, p⟩ := gr_bd h1
    have y := okY_iff h2
    have bb := Bd.gp b (pos_ne p) n (M := 130) (by omega)
    exact RGrown_yes k n _ _ _ 0 w (fun x => Worth_q k n x h1 (by omega) (by omega)) (fun x v h => Out_s v _ _ x h bb (by decide)) h1 h2
theorem RDiscounted_any (k n : Int) (w : World) : Calls Tryz.prog 11 #[.int .i64 k, .int .i64 n] w fun e w' => e = .returned (gA (okR k && okY n) (gp (gr k) (-n))) ∧ Below w.heap.size w w' := by
  cases h : (okR k && okY n)
  · exact RDiscounted_no k n w h
  · obtain ⟨h1, h2⟩ := Bool.and_eq_true_iff.1 h
    obtain ⟨b, p⟩ := gr_bd h1
    have y := okY_iff h2
    have bb := Bd.gp b (pos_ne p) (-n) (M := 130) (by omega)
    exact RDiscounted_yes k n (-n) _ _ _ 0 w (Wt.wrapI _ (by omega) (by omega)) (fun x => Worth_q k (-n) x h1 (by omega) (by omega)) (fun x v h => Out_s v _ _ x h bb (by decide)) h1 h2
theorem ea_ref (k : Int) (n : Int) (hn : 1 ≤ n) : ((1 : Int) : Rat) + (k : Rat) / ((10000000 : Int) : Rat) / (n : Rat) = ea k n := by
  unfold ea
  rw [Rat.div_def, Rat.div_def, Rat.intCast_add, Rat.intCast_mul, Rat.inv_mul_rev]
  have z : (n : Rat) ≠ 0 := by simpa using show n ≠ 0 by omega
  have h1 := Rat.mul_inv_cancel _ z
  have h2 : ((10000000 : Int) : Rat) * ((10000000 : Int) : Rat)⁻¹ = 1 := by decide +kernel
  have h3 : ((1 : Int) : Rat) = 1 := rfl
  grind
theorem REffective_any (k n : Int) (w : World) : Calls Tryz.prog 13 #[.int .i64 k, .int .i64 n] w fun e w' => e = .returned (gA (okR k && okT n) (gp (ea k n) n + ((-1 : Int) : Rat))) ∧ Below w.heap.size w w' := by
  cases h : (okR k && okT n)
  · exact REffective_no k n w h
  · obtain ⟨h1, h2⟩ := Bool.and_eq_true_iff.1 h
    obtain ⟨b, p, y1, y2, y3, y4⟩ := ea_bd h1 h2
    have b1 : Bd ((1 : Int) : Rat) 1 := Bd.int (by decide) (by decide)
    have bm : Bd ((-1 : Int) : Rat) 1 := Bd.int (by decide) (by decide)
    have bk : Bd ((k : Rat) / ((10000000 : Int) : Rat)) 27 := Bd.frac (by omega) (by decide) (by decide)
    have bn : Bd (n : Rat) 9 := Bd.int (by omega) (by decide)
    have z : (n : Rat) ≠ 0 := by simpa using show n ≠ 0 by omega
    have bd : Bd ((k : Rat) / ((10000000 : Int) : Rat) / (n : Rat)) 36 := by rw [Rat.div_def _ (n : Rat)]; exact bk.mul (bn.inv z)
    obtain ⟨m, rfl⟩ : ∃ m : Nat, n = m := ⟨n.toNat, by omega⟩
    have bb := (b.pow m).mono (show 32 * m + 1 ≤ 11713 by omega)
    have er := ea_ref k m y1
    rw [gp_up, show (ea k m) ^ m + ((-1 : Int) : Rat) = (ea k m) ^ m - ((1 : Int) : Rat) by rw [Rat.sub_eq_add_neg]; rfl]
    refine REffective_yes k m _ _ _ _ _ _ _ _ _ 0 w (fun x => RRate_q k x (by omega) (by omega)) (fun x => qf_of (L.Of_q m x (by omega) (by omega))) (fun x v1 v2 q1 q2 => qf_of (L.QDiv_any v1 v2 _ _ 2 x q1 q2 (Bd.qs bk (by decide)) (Bd.qs bn (by decide)) (by decide) z))
      (fun x => qf_of (L.Of_q 1 x (by decide) (by decide))) (fun x v1 v2 q1 q2 => ?_) (fun x v q => QPow_q v _ m 400 x q (num_neg p) (by omega) (Bd.qs bb (by decide)) (by decide) (one_lt30 (by decide))) (fun x v1 v2 q1 q2 => QSub_q v1 v2 _ _ 400 x q1 q2 (Bd.qs bb (by decide)) (Bd.qs b1 (by decide)) (by decide))
      (fun x v h => Out_s v _ (11713 + 1 + 1) x h (by rw [Rat.sub_eq_add_neg]; exact bb.add bm) (by decide)) h1 (by omega) (by omega)
    have := qf_of (L.QAdd_any v1 v2 _ _ 2 x q1 q2 (Bd.qs b1 (by decide)) (Bd.qs bd (by decide)) (by decide))
    rw [er] at this
    exact this
end Go.Proofs.YtiaeoknmgidehaaGreatDoor.Mo

namespace Go.Proofs.YtiaeoknmgidehaaGreatDoor.Mo
open Go.RowKit Fu Tn Go.Lib Ip

set_option maxRecDepth 100000 in
set_option maxHeartbeats 3200000 in
theorem writeTwo_r (g1 g2 : Bool) (a1 a1' a2 a2' : Option Addr) (l1 c1 l1' c1' l2 c2 l2' c2' : Nat) (sa ta sb tb : ByteArray) (w : World) (C1 : ∀ x, Below w.heap.size w x → Calls Tryz.prog 30 #[.agg #[.bool g1, .slice a1 l1 c1, .slice a1' l1' c1']] x fun e w' => e = .returned (.tuple #[.agg #[.string sa, .string ta], .int .i64 0]) ∧ Below x.heap.size x w') (C2 : ∀ x, Below w.heap.size w x → Calls Tryz.prog 30 #[.agg #[.bool g2, .slice a2 l2 c2, .slice a2' l2' c2']] x fun e w' => e = .returned (.tuple #[.agg #[.string sb, .string tb], .int .i64 0]) ∧ Below x.heap.size x w') :
    Calls Tryz.prog 50 #[.agg #[.bool g1, .slice a1 l1 c1, .slice a1' l1' c1'], .agg #[.bool g2, .slice a2 l2 c2, .slice a2' l2' c2']] w fun e w' => e = .returned (.tuple #[.agg #[.string sa, .string ta], .agg #[.string sb, .string tb], .int .i64 0]) ∧ Below w.heap.size w w' := by
  have K1 := (((Rb.new w (.bool g1) (.slice a1 l1 c1) (.slice a1' l1' c1') 59).alloc (.cells #[.bool g2, .slice a2 l2 c2, .slice a2' l2' c2'] 59)).alloc (.cells #[.string ⟨#[]⟩, .string ⟨#[]⟩] 26)).alloc (.cells #[.string ⟨#[]⟩, .string ⟨#[]⟩] 26)
  have K2 := ((Rb.new (w.alloc (.cells #[.bool g1, .slice a1 l1 c1, .slice a1' l1' c1'] 59)) (.bool g2) (.slice a2 l2 c2) (.slice a2' l2' c2') 59).alloc (.cells #[.string ⟨#[]⟩, .string ⟨#[]⟩] 26)).alloc (.cells #[.string ⟨#[]⟩, .string ⟨#[]⟩] 26)
  have KA := (Blk.new ((w.alloc (.cells #[.bool g1, .slice a1 l1 c1, .slice a1' l1' c1'] 59)).alloc (.cells #[.bool g2, .slice a2 l2 c2, .slice a2' l2' c2'] 59)) #[.string ⟨#[]⟩, .string ⟨#[]⟩] 26).alloc (.cells #[.string ⟨#[]⟩, .string ⟨#[]⟩] 26)
  have KB := Blk.new (((w.alloc (.cells #[.bool g1, .slice a1 l1 c1, .slice a1' l1' c1'] 59)).alloc (.cells #[.bool g2, .slice a2 l2 c2, .slice a2' l2' c2'] 59)).alloc (.cells #[.string ⟨#[]⟩, .string ⟨#[]⟩] 26)) #[.string ⟨#[]⟩, .string ⟨#[]⟩] 26
  have pr : Below w.heap.size w ((((w.alloc (.cells #[.bool g1, .slice a1 l1 c1, .slice a1' l1' c1'] 59)).alloc (.cells #[.bool g2, .slice a2 l2 c2, .slice a2' l2' c2'] 59)).alloc (.cells #[.string ⟨#[]⟩, .string ⟨#[]⟩] 26)).alloc (.cells #[.string ⟨#[]⟩, .string ⟨#[]⟩] 26)) := ((((Below.refl _ _).alloc (Nat.le_refl _) _).alloc (by simp) _).alloc (by simp; omega) _).alloc (by simp; omega) _
  simp only [World.size_alloc] at K2 KA KB
  have sz0 : w.heap.size + 1 + 1 + 1 + 1 = ((((w.alloc (.cells #[.bool g1, .slice a1 l1 c1, .slice a1' l1' c1'] 59)).alloc (.cells #[.bool g2, .slice a2 l2 c2, .slice a2' l2' c2'] 59)).alloc (.cells #[.string ⟨#[]⟩, .string ⟨#[]⟩] 26)).alloc (.cells #[.string ⟨#[]⟩, .string ⟨#[]⟩] 26)).heap.size := by simp
  have k0 := K1.c0
  have k1 := K1.c1
  have k2 := K1.c2
  go_enter Tryz.func50, Tryz.ntmps50
  go_wp2_with (first
    | (go_at_call 30; (have z := p1); (refine (C2 _ p1).mono ?_); (rintro e w2 ⟨rfl, b2⟩); (have q2 := b2.alloc b2.size (.cells #[.string sb, .string tb] 26)); (have V2 := Blk.new w2 #[.string sb, .string tb] 26); (have p2 := bel' p1 q2))
    | (go_at_call 30; (refine (C1 _ pr).mono ?_); (rintro e w1 ⟨rfl, b1⟩); (have q1 := b1.alloc b1.size (.cells #[.string sa, .string ta] 26)); (have V1 := Blk.new w1 #[.string sa, .string ta] 26); (have p1 := bel' pr q1); (have j0 := (K2.grow q1).c0); (have j1 := (K2.grow q1).c1); (have j2 := (K2.grow q1).c2))
    | fail)
  replace V1 := V1.below q2 V1.lt
  replace KA := (KA.below q1 KA.lt).below q2 (KA.below q1 KA.lt).lt
  replace KB := (KB.below q1 KB.lt).below q2 (KB.below q1 KB.lt).lt
  have s1' := b1.size
  have s2' := b2.size
  simp at s1' s2'
  clear K1 K2 k0 k1 k2 j0 j1 j2 pr p1 q1 q2 b1 b2 C1 C2 sz0
  obtain ⟨F1, hF1⟩ : ∃ F, w1.heap.size = F := ⟨_, rfl⟩
  obtain ⟨F2, hF2⟩ : ∃ F, w2.heap.size = F := ⟨_, rfl⟩
  obtain ⟨R1, hR1⟩ : ∃ F, w.heap.size + 1 + 1 = F := ⟨_, rfl⟩
  obtain ⟨R2, hR2⟩ : ∃ F, R1 + 1 = F := ⟨_, rfl⟩
  rw [hF1] at V1 s1' s2' ⊢
  rw [hF2] at V2 s2' ⊢
  rw [hR1] at KA KB ⊢
  rw [hR2] at KB ⊢
  have lr1 : w.heap.size ≤ R1 := by omega
  have lr2 : w.heap.size ≤ R2 := by omega
  have nr : R1 ≠ R2 := by omega
  have nr' : R2 ≠ R1 := by omega
  have o1 : F1 ≠ R1 := by omega
  have o2 : F2 ≠ R1 := by omega
  have o3 : F1 ≠ R2 := by omega
  have o4 : F2 ≠ R2 := by omega
  have o5 := o1.symm
  have o6 := o2.symm
  have o7 := o3.symm
  have o8 := o4.symm
  clear s1' s2' hF1 hR1 hR2
  generalize w2.alloc (.cells #[.string sb, .string tb] 26) = W at *
  clear hF2
  have v0 := V1.at 0
  have v1 := V1.at 1
  have v2 := V2.at 0
  have v3 := V2.at 1
  simp at v0 v1 v2 v3
  have r0 := KA.at 0
  have r1 := KA.at 1
  have r2 := KA.free 0
  have r3 := KA.free 1
  simp at r0 r1
  have u0 := KB.at 0
  have u1 := KB.at 1
  have u2 := KB.free 0
  have u3 := KB.free 1
  simp at u0 u1
  have KA1 := bput (bput KA 0 (.string sa)) 1 (.string ta)
  have KB1 := (KB.wr (((Wr.refl R1 0 2 W).setCell 0 (by omega) (.string sa)).setCell 1 (by omega) (.string ta)) (Ne.symm nr))
  have g0 := KB1.at 0
  have g1 := KB1.at 1
  have g2 := KB1.free 0
  have g3 := KB1.free 1
  simp at g0 g1
  have KB2 := bput (bput KB1 0 (.string sb)) 1 (.string tb)
  have KA2 := (KA1.wr (((Wr.refl R2 0 2 _).setCell 0 (by omega) (.string sb)).setCell 1 (by omega) (.string tb)) nr)
  have z0 := KA2.at 0
  have z1 := KA2.at 1
  have z2 := KB2.at 0
  have z3 := KB2.at 1
  simp at z0 z1 z2 z3
  have pE := ((p2.setCell (p := ⟨R1, 0, none⟩) lr1 (.string sa)).setCell (p := ⟨R1, 1, none⟩) lr1 (.string ta)).setCell (p := ⟨R2, 0, none⟩) lr2 (.string sb) |>.setCell (p := ⟨R2, 1, none⟩) lr2 (.string tb)
  go_region_held3 (fun x => x.cell? ⟨F1, 0, none⟩ = some (.string sa) ∧ x.cell? ⟨F1, 1, none⟩ = some (.string ta) ∧ x.cell? ⟨F2, 0, none⟩ = some (.string sb) ∧ x.cell? ⟨F2, 1, none⟩ = some (.string tb)) (go_keep) (fail)
  go_wp2_with fail
  exact bodyPost_ret (v := .tuple #[.agg #[.string sa, .string ta], .agg #[.string sb, .string tb], .int .i64 0]) (by simp [results, Tryz.results50, go_sem, z0, z1, z2, z3]) rfl ⟨rfl, pE.drew⟩
set_option maxRecDepth 100000 in
set_option maxHeartbeats 3200000 in
theorem Immune_yes (k p q m S : Int) (rg r2 r3 r4 r5 r6 r7 : Rat) (sa ta sb tb : ByteArray) (w : World) (hm : IntKind.i64.wrap (-p) = m) (hb : IntKind.i64.wrap (p + q) = S) (GR : ∀ x, Calls Tryz.prog 28 #[.int .i64 k] x (Fa rg x)) (P1 : ∀ x v, PF x v rg → Calls Tryz.prog 29 #[v, .int .i64 m] x (Fa r2 x)) (Q1 : ∀ x, Calls Tryz.prog 36 #[.int .i64 q, .int .i64 S] x (Fa r3 x)) (T1 : ∀ x v1 v2, PF x v1 r2 → PF x v2 r3 → Calls Tryz.prog 51 #[v1, v2] x (Fa r4 x)) (P2 : ∀ x v, PF x v rg → Calls Tryz.prog 29 #[v, .int .i64 q] x (Fa r5 x)) (Q2 : ∀ x, Calls Tryz.prog 36 #[.int .i64 p, .int .i64 S] x (Fa r6 x)) (T2 : ∀ x v1 v2, PF x v1 r5 → PF x v2 r6 → Calls Tryz.prog 51 #[v1, v2] x (Fa r7 x)) (WT : ∀ x v1 v2, Below w.heap.size w x → PF x v1 r4 → PF x v2 r7 → Calls Tryz.prog 50 #[v1, v2] x fun e w' => e = .returned (.tuple #[.agg #[.string sa, .string ta], .agg #[.string sb, .string tb], .int .i64 0]) ∧ Below x.heap.size x w') (I1 : okR k = true) (I2 : okY p = true) (I3 : okY q = true) (z1 : (p == 0) = false) (z2 : (q == 0) = false) :
    Calls Tryz.prog 18 #[.int .i64 k, .int .i64 p, .int .i64 q] w fun e w' => e = .returned (.tuple #[.agg #[.string sa, .string ta], .agg #[.string sb, .string tb], .int .i64 0]) ∧ Below w.heap.size w w' := by
  have KA := (Blk.new w #[.string ⟨#[]⟩, .string ⟨#[]⟩] 26).alloc (.cells #[.string ⟨#[]⟩, .string ⟨#[]⟩] 26)
  have KB := Blk.new (w.alloc (.cells #[.string ⟨#[]⟩, .string ⟨#[]⟩] 26)) #[.string ⟨#[]⟩, .string ⟨#[]⟩] 26
  have pr : Below w.heap.size w ((w.alloc (.cells #[.string ⟨#[]⟩, .string ⟨#[]⟩] 26)).alloc (.cells #[.string ⟨#[]⟩, .string ⟨#[]⟩] 26)) := ((Below.refl _ _).alloc (Nat.le_refl _) _).alloc (by simp) _
  simp only [World.size_alloc] at KB
  have A1 := fun x => isRate_any k x
  have A2 := fun x => isYears_any p x
  have A3 := fun x => isYears_any q x
  simp only [I1, I2, I3] at A1 A2 A3
  go_enter Tryz.func18, Tryz.ntmps18
  go_wp2_with (first
    | (go_at_call 28; (refine (GR _).mono ?_); (rintro e w1 ⟨g1, a1, l1, c1, a1', l1', c1', rfl, t1', b1⟩); (have al := (Below.refl w1.heap.size w1).alloc (Nat.le_refl _) (.cells #[.bool g1, .slice a1 l1 c1, .slice a1' l1' c1'] 59)); (have K := Rb.new w1 (.bool g1) (.slice a1 l1 c1) (.slice a1' l1' c1') 59); (have bb := bel' b1 al); (have pX := bel' pr bb); (have tv := t1'.grow al))
    | (go_at_call 26; (refine (A1 _).mono ?_); (rintro e w9 ⟨rfl, hw9⟩); (subst w9))
    | (go_at_call 27; (with_reducible refine (A2 _).mono ?_); (rintro e w9 ⟨rfl, hw9⟩); (subst w9))
    | (go_at_call 27; (with_reducible refine (A3 _).mono ?_); (rintro e w9 ⟨rfl, hw9⟩); (subst w9))
    | fail)
  replace KA := KA.below bb KA.lt
  replace KB := KB.below bb KB.lt
  have s1' := b1.size
  simp at s1'
  clear pr bb al b1 t1' GR
  obtain ⟨F, hF⟩ : ∃ F, w1.heap.size = F := ⟨_, rfl⟩
  obtain ⟨R2, hR2⟩ : ∃ F, w.heap.size + 1 = F := ⟨_, rfl⟩
  rw [hF] at K s1' ⊢
  rw [hR2] at KB ⊢
  have lr1 : w.heap.size ≤ w.heap.size := Nat.le_refl _
  have lr2 : w.heap.size ≤ R2 := by omega
  have nr : w.heap.size ≠ R2 := by omega
  have nr' : R2 ≠ w.heap.size := by omega
  have o1 : F ≠ w.heap.size := by omega
  have o2 : F ≠ R2 := by omega
  have o3 := o1.symm
  have o4 := o2.symm
  clear s1' hR2
  generalize w1.alloc (.cells #[.bool g1, .slice a1 l1 c1, .slice a1' l1' c1'] 59) = W at *
  clear hF
  have k0 := K.c0
  have k1 := K.c1
  have k2 := K.c2
  go_region_held3 (fun x => x.cell? ⟨F, 0, none⟩ = some (.bool g1) ∧ x.cell? ⟨F, 1, none⟩ = some (.slice a1 l1 c1) ∧ x.cell? ⟨F, 2, none⟩ = some (.slice a1' l1' c1')) (go_keep) (first
    | (go_at_call 50; (have z8 := d7); (refine (WT _ _ _ (bel' pX d7) (((t4.grow b5).grow b6).grow b7) t7).mono ?_); (rintro e w8 ⟨rfl, b8⟩); (have d8 := Mo.bel' d7 b8); (have x8_0 := (K.grow d8).c0); (have x8_1 := (K.grow d8).c1); (have x8_2 := (K.grow d8).c2); (have KA2 := KA.below d8 KA.lt); (have KB2 := KB.below d8 KB.lt); (have q0 := KA2.at 0); (have q1 := KA2.at 1); (have qf0 := KA2.free 0); (have qf1 := KA2.free 1); (simp at q0 q1); (have KB3 := KB2.wr (((Wr.refl w.heap.size 0 2 _).setCell 0 (by omega) (.string sa)).setCell 1 (by omega) (.string ta)) (Ne.symm nr)); (have u0 := KB3.at 0); (have u1 := KB3.at 1); (have uf0 := KB3.free 0); (have uf1 := KB3.free 1); (simp at u0 u1); (have y0 := KB2.at 0); (have y1 := KB2.at 1); (have yf0 := KB2.free 0); (have yf1 := KB2.free 1); (simp at y0 y1))
    | (go_at_call 51; (have z7 := d6); (refine (T2 _ _ _ (t5.grow b6) t6).mono ?_); (rintro e w7 ⟨g7, a7, l7, c7, a7', l7', c7', rfl, t7, b7⟩); (have d7 := Mo.bel' d6 b7); (have x7_0 := (K.grow d7).c0); (have x7_1 := (K.grow d7).c1); (have x7_2 := (K.grow d7).c2))
    | (go_at_call 36; (have z6 := d5); (refine (Q2 _).mono ?_); (rintro e w6 ⟨g6, a6, l6, c6, a6', l6', c6', rfl, t6, b6⟩); (have d6 := Mo.bel' d5 b6); (have x6_0 := (K.grow d6).c0); (have x6_1 := (K.grow d6).c1); (have x6_2 := (K.grow d6).c2))
    | (go_at_call 29; (have z5 := d4); (refine (P2 _ _ (tv.grow d4)).mono ?_); (rintro e w5 ⟨g5, a5, l5, c5, a5', l5', c5', rfl, t5, b5⟩); (have d5 := Mo.bel' d4 b5); (have x5_0 := (K.grow d5).c0); (have x5_1 := (K.grow d5).c1); (have x5_2 := (K.grow d5).c2))
    | (go_at_call 51; (have z4 := d3); (refine (T1 _ _ _ (t2.grow b3) t3).mono ?_); (rintro e w4 ⟨g4, a4, l4, c4, a4', l4', c4', rfl, t4, b4⟩); (have d4 := Mo.bel' d3 b4); (have x4_0 := (K.grow d4).c0); (have x4_1 := (K.grow d4).c1); (have x4_2 := (K.grow d4).c2))
    | (go_at_call 36; (have z3 := d2); (refine (Q1 _).mono ?_); (rintro e w3 ⟨g3, a3, l3, c3, a3', l3', c3', rfl, t3, b3⟩); (have d3 := Mo.bel' d2 b3); (have x3_0 := (K.grow d3).c0); (have x3_1 := (K.grow d3).c1); (have x3_2 := (K.grow d3).c2))
    | (go_at_call 29; (refine (P1 _ _ (tv.grow ((Below.refl _ _).drew))).mono ?_); (rintro e w2 ⟨g2, a2, l2, c2, a2', l2', c2', rfl, t2, b2⟩); (have d2 := Mo.undrew b2); (have x2_0 := (K.grow d2).c0); (have x2_1 := (K.grow d2).c1); (have x2_2 := (K.grow d2).c2))
    | fail)
  have KA3 := (bput (bput KA2 0 (.string sa)) 1 (.string ta)).wr (((Wr.refl R2 0 2 _).setCell 0 (by omega) (.string sb)).setCell 1 (by omega) (.string tb)) nr
  have KB4 := bput (bput KB3 0 (.string sb)) 1 (.string tb)
  have z0 := KA3.at 0
  have z1 := KA3.at 1
  have z2 := KB4.at 0
  have z3 := KB4.at 1
  simp at z0 z1 z2 z3
  have pE := (((bel' pX d8).setCell (p := ⟨w.heap.size, 0, none⟩) lr1 (.string sa)).setCell (p := ⟨w.heap.size, 1, none⟩) lr1 (.string ta)).setCell (p := ⟨R2, 0, none⟩) lr2 (.string sb) |>.setCell (p := ⟨R2, 1, none⟩) lr2 (.string tb)
  go_wp2_with fail
  exact bodyPost_ret (v := .tuple #[.agg #[.string sa, .string ta], .agg #[.string sb, .string tb], .int .i64 0]) (by simp [results, Tryz.results18, go_sem, z0, z1, z2, z3]) rfl ⟨rfl, pE⟩
/-- May it be asked? -/
def okI (k p q : Int) : Bool := okR k && okY p && okY q && !(p == 0) && !(q == 0)
set_option maxRecDepth 100000 in
set_option maxHeartbeats 3200000 in
theorem Immune_no (k p q : Int) (w : World) (h : okI k p q = false) : Calls Tryz.prog 18 #[.int .i64 k, .int .i64 p, .int .i64 q] w fun e w' => e = .returned (.tuple #[.agg #[.string ⟨#[]⟩, .string ⟨#[]⟩], .agg #[.string ⟨#[]⟩, .string ⟨#[]⟩], .int .i64 1]) ∧ Below w.heap.size w w' := by
  have pr : Below w.heap.size w ((w.alloc (.cells #[.string ⟨#[]⟩, .string ⟨#[]⟩] 26)).alloc (.cells #[.string ⟨#[]⟩, .string ⟨#[]⟩] 26)) := ((Below.refl _ _).alloc (Nat.le_refl _) _).alloc (by simp) _
  have A1 := fun x => isRate_any k x
  have A2 := fun x => isYears_any p x
  have A3 := fun x => isYears_any q x
  unfold okI at h
  obtain ⟨u1, e1⟩ : ∃ u, okR k = u := ⟨_, rfl⟩
  obtain ⟨u2, e2⟩ : ∃ u, okY p = u := ⟨_, rfl⟩
  obtain ⟨u3, e3⟩ : ∃ u, okY q = u := ⟨_, rfl⟩
  obtain ⟨u4, e4⟩ : ∃ u, (p == 0) = u := ⟨_, rfl⟩
  obtain ⟨u5, e5⟩ : ∃ u, (q == 0) = u := ⟨_, rfl⟩
  simp only [e1, e2, e3] at A1 A2 A3 h
  rw [e4, e5] at h
  clear e1 e2 e3
  rcases (show u1 = false ∨ (u1 = true ∧ u2 = false) ∨ (u1 = true ∧ u2 = true ∧ u4 = true) ∨ (u1 = true ∧ u2 = true ∧ u4 = false ∧ u3 = false) ∨ (u1 = true ∧ u2 = true ∧ u4 = false ∧ u3 = true ∧ u5 = true) by revert h; cases u1 <;> cases u2 <;> cases u3 <;> cases u4 <;> cases u5 <;> simp) with rfl | ⟨rfl, rfl⟩ | ⟨rfl, rfl, rfl⟩ | ⟨rfl, rfl, rfl, rfl⟩ | ⟨rfl, rfl, rfl, rfl, rfl⟩
  all_goals
    clear h
    go_enter Tryz.func18, Tryz.ntmps18
    go_wp2_with (first
      | (go_at_call 26; (refine (A1 _).mono ?_); (rintro e w9 ⟨rfl, hw9⟩); (subst w9))
      | (go_at_call 27; (with_reducible refine (A2 _).mono ?_); (rintro e w9 ⟨rfl, hw9⟩); (subst w9))
      | (go_at_call 27; (with_reducible refine (A3 _).mono ?_); (rintro e w9 ⟨rfl, hw9⟩); (subst w9))
      | fail)
    exact bodyPost_ret (v := .tuple #[.agg #[.string ⟨#[]⟩, .string ⟨#[]⟩], .agg #[.string ⟨#[]⟩, .string ⟨#[]⟩], .int .i64 1]) (by simp [results, Tryz.results18, go_sem]) rfl ⟨rfl, pr⟩
end Go.Proofs.YtiaeoknmgidehaaGreatDoor.Mo

namespace Go.Proofs.YtiaeoknmgidehaaGreatDoor.Mo
open Go.RowKit Fu Go.Lib Ip

set_option maxRecDepth 100000 in
set_option maxHeartbeats 3200000 in
theorem RImmune_yes (k p q m S : Int) (r1 r2 r3 r5 r6 r7 : Rat) (sa ta sb tb : ByteArray) (w : World) (hm : IntKind.i64.wrap (-p) = m) (hb : IntKind.i64.wrap (p + q) = S) (W1 : ∀ x, Calls Tryz.prog 33 #[.int .i64 k, .int .i64 m] x (Qf r1 x)) (F1 : ∀ x, Calls Tryz.prog 53 #[.int .i64 q, .int .i64 S] x (Qf r2 x)) (M1 : ∀ x v1 v2, L.IsQ x v1 r1 → L.IsQ x v2 r2 → Calls Tryz.prog 52 #[v1, v2] x (Qf r3 x)) (U1 : ∀ x v, L.IsQ x v r3 → Calls Tryz.prog 34 #[v] x fun e w' => e = .returned (.tuple #[.agg #[.string sa, .string ta], .int .i64 0]) ∧ Below x.heap.size x w') (W2 : ∀ x, Calls Tryz.prog 33 #[.int .i64 k, .int .i64 q] x (Qf r5 x)) (F2 : ∀ x, Calls Tryz.prog 53 #[.int .i64 p, .int .i64 S] x (Qf r6 x)) (M2 : ∀ x v1 v2, L.IsQ x v1 r5 → L.IsQ x v2 r6 → Calls Tryz.prog 52 #[v1, v2] x (Qf r7 x)) (U2 : ∀ x v, L.IsQ x v r7 → Calls Tryz.prog 34 #[v] x fun e w' => e = .returned (.tuple #[.agg #[.string sb, .string tb], .int .i64 0]) ∧ Below x.heap.size x w') (I1 : okR k = true) (I2 : okY p = true) (I3 : okY q = true) (z1 : ¬ p < 1) (z2 : ¬ q < 1) :
    Calls Tryz.prog 19 #[.int .i64 k, .int .i64 p, .int .i64 q] w fun e w' => e = .returned (.tuple #[.agg #[.string sa, .string ta], .agg #[.string sb, .string tb], .int .i64 0]) ∧ Below w.heap.size w w' := by
  have KA := (Blk.new w #[.string ⟨#[]⟩, .string ⟨#[]⟩] 26).alloc (.cells #[.string ⟨#[]⟩, .string ⟨#[]⟩] 26)
  have KB := Blk.new (w.alloc (.cells #[.string ⟨#[]⟩, .string ⟨#[]⟩] 26)) #[.string ⟨#[]⟩, .string ⟨#[]⟩] 26
  have pr : Below w.heap.size w ((w.alloc (.cells #[.string ⟨#[]⟩, .string ⟨#[]⟩] 26)).alloc (.cells #[.string ⟨#[]⟩, .string ⟨#[]⟩] 26)) := ((Below.refl _ _).alloc (Nat.le_refl _) _).alloc (by simp) _
  simp only [World.size_alloc] at KB
  have A1 := fun x => IsRate_any k x
  have A2 := fun x => IsYears_any p x
  have A3 := fun x => IsYears_any q x
  simp only [I1, I2, I3] at A1 A2 A3
  go_enter Tryz.func19, Tryz.ntmps19
  go_wp2_with (first
    | (go_at_call 34; (have z := p7); (refine (U2 _ _ t7').mono ?_); (rintro e w8 ⟨rfl, b8⟩); (have q8 := b8.alloc b8.size (.cells #[.string sb, .string tb] 26)); (have V2 := Blk.new w8 #[.string sb, .string tb] 26); (have p8 := bel' p7 q8))
    | (go_at_call 52; (have z := p6); (refine (M2 _ _ _ (t5'.grow b6) t6').mono ?_); (rintro e w7 ⟨g7, a7, l7, c7, a7', l7', c7', rfl, t7', b7⟩); (have p7 := bel' p6 b7))
    | (go_at_call 53; (have z := p5); (refine (F2 _).mono ?_); (rintro e w6 ⟨g6, a6, l6, c6, a6', l6', c6', rfl, t6', b6⟩); (have p6 := bel' p5 b6))
    | (go_at_call 33; (have z := p4); (refine (W2 _).mono ?_); (rintro e w5 ⟨g5, a5, l5, c5, a5', l5', c5', rfl, t5', b5⟩); (have p5 := bel' p4 b5))
    | (go_at_call 34; (have z := p3); (refine (U1 _ _ t3').mono ?_); (rintro e w4 ⟨rfl, b4⟩); (have q4 := b4.alloc b4.size (.cells #[.string sa, .string ta] 26)); (have V1 := Blk.new w4 #[.string sa, .string ta] 26); (have p4 := bel' p3 q4))
    | (go_at_call 52; (have z := p2); (refine (M1 _ _ _ (t1'.grow b2) t2').mono ?_); (rintro e w3 ⟨g3, a3, l3, c3, a3', l3', c3', rfl, t3', b3⟩); (have p3 := bel' p2 b3))
    | (go_at_call 53; (have z := p1); (refine (F1 _).mono ?_); (rintro e w2 ⟨g2, a2, l2, c2, a2', l2', c2', rfl, t2', b2⟩); (have p2 := bel' p1 b2))
    | (go_at_call 33; (refine (W1 _).mono ?_); (rintro e w1 ⟨g1, a1, l1, c1, a1', l1', c1', rfl, t1', b1⟩); (have p1 := bel' pr b1))
    | (go_at_call 31; (refine (A1 _).mono ?_); (rintro e w9 ⟨rfl, hw9⟩); (subst w9))
    | (go_at_call 32; (with_reducible refine (A2 _).mono ?_); (rintro e w9 ⟨rfl, hw9⟩); (subst w9))
    | (go_at_call 32; (with_reducible refine (A3 _).mono ?_); (rintro e w9 ⟨rfl, hw9⟩); (subst w9))
    | fail)
  have bb := bel' (bel' (bel' b1 b2) b3) q4
  have bc := bel' (bel' (bel' b5 b6) b7) q8
  replace V1 := V1.below bc V1.lt
  replace KA := (KA.below bb KA.lt).below bc (KA.below bb KA.lt).lt
  replace KB := (KB.below bb KB.lt).below bc (KB.below bb KB.lt).lt
  have s1' := (bel' (bel' (bel' b1 b2) b3) b4).size
  have s2' := (bel' (bel' (bel' b5 b6) b7) b8).size
  simp at s1' s2'
  clear pr p1 p2 p3 p4 p5 p6 p7 q4 q8 bb bc b1 b2 b3 b4 b5 b6 b7 b8 W1 F1 M1 U1 W2 F2 M2 U2 t1' t2' t3' t5' t6' t7' A1 A2 A3
  obtain ⟨F1, hF1⟩ : ∃ F, w4.heap.size = F := ⟨_, rfl⟩
  obtain ⟨F2, hF2⟩ : ∃ F, w8.heap.size = F := ⟨_, rfl⟩
  obtain ⟨R2, hR2⟩ : ∃ F, w.heap.size + 1 = F := ⟨_, rfl⟩
  rw [hF1] at V1 s1' s2' ⊢
  rw [hF2] at V2 s2' ⊢
  rw [hR2] at KB ⊢
  have lr1 : w.heap.size ≤ w.heap.size := Nat.le_refl _
  have lr2 : w.heap.size ≤ R2 := by omega
  have nr : w.heap.size ≠ R2 := by omega
  have nr' : R2 ≠ w.heap.size := by omega
  have o1 : F1 ≠ w.heap.size := by omega
  have o2 : F2 ≠ w.heap.size := by omega
  have o3 : F1 ≠ R2 := by omega
  have o4 : F2 ≠ R2 := by omega
  have o5 := o1.symm
  have o6 := o2.symm
  have o7 := o3.symm
  have o8 := o4.symm
  clear s1' s2' hF1 hR2
  generalize w8.alloc (.cells #[.string sb, .string tb] 26) = W at *
  clear hF2
  have v0 := V1.at 0
  have v1 := V1.at 1
  have v2 := V2.at 0
  have v3 := V2.at 1
  simp at v0 v1 v2 v3
  have r0 := KA.at 0
  have r1 := KA.at 1
  have r2 := KA.free 0
  have r3 := KA.free 1
  simp at r0 r1
  have u0 := KB.at 0
  have u1 := KB.at 1
  have u2 := KB.free 0
  have u3 := KB.free 1
  simp at u0 u1
  have KA1 := bput (bput KA 0 (.string sa)) 1 (.string ta)
  have KB1 := (KB.wr (((Wr.refl w.heap.size 0 2 W).setCell 0 (by omega) (.string sa)).setCell 1 (by omega) (.string ta)) (Ne.symm nr))
  have g0 := KB1.at 0
  have g1 := KB1.at 1
  have g2 := KB1.free 0
  have g3 := KB1.free 1
  simp at g0 g1
  have KB2 := bput (bput KB1 0 (.string sb)) 1 (.string tb)
  have KA2 := (KA1.wr (((Wr.refl R2 0 2 _).setCell 0 (by omega) (.string sb)).setCell 1 (by omega) (.string tb)) nr)
  have z0 := KA2.at 0
  have z1 := KA2.at 1
  have z2 := KB2.at 0
  have z3 := KB2.at 1
  simp at z0 z1 z2 z3
  have pE := ((p8.setCell (p := ⟨w.heap.size, 0, none⟩) lr1 (.string sa)).setCell (p := ⟨w.heap.size, 1, none⟩) lr1 (.string ta)).setCell (p := ⟨R2, 0, none⟩) lr2 (.string sb) |>.setCell (p := ⟨R2, 1, none⟩) lr2 (.string tb)
  go_region_held3 (fun x => x.cell? ⟨F1, 0, none⟩ = some (.string sa) ∧ x.cell? ⟨F1, 1, none⟩ = some (.string ta) ∧ x.cell? ⟨F2, 0, none⟩ = some (.string sb) ∧ x.cell? ⟨F2, 1, none⟩ = some (.string tb)) (go_keep) (fail)
  go_wp2_with fail
  exact bodyPost_ret (v := .tuple #[.agg #[.string sa, .string ta], .agg #[.string sb, .string tb], .int .i64 0]) (by simp [results, Tryz.results19, go_sem, z0, z1, z2, z3]) rfl ⟨rfl, pE.drew⟩
set_option maxRecDepth 100000 in
set_option maxHeartbeats 3200000 in
theorem RImmune_no (k p q : Int) (w : World) (h : okI k p q = false) : Calls Tryz.prog 19 #[.int .i64 k, .int .i64 p, .int .i64 q] w fun e w' => e = .returned (.tuple #[.agg #[.string ⟨#[]⟩, .string ⟨#[]⟩], .agg #[.string ⟨#[]⟩, .string ⟨#[]⟩], .int .i64 1]) ∧ Below w.heap.size w w' := by
  have pr : Below w.heap.size w ((w.alloc (.cells #[.string ⟨#[]⟩, .string ⟨#[]⟩] 26)).alloc (.cells #[.string ⟨#[]⟩, .string ⟨#[]⟩] 26)) := ((Below.refl _ _).alloc (Nat.le_refl _) _).alloc (by simp) _
  have A1 := fun x => IsRate_any k x
  have A2 := fun x => IsYears_any p x
  have A3 := fun x => IsYears_any q x
  have i2 : okY p = true → 0 ≤ p := fun h => (okY_iff h).1
  have i3 : okY q = true → 0 ≤ q := fun h => (okY_iff h).1
  unfold okI at h
  obtain ⟨u1, e1⟩ : ∃ u, okR k = u := ⟨_, rfl⟩
  obtain ⟨u2, e2⟩ : ∃ u, okY p = u := ⟨_, rfl⟩
  obtain ⟨u3, e3⟩ : ∃ u, okY q = u := ⟨_, rfl⟩
  simp only [e1, e2, e3] at A1 A2 A3 h i2 i3
  clear e1 e2 e3
  have key : u1 = false ∨ (u1 = true ∧ u2 = false) ∨ (u1 = true ∧ u2 = true ∧ u3 = false) ∨ (u1 = true ∧ u2 = true ∧ u3 = true ∧ p < 1) ∨ (u1 = true ∧ u2 = true ∧ u3 = true ∧ ¬ p < 1 ∧ q < 1) := by
    cases u1 <;> cases u2 <;> cases u3 <;> simp at h i2 i3 ⊢
    by_cases c : p = 0
    · omega
    · have := h c
      omega
  clear h i2 i3
  rcases key with rfl | ⟨rfl, rfl⟩ | ⟨rfl, rfl, rfl⟩ | ⟨rfl, rfl, rfl, h⟩ | ⟨rfl, rfl, rfl, h, h2⟩
  all_goals
    go_enter Tryz.func19, Tryz.ntmps19
    go_wp2_with (first
      | (go_at_call 31; (refine (A1 _).mono ?_); (rintro e w9 ⟨rfl, hw9⟩); (subst w9))
      | (go_at_call 32; (with_reducible refine (A2 _).mono ?_); (rintro e w9 ⟨rfl, hw9⟩); (subst w9))
      | (go_at_call 32; (with_reducible refine (A3 _).mono ?_); (rintro e w9 ⟨rfl, hw9⟩); (subst w9))
      | fail)
    exact bodyPost_ret (v := .tuple #[.agg #[.string ⟨#[]⟩, .string ⟨#[]⟩], .agg #[.string ⟨#[]⟩, .string ⟨#[]⟩], .int .i64 1]) (by simp [results, Tryz.results19, go_sem]) rfl ⟨rfl, pr⟩
end Go.Proofs.YtiaeoknmgidehaaGreatDoor.Mo
