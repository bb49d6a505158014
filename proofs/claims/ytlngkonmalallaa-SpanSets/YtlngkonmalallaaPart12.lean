import Derived.Test.YtlngkonmalallaaPart11
import Derived.Test.YtlngkonmalallaaPart06
import Derived.Test.YtlngkonmalallaaPart09
import Derived.Laws.Shifts

namespace Go.Proofs.Ytlngkonmalallaa.L
open Go.RowKit Tl

/-- One more, or not. -/
def rnd (neg : Bool) (way m q d : Int) : Int := if q ≠ 0 ∧ awayF way neg (!decide (m % 2 = 0)) (cmp3 (q * 2) d) = true then m + 1 else m
theorem lt_powW {m : Int} {a b : Nat} (h : m * 2 ^ a < 2 ^ b) (hb : b ≤ a + 53) : m < 9007199254740992 := by
  have p := two_pow_pos a
  have q := two_pow_le hb
  rw [Int.pow_add, show (2 : Int) ^ 53 = 9007199254740992 from by decide, Int.mul_comm] at q
  exact Int.lt_of_mul_lt_mul_right (show m * 2 ^ a < 9007199254740992 * 2 ^ a by omega) (Int.le_of_lt p)
theorem ge_powW {m : Int} {a b : Nat} (h : 2 ^ b < (m + 1) * 2 ^ a) (hb : a + 52 ≤ b) : 4503599627370496 ≤ m := by
  have p := two_pow_pos a
  have q := two_pow_le hb
  rw [Int.pow_add, show (2 : Int) ^ 52 = 4503599627370496 from by decide, Int.mul_comm] at q
  have := Int.lt_of_mul_lt_mul_right (show 4503599627370496 * 2 ^ a < (m + 1) * 2 ^ a by omega) (Int.le_of_lt p)
  omega
theorem flLtW {N D e m r : Int} (h : Fl N D e m r) (hN : 0 < N) (hD : 0 < D) (m0 : 0 ≤ m) (he : (bl N : Int) - bl D - 52 ≤ e) : m < 9007199254740992 := by
  have bN := bl_pos hN
  have bD := bl_pos hD
  have h1 : m * (D * 2 ^ e.toNat) < 2 ^ (bl N + (-e).toNat) := by
    have a := Int.mul_lt_mul_of_pos_right bN.1 (two_pow_pos (-e).toNat)
    rw [← Int.pow_add] at a
    have := h.eq; have := h.r0; omega
  have h2 : m * 2 ^ (bl D - 1 + e.toNat) ≤ m * (D * 2 ^ e.toNat) := by
    refine Int.mul_le_mul_of_nonneg_left ?_ m0
    rw [Int.pow_add]
    exact Int.mul_le_mul_of_nonneg_right bD.2.2 (Int.le_of_lt (two_pow_pos _))
  exact lt_powW (Int.lt_of_le_of_lt h2 h1) (by omega)
theorem flGeW {N D e m r : Int} (h : Fl N D e m r) (hN : 0 < N) (hD : 0 < D) (m0 : 0 ≤ m) (he : e ≤ (bl N : Int) - bl D - 53) : 4503599627370496 ≤ m := by
  have bN := bl_pos hN
  have bD := bl_pos hD
  have h1 : 2 ^ (bl N - 1 + (-e).toNat) < (m + 1) * (D * 2 ^ e.toNat) := by
    have a := Int.mul_le_mul_of_nonneg_right bN.2.2 (Int.le_of_lt (two_pow_pos (-e).toNat))
    rw [← Int.pow_add] at a
    have := h.eq; have := h.r1
    have e1 : (m + 1) * (D * 2 ^ e.toNat) = m * (D * 2 ^ e.toNat) + D * 2 ^ e.toNat := by grind
    omega
  have h2 : (m + 1) * (D * 2 ^ e.toNat) ≤ (m + 1) * 2 ^ (bl D + e.toNat) := by
    refine Int.mul_le_mul_of_nonneg_left ?_ (by omega)
    rw [Int.pow_add]
    exact Int.mul_le_mul_of_nonneg_right (Int.le_of_lt bD.1) (Int.le_of_lt (two_pow_pos _))
  exact ge_powW (Int.lt_of_lt_of_le h1 h2) (by omega)
theorem half1W {X q m r m' r' : Int} (q0 : 0 < q) (h : X = m * q + r) (r0 : 0 ≤ r) (h' : X = m' * (q * 2) + r') (r1 : r' < q * 2) (hm : 9007199254740992 ≤ m) : 4503599627370496 ≤ m' := by
  have g1 := Int.mul_le_mul_of_nonneg_right hm (Int.le_of_lt q0)
  have e1 : m' * (q * 2) + q * 2 = (m' + 1) * 2 * q := by grind
  have := Int.lt_of_mul_lt_mul_right (show 9007199254740992 * q < (m' + 1) * 2 * q by omega) (Int.le_of_lt q0)
  omega
theorem half2W {X q m r m' r' : Int} (q0 : 0 < q) (h : X * 2 = m * q + r) (r0 : 0 ≤ r) (h' : X = m' * q + r') (r1 : r' < q) (hm : 9007199254740992 ≤ m) : 4503599627370496 ≤ m' := by
  have g1 := Int.mul_le_mul_of_nonneg_right hm (Int.le_of_lt q0)
  have e1 : (m' + 1) * 2 * q = m' * q * 2 + q * 2 := by grind
  have := Int.lt_of_mul_lt_mul_right (show 9007199254740992 * q < (m' + 1) * 2 * q by omega) (Int.le_of_lt q0)
  omega
/-- One place further up. -/
theorem flHalfW {N D e m r m' r' : Int} (h : Fl N D e m r) (h' : Fl N D (e + 1) m' r') (hD : 0 < D) (hm : 9007199254740992 ≤ m) : 4503599627370496 ≤ m' := by
  have e1 := h.eq
  have e2 := h'.eq
  have b := h'.r1
  by_cases he : 0 ≤ e
  · rw [show (-e).toNat = 0 from by omega] at e1
    rw [show (-(e + 1)).toNat = 0 from by omega, show (e + 1).toNat = e.toNat + 1 from by omega, Int.pow_succ, ← Int.mul_assoc D] at e2
    rw [show (e + 1).toNat = e.toNat + 1 from by omega, Int.pow_succ, ← Int.mul_assoc] at b
    exact half1W (Int.mul_pos hD (two_pow_pos _)) e1 h.r0 e2 b hm
  · rw [show (-e).toNat = (-(e + 1)).toNat + 1 from by omega, Int.pow_succ, ← Int.mul_assoc, show e.toNat = 0 from by omega] at e1
    rw [show (e + 1).toNat = 0 from by omega] at e2 b
    exact half2W (show 0 < D * 2 ^ 0 by simpa using hD) e1 h.r0 e2 b hm
theorem big_blW {m : Int} (h : 53 < bl m) : 9007199254740992 ≤ m := by
  by_cases c : 0 < m
  · have b := bl_pos c
    have := two_pow_le (show 53 ≤ bl m - 1 by omega)
    have e : (2 : Int) ^ 53 = 9007199254740992 := by decide
    omega
  · unfold bl at h; rw [if_pos (by omega)] at h; omega
theorem not_bigW {m : Int} (h0 : 0 ≤ m) (h : ¬ 53 < bl m) : m < 9007199254740992 := by
  by_cases c : 0 < m
  · have b := bl_pos c
    have := two_pow_le (show bl m ≤ 53 by omega)
    have e : (2 : Int) ^ 53 = 9007199254740992 := by decide
    omega
  · omega
set_option maxHeartbeats 3200000 in
set_option maxRecDepth 100000 in
/-- Size's Rounded, of floats: where nothing is lost. -/
theorem Rounded_w_any (neg : Bool) (v1 v2 : Value) (ns ds : List Int) (way : Int) (w : World) (h1 : Rd w v1 ns) (h2 : Rd w v2 ds) (n1 : Nm ns) (n2 : Nm ds) (l1 : ns.length ≤ 900) (l2 : ds.length ≤ 900) (N0 : 0 < val ns) (D0 : 0 < val ds) :
    Calls Try.prog 67 #[.agg #[.int .i64 53, .int .i64 (-1074), .int .i64 971, .int .i64 52], .agg #[.bool neg, v1, v2], .int .i64 way] w fun r w' => ∃ e m q : Int, Fl (val ns) (val ds) e m q ∧ 0 ≤ m ∧ m < 9007199254740992 ∧ -1074 ≤ e ∧ (e = -1074 ∨ 4503599627370496 ≤ m) ∧ r = .returned (.tuple #[.int .u64 (laidW neg (rnd neg way m q (val ds * 2 ^ e.toNat)) e way).1, .bool (laidW neg (rnd neg way m q (val ds * 2 ^ e.toNat)) e way).2]) ∧ Below w.heap.size w w' := by
  have p1 : 0 < ns.length := by
    by_cases c : 0 < ns.length
    · exact c
    · rw [nm_nil c] at N0; simp [val] at N0
  obtain ⟨a1, c1, rfl⟩ : ∃ a1 c1, v1 = .slice a1 ns.length c1 := by obtain ⟨_, a1, c1, e, _⟩ := h1; exact ⟨a1, c1, e⟩
  obtain ⟨a2, c2, rfl⟩ : ∃ a1 c1, v2 = .slice a1 ds.length c1 := by obtain ⟨_, a1, c1, e, _⟩ := h2; exact ⟨a1, c1, e⟩
  have b1 := bl_len h1.1
  have b2 := bl_len h2.1
  obtain ⟨LN, hLN⟩ : ∃ L : Nat, L = bl (val ns) := ⟨_, rfl⟩
  obtain ⟨LD, hLD⟩ : ∃ L : Nat, L = bl (val ds) := ⟨_, rfl⟩
  rw [← hLN] at b1
  rw [← hLD] at b2
  have HLN : Hid (LN = bl (val ns)) := hLN
  have HLD : Hid (LD = bl (val ds)) := hLD
  clear hLN hLD
  obtain ⟨E0, hE0⟩ : ∃ E : Int, (if (LN : Int) - LD - 53 < -1074 then -1074 else (LN : Int) - LD - 53) = E := ⟨_, rfl⟩
  have E1 : -1074 ≤ E0 ∧ (LN : Int) - LD - 53 ≤ E0 ∧ (E0 = -1074 ∨ E0 = (LN : Int) - LD - 53) := by rw [← hE0]; split <;> omega
  have K1 : Blk ((w.alloc (.cells #[.int .i64 53, .int .i64 (-1074), .int .i64 971, .int .i64 52] 31)).alloc (.cells #[.bool neg, .slice a1 ns.length c1, .slice a2 ds.length c2] 104)) w.heap.size #[.int .i64 53, .int .i64 (-1074), .int .i64 971, .int .i64 52] 31 := (Blk.new w _ _).alloc _
  have K2 := Blk.new (w.alloc (.cells #[.int .i64 53, .int .i64 (-1074), .int .i64 971, .int .i64 52] 31)) #[.bool neg, .slice a1 ns.length c1, .slice a2 ds.length c2] 104
  simp only [World.size_alloc] at K2
  have pr : Below w.heap.size w ((w.alloc (.cells #[.int .i64 53, .int .i64 (-1074), .int .i64 971, .int .i64 52] 31)).alloc (.cells #[.bool neg, .slice a1 ns.length c1, .slice a2 ds.length c2] 104)) := ((Below.refl _ _).alloc (Nat.le_refl _) _).alloc (by simp) _
  go_enter Try.func67, Try.ntmps67
  go_wp2_with (first
    | (go_at_call 103; (refine (Sign_any neg a1 a2 ns.length c1 ds.length c2 _ p1).mono ?_; rintro r w1 ⟨⟨s, rfl, hs⟩, bb⟩; have hs2 : (s == 0) = false := beq_eq_false_iff_ne.2 hs; replace K1 := K1.below bb K1.lt; replace K2 := K2.below bb K2.lt; replace pr := pr.trans (bb.mono pr.size); clear bb; have e0 : w1.cell? ⟨w.heap.size, 0, none⟩ = some (.int .i64 53) := K1.at 0; have e1 : w1.cell? ⟨w.heap.size, 1, none⟩ = some (.int .i64 (-1074)) := K1.at 1; have f1 : w1.cell? ⟨w.heap.size + 1, 1, none⟩ = some (.slice a1 ns.length c1) := K2.at 1; have f2 : w1.cell? ⟨w.heap.size + 1, 2, none⟩ = some (.slice a2 ds.length c2) := K2.at 2))
    | fail)
  have g1 := h1.grow pr
  have g2 := h2.grow pr
  have B1 : ∀ k, Calls Try.prog 82 #[.slice a1 ns.length c1] (w1.drewN k) fun e w' => e = .returned (.int .i64 LN) ∧ ∃ n, w' = (w1.drewN k).drewN n := fun k => by rw [HLN.out]; exact Bits_q _ ns _ (show Rd (w1.drewN k) _ _ from g1) n1 (by omega)
  have B2 : ∀ k, Calls Try.prog 82 #[.slice a2 ds.length c2] (w1.drewN k) fun e w' => e = .returned (.int .i64 LD) ∧ ∃ n, w' = (w1.drewN k).drewN n := fun k => by rw [HLD.out]; exact Bits_q _ ds _ (show Rd (w1.drewN k) _ _ from g2) n2 (by omega)
  go_quiet (first
    | (go_at_call 82; with_reducible exact Calls.quiet_of (B1 _))
    | (go_at_call 82; with_reducible exact Calls.quiet_of (B2 _)))
  have J1 : Blk (w1.drewN nq) w.heap.size #[.int .i64 53, .int .i64 (-1074), .int .i64 971, .int .i64 52] 31 := K1
  have J2 : Blk (w1.drewN nq) (w.heap.size + 1) #[.bool neg, .slice a1 ns.length c1, .slice a2 ds.length c2] 104 := K2
  have pr2 : Below w.heap.size w (w1.drewN nq) := ⟨pr.os, pr.tape, pr.output, pr.size, pr.block⟩
  clear B1 B2 e0 e1 f1 f2 K1 K2 pr g1 g2
  generalize w1.drewN nq = W at *
  have z0 : W.cell? ⟨w.heap.size, 0, none⟩ = some (.int .i64 53) := J1.at 0
  have z1 : W.cell? ⟨w.heap.size, 1, none⟩ = some (.int .i64 (-1074)) := J1.at 1
  have z2 : W.cell? ⟨w.heap.size, 2, none⟩ = some (.int .i64 971) := J1.at 2
  have z3 : W.cell? ⟨w.heap.size, 3, none⟩ = some (.int .i64 52) := J1.at 3
  have y0 : W.cell? ⟨w.heap.size + 1, 0, none⟩ = some (.bool neg) := J2.at 0
  have y1 : W.cell? ⟨w.heap.size + 1, 1, none⟩ = some (.slice a1 ns.length c1) := J2.at 1
  have y2 : W.cell? ⟨w.heap.size + 1, 2, none⟩ = some (.slice a2 ds.length c2) := J2.at 2
  go_wp2_with (first
    | (go_at_call 104; (refine (floor_any 53 (-1074) 971 52 neg _ _ ns ds E0 _ (h1.grow pr2) (h2.grow pr2) n1 n2 (by omega) (by omega) (by omega) (by omega) D0).mono ?_; rintro r w2 ⟨u1, u2, ms, rs, rfl, hm, nm, hr, nr, fe, r0, r1, lm, lr, bb⟩; have FL : Hid (Fl (val ns) (val ds) E0 (val ms) (val rs)) := ⟨fe, r0, r1⟩; clear fe r0 r1; replace J1 := J1.below bb J1.lt; replace J2 := J2.below bb J2.lt; replace pr2 := pr2.trans (bb.mono pr2.size); clear bb))
    | fail)
  have ST : Hid (E0 = -1074 ∨ 4503599627370496 ≤ val ms) := by
    rcases E1.2.2 with h | h
    · exact Or.inl h
    · exact Or.inr (flGeW FL.out N0 D0 (val_nonneg hm.1) (by rw [← HLN.out, ← HLD.out]; omega))
  have EB : Hid (E0 ≤ 30000) := show E0 ≤ 30000 by omega
  have E00 : Hid (-1074 ≤ E0) := E1.1
  clear hE0 E1 z0 z1 z2 z3 y0 y1 y2
  go_loopw [8, 9, 10] (fun a b c wr => ∃ (e : Int) (ms rs : List Int), a = .int .i64 e ∧ Rd wr b ms ∧ Nm ms ∧ Rd wr c rs ∧ Nm rs ∧ Fl (val ns) (val ds) e (val ms) (val rs) ∧ -1074 ≤ e ∧ e ≤ 30000 ∧ (e = -1074 ∨ 4503599627370496 ≤ val ms) ∧ ms.length ≤ 2000000 ∧ rs.length ≤ 2000000 ∧ Blk wr w.heap.size #[.int .i64 53, .int .i64 (-1074), .int .i64 971, .int .i64 52] 31 ∧ Blk wr (w.heap.size + 1) #[.bool neg, .slice a1 ns.length c1, .slice a2 ds.length c2] 104 ∧ Below w.heap.size w wr) (fun a _ _ _ => ((LN : Int) - LD - 52 - intOf a).toNat)
  case atStart => exact ⟨E0, ms, rs, rfl, hm, nm, hr, nr, FL.out, E00.out, EB.out, ST.out, lm, lr, J1, J2, pr2⟩
  case round =>
    clear hm nm hr nr FL ST EB E00 lm lr J1 J2 pr2
    obtain ⟨e, ms, rs, rfl, hm, nm, hr, nr, fl, e1, e2, st, lm, lr, J1, J2, pr2⟩ := hrel
    have FL : Hid (Fl (val ns) (val ds) e (val ms) (val rs)) := fl
    have ST : Hid (e = -1074 ∨ 4503599627370496 ≤ val ms) := st
    clear fl st
    obtain ⟨wl, rfl⟩ : ∃ wl : World, wl = wr := ⟨_, rfl⟩
    have z0 : wl.cell? ⟨w.heap.size, 0, none⟩ = some (.int .i64 53) := J1.at 0
    obtain ⟨LM, hLM⟩ : ∃ L : Nat, L = bl (val ms) := ⟨_, rfl⟩
    have HLM : Hid (LM = bl (val ms)) := hLM
    have B1 : ∀ k, Calls Try.prog 82 #[u9] (wl.drewN k) fun e w' => e = .returned (.int .i64 LM) ∧ ∃ n, w' = (wl.drewN k).drewN n := fun k => by rw [hLM]; exact Bits_q _ ms _ (show Rd (wl.drewN k) _ _ from hm) nm (by omega)
    clear hLM
    have m0 := val_nonneg hm.1
    by_cases hbig : 53 < LM
    · have hb2 : (53 : Int) < LM := by omega
      have mb : Hid (9007199254740992 ≤ val ms) := big_blW (by rw [← HLM.out]; exact hbig)
      have lt : e < (LN : Int) - LD - 52 := by
        by_cases c : e < (LN : Int) - LD - 52
        · exact c
        · have := flLtW FL.out N0 D0 m0 (by rw [← HLN.out, ← HLD.out]; omega); have := mb.out; omega
      have ew : IntKind.i64.wrap (e + 1) = e + 1 := wrap_self _ (by omega) (by omega)
      go_wp2_with fail
      go_quiet ((go_at_call 82; with_reducible exact Calls.quiet_of (B1 _)))
      have I1 : Blk (wl.drewN nq) w.heap.size #[.int .i64 53, .int .i64 (-1074), .int .i64 971, .int .i64 52] 31 := J1
      have I2 : Blk (wl.drewN nq) (w.heap.size + 1) #[.bool neg, .slice a1 ns.length c1, .slice a2 ds.length c2] 104 := J2
      have pr3 : Below w.heap.size w (wl.drewN nq) := ⟨pr2.os, pr2.tape, pr2.output, pr2.size, pr2.block⟩
      clear B1 z0 J1 J2 pr2 hm hr
      generalize wl.drewN nq = W2 at *
      have z0 : W2.cell? ⟨w.heap.size, 0, none⟩ = some (.int .i64 53) := I1.at 0
      have z1 : W2.cell? ⟨w.heap.size, 1, none⟩ = some (.int .i64 (-1074)) := I1.at 1
      have z2 : W2.cell? ⟨w.heap.size, 2, none⟩ = some (.int .i64 971) := I1.at 2
      have z3 : W2.cell? ⟨w.heap.size, 3, none⟩ = some (.int .i64 52) := I1.at 3
      have y0 : W2.cell? ⟨w.heap.size + 1, 0, none⟩ = some (.bool neg) := I2.at 0
      have y1 : W2.cell? ⟨w.heap.size + 1, 1, none⟩ = some (.slice a1 ns.length c1) := I2.at 1
      have y2 : W2.cell? ⟨w.heap.size + 1, 2, none⟩ = some (.slice a2 ds.length c2) := I2.at 2
      go_wp2_with (first
        | (go_at_call 104; (refine (floor_any 53 (-1074) 971 52 neg _ _ ns ds (e + 1) _ (h1.grow pr3) (h2.grow pr3) n1 n2 (by omega) (by omega) (by omega) (by omega) D0).mono ?_; rintro r w2 ⟨v1, v2, ms2, rs2, rfl, hm2, nm2, hr2, nr2, fe, r0, r1, lm2, lr2, bb⟩; have FL2 : Hid (Fl (val ns) (val ds) (e + 1) (val ms2) (val rs2)) := ⟨fe, r0, r1⟩; clear fe r0 r1; replace I1 := I1.below bb I1.lt; replace I2 := I2.below bb I2.lt; replace pr3 := pr3.trans (bb.mono pr3.size); clear bb))
        | fail)
      go_roundw
      case rel => exact ⟨e + 1, ms2, rs2, rfl, hm2, nm2, hr2, nr2, FL2.out, by omega, by omega, Or.inr (flHalfW FL.out FL2.out D0 mb.out), lm2, lr2, I1, I2, pr3⟩
      case measure => simp [intOf]; omega
    · have hb2 : ¬ (53 : Int) < LM := by omega
      have ms1 : val ms < 9007199254740992 := not_bigW m0 (by rw [← HLM.out]; exact hbig)
      obtain ⟨ar, cr, eur⟩ : ∃ a1 c1, u10 = .slice a1 rs.length c1 := by obtain ⟨_, a1, c1, e, _⟩ := hr; exact ⟨a1, c1, e⟩
      subst eur
      go_wp2_with fail
      go_quiet ((go_at_call 82; with_reducible exact Calls.quiet_of (B1 _)))
      have I1 : Blk (wl.drewN nq) w.heap.size #[.int .i64 53, .int .i64 (-1074), .int .i64 971, .int .i64 52] 31 := J1
      have I2 : Blk (wl.drewN nq) (w.heap.size + 1) #[.bool neg, .slice a1 ns.length c1, .slice a2 ds.length c2] 104 := J2
      have pr3 : Below w.heap.size w (wl.drewN nq) := ⟨pr2.os, pr2.tape, pr2.output, pr2.size, pr2.block⟩
      have hm2 : Rd (wl.drewN nq) u9 ms := hm
      have hr2 : Rd (wl.drewN nq) (.slice ar rs.length cr) rs := hr
      clear B1 z0 J1 J2 pr2 hm hr
      generalize wl.drewN nq = W2 at *
      have y0 : W2.cell? ⟨w.heap.size + 1, 0, none⟩ = some (.bool neg) := I2.at 0
      have y1 : W2.cell? ⟨w.heap.size + 1, 1, none⟩ = some (.slice a1 ns.length c1) := I2.at 1
      have y2 : W2.cell? ⟨w.heap.size + 1, 2, none⟩ = some (.slice a2 ds.length c2) := I2.at 2
      go_wp2_with (first
        | (go_at_call 105; (refine (scaled_any neg _ _ ns ds e _ (h1.grow pr3) (h2.grow pr3) n1 n2 (by omega) (by omega) (by omega) (by omega)).mono ?_; rintro r w2 ⟨t1, t2, za, zb, rfl, _, _, hzb, nzb, _, vzb, _, _, bb⟩; have VZ : Hid (val zb = val ds * 2 ^ e.toNat) := vzb; clear vzb; replace I1 := I1.below bb I1.lt; replace I2 := I2.below bb I2.lt; replace pr3 := pr3.trans (bb.mono pr3.size); have hm3 := hm2.grow bb; have hr3 := hr2.grow bb; clear bb y0 y1 y2; have z0 : w2.cell? ⟨w.heap.size, 0, none⟩ = some (.int .i64 53) := I1.at 0; have z1 : w2.cell? ⟨w.heap.size, 1, none⟩ = some (.int .i64 (-1074)) := I1.at 1; have z2 : w2.cell? ⟨w.heap.size, 2, none⟩ = some (.int .i64 971) := I1.at 2; have z3 : w2.cell? ⟨w.heap.size, 3, none⟩ = some (.int .i64 52) := I1.at 3; have y0 : w2.cell? ⟨w.heap.size + 1, 0, none⟩ = some (.bool neg) := I2.at 0))
        | fail)
      by_cases hrl : 0 < rs.length
      · have hd : decide ((0 : Int) < rs.length) = true := by simp; omega
        have rp : Hid (val rs ≠ 0) := by have := nm_pos hr3.1 nr hrl; show val rs ≠ 0; omega
        have S1 : ∀ (w : World) (v : Value), Rd w v rs → Calls Try.prog 79 #[v, .int .i64 1] w fun e w' => ∃ r zs, e = .returned r ∧ Rd w' r zs ∧ Nm zs ∧ val zs = val rs * 2 ∧ Below w.heap.size w w' := fun w v h => (Shl_any v rs 1 w h (by omega) (by decide)).mono (by rintro x w' ⟨r, zs, a, b, c, d, f⟩; exact ⟨r, zs, a, b, c, by rw [d]; simp, f⟩)
        cases hAW : awayF way neg (!decide (val ms % 2 = 0)) (cmp3 (val rs * 2) (val zb))
        · have RN : Hid (rnd neg way (val ms) (val rs) (val ds * 2 ^ e.toNat) = val ms) := by
            show rnd neg way (val ms) (val rs) (val ds * 2 ^ e.toNat) = _
            unfold rnd
            rw [← VZ.out]
            exact if_neg (fun hh => by rw [hh.2] at hAW; cases hAW)
          go_region_held3 (fun x => x.cell? ⟨w.heap.size + 1, 0, none⟩ = some (.bool neg)) (go_keep) (first
          | (go_at_call 107; (refine (Even_any _ ms _ hm3.drew).mono ?_; rintro x w3 ⟨rfl, e3⟩; subst e3))
          | (go_at_call 79; (refine (S1 _ _ hr3.drew).mono ?_); (rintro x w5 ⟨u, zc, rfl, hu, nu, vu, b5⟩; have VU : Hid (val zc = val rs * 2) := vu; clear vu; have hm5 := hm3.grow (below_undrew b5); have hz5 := hzb.grow (below_undrew b5); replace I1 := I1.below (below_undrew b5) I1.lt; replace I2 := I2.below (below_undrew b5) I2.lt; replace pr3 := bel pr3 (below_undrew b5); have z0 : w5.cell? ⟨w.heap.size, 0, none⟩ = some (.int .i64 53) := I1.at 0; have z1 : w5.cell? ⟨w.heap.size, 1, none⟩ = some (.int .i64 (-1074)) := I1.at 1; have z2 : w5.cell? ⟨w.heap.size, 2, none⟩ = some (.int .i64 971) := I1.at 2; have z3 : w5.cell? ⟨w.heap.size, 3, none⟩ = some (.int .i64 52) := I1.at 3; have y0 : w5.cell? ⟨w.heap.size + 1, 0, none⟩ = some (.bool neg) := I2.at 0; clear b5))
          | (go_at_call 79; (refine (S1 _ _ hr3).mono ?_); (rintro x w5 ⟨u, zc, rfl, hu, nu, vu, b5⟩; have VU : Hid (val zc = val rs * 2) := vu; clear vu; have hm5 := hm3.grow b5; have hz5 := hzb.grow b5; replace I1 := I1.below b5 I1.lt; replace I2 := I2.below b5 I2.lt; replace pr3 := bel pr3 b5; have z0 : w5.cell? ⟨w.heap.size, 0, none⟩ = some (.int .i64 53) := I1.at 0; have z1 : w5.cell? ⟨w.heap.size, 1, none⟩ = some (.int .i64 (-1074)) := I1.at 1; have z2 : w5.cell? ⟨w.heap.size, 2, none⟩ = some (.int .i64 971) := I1.at 2; have z3 : w5.cell? ⟨w.heap.size, 3, none⟩ = some (.int .i64 52) := I1.at 3; have y0 : w5.cell? ⟨w.heap.size + 1, 0, none⟩ = some (.bool neg) := I2.at 0; clear b5))
          | (go_at_call 83; (refine (Cmp_any _ _ zc zb _ hu hz5 nu nzb (by have h9 := shl_len2 (n := 1) hr3.1 hu.1 nu (by rw [VU.out]; simp); simp at h9; omega)).mono ?_); (rintro x w6 ⟨rfl, b6⟩; rw [VU.out]; have hm6 := hm5.grow b6; replace I1 := I1.below b6 I1.lt; replace I2 := I2.below b6 I2.lt; replace pr3 := bel pr3 b6; have z0 : w6.cell? ⟨w.heap.size, 0, none⟩ = some (.int .i64 53) := I1.at 0; have z1 : w6.cell? ⟨w.heap.size, 1, none⟩ = some (.int .i64 (-1074)) := I1.at 1; have z2 : w6.cell? ⟨w.heap.size, 2, none⟩ = some (.int .i64 971) := I1.at 2; have z3 : w6.cell? ⟨w.heap.size, 3, none⟩ = some (.int .i64 52) := I1.at 3; have y0 : w6.cell? ⟨w.heap.size + 1, 0, none⟩ = some (.bool neg) := I2.at 0; clear b6))
          | (go_at_call 106; refine (Away_any neg _ _ way _).mono ?_; rintro x w7 ⟨rfl, rfl⟩; rw [hAW])
          | fail)
          go_wp2_with (first
            | (go_at_call 109; refine (laid_w_any _ ms e way neg _ hm6 nm (by omega) e1 (by omega)).mono ?_; rintro r w9 ⟨rfl, bb⟩)
            | fail)
          exact bodyPost_ret (v := .tuple #[.int .u64 (laidW neg (val ms) e way).1, .bool (laidW neg (val ms) e way).2]) (by simp [results, Try.results67, go_sem]) rfl ⟨e, val ms, val rs, FL.out, m0, ms1, e1, ST.out, by rw [RN.out], bel pr3 bb⟩
        · have RN : Hid (rnd neg way (val ms) (val rs) (val ds * 2 ^ e.toNat) = val ms + 1) := by
            show rnd neg way (val ms) (val rs) (val ds * 2 ^ e.toNat) = _
            unfold rnd
            rw [← VZ.out]
            exact if_pos ⟨rp.out, hAW⟩
          go_region_held3 (fun x => x.cell? ⟨w.heap.size + 1, 0, none⟩ = some (.bool neg)) (go_keep) (first
          | (go_at_call 107; (refine (Even_any _ ms _ hm3.drew).mono ?_; rintro x w3 ⟨rfl, e3⟩; subst e3))
          | (go_at_call 79; (refine (S1 _ _ hr3.drew).mono ?_); (rintro x w5 ⟨u, zc, rfl, hu, nu, vu, b5⟩; have VU : Hid (val zc = val rs * 2) := vu; clear vu; have hm5 := hm3.grow (below_undrew b5); have hz5 := hzb.grow (below_undrew b5); replace I1 := I1.below (below_undrew b5) I1.lt; replace I2 := I2.below (below_undrew b5) I2.lt; replace pr3 := bel pr3 (below_undrew b5); have z0 : w5.cell? ⟨w.heap.size, 0, none⟩ = some (.int .i64 53) := I1.at 0; have z1 : w5.cell? ⟨w.heap.size, 1, none⟩ = some (.int .i64 (-1074)) := I1.at 1; have z2 : w5.cell? ⟨w.heap.size, 2, none⟩ = some (.int .i64 971) := I1.at 2; have z3 : w5.cell? ⟨w.heap.size, 3, none⟩ = some (.int .i64 52) := I1.at 3; have y0 : w5.cell? ⟨w.heap.size + 1, 0, none⟩ = some (.bool neg) := I2.at 0; clear b5))
          | (go_at_call 79; (refine (S1 _ _ hr3).mono ?_); (rintro x w5 ⟨u, zc, rfl, hu, nu, vu, b5⟩; have VU : Hid (val zc = val rs * 2) := vu; clear vu; have hm5 := hm3.grow b5; have hz5 := hzb.grow b5; replace I1 := I1.below b5 I1.lt; replace I2 := I2.below b5 I2.lt; replace pr3 := bel pr3 b5; have z0 : w5.cell? ⟨w.heap.size, 0, none⟩ = some (.int .i64 53) := I1.at 0; have z1 : w5.cell? ⟨w.heap.size, 1, none⟩ = some (.int .i64 (-1074)) := I1.at 1; have z2 : w5.cell? ⟨w.heap.size, 2, none⟩ = some (.int .i64 971) := I1.at 2; have z3 : w5.cell? ⟨w.heap.size, 3, none⟩ = some (.int .i64 52) := I1.at 3; have y0 : w5.cell? ⟨w.heap.size + 1, 0, none⟩ = some (.bool neg) := I2.at 0; clear b5))
          | (go_at_call 83; (refine (Cmp_any _ _ zc zb _ hu hz5 nu nzb (by have h9 := shl_len2 (n := 1) hr3.1 hu.1 nu (by rw [VU.out]; simp); simp at h9; omega)).mono ?_); (rintro x w6 ⟨rfl, b6⟩; rw [VU.out]; have hm6 := hm5.grow b6; replace I1 := I1.below b6 I1.lt; replace I2 := I2.below b6 I2.lt; replace pr3 := bel pr3 b6; have z0 : w6.cell? ⟨w.heap.size, 0, none⟩ = some (.int .i64 53) := I1.at 0; have z1 : w6.cell? ⟨w.heap.size, 1, none⟩ = some (.int .i64 (-1074)) := I1.at 1; have z2 : w6.cell? ⟨w.heap.size, 2, none⟩ = some (.int .i64 971) := I1.at 2; have z3 : w6.cell? ⟨w.heap.size, 3, none⟩ = some (.int .i64 52) := I1.at 3; have y0 : w6.cell? ⟨w.heap.size + 1, 0, none⟩ = some (.bool neg) := I2.at 0; clear b6))
          | (go_at_call 106; refine (Away_any neg _ _ way _).mono ?_; rintro x w7 ⟨rfl, rfl⟩; rw [hAW])
          | fail)
          go_wp2_with (first
            | (go_at_call 108; (refine (Add_any _ _ ms [1] _ (hm6.grow ((Below.refl _ _).alloc (Nat.le_refl _) _)) (rd_one (by simp) (by decide) (by decide)) (by omega) (by decide)).mono ?_); (rintro x w8 ⟨u8, zd, rfl, hd8, nd8, vd8, b8⟩; have VD : Hid (val zd = val ms + 1) := (by show _ = _; rw [vd8, val_one]); clear vd8; obtain ⟨b9, _⟩ := var4 b8; clear b8; replace I1 := I1.below b9 I1.lt; replace I2 := I2.below b9 I2.lt; replace pr3 := bel pr3 b9; have z0 : w8.cell? ⟨w.heap.size, 0, none⟩ = some (.int .i64 53) := I1.at 0; have z1 : w8.cell? ⟨w.heap.size, 1, none⟩ = some (.int .i64 (-1074)) := I1.at 1; have z2 : w8.cell? ⟨w.heap.size, 2, none⟩ = some (.int .i64 971) := I1.at 2; have z3 : w8.cell? ⟨w.heap.size, 3, none⟩ = some (.int .i64 52) := I1.at 3; have y0 : w8.cell? ⟨w.heap.size + 1, 0, none⟩ = some (.bool neg) := I2.at 0; clear b9))
            | (go_at_call 109; refine (laid_w_any _ zd e way neg _ hd8 nd8 (by rw [VD.out]; omega) e1 (by omega)).mono ?_; rintro r w9 ⟨rfl, bb⟩)
            | fail)
          exact bodyPost_ret (v := .tuple #[.int .u64 (laidW neg (val zd) e way).1, .bool (laidW neg (val zd) e way).2]) (by simp [results, Try.results67, go_sem]) rfl ⟨e, val ms, val rs, FL.out, m0, ms1, e1, ST.out, by rw [RN.out, VD.out], bel pr3 bb⟩
      · have ers : rs = [] := nm_nil hrl
        subst ers
        have RN : Hid (rnd neg way (val ms) (val []) (val ds * 2 ^ e.toNat) = val ms) := by show rnd neg way (val ms) (val []) (val ds * 2 ^ e.toNat) = val ms; unfold rnd; exact if_neg (fun hh => hh.1 rfl)
        go_quiet (fail)
        have I5 : Blk (w2.drewN nq) w.heap.size #[.int .i64 53, .int .i64 (-1074), .int .i64 971, .int .i64 52] 31 := I1
        go_wp2_with (first
          | (go_at_call 109; refine (laid_w_any _ ms e way neg _ (show Rd (w2.drewN nq) _ _ from hm3) nm (by omega) e1 (by omega)).mono ?_; rintro r w9 ⟨rfl, bb⟩)
          | fail)
        exact bodyPost_ret (v := .tuple #[.int .u64 (laidW neg (val ms) e way).1, .bool (laidW neg (val ms) e way).2]) (by simp [results, Try.results67, go_sem]) rfl ⟨e, val ms, val [], FL.out, m0, ms1, e1, ST.out, by rw [RN.out], belN pr3 bb⟩
theorem lt_powS {m : Int} {a b : Nat} (h : m * 2 ^ a < 2 ^ b) (hb : b ≤ a + 24) : m < 16777216 := by
  have p := two_pow_pos a
  have q := two_pow_le hb
  rw [Int.pow_add, show (2 : Int) ^ 24 = 16777216 from by decide, Int.mul_comm] at q
  exact Int.lt_of_mul_lt_mul_right (show m * 2 ^ a < 16777216 * 2 ^ a by omega) (Int.le_of_lt p)
theorem ge_powS {m : Int} {a b : Nat} (h : 2 ^ b < (m + 1) * 2 ^ a) (hb : a + 23 ≤ b) : 8388608 ≤ m := by
  have p := two_pow_pos a
  have q := two_pow_le hb
  rw [Int.pow_add, show (2 : Int) ^ 23 = 8388608 from by decide, Int.mul_comm] at q
  have := Int.lt_of_mul_lt_mul_right (show 8388608 * 2 ^ a < (m + 1) * 2 ^ a by omega) (Int.le_of_lt p)
  omega
theorem flLtS {N D e m r : Int} (h : Fl N D e m r) (hN : 0 < N) (hD : 0 < D) (m0 : 0 ≤ m) (he : (bl N : Int) - bl D - 23 ≤ e) : m < 16777216 := by
  have bN := bl_pos hN
  have bD := bl_pos hD
  have h1 : m * (D * 2 ^ e.toNat) < 2 ^ (bl N + (-e).toNat) := by
    have a := Int.mul_lt_mul_of_pos_right bN.1 (two_pow_pos (-e).toNat)
    rw [← Int.pow_add] at a
    have := h.eq; have := h.r0; omega
  have h2 : m * 2 ^ (bl D - 1 + e.toNat) ≤ m * (D * 2 ^ e.toNat) := by
    refine Int.mul_le_mul_of_nonneg_left ?_ m0
    rw [Int.pow_add]
    exact Int.mul_le_mul_of_nonneg_right bD.2.2 (Int.le_of_lt (two_pow_pos _))
  exact lt_powS (Int.lt_of_le_of_lt h2 h1) (by omega)
theorem flGeS {N D e m r : Int} (h : Fl N D e m r) (hN : 0 < N) (hD : 0 < D) (m0 : 0 ≤ m) (he : e ≤ (bl N : Int) - bl D - 24) : 8388608 ≤ m := by
  have bN := bl_pos hN
  have bD := bl_pos hD
  have h1 : 2 ^ (bl N - 1 + (-e).toNat) < (m + 1) * (D * 2 ^ e.toNat) := by
    have a := Int.mul_le_mul_of_nonneg_right bN.2.2 (Int.le_of_lt (two_pow_pos (-e).toNat))
    rw [← Int.pow_add] at a
    have := h.eq; have := h.r1
    have e1 : (m + 1) * (D * 2 ^ e.toNat) = m * (D * 2 ^ e.toNat) + D * 2 ^ e.toNat := by grind
    omega
  have h2 : (m + 1) * (D * 2 ^ e.toNat) ≤ (m + 1) * 2 ^ (bl D + e.toNat) := by
    refine Int.mul_le_mul_of_nonneg_left ?_ (by omega)
    rw [Int.pow_add]
    exact Int.mul_le_mul_of_nonneg_right (Int.le_of_lt bD.1) (Int.le_of_lt (two_pow_pos _))
  exact ge_powS (Int.lt_of_lt_of_le h1 h2) (by omega)
theorem half1S {X q m r m' r' : Int} (q0 : 0 < q) (h : X = m * q + r) (r0 : 0 ≤ r) (h' : X = m' * (q * 2) + r') (r1 : r' < q * 2) (hm : 16777216 ≤ m) : 8388608 ≤ m' := by
  have g1 := Int.mul_le_mul_of_nonneg_right hm (Int.le_of_lt q0)
  have e1 : m' * (q * 2) + q * 2 = (m' + 1) * 2 * q := by grind
  have := Int.lt_of_mul_lt_mul_right (show 16777216 * q < (m' + 1) * 2 * q by omega) (Int.le_of_lt q0)
  omega
theorem half2S {X q m r m' r' : Int} (q0 : 0 < q) (h : X * 2 = m * q + r) (r0 : 0 ≤ r) (h' : X = m' * q + r') (r1 : r' < q) (hm : 16777216 ≤ m) : 8388608 ≤ m' := by
  have g1 := Int.mul_le_mul_of_nonneg_right hm (Int.le_of_lt q0)
  have e1 : (m' + 1) * 2 * q = m' * q * 2 + q * 2 := by grind
  have := Int.lt_of_mul_lt_mul_right (show 16777216 * q < (m' + 1) * 2 * q by omega) (Int.le_of_lt q0)
  omega
/-- One place further up. -/
theorem flHalfS {N D e m r m' r' : Int} (h : Fl N D e m r) (h' : Fl N D (e + 1) m' r') (hD : 0 < D) (hm : 16777216 ≤ m) : 8388608 ≤ m' := by
  have e1 := h.eq
  have e2 := h'.eq
  have b := h'.r1
  by_cases he : 0 ≤ e
  · rw [show (-e).toNat = 0 from by omega] at e1
    rw [show (-(e + 1)).toNat = 0 from by omega, show (e + 1).toNat = e.toNat + 1 from by omega, Int.pow_succ, ← Int.mul_assoc D] at e2
    rw [show (e + 1).toNat = e.toNat + 1 from by omega, Int.pow_succ, ← Int.mul_assoc] at b
    exact half1S (Int.mul_pos hD (two_pow_pos _)) e1 h.r0 e2 b hm
  · rw [show (-e).toNat = (-(e + 1)).toNat + 1 from by omega, Int.pow_succ, ← Int.mul_assoc, show e.toNat = 0 from by omega] at e1
    rw [show (e + 1).toNat = 0 from by omega] at e2 b
    exact half2S (show 0 < D * 2 ^ 0 by simpa using hD) e1 h.r0 e2 b hm
theorem big_blS {m : Int} (h : 24 < bl m) : 16777216 ≤ m := by
  by_cases c : 0 < m
  · have b := bl_pos c
    have := two_pow_le (show 24 ≤ bl m - 1 by omega)
    have e : (2 : Int) ^ 24 = 16777216 := by decide
    omega
  · unfold bl at h; rw [if_pos (by omega)] at h; omega
theorem not_bigS {m : Int} (h0 : 0 ≤ m) (h : ¬ 24 < bl m) : m < 16777216 := by
  by_cases c : 0 < m
  · have b := bl_pos c
    have := two_pow_le (show bl m ≤ 24 by omega)
    have e : (2 : Int) ^ 24 = 16777216 := by decide
    omega
  · omega
set_option maxHeartbeats 3200000 in
set_option maxRecDepth 100000 in
/-- Size's Rounded, of floats: where nothing is lost. -/
theorem Rounded_s_any (neg : Bool) (v1 v2 : Value) (ns ds : List Int) (way : Int) (w : World) (h1 : Rd w v1 ns) (h2 : Rd w v2 ds) (n1 : Nm ns) (n2 : Nm ds) (l1 : ns.length ≤ 900) (l2 : ds.length ≤ 900) (N0 : 0 < val ns) (D0 : 0 < val ds) :
    Calls Try.prog 67 #[.agg #[.int .i64 24, .int .i64 (-149), .int .i64 104, .int .i64 23], .agg #[.bool neg, v1, v2], .int .i64 way] w fun r w' => ∃ e m q : Int, Fl (val ns) (val ds) e m q ∧ 0 ≤ m ∧ m < 16777216 ∧ -149 ≤ e ∧ (e = -149 ∨ 8388608 ≤ m) ∧ r = .returned (.tuple #[.int .u64 (laidS neg (rnd neg way m q (val ds * 2 ^ e.toNat)) e way).1, .bool (laidS neg (rnd neg way m q (val ds * 2 ^ e.toNat)) e way).2]) ∧ Below w.heap.size w w' := by
  have p1 : 0 < ns.length := by
    by_cases c : 0 < ns.length
    · exact c
    · rw [nm_nil c] at N0; simp [val] at N0
  obtain ⟨a1, c1, rfl⟩ : ∃ a1 c1, v1 = .slice a1 ns.length c1 := by obtain ⟨_, a1, c1, e, _⟩ := h1; exact ⟨a1, c1, e⟩
  obtain ⟨a2, c2, rfl⟩ : ∃ a1 c1, v2 = .slice a1 ds.length c1 := by obtain ⟨_, a1, c1, e, _⟩ := h2; exact ⟨a1, c1, e⟩
  have b1 := bl_len h1.1
  have b2 := bl_len h2.1
  obtain ⟨LN, hLN⟩ : ∃ L : Nat, L = bl (val ns) := ⟨_, rfl⟩
  obtain ⟨LD, hLD⟩ : ∃ L : Nat, L = bl (val ds) := ⟨_, rfl⟩
  rw [← hLN] at b1
  rw [← hLD] at b2
  have HLN : Hid (LN = bl (val ns)) := hLN
  have HLD : Hid (LD = bl (val ds)) := hLD
  clear hLN hLD
  obtain ⟨E0, hE0⟩ : ∃ E : Int, (if (LN : Int) - LD - 24 < -149 then -149 else (LN : Int) - LD - 24) = E := ⟨_, rfl⟩
  have E1 : -149 ≤ E0 ∧ (LN : Int) - LD - 24 ≤ E0 ∧ (E0 = -149 ∨ E0 = (LN : Int) - LD - 24) := by rw [← hE0]; split <;> omega
  have K1 : Blk ((w.alloc (.cells #[.int .i64 24, .int .i64 (-149), .int .i64 104, .int .i64 23] 31)).alloc (.cells #[.bool neg, .slice a1 ns.length c1, .slice a2 ds.length c2] 104)) w.heap.size #[.int .i64 24, .int .i64 (-149), .int .i64 104, .int .i64 23] 31 := (Blk.new w _ _).alloc _
  have K2 := Blk.new (w.alloc (.cells #[.int .i64 24, .int .i64 (-149), .int .i64 104, .int .i64 23] 31)) #[.bool neg, .slice a1 ns.length c1, .slice a2 ds.length c2] 104
  simp only [World.size_alloc] at K2
  have pr : Below w.heap.size w ((w.alloc (.cells #[.int .i64 24, .int .i64 (-149), .int .i64 104, .int .i64 23] 31)).alloc (.cells #[.bool neg, .slice a1 ns.length c1, .slice a2 ds.length c2] 104)) := ((Below.refl _ _).alloc (Nat.le_refl _) _).alloc (by simp) _
  go_enter Try.func67, Try.ntmps67
  go_wp2_with (first
    | (go_at_call 103; (refine (Sign_any neg a1 a2 ns.length c1 ds.length c2 _ p1).mono ?_; rintro r w1 ⟨⟨s, rfl, hs⟩, bb⟩; have hs2 : (s == 0) = false := beq_eq_false_iff_ne.2 hs; replace K1 := K1.below bb K1.lt; replace K2 := K2.below bb K2.lt; replace pr := pr.trans (bb.mono pr.size); clear bb; have e0 : w1.cell? ⟨w.heap.size, 0, none⟩ = some (.int .i64 24) := K1.at 0; have e1 : w1.cell? ⟨w.heap.size, 1, none⟩ = some (.int .i64 (-149)) := K1.at 1; have f1 : w1.cell? ⟨w.heap.size + 1, 1, none⟩ = some (.slice a1 ns.length c1) := K2.at 1; have f2 : w1.cell? ⟨w.heap.size + 1, 2, none⟩ = some (.slice a2 ds.length c2) := K2.at 2))
    | fail)
  have g1 := h1.grow pr
  have g2 := h2.grow pr
  have B1 : ∀ k, Calls Try.prog 82 #[.slice a1 ns.length c1] (w1.drewN k) fun e w' => e = .returned (.int .i64 LN) ∧ ∃ n, w' = (w1.drewN k).drewN n := fun k => by rw [HLN.out]; exact Bits_q _ ns _ (show Rd (w1.drewN k) _ _ from g1) n1 (by omega)
  have B2 : ∀ k, Calls Try.prog 82 #[.slice a2 ds.length c2] (w1.drewN k) fun e w' => e = .returned (.int .i64 LD) ∧ ∃ n, w' = (w1.drewN k).drewN n := fun k => by rw [HLD.out]; exact Bits_q _ ds _ (show Rd (w1.drewN k) _ _ from g2) n2 (by omega)
  go_quiet (first
    | (go_at_call 82; with_reducible exact Calls.quiet_of (B1 _))
    | (go_at_call 82; with_reducible exact Calls.quiet_of (B2 _)))
  have J1 : Blk (w1.drewN nq) w.heap.size #[.int .i64 24, .int .i64 (-149), .int .i64 104, .int .i64 23] 31 := K1
  have J2 : Blk (w1.drewN nq) (w.heap.size + 1) #[.bool neg, .slice a1 ns.length c1, .slice a2 ds.length c2] 104 := K2
  have pr2 : Below w.heap.size w (w1.drewN nq) := ⟨pr.os, pr.tape, pr.output, pr.size, pr.block⟩
  clear B1 B2 e0 e1 f1 f2 K1 K2 pr g1 g2
  generalize w1.drewN nq = W at *
  have z0 : W.cell? ⟨w.heap.size, 0, none⟩ = some (.int .i64 24) := J1.at 0
  have z1 : W.cell? ⟨w.heap.size, 1, none⟩ = some (.int .i64 (-149)) := J1.at 1
  have z2 : W.cell? ⟨w.heap.size, 2, none⟩ = some (.int .i64 104) := J1.at 2
  have z3 : W.cell? ⟨w.heap.size, 3, none⟩ = some (.int .i64 23) := J1.at 3
  have y0 : W.cell? ⟨w.heap.size + 1, 0, none⟩ = some (.bool neg) := J2.at 0
  have y1 : W.cell? ⟨w.heap.size + 1, 1, none⟩ = some (.slice a1 ns.length c1) := J2.at 1
  have y2 : W.cell? ⟨w.heap.size + 1, 2, none⟩ = some (.slice a2 ds.length c2) := J2.at 2
  go_wp2_with (first
    | (go_at_call 104; (refine (floor_any 24 (-149) 104 23 neg _ _ ns ds E0 _ (h1.grow pr2) (h2.grow pr2) n1 n2 (by omega) (by omega) (by omega) (by omega) D0).mono ?_; rintro r w2 ⟨u1, u2, ms, rs, rfl, hm, nm, hr, nr, fe, r0, r1, lm, lr, bb⟩; have FL : Hid (Fl (val ns) (val ds) E0 (val ms) (val rs)) := ⟨fe, r0, r1⟩; clear fe r0 r1; replace J1 := J1.below bb J1.lt; replace J2 := J2.below bb J2.lt; replace pr2 := pr2.trans (bb.mono pr2.size); clear bb))
    | fail)
  have ST : Hid (E0 = -149 ∨ 8388608 ≤ val ms) := by
    rcases E1.2.2 with h | h
    · exact Or.inl h
    · exact Or.inr (flGeS FL.out N0 D0 (val_nonneg hm.1) (by rw [← HLN.out, ← HLD.out]; omega))
  have EB : Hid (E0 ≤ 30000) := show E0 ≤ 30000 by omega
  have E00 : Hid (-149 ≤ E0) := E1.1
  clear hE0 E1 z0 z1 z2 z3 y0 y1 y2
  go_loopw [8, 9, 10] (fun a b c wr => ∃ (e : Int) (ms rs : List Int), a = .int .i64 e ∧ Rd wr b ms ∧ Nm ms ∧ Rd wr c rs ∧ Nm rs ∧ Fl (val ns) (val ds) e (val ms) (val rs) ∧ -149 ≤ e ∧ e ≤ 30000 ∧ (e = -149 ∨ 8388608 ≤ val ms) ∧ ms.length ≤ 2000000 ∧ rs.length ≤ 2000000 ∧ Blk wr w.heap.size #[.int .i64 24, .int .i64 (-149), .int .i64 104, .int .i64 23] 31 ∧ Blk wr (w.heap.size + 1) #[.bool neg, .slice a1 ns.length c1, .slice a2 ds.length c2] 104 ∧ Below w.heap.size w wr) (fun a _ _ _ => ((LN : Int) - LD - 23 - intOf a).toNat)
  case atStart => exact ⟨E0, ms, rs, rfl, hm, nm, hr, nr, FL.out, E00.out, EB.out, ST.out, lm, lr, J1, J2, pr2⟩
  case round =>
    clear hm nm hr nr FL ST EB E00 lm lr J1 J2 pr2
    obtain ⟨e, ms, rs, rfl, hm, nm, hr, nr, fl, e1, e2, st, lm, lr, J1, J2, pr2⟩ := hrel
    have FL : Hid (Fl (val ns) (val ds) e (val ms) (val rs)) := fl
    have ST : Hid (e = -149 ∨ 8388608 ≤ val ms) := st
    clear fl st
    obtain ⟨wl, rfl⟩ : ∃ wl : World, wl = wr := ⟨_, rfl⟩
    have z0 : wl.cell? ⟨w.heap.size, 0, none⟩ = some (.int .i64 24) := J1.at 0
    obtain ⟨LM, hLM⟩ : ∃ L : Nat, L = bl (val ms) := ⟨_, rfl⟩
    have HLM : Hid (LM = bl (val ms)) := hLM
    have B1 : ∀ k, Calls Try.prog 82 #[u9] (wl.drewN k) fun e w' => e = .returned (.int .i64 LM) ∧ ∃ n, w' = (wl.drewN k).drewN n := fun k => by rw [hLM]; exact Bits_q _ ms _ (show Rd (wl.drewN k) _ _ from hm) nm (by omega)
    clear hLM
    have m0 := val_nonneg hm.1
    by_cases hbig : 24 < LM
    · have hb2 : (24 : Int) < LM := by omega
      have mb : Hid (16777216 ≤ val ms) := big_blS (by rw [← HLM.out]; exact hbig)
      have lt : e < (LN : Int) - LD - 23 := by
        by_cases c : e < (LN : Int) - LD - 23
        · exact c
        · have := flLtS FL.out N0 D0 m0 (by rw [← HLN.out, ← HLD.out]; omega); have := mb.out; omega
      have ew : IntKind.i64.wrap (e + 1) = e + 1 := wrap_self _ (by omega) (by omega)
      go_wp2_with fail
      go_quiet ((go_at_call 82; with_reducible exact Calls.quiet_of (B1 _)))
      have I1 : Blk (wl.drewN nq) w.heap.size #[.int .i64 24, .int .i64 (-149), .int .i64 104, .int .i64 23] 31 := J1
      have I2 : Blk (wl.drewN nq) (w.heap.size + 1) #[.bool neg, .slice a1 ns.length c1, .slice a2 ds.length c2] 104 := J2
      have pr3 : Below w.heap.size w (wl.drewN nq) := ⟨pr2.os, pr2.tape, pr2.output, pr2.size, pr2.block⟩
      clear B1 z0 J1 J2 pr2 hm hr
      generalize wl.drewN nq = W2 at *
      have z0 : W2.cell? ⟨w.heap.size, 0, none⟩ = some (.int .i64 24) := I1.at 0
      have z1 : W2.cell? ⟨w.heap.size, 1, none⟩ = some (.int .i64 (-149)) := I1.at 1
      have z2 : W2.cell? ⟨w.heap.size, 2, none⟩ = some (.int .i64 104) := I1.at 2
      have z3 : W2.cell? ⟨w.heap.size, 3, none⟩ = some (.int .i64 23) := I1.at 3
      have y0 : W2.cell? ⟨w.heap.size + 1, 0, none⟩ = some (.bool neg) := I2.at 0
      have y1 : W2.cell? ⟨w.heap.size + 1, 1, none⟩ = some (.slice a1 ns.length c1) := I2.at 1
      have y2 : W2.cell? ⟨w.heap.size + 1, 2, none⟩ = some (.slice a2 ds.length c2) := I2.at 2
      go_wp2_with (first
        | (go_at_call 104; (refine (floor_any 24 (-149) 104 23 neg _ _ ns ds (e + 1) _ (h1.grow pr3) (h2.grow pr3) n1 n2 (by omega) (by omega) (by omega) (by omega) D0).mono ?_; rintro r w2 ⟨v1, v2, ms2, rs2, rfl, hm2, nm2, hr2, nr2, fe, r0, r1, lm2, lr2, bb⟩; have FL2 : Hid (Fl (val ns) (val ds) (e + 1) (val ms2) (val rs2)) := ⟨fe, r0, r1⟩; clear fe r0 r1; replace I1 := I1.below bb I1.lt; replace I2 := I2.below bb I2.lt; replace pr3 := pr3.trans (bb.mono pr3.size); clear bb))
        | fail)
      go_roundw
      case rel => exact ⟨e + 1, ms2, rs2, rfl, hm2, nm2, hr2, nr2, FL2.out, by omega, by omega, Or.inr (flHalfS FL.out FL2.out D0 mb.out), lm2, lr2, I1, I2, pr3⟩
      case measure => simp [intOf]; omega
    · have hb2 : ¬ (24 : Int) < LM := by omega
      have ms1 : val ms < 16777216 := not_bigS m0 (by rw [← HLM.out]; exact hbig)
      obtain ⟨ar, cr, eur⟩ : ∃ a1 c1, u10 = .slice a1 rs.length c1 := by obtain ⟨_, a1, c1, e, _⟩ := hr; exact ⟨a1, c1, e⟩
      subst eur
      go_wp2_with fail
      go_quiet ((go_at_call 82; with_reducible exact Calls.quiet_of (B1 _)))
      have I1 : Blk (wl.drewN nq) w.heap.size #[.int .i64 24, .int .i64 (-149), .int .i64 104, .int .i64 23] 31 := J1
      have I2 : Blk (wl.drewN nq) (w.heap.size + 1) #[.bool neg, .slice a1 ns.length c1, .slice a2 ds.length c2] 104 := J2
      have pr3 : Below w.heap.size w (wl.drewN nq) := ⟨pr2.os, pr2.tape, pr2.output, pr2.size, pr2.block⟩
      have hm2 : Rd (wl.drewN nq) u9 ms := hm
      have hr2 : Rd (wl.drewN nq) (.slice ar rs.length cr) rs := hr
      clear B1 z0 J1 J2 pr2 hm hr
      generalize wl.drewN nq = W2 at *
      have y0 : W2.cell? ⟨w.heap.size + 1, 0, none⟩ = some (.bool neg) := I2.at 0
      have y1 : W2.cell? ⟨w.heap.size + 1, 1, none⟩ = some (.slice a1 ns.length c1) := I2.at 1
      have y2 : W2.cell? ⟨w.heap.size + 1, 2, none⟩ = some (.slice a2 ds.length c2) := I2.at 2
      go_wp2_with (first
        | (go_at_call 105; (refine (scaled_any neg _ _ ns ds e _ (h1.grow pr3) (h2.grow pr3) n1 n2 (by omega) (by omega) (by omega) (by omega)).mono ?_; rintro r w2 ⟨t1, t2, za, zb, rfl, _, _, hzb, nzb, _, vzb, _, _, bb⟩; have VZ : Hid (val zb = val ds * 2 ^ e.toNat) := vzb; clear vzb; replace I1 := I1.below bb I1.lt; replace I2 := I2.below bb I2.lt; replace pr3 := pr3.trans (bb.mono pr3.size); have hm3 := hm2.grow bb; have hr3 := hr2.grow bb; clear bb y0 y1 y2; have z0 : w2.cell? ⟨w.heap.size, 0, none⟩ = some (.int .i64 24) := I1.at 0; have z1 : w2.cell? ⟨w.heap.size, 1, none⟩ = some (.int .i64 (-149)) := I1.at 1; have z2 : w2.cell? ⟨w.heap.size, 2, none⟩ = some (.int .i64 104) := I1.at 2; have z3 : w2.cell? ⟨w.heap.size, 3, none⟩ = some (.int .i64 23) := I1.at 3; have y0 : w2.cell? ⟨w.heap.size + 1, 0, none⟩ = some (.bool neg) := I2.at 0))
        | fail)
      by_cases hrl : 0 < rs.length
      · have hd : decide ((0 : Int) < rs.length) = true := by simp; omega
        have rp : Hid (val rs ≠ 0) := by have := nm_pos hr3.1 nr hrl; show val rs ≠ 0; omega
        have S1 : ∀ (w : World) (v : Value), Rd w v rs → Calls Try.prog 79 #[v, .int .i64 1] w fun e w' => ∃ r zs, e = .returned r ∧ Rd w' r zs ∧ Nm zs ∧ val zs = val rs * 2 ∧ Below w.heap.size w w' := fun w v h => (Shl_any v rs 1 w h (by omega) (by decide)).mono (by rintro x w' ⟨r, zs, a, b, c, d, f⟩; exact ⟨r, zs, a, b, c, by rw [d]; simp, f⟩)
        cases hAW : awayF way neg (!decide (val ms % 2 = 0)) (cmp3 (val rs * 2) (val zb))
        · have RN : Hid (rnd neg way (val ms) (val rs) (val ds * 2 ^ e.toNat) = val ms) := by
            show rnd neg way (val ms) (val rs) (val ds * 2 ^ e.toNat) = _
            unfold rnd
            rw [← VZ.out]
            exact if_neg (fun hh => by rw [hh.2] at hAW; cases hAW)
          go_region_held3 (fun x => x.cell? ⟨w.heap.size + 1, 0, none⟩ = some (.bool neg)) (go_keep) (first
          | (go_at_call 107; (refine (Even_any _ ms _ hm3.drew).mono ?_; rintro x w3 ⟨rfl, e3⟩; subst e3))
          | (go_at_call 79; (refine (S1 _ _ hr3.drew).mono ?_); (rintro x w5 ⟨u, zc, rfl, hu, nu, vu, b5⟩; have VU : Hid (val zc = val rs * 2) := vu; clear vu; have hm5 := hm3.grow (below_undrew b5); have hz5 := hzb.grow (below_undrew b5); replace I1 := I1.below (below_undrew b5) I1.lt; replace I2 := I2.below (below_undrew b5) I2.lt; replace pr3 := bel pr3 (below_undrew b5); have z0 : w5.cell? ⟨w.heap.size, 0, none⟩ = some (.int .i64 24) := I1.at 0; have z1 : w5.cell? ⟨w.heap.size, 1, none⟩ = some (.int .i64 (-149)) := I1.at 1; have z2 : w5.cell? ⟨w.heap.size, 2, none⟩ = some (.int .i64 104) := I1.at 2; have z3 : w5.cell? ⟨w.heap.size, 3, none⟩ = some (.int .i64 23) := I1.at 3; have y0 : w5.cell? ⟨w.heap.size + 1, 0, none⟩ = some (.bool neg) := I2.at 0; clear b5))
          | (go_at_call 79; (refine (S1 _ _ hr3).mono ?_); (rintro x w5 ⟨u, zc, rfl, hu, nu, vu, b5⟩; have VU : Hid (val zc = val rs * 2) := vu; clear vu; have hm5 := hm3.grow b5; have hz5 := hzb.grow b5; replace I1 := I1.below b5 I1.lt; replace I2 := I2.below b5 I2.lt; replace pr3 := bel pr3 b5; have z0 : w5.cell? ⟨w.heap.size, 0, none⟩ = some (.int .i64 24) := I1.at 0; have z1 : w5.cell? ⟨w.heap.size, 1, none⟩ = some (.int .i64 (-149)) := I1.at 1; have z2 : w5.cell? ⟨w.heap.size, 2, none⟩ = some (.int .i64 104) := I1.at 2; have z3 : w5.cell? ⟨w.heap.size, 3, none⟩ = some (.int .i64 23) := I1.at 3; have y0 : w5.cell? ⟨w.heap.size + 1, 0, none⟩ = some (.bool neg) := I2.at 0; clear b5))
          | (go_at_call 83; (refine (Cmp_any _ _ zc zb _ hu hz5 nu nzb (by have h9 := shl_len2 (n := 1) hr3.1 hu.1 nu (by rw [VU.out]; simp); simp at h9; omega)).mono ?_); (rintro x w6 ⟨rfl, b6⟩; rw [VU.out]; have hm6 := hm5.grow b6; replace I1 := I1.below b6 I1.lt; replace I2 := I2.below b6 I2.lt; replace pr3 := bel pr3 b6; have z0 : w6.cell? ⟨w.heap.size, 0, none⟩ = some (.int .i64 24) := I1.at 0; have z1 : w6.cell? ⟨w.heap.size, 1, none⟩ = some (.int .i64 (-149)) := I1.at 1; have z2 : w6.cell? ⟨w.heap.size, 2, none⟩ = some (.int .i64 104) := I1.at 2; have z3 : w6.cell? ⟨w.heap.size, 3, none⟩ = some (.int .i64 23) := I1.at 3; have y0 : w6.cell? ⟨w.heap.size + 1, 0, none⟩ = some (.bool neg) := I2.at 0; clear b6))
          | (go_at_call 106; refine (Away_any neg _ _ way _).mono ?_; rintro x w7 ⟨rfl, rfl⟩; rw [hAW])
          | fail)
          go_wp2_with (first
            | (go_at_call 109; refine (laid_s_any _ ms e way neg _ hm6 nm (by omega) e1 (by omega)).mono ?_; rintro r w9 ⟨rfl, bb⟩)
            | fail)
          exact bodyPost_ret (v := .tuple #[.int .u64 (laidS neg (val ms) e way).1, .bool (laidS neg (val ms) e way).2]) (by simp [results, Try.results67, go_sem]) rfl ⟨e, val ms, val rs, FL.out, m0, ms1, e1, ST.out, by rw [RN.out], bel pr3 bb⟩
        · have RN : Hid (rnd neg way (val ms) (val rs) (val ds * 2 ^ e.toNat) = val ms + 1) := by
            show rnd neg way (val ms) (val rs) (val ds * 2 ^ e.toNat) = _
            unfold rnd
            rw [← VZ.out]
            exact if_pos ⟨rp.out, hAW⟩
          go_region_held3 (fun x => x.cell? ⟨w.heap.size + 1, 0, none⟩ = some (.bool neg)) (go_keep) (first
          | (go_at_call 107; (refine (Even_any _ ms _ hm3.drew).mono ?_; rintro x w3 ⟨rfl, e3⟩; subst e3))
          | (go_at_call 79; (refine (S1 _ _ hr3.drew).mono ?_); (rintro x w5 ⟨u, zc, rfl, hu, nu, vu, b5⟩; have VU : Hid (val zc = val rs * 2) := vu; clear vu; have hm5 := hm3.grow (below_undrew b5); have hz5 := hzb.grow (below_undrew b5); replace I1 := I1.below (below_undrew b5) I1.lt; replace I2 := I2.below (below_undrew b5) I2.lt; replace pr3 := bel pr3 (below_undrew b5); have z0 : w5.cell? ⟨w.heap.size, 0, none⟩ = some (.int .i64 24) := I1.at 0; have z1 : w5.cell? ⟨w.heap.size, 1, none⟩ = some (.int .i64 (-149)) := I1.at 1; have z2 : w5.cell? ⟨w.heap.size, 2, none⟩ = some (.int .i64 104) := I1.at 2; have z3 : w5.cell? ⟨w.heap.size, 3, none⟩ = some (.int .i64 23) := I1.at 3; have y0 : w5.cell? ⟨w.heap.size + 1, 0, none⟩ = some (.bool neg) := I2.at 0; clear b5))
          | (go_at_call 79; (refine (S1 _ _ hr3).mono ?_); (rintro x w5 ⟨u, zc, rfl, hu, nu, vu, b5⟩; have VU : Hid (val zc = val rs * 2) := vu; clear vu; have hm5 := hm3.grow b5; have hz5 := hzb.grow b5; replace I1 := I1.below b5 I1.lt; replace I2 := I2.below b5 I2.lt; replace pr3 := bel pr3 b5; have z0 : w5.cell? ⟨w.heap.size, 0, none⟩ = some (.int .i64 24) := I1.at 0; have z1 : w5.cell? ⟨w.heap.size, 1, none⟩ = some (.int .i64 (-149)) := I1.at 1; have z2 : w5.cell? ⟨w.heap.size, 2, none⟩ = some (.int .i64 104) := I1.at 2; have z3 : w5.cell? ⟨w.heap.size, 3, none⟩ = some (.int .i64 23) := I1.at 3; have y0 : w5.cell? ⟨w.heap.size + 1, 0, none⟩ = some (.bool neg) := I2.at 0; clear b5))
          | (go_at_call 83; (refine (Cmp_any _ _ zc zb _ hu hz5 nu nzb (by have h9 := shl_len2 (n := 1) hr3.1 hu.1 nu (by rw [VU.out]; simp); simp at h9; omega)).mono ?_); (rintro x w6 ⟨rfl, b6⟩; rw [VU.out]; have hm6 := hm5.grow b6; replace I1 := I1.below b6 I1.lt; replace I2 := I2.below b6 I2.lt; replace pr3 := bel pr3 b6; have z0 : w6.cell? ⟨w.heap.size, 0, none⟩ = some (.int .i64 24) := I1.at 0; have z1 : w6.cell? ⟨w.heap.size, 1, none⟩ = some (.int .i64 (-149)) := I1.at 1; have z2 : w6.cell? ⟨w.heap.size, 2, none⟩ = some (.int .i64 104) := I1.at 2; have z3 : w6.cell? ⟨w.heap.size, 3, none⟩ = some (.int .i64 23) := I1.at 3; have y0 : w6.cell? ⟨w.heap.size + 1, 0, none⟩ = some (.bool neg) := I2.at 0; clear b6))
          | (go_at_call 106; refine (Away_any neg _ _ way _).mono ?_; rintro x w7 ⟨rfl, rfl⟩; rw [hAW])
          | fail)
          go_wp2_with (first
            | (go_at_call 108; (refine (Add_any _ _ ms [1] _ (hm6.grow ((Below.refl _ _).alloc (Nat.le_refl _) _)) (rd_one (by simp) (by decide) (by decide)) (by omega) (by decide)).mono ?_); (rintro x w8 ⟨u8, zd, rfl, hd8, nd8, vd8, b8⟩; have VD : Hid (val zd = val ms + 1) := (by show _ = _; rw [vd8, val_one]); clear vd8; obtain ⟨b9, _⟩ := var4 b8; clear b8; replace I1 := I1.below b9 I1.lt; replace I2 := I2.below b9 I2.lt; replace pr3 := bel pr3 b9; have z0 : w8.cell? ⟨w.heap.size, 0, none⟩ = some (.int .i64 24) := I1.at 0; have z1 : w8.cell? ⟨w.heap.size, 1, none⟩ = some (.int .i64 (-149)) := I1.at 1; have z2 : w8.cell? ⟨w.heap.size, 2, none⟩ = some (.int .i64 104) := I1.at 2; have z3 : w8.cell? ⟨w.heap.size, 3, none⟩ = some (.int .i64 23) := I1.at 3; have y0 : w8.cell? ⟨w.heap.size + 1, 0, none⟩ = some (.bool neg) := I2.at 0; clear b9))
            | (go_at_call 109; refine (laid_s_any _ zd e way neg _ hd8 nd8 (by rw [VD.out]; omega) e1 (by omega)).mono ?_; rintro r w9 ⟨rfl, bb⟩)
            | fail)
          exact bodyPost_ret (v := .tuple #[.int .u64 (laidS neg (val zd) e way).1, .bool (laidS neg (val zd) e way).2]) (by simp [results, Try.results67, go_sem]) rfl ⟨e, val ms, val rs, FL.out, m0, ms1, e1, ST.out, by rw [RN.out, VD.out], bel pr3 bb⟩
      · have ers : rs = [] := nm_nil hrl
        subst ers
        have RN : Hid (rnd neg way (val ms) (val []) (val ds * 2 ^ e.toNat) = val ms) := by show rnd neg way (val ms) (val []) (val ds * 2 ^ e.toNat) = val ms; unfold rnd; exact if_neg (fun hh => hh.1 rfl)
        go_quiet (fail)
        have I5 : Blk (w2.drewN nq) w.heap.size #[.int .i64 24, .int .i64 (-149), .int .i64 104, .int .i64 23] 31 := I1
        go_wp2_with (first
          | (go_at_call 109; refine (laid_s_any _ ms e way neg _ (show Rd (w2.drewN nq) _ _ from hm3) nm (by omega) e1 (by omega)).mono ?_; rintro r w9 ⟨rfl, bb⟩)
          | fail)
        exact bodyPost_ret (v := .tuple #[.int .u64 (laidS neg (val ms) e way).1, .bool (laidS neg (val ms) e way).2]) (by simp [results, Try.results67, go_sem]) rfl ⟨e, val ms, val [], FL.out, m0, ms1, e1, ST.out, by rw [RN.out], belN pr3 bb⟩
end Go.Proofs.Ytlngkonmalallaa.L

namespace Go.Proofs.Ytlngkonmalallaa.L
open Go.RowKit Tl

/-- The bits of 2 to the T - 1074. -/
def gapB (T : Nat) : Int := if T ≤ 51 then 2 ^ T else ((T : Int) - 51) * 4503599627370496
theorem fl_core {D m r : Int} {T k : Nat} (hD : 0 < D) (h : D * 2 ^ T = m * (D * 2 ^ k) + r) (r0 : 0 ≤ r) (r1 : r < D * 2 ^ k) (m0 : 0 ≤ m) : (k ≤ T → m = 2 ^ (T - k) ∧ r = 0) ∧ (T < k → m = 0) := by
  have pk : 0 < D * 2 ^ k := Int.mul_pos hD (two_pow_pos k)
  constructor
  · intro hk
    have e : D * 2 ^ T = 2 ^ (T - k) * (D * 2 ^ k) := by
      rw [show T = (T - k) + k from by omega, Int.pow_add, show T - k + k - k = T - k from by omega]; grind
    have f : (2 ^ (T - k) - m) * (D * 2 ^ k) = r := by rw [Int.sub_mul]; omega
    generalize (2 : Int) ^ (T - k) = a at *
    generalize D * 2 ^ k = b at *
    have g : a - m = 0 := by
      by_cases c : a - m = 0
      · exact c
      · rcases Int.lt_or_gt_of_ne c with c | c
        · have := Int.mul_le_mul_of_nonneg_right (show a - m ≤ -1 by omega) (Int.le_of_lt pk); omega
        · have := Int.mul_le_mul_of_nonneg_right (show 1 ≤ a - m by omega) (Int.le_of_lt pk); omega
    rw [g] at f
    exact ⟨by omega, by simp at f; omega⟩
  · intro hk
    have a : D * 2 ^ T < D * 2 ^ k := by
      refine Int.mul_lt_mul_of_pos_left ?_ hD
      have h1 := two_pow_le (show T + 1 ≤ k by omega)
      rw [Int.pow_succ] at h1
      have := two_pow_pos T
      omega
    by_cases c : m = 0
    · exact c
    · have := Int.mul_le_mul_of_nonneg_right (show 1 ≤ m by omega) (Int.le_of_lt pk); omega
theorem fl_star {N D e m r : Int} {T k Z : Nat} (h : Fl N D e m r) (hc : N * 2 ^ Z = D * 2 ^ T) (hk : (k : Int) = e + Z) : ∃ j : Nat, D * 2 ^ T = m * (D * 2 ^ k) + r * 2 ^ j ∧ r * 2 ^ j < D * 2 ^ k := by
  have e1 := h.eq
  have e2 := h.r1
  by_cases he : 0 ≤ e
  · refine ⟨Z, ?_, ?_⟩
    · rw [show (-e).toNat = 0 from by omega, Int.pow_zero, Int.mul_one] at e1
      rw [← hc, e1, show k = e.toNat + Z from by omega, Int.pow_add]; grind
    · have := Int.mul_lt_mul_of_pos_right e2 (two_pow_pos Z)
      rw [show k = e.toNat + Z from by omega, Int.pow_add, ← Int.mul_assoc]; exact this
  · rw [show e.toNat = 0 from by omega, Int.pow_zero, Int.mul_one] at e1 e2
    refine ⟨k, ?_, Int.mul_lt_mul_of_pos_right e2 (two_pow_pos k)⟩
    have f : N * 2 ^ Z = N * 2 ^ (-e).toNat * 2 ^ k := by rw [Int.mul_assoc, ← Int.pow_add]; congr 2; omega
    rw [← hc, f, e1]; grind
theorem pow_lt {a b : Nat} (h : (2 : Int) ^ a < 2 ^ b) : a < b := by
  by_cases c : a < b
  · exact c
  · have := two_pow_le (show b ≤ a by omega); omega
theorem gap_exact {N D e m r : Int} {T Z : Nat} (hZ : Z = 1074) (hT : T ≤ 2045) (hD : 0 < D) (hc : N * 2 ^ Z = D * 2 ^ T) (h : Fl N D e m r) (m0 : 0 ≤ m) (e0 : -1074 ≤ e) (m1 : m < 9007199254740992) (st : e = -1074 ∨ 4503599627370496 ≤ m) : (r = 0 ∧ e ≤ 971) ∧ lay52 m e = gapB T := by
  obtain ⟨k, hk⟩ : ∃ k : Nat, (k : Int) = e + Z := ⟨(e + Z).toNat, by omega⟩
  obtain ⟨j, s1, s2⟩ := fl_star h hc hk
  have r0 := h.r0
  have rj : 0 ≤ r * 2 ^ j := Int.mul_nonneg r0 (Int.le_of_lt (two_pow_pos j))
  obtain ⟨c1, c2⟩ := fl_core hD s1 rj s2 m0
  have hkT : k ≤ T := by
    by_cases c : k ≤ T
    · exact c
    · have := c2 (by omega)
      rcases st with st | st <;> omega
  obtain ⟨hm, hr⟩ := c1 hkT
  have r00 : r = 0 := by
    by_cases c : r = 0
    · exact c
    · have := Int.mul_pos (show 0 < r by omega) (two_pow_pos j); omega
  have t53 : (2 : Int) ^ 53 = 9007199254740992 := by decide
  have t52 : (2 : Int) ^ 52 = 4503599627370496 := by decide
  have t51 : (2 : Int) ^ 51 = 2251799813685248 := by decide
  have h53 : T - k < 53 := pow_lt (by rw [← hm, t53]; exact m1)
  have h52 : k = 0 ∨ T - k = 52 := by
    rcases st with st | st
    · left; omega
    · right
      by_cases c : T - k = 52
      · exact c
      · have := two_pow_le (show T - k ≤ 51 by omega)
        omega
  refine ⟨⟨r00, by omega⟩, ?_⟩
  unfold lay52 gapB
  rcases h52 with h52 | h52
  · have ek : T - k = T := by omega
    rw [ek] at hm
    by_cases c : T ≤ 51
    · have := two_pow_le c
      rw [if_neg (by omega), if_pos c]; exact hm
    · have eT : T = 52 := by omega
      rw [eT, t52] at hm
      rw [if_pos (by omega), if_neg c, hm, eT]
      omega
  · rw [h52, t52] at hm
    rw [if_pos (by omega), if_neg (by omega), hm]
    omega
end Go.Proofs.Ytlngkonmalallaa.L

namespace Go.Proofs.Ytlngkonmalallaa
open Go.RowKit Tn

/-- How what drops out stands to half of what stays. -/
def besideF (rest : Int) (places : Nat) (more : Bool) : Int :=
  if rest < 2 ^ (places - 1) then -1 else if 2 ^ (places - 1) < rest then 1 else if more = true then 1 else 0
set_option maxRecDepth 100000 in
set_option maxHeartbeats 800000 in
/-- float.besideHalf, of 1 to 64 places. -/
theorem besideHalf_any (rest h : Int) (places : Nat) (more : Bool) (p1 : 1 ≤ places) (p2 : places ≤ 64) (hh : h = 2 ^ (places - 1)) (w : World) :
    Calls Try.prog 128 #[.int .u64 rest, .int .i64 places, .bool more] w fun e w' => e = .returned (.int .i64 (besideF rest places more)) ∧ w' = w := by
  unfold besideF
  rw [← hh]
  have hb : (0 : Int) < h ∧ h ≤ 9223372036854775808 := by
    have e : ((2 ^ (places - 1) : Nat) : Int) = (2 : Int) ^ (places - 1) := by simp
    have a := Nat.two_pow_pos (places - 1)
    have b : 2 ^ (places - 1) ≤ 2 ^ 63 := Nat.pow_le_pow_right (by decide) (by omega)
    rw [hh, ← e]; omega
  have hx : IntKind.i64.wrap ((places : Int) - 1) = (places : Int) - 1 := w64 _ (by omega) (by omega)
  have hy : ((places : Int) - 1).toNat = places - 1 := by omega
  have hz : IntKind.u64.wrap ((2 : Int) ^ (places - 1)) = h := by rw [← hh]; exact wu64 _ (by omega) (by omega)
  have c1 : decide ((places : Int) > 64) = false := by rw [decide_eq_false_iff_not]; omega
  clear hh
  by_cases r1 : rest < h
  · have d1 : decide (rest < h) = true := decide_eq_true r1
    rw [if_pos r1]
    go_enter Try.func128, Try.ntmps128
    go_wp2
    go_ret
    exact ⟨rfl, rfl⟩
  · have d1 : decide (rest < h) = false := decide_eq_false r1
    rw [if_neg r1]
    by_cases r2 : h < rest
    · have d2 : decide (rest > h) = true := decide_eq_true r2
      rw [if_pos r2]
      clear r1 r2
      go_enter Try.func128, Try.ntmps128
      go_wp2
      go_ret
      exact ⟨rfl, rfl⟩
    · have d2 : decide (rest > h) = false := decide_eq_false r2
      rw [if_neg r2]
      clear r1 r2
      cases more
      · simp only [Bool.false_eq_true, if_false]
        go_enter Try.func128, Try.ntmps128
        go_wp2
        go_ret
        exact ⟨rfl, rfl⟩
      · simp only [if_true]
        go_enter Try.func128, Try.ntmps128
        go_wp2
        go_ret
        exact ⟨rfl, rfl⟩
set_option maxRecDepth 100000 in
set_option maxHeartbeats 800000 in
/-- Beyond 64 places. -/
theorem besideHalf_far (rest places : Int) (more : Bool) (p1 : 64 < places) (p2 : places < 9223372036854775808) (w : World) :
    Calls Try.prog 128 #[.int .u64 rest, .int .i64 places, .bool more] w fun e w' => e = .returned (.int .i64 (-1)) ∧ w' = w := by
  have hx : IntKind.i64.wrap (places - 1) = places - 1 := w64 _ (by omega) (by omega)
  have c1 : decide (places > 64) = true := decide_eq_true p1
  have h0 : (0 : Int) ≤ places - 1 := by omega
  have s1 : Op.shift .shl .u64 1 .i64 (places - 1) = pure (.int .u64 0) := by
    rw [shift_shl_any _ _ _ _ h0, show min (places - 1).toNat IntKind.u64.bits = 64 from by simp [IntKind.bits]; omega]
    rfl
  go_enter Try.func128, Try.ntmps128
  go_wp2
  go_ret
  exact ⟨rfl, rfl⟩
end Go.Proofs.Ytlngkonmalallaa

namespace Go.Proofs.Ytlngkonmalallaa
open Go.RowKit Tn

/-- What a size by 2 to the places is, rounded; and whether nothing was lost. -/
def cutF (mant : Int) (places : Nat) (more neg : Bool) (way : Int) : Int × Bool :=
  if mant % 2 ^ places = 0 ∧ more = false then (mant / 2 ^ places, true)
  else (if awayF way neg (mant / 2 ^ places % 2 == 1) (besideF (mant % 2 ^ places) places more) = true then mant / 2 ^ places + 1 else mant / 2 ^ places, false)
set_option maxRecDepth 100000 in
set_option maxHeartbeats 1600000 in
/-- float.cut, of 1 to 64 places. -/
theorem cut_any (mant : Int) (places : Nat) (more neg : Bool) (way : Int) (m0 : 0 ≤ mant) (m1 : mant < 18446744073709551616) (p1 : 1 ≤ places) (p2 : places ≤ 64) (w : World) :
    Calls Try.prog 100 #[.int .u64 mant, .int .i64 places, .bool more, .bool neg, .int .i64 way] w fun e w' => e = .returned (.tuple #[.int .u64 (cutF mant places more neg way).1, .bool (cutF mant places more neg way).2]) ∧ w' = w := by
  have B := besideHalf_any (mant % 2 ^ places) _ places more p1 p2 rfl
  have A := IsAway_any neg (mant / 2 ^ places % 2 == 1) (besideF (mant % 2 ^ places) places more) way
  unfold cutF
  have tp : (0 : Int) < 2 ^ places := Int.pow_pos (by decide)
  have tp2 : (2 : Int) ≤ 2 ^ places := by
    obtain ⟨q, rfl⟩ : ∃ q, places = q + 1 := ⟨places - 1, by omega⟩
    rw [Int.pow_succ]
    have : (0 : Int) < 2 ^ q := Int.pow_pos (by decide)
    omega
  generalize hT : (2 : Int) ^ places = T at *
  have e0 := Int.mul_ediv_add_emod mant T
  have r0 := Int.emod_nonneg mant (show T ≠ 0 by omega)
  have l0 : 0 ≤ mant / T := Int.ediv_nonneg m0 (by omega)
  have l1 : mant / T ≤ 9223372036854775807 := by
    have := Int.mul_le_mul_of_nonneg_right tp2 l0
    omega
  generalize besideF (mant % T) places more = bs at *
  generalize hl : mant / T = l at *
  generalize hr : mant % T = r at *
  have odd : (bits .and .u64 l 1 == 1) = (l % 2 == 1) := by
    obtain ⟨L, rfl⟩ := Int.eq_ofNat_of_zero_le l0
    have e := bits_and_u64_nat L 1 (by omega) (by decide)
    rw [show ((1 : Nat) : Int) = 1 from rfl, Nat.and_one_is_mod] at e
    rw [e]; simp
  have hy : ((places : Int)).toNat = places := by omega
  have s1 : IntKind.u64.wrap (l * T) = l * T := wu64 _ (Int.mul_nonneg l0 (by omega)) (by rw [Int.mul_comm]; omega)
  have s2 : IntKind.u64.wrap (mant - l * T) = r := by rw [show mant - l * T = r from by rw [Int.mul_comm]; omega]; exact wu64 _ r0 (by have := Int.mul_nonneg (Int.le_of_lt tp) l0; omega)
  have s3 : IntKind.u64.wrap (l + 1) = l + 1 := wu64 _ (by omega) (by omega)
  have HX : Hid (T * l + r = mant) := e0
  generalize (l % 2 == 1) = od at *
  clear e0
  by_cases z : r = 0 ∧ more = false
  · obtain ⟨z1, rfl⟩ := z
    rw [if_pos ⟨z1, rfl⟩]
    have zz : (r == 0) = true := by rw [beq_iff_eq]; exact z1
    clear z1
    go_enter Try.func100, Try.ntmps100
    go_wp2
    exact bodyPost_ret (v := .tuple #[.int .u64 l, .bool true]) (by simp [results, Try.results100, go_sem]) rfl ⟨rfl, rfl⟩
  · rw [if_neg z]
    have zz : ((r == 0) = true ∧ more = true) ∨ (r == 0) = false := by
      by_cases h : r = 0
      · left
        refine ⟨by rw [beq_iff_eq]; exact h, ?_⟩
        cases hm : more
        · exact absurd ⟨h, hm⟩ z
        · rfl
      · right; rw [beq_eq_false_iff_ne]; exact h
    clear z
    generalize awayF way neg od bs = t at *
    rcases zz with ⟨z1, rfl⟩ | z1
    · cases t
      · simp only [Bool.false_eq_true, if_false]
        go_enter Try.func100, Try.ntmps100
        go_wp2_with (first
          | (go_at_call 128; refine (B _).mono ?_; rintro x w1 ⟨rfl, rfl⟩)
          | (go_at_call 127; refine (A _).mono ?_; rintro x w1 ⟨rfl, rfl⟩)
          | fail)
        exact bodyPost_ret (v := .tuple #[.int .u64 l, .bool false]) (by simp [results, Try.results100, go_sem]) rfl ⟨rfl, rfl⟩
      · simp only [if_true]
        go_enter Try.func100, Try.ntmps100
        go_wp2_with (first
          | (go_at_call 128; refine (B _).mono ?_; rintro x w1 ⟨rfl, rfl⟩)
          | (go_at_call 127; refine (A _).mono ?_; rintro x w1 ⟨rfl, rfl⟩)
          | fail)
        exact bodyPost_ret (v := .tuple #[.int .u64 (l + 1), .bool false]) (by simp [results, Try.results100, go_sem]) rfl ⟨rfl, rfl⟩
    · cases t
      · simp only [Bool.false_eq_true, if_false]
        go_enter Try.func100, Try.ntmps100
        go_wp2_with (first
          | (go_at_call 128; refine (B _).mono ?_; rintro x w1 ⟨rfl, rfl⟩)
          | (go_at_call 127; refine (A _).mono ?_; rintro x w1 ⟨rfl, rfl⟩)
          | fail)
        exact bodyPost_ret (v := .tuple #[.int .u64 l, .bool false]) (by simp [results, Try.results100, go_sem]) rfl ⟨rfl, rfl⟩
      · simp only [if_true]
        go_enter Try.func100, Try.ntmps100
        go_wp2_with (first
          | (go_at_call 128; refine (B _).mono ?_; rintro x w1 ⟨rfl, rfl⟩)
          | (go_at_call 127; refine (A _).mono ?_; rintro x w1 ⟨rfl, rfl⟩)
          | fail)
        exact bodyPost_ret (v := .tuple #[.int .u64 (l + 1), .bool false]) (by simp [results, Try.results100, go_sem]) rfl ⟨rfl, rfl⟩
end Go.Proofs.Ytlngkonmalallaa

namespace Go.Proofs.Ytlngkonmalallaa
open Go.RowKit Tn

/-- The parts of m times 2 to the e. -/
def finW (neg : Bool) (m e : Int) : Int × Bool × Int × Int := if m = 0 then (0, neg, 0, 0) else if m < 4503599627370496 then (1, neg, m, e) else (2, neg, m, e)
set_option maxRecDepth 100000 in
set_option maxHeartbeats 1600000 in
theorem finite_w (neg : Bool) (m e : Int) (w : World) : Calls Try.prog 102 #[fmtW, .bool neg, .int .u64 m, .int .i64 e] w fun x w' => x = .returned (prt4 (finW neg m e)) ∧ Below w.heap.size w w' := by
  unfold finW
  by_cases h1 : m = 0
  · rw [if_pos h1]
    have d1 : (m == 0) = true := by rw [beq_iff_eq]; exact h1
    clear h1
    go_enter Try.func102, Try.ntmps102
    go_wp2
    exact bodyPost_ret (v := prt 0 neg 0 0) (by simp [results, Try.results102, go_sem]) rfl ⟨rfl, ((Below.refl _ _).alloc (Nat.le_refl _) _).alloc (by simp) _⟩
  rw [if_neg h1]
  have d1 : (m == 0) = false := by rw [beq_eq_false_iff_ne]; exact h1
  clear h1
  by_cases h2 : m < 4503599627370496
  · rw [if_pos h2]
    have d2 : decide (m < 4503599627370496) = true := decide_eq_true h2
    clear h2
    go_enter Try.func102, Try.ntmps102
    have K0 : Blk ((w.alloc (.cells #[.int .i64 53, .int .i64 (-1074), .int .i64 971] 85)).alloc (.cells #[.int .i64 0, .bool false, .int .u64 0, .int .i64 0] 25)) w.heap.size #[.int .i64 53, .int .i64 (-1074), .int .i64 971] 85 := (Blk.new w _ _).alloc _
    have K1 := Blk.new (w.alloc (.cells #[.int .i64 53, .int .i64 (-1074), .int .i64 971] 85)) #[.int .i64 0, .bool false, .int .u64 0, .int .i64 0] 25
    have pr : Below w.heap.size w ((w.alloc (.cells #[.int .i64 53, .int .i64 (-1074), .int .i64 971] 85)).alloc (.cells #[.int .i64 0, .bool false, .int .u64 0, .int .i64 0] 25)) := ((Below.refl _ _).alloc (Nat.le_refl _) _).alloc (by simp) _
    simp only [World.size_alloc] at K1
    go_wp2_with (first
      | (go_at_call 96; refine (leastNormal_w _).mono ?_; rintro x w1 ⟨rfl, b1⟩; replace K0 := K0.below b1 K0.lt; replace K1 := K1.below b1 K1.lt; replace pr := bel pr b1; clear b1; have e0 : w1.cell? ⟨w.heap.size, 0, none⟩ = some (.int .i64 53) := K0.at 0; have e1 : w1.cell? ⟨w.heap.size, 1, none⟩ = some (.int .i64 (-1074)) := K0.at 1; have e2 : w1.cell? ⟨w.heap.size, 2, none⟩ = some (.int .i64 971) := K0.at 2; have c0 : w1.cell? ⟨w.heap.size + 1, 0, none⟩ = some (.int .i64 0) := K1.at 0; have c1 : w1.cell? ⟨w.heap.size + 1, 1, none⟩ = some (.bool false) := K1.at 1; have c2 : w1.cell? ⟨w.heap.size + 1, 2, none⟩ = some (.int .u64 0) := K1.at 2; have c3 : w1.cell? ⟨w.heap.size + 1, 3, none⟩ = some (.int .i64 0) := K1.at 3; have z0 := K1.free 0; have z1 := K1.free 1; have z2 := K1.free 2; have z3 := K1.free 3)
      | fail)
    obtain ⟨F0, F1, F2, F3, FB⟩ := put4 (.int .i64 1) (.bool neg) (.int .u64 m) (.int .i64 e) (K1.at 0) (K1.at 1) (K1.at 2) (K1.at 3)
    exact bodyPost_ret (v := prt 1 neg m e) (by simp [results, Try.results102, go_sem, F0, F1, F2, F3]) rfl ⟨rfl, FB _ _ (by omega) pr⟩
  · rw [if_neg h2]
    have d2 : decide (m < 4503599627370496) = false := decide_eq_false h2
    clear h2
    go_enter Try.func102, Try.ntmps102
    have K0 : Blk ((w.alloc (.cells #[.int .i64 53, .int .i64 (-1074), .int .i64 971] 85)).alloc (.cells #[.int .i64 0, .bool false, .int .u64 0, .int .i64 0] 25)) w.heap.size #[.int .i64 53, .int .i64 (-1074), .int .i64 971] 85 := (Blk.new w _ _).alloc _
    have K1 := Blk.new (w.alloc (.cells #[.int .i64 53, .int .i64 (-1074), .int .i64 971] 85)) #[.int .i64 0, .bool false, .int .u64 0, .int .i64 0] 25
    have pr : Below w.heap.size w ((w.alloc (.cells #[.int .i64 53, .int .i64 (-1074), .int .i64 971] 85)).alloc (.cells #[.int .i64 0, .bool false, .int .u64 0, .int .i64 0] 25)) := ((Below.refl _ _).alloc (Nat.le_refl _) _).alloc (by simp) _
    simp only [World.size_alloc] at K1
    go_wp2_with (first
      | (go_at_call 96; refine (leastNormal_w _).mono ?_; rintro x w1 ⟨rfl, b1⟩; replace K0 := K0.below b1 K0.lt; replace K1 := K1.below b1 K1.lt; replace pr := bel pr b1; clear b1; have e0 : w1.cell? ⟨w.heap.size, 0, none⟩ = some (.int .i64 53) := K0.at 0; have e1 : w1.cell? ⟨w.heap.size, 1, none⟩ = some (.int .i64 (-1074)) := K0.at 1; have e2 : w1.cell? ⟨w.heap.size, 2, none⟩ = some (.int .i64 971) := K0.at 2; have c0 : w1.cell? ⟨w.heap.size + 1, 0, none⟩ = some (.int .i64 0) := K1.at 0; have c1 : w1.cell? ⟨w.heap.size + 1, 1, none⟩ = some (.bool false) := K1.at 1; have c2 : w1.cell? ⟨w.heap.size + 1, 2, none⟩ = some (.int .u64 0) := K1.at 2; have c3 : w1.cell? ⟨w.heap.size + 1, 3, none⟩ = some (.int .i64 0) := K1.at 3; have z0 := K1.free 0; have z1 := K1.free 1; have z2 := K1.free 2; have z3 := K1.free 3)
      | fail)
    obtain ⟨F0, F1, F2, F3, FB⟩ := put4 (.int .i64 2) (.bool neg) (.int .u64 m) (.int .i64 e) (K1.at 0) (K1.at 1) (K1.at 2) (K1.at 3)
    exact bodyPost_ret (v := prt 2 neg m e) (by simp [results, Try.results102, go_sem, F0, F1, F2, F3]) rfl ⟨rfl, FB _ _ (by omega) pr⟩
/-- The parts of m times 2 to the e. -/
def finS (neg : Bool) (m e : Int) : Int × Bool × Int × Int := if m = 0 then (0, neg, 0, 0) else if m < 8388608 then (1, neg, m, e) else (2, neg, m, e)
set_option maxRecDepth 100000 in
set_option maxHeartbeats 1600000 in
theorem finite_s (neg : Bool) (m e : Int) (w : World) : Calls Try.prog 102 #[fmtS, .bool neg, .int .u64 m, .int .i64 e] w fun x w' => x = .returned (prt4 (finS neg m e)) ∧ Below w.heap.size w w' := by
  unfold finS
  by_cases h1 : m = 0
  · rw [if_pos h1]
    have d1 : (m == 0) = true := by rw [beq_iff_eq]; exact h1
    clear h1
    go_enter Try.func102, Try.ntmps102
    go_wp2
    exact bodyPost_ret (v := prt 0 neg 0 0) (by simp [results, Try.results102, go_sem]) rfl ⟨rfl, ((Below.refl _ _).alloc (Nat.le_refl _) _).alloc (by simp) _⟩
  rw [if_neg h1]
  have d1 : (m == 0) = false := by rw [beq_eq_false_iff_ne]; exact h1
  clear h1
  by_cases h2 : m < 8388608
  · rw [if_pos h2]
    have d2 : decide (m < 8388608) = true := decide_eq_true h2
    clear h2
    go_enter Try.func102, Try.ntmps102
    have K0 : Blk ((w.alloc (.cells #[.int .i64 24, .int .i64 (-149), .int .i64 104] 85)).alloc (.cells #[.int .i64 0, .bool false, .int .u64 0, .int .i64 0] 25)) w.heap.size #[.int .i64 24, .int .i64 (-149), .int .i64 104] 85 := (Blk.new w _ _).alloc _
    have K1 := Blk.new (w.alloc (.cells #[.int .i64 24, .int .i64 (-149), .int .i64 104] 85)) #[.int .i64 0, .bool false, .int .u64 0, .int .i64 0] 25
    have pr : Below w.heap.size w ((w.alloc (.cells #[.int .i64 24, .int .i64 (-149), .int .i64 104] 85)).alloc (.cells #[.int .i64 0, .bool false, .int .u64 0, .int .i64 0] 25)) := ((Below.refl _ _).alloc (Nat.le_refl _) _).alloc (by simp) _
    simp only [World.size_alloc] at K1
    go_wp2_with (first
      | (go_at_call 96; refine (leastNormal_s _).mono ?_; rintro x w1 ⟨rfl, b1⟩; replace K0 := K0.below b1 K0.lt; replace K1 := K1.below b1 K1.lt; replace pr := bel pr b1; clear b1; have e0 : w1.cell? ⟨w.heap.size, 0, none⟩ = some (.int .i64 24) := K0.at 0; have e1 : w1.cell? ⟨w.heap.size, 1, none⟩ = some (.int .i64 (-149)) := K0.at 1; have e2 : w1.cell? ⟨w.heap.size, 2, none⟩ = some (.int .i64 104) := K0.at 2; have c0 : w1.cell? ⟨w.heap.size + 1, 0, none⟩ = some (.int .i64 0) := K1.at 0; have c1 : w1.cell? ⟨w.heap.size + 1, 1, none⟩ = some (.bool false) := K1.at 1; have c2 : w1.cell? ⟨w.heap.size + 1, 2, none⟩ = some (.int .u64 0) := K1.at 2; have c3 : w1.cell? ⟨w.heap.size + 1, 3, none⟩ = some (.int .i64 0) := K1.at 3; have z0 := K1.free 0; have z1 := K1.free 1; have z2 := K1.free 2; have z3 := K1.free 3)
      | fail)
    obtain ⟨F0, F1, F2, F3, FB⟩ := put4 (.int .i64 1) (.bool neg) (.int .u64 m) (.int .i64 e) (K1.at 0) (K1.at 1) (K1.at 2) (K1.at 3)
    exact bodyPost_ret (v := prt 1 neg m e) (by simp [results, Try.results102, go_sem, F0, F1, F2, F3]) rfl ⟨rfl, FB _ _ (by omega) pr⟩
  · rw [if_neg h2]
    have d2 : decide (m < 8388608) = false := decide_eq_false h2
    clear h2
    go_enter Try.func102, Try.ntmps102
    have K0 : Blk ((w.alloc (.cells #[.int .i64 24, .int .i64 (-149), .int .i64 104] 85)).alloc (.cells #[.int .i64 0, .bool false, .int .u64 0, .int .i64 0] 25)) w.heap.size #[.int .i64 24, .int .i64 (-149), .int .i64 104] 85 := (Blk.new w _ _).alloc _
    have K1 := Blk.new (w.alloc (.cells #[.int .i64 24, .int .i64 (-149), .int .i64 104] 85)) #[.int .i64 0, .bool false, .int .u64 0, .int .i64 0] 25
    have pr : Below w.heap.size w ((w.alloc (.cells #[.int .i64 24, .int .i64 (-149), .int .i64 104] 85)).alloc (.cells #[.int .i64 0, .bool false, .int .u64 0, .int .i64 0] 25)) := ((Below.refl _ _).alloc (Nat.le_refl _) _).alloc (by simp) _
    simp only [World.size_alloc] at K1
    go_wp2_with (first
      | (go_at_call 96; refine (leastNormal_s _).mono ?_; rintro x w1 ⟨rfl, b1⟩; replace K0 := K0.below b1 K0.lt; replace K1 := K1.below b1 K1.lt; replace pr := bel pr b1; clear b1; have e0 : w1.cell? ⟨w.heap.size, 0, none⟩ = some (.int .i64 24) := K0.at 0; have e1 : w1.cell? ⟨w.heap.size, 1, none⟩ = some (.int .i64 (-149)) := K0.at 1; have e2 : w1.cell? ⟨w.heap.size, 2, none⟩ = some (.int .i64 104) := K0.at 2; have c0 : w1.cell? ⟨w.heap.size + 1, 0, none⟩ = some (.int .i64 0) := K1.at 0; have c1 : w1.cell? ⟨w.heap.size + 1, 1, none⟩ = some (.bool false) := K1.at 1; have c2 : w1.cell? ⟨w.heap.size + 1, 2, none⟩ = some (.int .u64 0) := K1.at 2; have c3 : w1.cell? ⟨w.heap.size + 1, 3, none⟩ = some (.int .i64 0) := K1.at 3; have z0 := K1.free 0; have z1 := K1.free 1; have z2 := K1.free 2; have z3 := K1.free 3)
      | fail)
    obtain ⟨F0, F1, F2, F3, FB⟩ := put4 (.int .i64 2) (.bool neg) (.int .u64 m) (.int .i64 e) (K1.at 0) (K1.at 1) (K1.at 2) (K1.at 3)
    exact bodyPost_ret (v := prt 2 neg m e) (by simp [results, Try.results102, go_sem, F0, F1, F2, F3]) rfl ⟨rfl, FB _ _ (by omega) pr⟩
end Go.Proofs.Ytlngkonmalallaa
