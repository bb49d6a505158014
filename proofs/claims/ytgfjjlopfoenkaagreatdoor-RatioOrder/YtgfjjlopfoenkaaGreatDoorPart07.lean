import Derived.Test.YtgfjjlopfoenkaaGreatDoorPart06
import Derived.Deep.RegionHeld3
import Derived.Test.YtgfjjlopfoenkaaGreatDoorPart03

namespace Go.Proofs.YtgfjjlopfoenkaaGreatDoor.L
open Go.RowKit Tl

/-- The number that a row holds. -/
def cellNum (w : World) (p : Addr) : Int := match w.cell? p with | some (.int _ x) => x | _ => 0
def rowNum (w : World) : Value → Nat
  | .slice (some p) l _ => (val ((List.range l).map fun i => cellNum w ⟨p.block, p.off + i, none⟩)).toNat
  | _ => 0
theorem rowNum_rd {w : World} {v : Value} {xs : List Int} (h : Rd w v xs) : rowNum w v = (val xs).toNat := by
  obtain ⟨_, a, c, rfl, _, _, g⟩ := h
  by_cases h0 : xs = []
  · subst h0; cases a <;> simp [rowNum, val]
  · obtain ⟨b, o, rfl, hc⟩ := g (List.length_pos_iff.2 h0)
    simp only [rowNum]
    congr 2
    apply List.ext_getElem?
    intro i
    by_cases hi : i < xs.length
    · have := hc i hi
      simp [List.getElem?_map, List.getElem?_range hi, cellNum, this, nth, List.getD_eq_getElem?_getD, List.getElem?_eq_getElem hi]
    · rw [List.getElem?_eq_none (by simp; omega), List.getElem?_eq_none (by omega)]
theorem len_mono {A B : List Int} (hA : Wd A) (hB : Wd B) (nB : Nm B) (h : val B ≤ val A) : B.length ≤ A.length := by
  by_cases c : B.length ≤ A.length
  · exact c
  · have := val_lt_of_length hA hB nB (by omega); omega
theorem gcd_of_div {a b z r : Int} (h : a = z * b + r) : Int.gcd b r = Int.gcd a b := by
  have e : r = a - z * b := by omega
  rw [e, Int.gcd_comm a b, Int.mul_comm, Int.gcd_sub_mul_left_right]
theorem gcd_nought {a : Int} (h : 0 ≤ a) : a = (Int.gcd a 0 : Int) := by
  rw [Int.gcd_zero_right]; omega
theorem nm_pos {xs : List Int} (h : Wd xs) (n : Nm xs) (l : 0 < xs.length) : 0 < val xs := by
  have := val_low h n (by intro e; rw [e] at l; simp at l)
  have := pw_pos (xs.length - 1)
  omega
theorem nm_nil {xs : List Int} (l : ¬ 0 < xs.length) : xs = [] := List.eq_nil_of_length_eq_zero (by omega)
set_option maxHeartbeats 1600000 in
set_option maxRecDepth 100000 in
/-- Gcd of the reference. -/
theorem Gcd_any (v1 v2 : Value) (xs ys : List Int) (L : Nat) (w : World) (h1 : Rd w v1 xs) (h2 : Rd w v2 ys) (n1 : Nm xs) (n2 : Nm ys) (l1 : xs.length ≤ L) (l2 : ys.length ≤ L) (hL : L ≤ 274877906944) :
    Calls Tryz.prog 88 #[v1, v2] w fun e w' => ∃ r zs, e = .returned r ∧ Rd w' r zs ∧ Nm zs ∧ val zs = (Int.gcd (val xs) (val ys) : Int) ∧ zs.length ≤ L ∧ Below w.heap.size w w' := by
  obtain ⟨G, hG⟩ : ∃ G, Int.gcd (val xs) (val ys) = G := ⟨_, rfl⟩
  rw [hG]
  go_enter Tryz.func88, Tryz.ntmps88
  go_wp2_with fail
  go_loopw [0, 1] (fun a b wr => ∃ A B, Rd wr a A ∧ Nm A ∧ Rd wr b B ∧ Nm B ∧ Int.gcd (val A) (val B) = G ∧ A.length ≤ L ∧ B.length ≤ L ∧ Below w.heap.size w wr) (fun _ b wr => rowNum wr b)
  case atStart => exact ⟨xs, ys, h1, n1, h2, n2, hG, l1, l2, Below.refl _ _⟩
  case round =>
    obtain ⟨A, B, hA, nA, hB, nB, hg, lA, lB, hb⟩ := hrel
    have HG : Hid (Int.gcd (val A) (val B) = G) := hg
    have hB' : Hid (Rd wr u1 B) := hB
    obtain ⟨wB, a2, c2, rfl, _, _, _⟩ := hB
    clear hg hG
    by_cases hlt : 0 < B.length
    · have MB : Hid _ := rowNum_rd hB'.out
      have vB := nm_pos wB nB hlt
      go_wp2_with (first
        | (go_at_call 143; (refine (DivMod_any _ _ A B _ hA hB'.out nA nB (by omega) vB).mono ?_); rintro e w2 ⟨q, r, zs, rs, rfl, hq, nq, hr, nr, hv, r0, r1, hb2⟩)
        | fail)
      go_roundw
      case rel => exact ⟨B, rs, hB'.out.grow hb2, nB, hr, nr, (gcd_of_div hv).trans HG.out, lB, Nat.le_trans (len_mono wB hr.1 nr (by omega)) lB, hb.trans (hb2.mono hb.size)⟩
      case measure =>
        show rowNum w2 r < rowNum wr _
        rw [MB.out, rowNum_rd hr]; omega
    · have e0 : Hid (B = []) := nm_nil hlt
      have RG : Hid (val A = (G : Int)) := by
        have := HG.out
        rw [e0.out] at this
        show val A = (G : Int)
        rw [← this]
        exact gcd_nought (val_nonneg hA.1)
      go_wp2
      go_ret
      exact ⟨_, A, rfl, hA, nA, RG.out, lA, hb⟩
end Go.Proofs.YtgfjjlopfoenkaaGreatDoor.L

namespace Go.Proofs.YtgfjjlopfoenkaaGreatDoor.L
open Go.RowKit Tl Go.Lib

theorem pw_ten (n : Nat) : pw n ≤ ((10 ^ (10 * n) : Nat) : Int) := by
  induction n with
  | zero => decide
  | succ n ih =>
    rw [Nat.mul_add, Nat.pow_add]
    simp only [pw]
    generalize 10 ^ (10 * n) = t at *
    have : (10 : Nat) ^ (10 * 1) = 10000000000 := by decide
    rw [this]
    omega
theorem digits_len {xs : List Int} {V : Nat} (hx : Wd xs) (hV : val xs = (V : Int)) (hne : 0 < xs.length) : nDigits V ≤ 10 * xs.length := by
  refine Dc.nDigits_le (by omega) ?_
  have a := val_lt hx
  have b := pw_ten xs.length
  omega
theorem Prt.few {V : Nat} {ps xs : List Int} (h : Prt V ps xs) (hx : 0 < val xs) : 9 * ps.length < nDigits V := by
  have h2 := h.2
  have p : 0 < 10 ^ (9 * ps.length) := Nat.pow_pos (by decide)
  have : 10 ^ (9 * ps.length) ≤ V := by
    have q : 0 < V / 10 ^ (9 * ps.length) := by omega
    exact (Nat.div_pos_iff.1 q).2
  have l := lt_pow_nDigits V
  have : 10 ^ (9 * ps.length) < 10 ^ nDigits V := by omega
  exact (Nat.pow_lt_pow_iff_right (by decide)).1 this
theorem val_pos {xs : List Int} (hx : Wd xs) (n : Nm xs) (ne : 0 < xs.length) : 0 < val xs := by
  have e := val_top ne
  have t := nm_top hx n ne
  have v0 := val_nonneg (hx.take (xs.length - 1))
  have p := pw_pos (xs.length - 1)
  have := Int.mul_pos p t
  omega

theorem elemB : Tryz.prog.elem 142 = 5 := by kernel_rfl
/-- s[lo:] of bytes, lo below the capacity. -/
theorem sliceb_l (g len cap : Nat) (lo : Nat) (h1 : lo ≤ len) (hne : lo < cap) (w : World) :
    (Instr.slice 142 (.slice (some ⟨g, 0, none⟩) len cap) (some (.int .i64 (lo : Int))) none none).run Tryz.prog w = .ok (.slice (some ⟨g, lo, none⟩) (len - lo) (cap - lo)) w := by
  rw [run_slice_l w 142 _ len cap (by rw [elemB]; exact Tryz.underlying142) .i64 _ (by omega) (by omega), elemB]
  have e2 : ¬ cap = lo := by omega
  simp [Tryz.sizeOf5, Result.andThen, sliced, e2, Addr.add]
  omega
set_option maxHeartbeats 3200000 in
set_option maxRecDepth 100000 in
/-- (Nat).Text of the reference, not nought. -/
theorem Text_pos (v : Value) (xs0 : List Int) (V : Nat) (w : World) (h : Rd w v xs0) (n0 : Nm xs0) (hl : xs0.length ≤ 1000000000) (hV : val xs0 = (V : Int)) (hne : 0 < xs0.length) :
    Calls Tryz.prog 83 #[v] w fun e w' => e = .returned (.string ⟨(decDigits V).toArray⟩) ∧ Below w.heap.size w w' := by
  obtain ⟨a0, c0, rfl⟩ : ∃ a c, v = .slice a xs0.length c := by obtain ⟨_, a, c, e, _⟩ := h; exact ⟨a, c, e⟩
  have P0 : Hid (Prt V [] xs0) := ⟨fun i hi => by simp at hi, by simp [hV]⟩
  have hpos : 0 < V := by have := val_pos h.1 n0 hne; omega
  have hdl := digits_len h.1 hV hne
  have hn0 : ((xs0.length : Int) == 0) = false := by rw [beq_eq_false_iff_ne]; omega
  clear hV
  go_enter Tryz.func83, Tryz.ntmps83
  go_wp2_with fail
  go_loopw [0, 3] (fun a l wr => ∃ (xs ps : List Int) (a1 : Option Addr) (c1 : Nat), a = .slice a1 xs.length c1 ∧ Rd wr a xs ∧ Nm xs ∧ xs.length ≤ xs0.length ∧ wr.ownsRow w.heap.size 3 1 l ps.length (ps.map (Value.int .i64)) ∧ Prt V ps xs ∧ 9 * ps.length ≤ nDigits V + 9 ∧ Below w.heap.size w wr) (fun _ l _ => nDigits V - slen l)
  case atStart => exact ⟨xs0, [], a0, c0, rfl, h, n0, Nat.le_refl _, ⟨by simp, Or.inl ⟨rfl, rfl⟩⟩, P0.out, by simp, Below.refl _ _⟩
  case round =>
    obtain ⟨xs, ps, a1, c1, rfl, hr, hn, hxl, hown, hp, hq, hb⟩ := hrel
    have HQ : Hid (9 * ps.length ≤ nDigits V + 9) := hq
    clear hq
    have HP : Hid (Prt V ps xs) := hp
    have HW : Hid (Wd xs) := hr.1
    clear hp
    have hsz := hb.size
    by_cases hx : 0 < xs.length
    · have fw := HP.out.few (val_pos HW.out hn hx)
      have low := own_low hown
      go_wp2_with (first
        | (go_at_call 140; refine (small_new _ xs 1000000000 _ hr (by omega) (by decide) (by decide)).mono ?_; rintro e w2 ⟨n2, zs, m, rfl, hz, nz, vz, m0, m1, b2⟩; obtain rfl : n2 = zs.length := (by obtain ⟨_, a, c, e, _⟩ := hz; simpa [slen] using congrArg slen e); have VZ : Hid (val zs * 1000000000 + m = val xs) := vz; clear vz; have own2 := own_grow hown b2; have hb2 := hb.trans (b2.mono hsz); have hsz2 := hb2.size; have hsz3 := b2.size)
        | (at_builtin; (refine wpList_pushk rfl _ _ rfl _ ps rfl w.heap.size wr.heap.size (own_grow own2 ((Below.refl _ _).alloc (Nat.le_refl _) _)) low (by omega) _ _ m rfl (by simp) (by simp; omega) ?_; intro l' w3 own3 b3 b4; have hb3 := (hb2.alloc hsz2 _).trans b3))
        | fail)
      go_roundw
      case rel =>
        have lz : zs.length ≤ xs.length := len_mono HW.out hz.1 nz (by have := VZ.out; have := val_nonneg hz.1; omega)
        refine ⟨zs, ps ++ [m], _, _, rfl, ?_, nz, by omega, own3, HP.out.next VZ.out m0 m1, by rw [List.length_append, List.length_singleton]; omega, hb3⟩
        have hz' := hz.grow ((Below.refl _ _).alloc (Nat.le_refl _) (.cells #[.int .i64 m] 3))
        obtain ⟨q1, a, c, e, q2, q3, q4⟩ := hz'
        refine ⟨q1, a, c, e, q2, q3, fun l => ?_⟩
        obtain ⟨b, o, rfl, hc⟩ := q4 l
        simp only [Value.slice.injEq, Option.some.injEq, Addr.mk.injEq] at e
        refine ⟨b, o, rfl, fun i hi => ?_⟩
        have hlt := hc.lt l
        exact (World.cell?_of_block (a := ⟨b, o + i, none⟩) (b4 b (by omega) hlt)).trans (hc i hi)
      case measure =>
        have e1 := own_slen hown
        have e2 := own_slen own3
        rw [List.length_append, List.length_singleton] at e2
        rw [e1, e2]
        omega
    · have HP2 : Hid (Prt V ps []) := by have := HP.out; rw [val_nil0 hx] at this; exact this
      have e0 : xs.length = 0 := by omega
      rw [e0]
      have hm : 0 < ps.length := by
        rcases Nat.eq_zero_or_pos ps.length with e | e
        · have e' : ps = [] := List.eq_nil_of_length_eq_zero e
          have := HP2.out.2
          rw [e'] at this
          simp [val] at this
          omega
        · exact e
      obtain ⟨g, cp, rfl, g0, g1, gc, gc', HC'⟩ := own_ints hown hm
      have HC : Hid (∀ i, i < ps.length → wr.cell? ⟨g, i, none⟩ = some (.int .i64 (nth ps i))) := HC'
      have hN : Hid (V < 10 ^ (9 * ps.length)) := HP2.out.done
      have hpl : Hid (∀ i, i < ps.length → nth ps i = ((V / 10 ^ (9 * i) % 1000000000 : Nat) : Int)) := HP2.out.1
      have hmb := HQ.out
      clear HC' hown HP HP2 HW hr hn h n0 HQ P0 hx hxl e0
      have hp1 : Hid (∀ i, i < ps.length → 0 ≤ nth ps i ∧ nth ps i < 1000000000) := fun i hi => by rw [hpl.out i hi]; omega
      generalize hmm : ps.length = m at *
      clear hmm
      go_wp2_with fail
      go_loopw [6, 7] (fun b i wr2 => ∃ j : Nat, j ≤ m ∧ i = .int .i64 ((j : Int) - 1) ∧ wr2.ownsRow wr.heap.size 5 1 b (Dc.dgs V (9 * m) (9 * (m - j))).length ((Dc.dgs V (9 * m) (9 * (m - j))).map (Value.int .u8)) ∧ Below wr.heap.size wr wr2) (fun _ i _ => (intOf i + 1).toNat)
      case atStart => exact ⟨m, Nat.le_refl _, rfl, by rw [Nat.sub_self, Nat.mul_zero, Dc.dgs_zero]; exact ⟨by simp, Or.inl ⟨rfl, rfl⟩⟩, Below.refl _ _⟩
      case round =>
        rename World => wr2
        obtain ⟨j, hj, rfl, own2, bb⟩ := hrel
        by_cases hj0 : 0 < j
        · obtain ⟨i, rfl⟩ : ∃ i, j = i + 1 := ⟨j - 1, by omega⟩
          have e1 : ((i + 1 : Nat) : Int) - 1 = (i : Int) := by omega
          have HE : Hid (9 * (m - (i + 1)) = 9 * (m - 1 - i) + 0) := by show _ = _; omega
          rw [HE.out] at own2
          rw [e1]
          clear e1
          go_wp2_with fail
          go_loopw [6, 8] (fun b u wr3 => ∃ t : Nat, t ≤ 9 ∧ u = .int .i64 ((100000000 / 10 ^ t : Nat) : Int) ∧ wr3.ownsRow wr.heap.size 5 1 b (Dc.dgs V (9 * m) (9 * (m - 1 - i) + t)).length ((Dc.dgs V (9 * m) (9 * (m - 1 - i) + t)).map (Value.int .u8)) ∧ Below wr.heap.size wr wr3) (fun _ u _ => (intOf u).toNat)
          case atStart => exact ⟨0, by omega, rfl, own2, bb⟩
          case round =>
            rename World => wr3
            obtain ⟨t, ht, rfl, own3, b3⟩ := hrel
            by_cases ht9 : t ≤ 8
            · have up := Dc.unit_pos ht9
              have ul := Dc.unit_le t
              have HD : Hid _ := Dc.place V i t m (by omega) ht9
              have HS : Hid _ := Dc.dgs_succ V (9 * m) (9 * (m - 1 - i) + t)
              have un := Dc.unit_next t
              have UN : Hid ((100000000 / 10 ^ t : Nat) / 10 = (100000000 / 10 ^ (t + 1) : Nat)) := un
              clear un
              have hPe : Hid (nth ps i = ((V / 10 ^ (9 * i) % 1000000000 : Nat) : Int)) := hpl.out i (by omega)
              obtain ⟨hP0, hP1⟩ := hp1.out i (by omega)
              have cP : wr3.cell? ⟨g, i, none⟩ = some (.int .i64 (nth ps i)) := (b3.cell (p := ⟨g, i, none⟩) g1).trans (HC.out i (by omega))
              generalize hU : (100000000 / 10 ^ t : Nat) = U at *
              generalize nth ps i = P at *
              have hZ : Hid ((48 : Int) + P / (U : Int) % 10 = 48 + ((V / 10 ^ (9 * m - 1 - (9 * (m - 1 - i) + t)) % 10 : Nat) : Int)) := by
                show _ = _
                rw [hPe.out, ← HD.out]
                omega
              have q0 : 0 ≤ P / (U : Int) := Int.ediv_nonneg hP0 (by omega)
              have q1 : P / (U : Int) ≤ P := Int.ediv_le_self _ hP0
              have d1 : P.tdiv (U : Int) = P / (U : Int) := Int.tdiv_eq_ediv_of_nonneg hP0
              generalize P / (U : Int) = Q at *
              have d2 : IntKind.i64.wrap Q = Q := wrap_self _ (by omega) (by omega)
              have d3 : Q.tmod 10 = Q % 10 := Int.tmod_eq_emod_of_nonneg q0
              have d4 : IntKind.i64.wrap (48 + Q % 10) = 48 + Q % 10 := wrap_self _ (by omega) (by omega)
              have d5 : IntKind.u8.wrap (48 + Q % 10) = 48 + Q % 10 := by simp [IntKind.wrap, IntKind.bits, IntKind.signed]; omega
              have nz : ((U : Int) == 0) = false := by rw [beq_eq_false_iff_ne]; omega
              have nz2 : ¬ (U : Int) = 0 := by omega
              have u1 : (U : Int).tdiv 10 = (U : Int) / 10 := Int.tdiv_eq_ediv_of_nonneg (by omega)
              have hsz3 := b3.size
              have hY : (Dc.dgs V (9 * m) (9 * (m - 1 - i) + t)).length ≤ 70368744177664 := by rw [Dc.dgs_length]; omega
              generalize Dc.dgs V (9 * m) (9 * (m - 1 - i) + t) = Y at *
              clear hU HD hPe
              go_wp2_with (first
                | (at_builtin; (refine wpList_pushb rfl _ _ rfl _ Y rfl wr.heap.size (own_grow own3 ((Below.refl _ _).alloc (Nat.le_refl _) _)) hY _ _ (48 + Q % 10) rfl (by simp) (by simp; omega) ?_; intro l' w4 own4 b4; have b5 := (b3.alloc hsz3 _).trans b4))
                | fail)
              go_roundw
              case rel => exact ⟨t + 1, by omega, by rw [← UN.out]; congr 1, by rw [← Nat.add_assoc, HS.out, ← hZ.out]; exact own4, b5⟩
              case measure => simp [intOf]; omega
            · obtain rfl : t = 9 := by omega
              rw [Dc.unit_end]
              go_wp2_with fail
              go_roundw
              case rel => exact ⟨i, by omega, by go_num, by rw [show 9 * (m - i) = 9 * (m - 1 - i) + 9 from by omega]; exact own3, b3⟩
              case measure => simp [intOf]
        · obtain rfl : j = 0 := by omega
          rw [Nat.sub_zero] at own2
          obtain ⟨gb, cb, rfl, gb0, gb1, gc2, gc3, HB'⟩ := own_bytes own2 (by rw [Dc.dgs_length]; omega)
          rw [Dc.dgs_length] at HB' gc2 ⊢
          have hnd := Dc.nDigits_le (by omega) hN.out
          have hnp := nDigits_pos V
          have HB : Hid (∀ i, i < 9 * m → wr2.cell? ⟨gb, i, none⟩ = some (.int .u8 (48 + ((V / 10 ^ (9 * m - 1 - i) % 10 : Nat) : Int)))) := fun i hi => by
            rw [HB' i hi]
            unfold nth
            rw [Dc.dgs_at _ _ _ _ hi]
          have HR : Hid (strOfNums ((Dc.dgs V (9 * m) (9 * m)).drop (9 * m - nDigits V)) = ⟨(decDigits V).toArray⟩) := Dc.dgs_str V (9 * m) hnd
          have HC2 : Hid (∀ i, i < nDigits V → wr2.cell? ⟨gb, 9 * m - nDigits V + i, none⟩ = some (.int .u8 (((Dc.dgs V (9 * m) (9 * m)).drop (9 * m - nDigits V)).getD i 0))) := fun i hi => by
            rw [HB' _ (by omega)]
            simp [nth, List.getD_eq_getElem?_getD]
          have HT : Hid (¬ V / 10 ^ (nDigits V - 1) % 10 = 0) := Dc.top_digit V hpos
          have HH : Hid (∀ j, nDigits V ≤ j → V / 10 ^ j = 0) := fun j hj => Dc.high_digit V j hj
          clear HB' own2 hN hpl hp1 HC
          have hbb := hb.trans (bb.mono hsz)
          generalize hN9 : 9 * m = N at *
          go_wp2_with fail
          go_loop [9] (fun t => ∃ k : Nat, k ≤ N - nDigits V ∧ t = .int .i64 k) (fun t => N - nDigits V - (intOf t).toNat)
          case atStart => exact ⟨0, by omega, rfl⟩
          case round =>
            obtain ⟨k, hk, rfl⟩ := hrel
            have c0 := HB.out k (by omega)
            by_cases hlt : k < N - nDigits V
            · rw [HH.out (N - 1 - k) (by omega)] at c0
              go_wp2
              go_round
              case rel => exact ⟨k + 1, by omega, by go_num⟩
              case measure => simp [intOf]; omega
            · obtain rfl : k = N - nDigits V := by omega
              rw [show N - 1 - (N - nDigits V) = nDigits V - 1 from by omega] at c0
              have hz := HT.out
              generalize V / 10 ^ (nDigits V - 1) % 10 = z at *
              have hz1 : ((48 + (z : Int)) == 48) = false := by rw [beq_eq_false_iff_ne]; omega
              have cv := run_convert_bytes_arg (P := Tryz.prog) wr2 142 5 Tryz.underlying142 Tryz.underlying5 gb (N - nDigits V) (nDigits V) (cb - (N - nDigits V)) ((Dc.dgs V N N).drop (N - nDigits V)) (by rw [List.length_drop, Dc.dgs_length]; omega) HC2.out 9 Tryz.underlying9
              rw [HR.out] at cv
              have sl := sliceb_l gb N cb (N - nDigits V) (by omega) (by omega) wr2
              rw [show N - (N - nDigits V) = nDigits V from by omega] at sl
              have hK : N - nDigits V < N := by omega
              have hK2 : N - nDigits V < cb := by omega
              clear HR HC2 HB HT HH
              generalize N - nDigits V = K at *
              have hne2 : ¬ cb = K := by omega
              go_wp2
              go_ret
              exact ⟨rfl, hbb⟩

/-- (Nat).Text of the reference: the decimal digits. -/
theorem Text_any (v : Value) (xs : List Int) (V : Nat) (w : World) (h : Rd w v xs) (n0 : Nm xs) (hl : xs.length ≤ 1000000000) (hV : val xs = (V : Int)) :
    Calls Tryz.prog 83 #[v] w fun e w' => e = .returned (.string ⟨(decDigits V).toArray⟩) ∧ Below w.heap.size w w' := by
  by_cases hne : 0 < xs.length
  · exact Text_pos v xs V w h n0 hl hV hne
  · obtain ⟨a0, c0, rfl⟩ : ∃ a c, v = .slice a xs.length c := by obtain ⟨_, a, c, e, _⟩ := h; exact ⟨a, c, e⟩
    have e0 : xs.length = 0 := by omega
    have eV : V = 0 := by rw [val_nil0 hne] at hV; simp [val] at hV; omega
    have R : Hid (decDigits V = [48]) := by show _ = _; rw [eV, decDigits_one (by decide)]; rfl
    rw [e0]
    clear h n0 hV
    go_enter Tryz.func83, Tryz.ntmps83
    go_wp2
    go_ret
    exact ⟨by rw [R.out]; rfl, Below.refl _ _⟩
end Go.Proofs.YtgfjjlopfoenkaaGreatDoor.L

namespace Tn
/-- The number of a row of words of 64 bits, the lowest first. -/
def val : List Int → Int
  | [] => 0
  | x :: xs => x + 18446744073709551616 * val xs
/-- The unit behind n words. -/
def pw : Nat → Int
  | 0 => 1
  | n + 1 => 18446744073709551616 * pw n
/-- Each is a word. -/
def Wd (xs : List Int) : Prop := ∀ x, x ∈ xs → 0 ≤ x ∧ x < 18446744073709551616

theorem pw_pos (n : Nat) : 0 < pw n := by
  induction n with
  | zero => simp [pw]
  | succ n ih => simp only [pw]; omega
theorem pw_add (m n : Nat) : pw (m + n) = pw m * pw n := by
  induction m with
  | zero => simp [pw]
  | succ m ih => rw [Nat.succ_add]; simp only [pw, ih]; grind
theorem pw_mono {m n : Nat} (h : m ≤ n) : pw m ≤ pw n := by
  obtain ⟨k, rfl⟩ := Nat.exists_eq_add_of_le h
  rw [pw_add]
  have h1 := pw_pos m
  have h2 : 1 ≤ pw k := pw_pos k
  have := Int.mul_le_mul_of_nonneg_left h2 (Int.le_of_lt h1)
  omega
theorem Wd.nil : Wd [] := by intro x h; simp at h
theorem Wd.cons {x : Int} {xs : List Int} (h0 : 0 ≤ x) (h1 : x < 18446744073709551616) (h : Wd xs) : Wd (x :: xs) := by
  intro y hy
  rcases List.mem_cons.1 hy with rfl | hy
  · exact ⟨h0, h1⟩
  · exact h y hy
theorem Wd.head {x : Int} {xs : List Int} (h : Wd (x :: xs)) : 0 ≤ x ∧ x < 18446744073709551616 := h x (by simp)
theorem Wd.tail {x : Int} {xs : List Int} (h : Wd (x :: xs)) : Wd xs := fun y hy => h y (by simp [hy])
theorem Wd.append {xs ys : List Int} (h : Wd xs) (k : Wd ys) : Wd (xs ++ ys) := by
  intro y hy
  rcases List.mem_append.1 hy with hy | hy
  · exact h y hy
  · exact k y hy
theorem Wd.left {xs ys : List Int} (h : Wd (xs ++ ys)) : Wd xs := fun y hy => h y (by simp [hy])
theorem Wd.right {xs ys : List Int} (h : Wd (xs ++ ys)) : Wd ys := fun y hy => h y (by simp [hy])
theorem Wd.take {xs : List Int} (h : Wd xs) (n : Nat) : Wd (xs.take n) := fun y hy => h y (List.mem_of_mem_take hy)
theorem Wd.drop {xs : List Int} (h : Wd xs) (n : Nat) : Wd (xs.drop n) := fun y hy => h y (List.mem_of_mem_drop hy)
theorem Wd.set {xs : List Int} (h : Wd xs) (n : Nat) {v : Int} (h0 : 0 ≤ v) (h1 : v < 18446744073709551616) : Wd (xs.set n v) := by
  intro y hy
  rcases List.mem_or_eq_of_mem_set hy with hy | rfl
  · exact h y hy
  · exact ⟨h0, h1⟩
theorem Wd.zeros (n : Nat) : Wd (List.replicate n 0) := by
  intro y hy; have := List.eq_of_mem_replicate hy; omega
theorem Wd.get {xs : List Int} (h : Wd xs) (i : Nat) : 0 ≤ xs.getD i 0 ∧ xs.getD i 0 < 18446744073709551616 := by
  by_cases hi : i < xs.length
  · simp only [List.getD_eq_getElem?_getD, List.getElem?_eq_getElem hi, Option.getD_some]; exact h _ (List.getElem_mem hi)
  · simp [List.getD_eq_getElem?_getD, List.getElem?_eq_none (Nat.le_of_not_lt hi)]

theorem val_append (xs ys : List Int) : val (xs ++ ys) = val xs + pw xs.length * val ys := by
  induction xs with
  | nil => simp [val, pw]
  | cons x xs ih => simp only [List.cons_append, val, ih, List.length_cons, pw]; grind
theorem val_nonneg {xs : List Int} (h : Wd xs) : 0 ≤ val xs := by
  induction xs with
  | nil => simp [val]
  | cons x xs ih => have := ih h.tail; have := h.head; simp only [val]; omega
theorem val_lt {xs : List Int} (h : Wd xs) : val xs < pw xs.length := by
  induction xs with
  | nil => simp [val, pw]
  | cons x xs ih => have := ih h.tail; have := h.head; simp only [val, List.length_cons, pw]; omega
theorem val_zeros (n : Nat) : val (List.replicate n 0) = 0 := by
  induction n with
  | zero => rfl
  | succ n ih => simp [List.replicate_succ, val, ih]
theorem val_split (xs : List Int) (n : Nat) (h : n ≤ xs.length) : val xs = val (xs.take n) + pw n * val (xs.drop n) := by
  conv => lhs; rw [← List.take_append_drop n xs]
  rw [val_append, List.length_take, Nat.min_eq_left h]
theorem take_succ_getD (xs : List Int) (k : Nat) (h : k < xs.length) : xs.take (k + 1) = xs.take k ++ [xs.getD k 0] := by
  rw [List.take_succ_eq_append_getElem h]; simp [List.getD_eq_getElem?_getD, List.getElem?_eq_getElem h]
theorem drop_getD (xs : List Int) (k : Nat) (h : k < xs.length) : xs.drop k = xs.getD k 0 :: xs.drop (k + 1) := by
  rw [List.drop_eq_getElem_cons h]; simp [List.getD_eq_getElem?_getD, List.getElem?_eq_getElem h]
theorem val_take_succ (xs : List Int) (k : Nat) (h : k < xs.length) : val (xs.take (k + 1)) = val (xs.take k) + pw k * xs.getD k 0 := by
  rw [take_succ_getD xs k h, val_append, List.length_take, Nat.min_eq_left (Nat.le_of_lt h)]; simp [val]
theorem take_set_succ (xs : List Int) (k : Nat) (v : Int) (h : k < xs.length) : (xs.set k v).take (k + 1) = xs.take k ++ [v] := by
  rw [take_succ_getD _ k (by simpa using h)]
  congr 1
  · rw [List.take_set]; exact List.set_eq_of_length_le (by simp; omega)
  · simp [List.getD_eq_getElem?_getD, h]
theorem drop_set_succ (xs : List Int) (k : Nat) (v : Int) : (xs.set k v).drop (k + 1) = xs.drop (k + 1) := by
  rw [List.drop_set_of_lt (by omega)]
/-- No nought at the high end. -/
def Nm (xs : List Int) : Prop := xs = [] ∨ xs.getD (xs.length - 1) 0 ≠ 0
theorem Nm.nil : Nm [] := Or.inl rfl
theorem val_low {xs : List Int} (h : Wd xs) (n : Nm xs) (ne : xs ≠ []) : pw (xs.length - 1) ≤ val xs := by
  have hl : 0 < xs.length := by cases xs with | nil => exact absurd rfl ne | cons => simp
  have e := val_split xs (xs.length - 1) (by omega)
  rw [drop_getD xs _ (by omega), Nat.sub_add_cancel hl, List.drop_length] at e
  rcases n with n | n
  · exact absurd n ne
  · have h1 := (h.get (xs.length - 1)).1
    have h2 := val_nonneg (h.take (xs.length - 1))
    have h3 := Int.mul_le_mul_of_nonneg_left (show 1 ≤ xs.getD (xs.length - 1) 0 by omega) (Int.le_of_lt (pw_pos (xs.length - 1)))
    simp only [val, Int.mul_zero, Int.add_zero] at e
    omega
theorem pw_lt {m n : Nat} (h : m < n) : pw m < pw n := by
  have := pw_mono (show m + 1 ≤ n from h); have := pw_pos m; simp only [pw] at *; omega
/-- More words, a greater number. -/
theorem val_lt_of_length {xs ys : List Int} (h : Wd xs) (k : Wd ys) (n : Nm ys) (hl : xs.length < ys.length) : val xs < val ys := by
  have h1 := val_lt h
  have h2 := val_low k n (by intro e; simp [e] at hl)
  have h3 := pw_mono (show xs.length ≤ ys.length - 1 by omega)
  omega
theorem val_eq_zero {xs : List Int} (h : Wd xs) (n : Nm xs) : val xs = 0 ↔ xs = [] := by
  constructor
  · intro e
    by_cases ne : xs = []
    · exact ne
    · have := val_low h n ne; have := pw_pos (xs.length - 1); omega
  · rintro rfl; rfl
/-- A number has one row of words. -/
theorem val_inj {xs : List Int} : ∀ {ys : List Int}, Wd xs → Wd ys → xs.length = ys.length → val xs = val ys → xs = ys := by
  induction xs with
  | nil => intro ys _ _ hl _; cases ys with | nil => rfl | cons => simp at hl
  | cons x xs ih =>
    intro ys h k hl e
    cases ys with
    | nil => simp at hl
    | cons y ys =>
      have := h.head; have := k.head
      simp only [val] at e
      have e1 : x = y := by omega
      have e2 : val xs = val ys := by omega
      rw [e1, ih h.tail k.tail (by simpa using hl) e2]
theorem val_inj_nm {xs ys : List Int} (h : Wd xs) (k : Wd ys) (m : Nm xs) (n : Nm ys) (e : val xs = val ys) : xs = ys := by
  refine val_inj h k ?_ e
  rcases Nat.lt_trichotomy xs.length ys.length with l | l | l
  · have := val_lt_of_length h k n l; omega
  · exact l
  · have := val_lt_of_length k h m l; omega
end Tn
