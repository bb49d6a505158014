import Derived.Test.YtmopfnhjooopkaaGreatDoorPart10
import Derived.Test.YtmopfnhjooopkaaGreatDoorPart09
import Derived.Deep.RegionHeld3
import Derived.Test.YtmopfnhjooopkaaGreatDoorPart06
import Derived.Deep.DeepCutAuto
import Derived.Test.YtmopfnhjooopkaaGreatDoorProg
import Derived.Test.YtmopfnhjooopkaaGreatDoorPart02
import Derived.Laws.Strings
import Derived.Test.YtmopfnhjooopkaaGreatDoorPart05

namespace Go.Proofs.YtmopfnhjooopkaaGreatDoor.L
open Go.RowKit Tl Go.Lib

theorem pw_ten (n : Nat) : pw n ≤ ((10 ^ (10 * n) : Nat) : Int) := by
  induction n with
  | zero => decide
  | succ n ih =>
    rw [Nat.mul_add, Nat.pow_add]
    simp only [pw]
    generalize 10 ^ (10 * n) = t at *
    have : (10 : Nat) ^ (10 * 1) = 10000000000 := by decide
    rw [this]
    omega
theorem digits_len {xs : List Int} {V : Nat} (hx : Wd xs) (hV : val xs = (V : Int)) (hne : 0 < xs.length) : nDigits V ≤ 10 * xs.length := by
  refine Dc.nDigits_le (by omega) ?_
  have a := val_lt hx
  have b := pw_ten xs.length
  omega
theorem Prt.few {V : Nat} {ps xs : List Int} (h : Prt V ps xs) (hx : 0 < val xs) : 9 * ps.length < nDigits V := by
  have h2 := h.2
  have p : 0 < 10 ^ (9 * ps.length) := Nat.pow_pos (by decide)
  have : 10 ^ (9 * ps.length) ≤ V := by
    have q : 0 < V / 10 ^ (9 * ps.length) := by omega
    exact (Nat.div_pos_iff.1 q).2
  have l := lt_pow_nDigits V
  have : 10 ^ (9 * ps.length) < 10 ^ nDigits V := by omega
  exact (Nat.pow_lt_pow_iff_right (by decide)).1 this
theorem val_pos {xs : List Int} (hx : Wd xs) (n : Nm xs) (ne : 0 < xs.length) : 0 < val xs := by
  have e := val_top ne
  have t := nm_top hx n ne
  have v0 := val_nonneg (hx.take (xs.length - 1))
  have p := pw_pos (xs.length - 1)
  have := Int.mul_pos p t
  omega

theorem elemB : Tryz.prog.elem 121 = 5 := by kernel_rfl
/-- s[lo:] of bytes, lo below the capacity. -/
theorem sliceb_l (g len cap : Nat) (lo : Nat) (h1 : lo ≤ len) (hne : lo < cap) (w : World) :
    (Instr.slice 121 (.slice (some ⟨g, 0, none⟩) len cap) (some (.int .i64 (lo : Int))) none none).run Tryz.prog w = .ok (.slice (some ⟨g, lo, none⟩) (len - lo) (cap - lo)) w := by
  rw [run_slice_l w 121 _ len cap (by rw [elemB]; exact Tryz.underlying121) .i64 _ (by omega) (by omega), elemB]
  have e2 : ¬ cap = lo := by omega
  simp [Tryz.sizeOf5, Result.andThen, sliced, e2, Addr.add]
  omega
set_option maxHeartbeats 3200000 in
set_option maxRecDepth 100000 in
/-- (Nat).Text of the reference, not nought. -/
theorem Text_pos (v : Value) (xs0 : List Int) (V : Nat) (w : World) (h : Rd w v xs0) (n0 : Nm xs0) (hl : xs0.length ≤ 1000000000) (hV : val xs0 = (V : Int)) (hne : 0 < xs0.length) :
    Calls Tryz.prog 44 #[v] w fun e w' => e = .returned (.string ⟨(decDigits V).toArray⟩) ∧ Below w.heap.size w w' := by
  obtain ⟨a0, c0, rfl⟩ : ∃ a c, v = .slice a xs0.length c := by obtain ⟨_, a, c, e, _⟩ := h; exact ⟨a, c, e⟩
  have P0 : Hid (Prt V [] xs0) := ⟨fun i hi => by simp at hi, by simp [hV]⟩
  have hpos : 0 < V := by have := val_pos h.1 n0 hne; omega
  have hdl := digits_len h.1 hV hne
  have hn0 : ((xs0.length : Int) == 0) = false := by rw [beq_eq_false_iff_ne]; omega
  clear hV
  go_enter Tryz.func44, Tryz.ntmps44
  go_wp2_with fail
  go_loopw [0, 3] (fun a l wr => ∃ (xs ps : List Int) (a1 : Option Addr) (c1 : Nat), a = .slice a1 xs.length c1 ∧ Rd wr a xs ∧ Nm xs ∧ xs.length ≤ xs0.length ∧ wr.ownsRow w.heap.size 3 1 l ps.length (ps.map (Value.int .i64)) ∧ Prt V ps xs ∧ 9 * ps.length ≤ nDigits V + 9 ∧ Below w.heap.size w wr) (fun _ l _ => nDigits V - slen l)
  case atStart => exact ⟨xs0, [], a0, c0, rfl, h, n0, Nat.le_refl _, ⟨by simp, Or.inl ⟨rfl, rfl⟩⟩, P0.out, by simp, Below.refl _ _⟩
  case round =>
    obtain ⟨xs, ps, a1, c1, rfl, hr, hn, hxl, hown, hp, hq, hb⟩ := hrel
    have HQ : Hid (9 * ps.length ≤ nDigits V + 9) := hq
    clear hq
    have HP : Hid (Prt V ps xs) := hp
    have HW : Hid (Wd xs) := hr.1
    clear hp
    have hsz := hb.size
    by_cases hx : 0 < xs.length
    · have fw := HP.out.few (val_pos HW.out hn hx)
      have low := own_low hown
      go_wp2_with (first
        | (go_at_call 104; refine (small_new _ xs 1000000000 _ hr (by omega) (by decide) (by decide)).mono ?_; rintro e w2 ⟨n2, zs, m, rfl, hz, nz, vz, m0, m1, b2⟩; obtain rfl : n2 = zs.length := (by obtain ⟨_, a, c, e, _⟩ := hz; simpa [slen] using congrArg slen e); have VZ : Hid (val zs * 1000000000 + m = val xs) := vz; clear vz; have own2 := own_grow hown b2; have hb2 := hb.trans (b2.mono hsz); have hsz2 := hb2.size; have hsz3 := b2.size)
        | (at_builtin; (refine wpList_pushk rfl _ _ rfl _ ps rfl w.heap.size wr.heap.size (own_grow own2 ((Below.refl _ _).alloc (Nat.le_refl _) _)) low (by omega) _ _ m rfl (by simp) (by simp; omega) ?_; intro l' w3 own3 b3 b4; have hb3 := (hb2.alloc hsz2 _).trans b3))
        | fail)
      go_roundw
      case rel =>
        have lz : zs.length ≤ xs.length := len_mono HW.out hz.1 nz (by have := VZ.out; have := val_nonneg hz.1; omega)
        refine ⟨zs, ps ++ [m], _, _, rfl, ?_, nz, by omega, own3, HP.out.next VZ.out m0 m1, by rw [List.length_append, List.length_singleton]; omega, hb3⟩
        have hz' := hz.grow ((Below.refl _ _).alloc (Nat.le_refl _) (.cells #[.int .i64 m] 3))
        obtain ⟨q1, a, c, e, q2, q3, q4⟩ := hz'
        refine ⟨q1, a, c, e, q2, q3, fun l => ?_⟩
        obtain ⟨b, o, rfl, hc⟩ := q4 l
        simp only [Value.slice.injEq, Option.some.injEq, Addr.mk.injEq] at e
        refine ⟨b, o, rfl, fun i hi => ?_⟩
        have hlt := hc.lt l
        exact (World.cell?_of_block (a := ⟨b, o + i, none⟩) (b4 b (by omega) hlt)).trans (hc i hi)
      case measure =>
        have e1 := own_slen hown
        have e2 := own_slen own3
        rw [List.length_append, List.length_singleton] at e2
        rw [e1, e2]
        omega
    · have HP2 : Hid (Prt V ps []) := by have := HP.out; rw [val_nil0 hx] at this; exact this
      have e0 : xs.length = 0 := by omega
      rw [e0]
      have hm : 0 < ps.length := by
        rcases Nat.eq_zero_or_pos ps.length with e | e
        · have e' : ps = [] := List.eq_nil_of_length_eq_zero e
          have := HP2.out.2
          rw [e'] at this
          simp [val] at this
          omega
        · exact e
      obtain ⟨g, cp, rfl, g0, g1, gc, gc', HC'⟩ := own_ints hown hm
      have HC : Hid (∀ i, i < ps.length → wr.cell? ⟨g, i, none⟩ = some (.int .i64 (nth ps i))) := HC'
      have hN : Hid (V < 10 ^ (9 * ps.length)) := HP2.out.done
      have hpl : Hid (∀ i, i < ps.length → nth ps i = ((V / 10 ^ (9 * i) % 1000000000 : Nat) : Int)) := HP2.out.1
      have hmb := HQ.out
      clear HC' hown HP HP2 HW hr hn h n0 HQ P0 hx hxl e0
      have hp1 : Hid (∀ i, i < ps.length → 0 ≤ nth ps i ∧ nth ps i < 1000000000) := fun i hi => by rw [hpl.out i hi]; omega
      generalize hmm : ps.length = m at *
      clear hmm
      go_wp2_with fail
      go_loopw [6, 7] (fun b i wr2 => ∃ j : Nat, j ≤ m ∧ i = .int .i64 ((j : Int) - 1) ∧ wr2.ownsRow wr.heap.size 5 1 b (Dc.dgs V (9 * m) (9 * (m - j))).length ((Dc.dgs V (9 * m) (9 * (m - j))).map (Value.int .u8)) ∧ Below wr.heap.size wr wr2) (fun _ i _ => (RowKit.intOf i + 1).toNat)
      case atStart => exact ⟨m, Nat.le_refl _, rfl, by rw [Nat.sub_self, Nat.mul_zero, Dc.dgs_zero]; exact ⟨by simp, Or.inl ⟨rfl, rfl⟩⟩, Below.refl _ _⟩
      case round =>
        rename World => wr2
        obtain ⟨j, hj, rfl, own2, bb⟩ := hrel
        by_cases hj0 : 0 < j
        · obtain ⟨i, rfl⟩ : ∃ i, j = i + 1 := ⟨j - 1, by omega⟩
          have e1 : ((i + 1 : Nat) : Int) - 1 = (i : Int) := by omega
          have HE : Hid (9 * (m - (i + 1)) = 9 * (m - 1 - i) + 0) := by show _ = _; omega
          rw [HE.out] at own2
          rw [e1]
          clear e1
          go_wp2_with fail
          go_loopw [6, 8] (fun b u wr3 => ∃ t : Nat, t ≤ 9 ∧ u = .int .i64 ((100000000 / 10 ^ t : Nat) : Int) ∧ wr3.ownsRow wr.heap.size 5 1 b (Dc.dgs V (9 * m) (9 * (m - 1 - i) + t)).length ((Dc.dgs V (9 * m) (9 * (m - 1 - i) + t)).map (Value.int .u8)) ∧ Below wr.heap.size wr wr3) (fun _ u _ => (RowKit.intOf u).toNat)
          case atStart => exact ⟨0, by omega, rfl, own2, bb⟩
          case round =>
            rename World => wr3
            obtain ⟨t, ht, rfl, own3, b3⟩ := hrel
            by_cases ht9 : t ≤ 8
            · have up := Dc.unit_pos ht9
              have ul := Dc.unit_le t
              have HD : Hid _ := Dc.place V i t m (by omega) ht9
              have HS : Hid _ := Dc.dgs_succ V (9 * m) (9 * (m - 1 - i) + t)
              have un := Dc.unit_next t
              have UN : Hid ((100000000 / 10 ^ t : Nat) / 10 = (100000000 / 10 ^ (t + 1) : Nat)) := un
              clear un
              have hPe : Hid (nth ps i = ((V / 10 ^ (9 * i) % 1000000000 : Nat) : Int)) := hpl.out i (by omega)
              obtain ⟨hP0, hP1⟩ := hp1.out i (by omega)
              have cP : wr3.cell? ⟨g, i, none⟩ = some (.int .i64 (nth ps i)) := (b3.cell (p := ⟨g, i, none⟩) g1).trans (HC.out i (by omega))
              generalize hU : (100000000 / 10 ^ t : Nat) = U at *
              generalize nth ps i = P at *
              have hZ : Hid ((48 : Int) + P / (U : Int) % 10 = 48 + ((V / 10 ^ (9 * m - 1 - (9 * (m - 1 - i) + t)) % 10 : Nat) : Int)) := by
                show _ = _
                rw [hPe.out, ← HD.out]
                omega
              have q0 : 0 ≤ P / (U : Int) := Int.ediv_nonneg hP0 (by omega)
              have q1 : P / (U : Int) ≤ P := Int.ediv_le_self _ hP0
              have d1 : P.tdiv (U : Int) = P / (U : Int) := Int.tdiv_eq_ediv_of_nonneg hP0
              generalize P / (U : Int) = Q at *
              have d2 : IntKind.i64.wrap Q = Q := wrap_self _ (by omega) (by omega)
              have d3 : Q.tmod 10 = Q % 10 := Int.tmod_eq_emod_of_nonneg q0
              have d4 : IntKind.i64.wrap (48 + Q % 10) = 48 + Q % 10 := wrap_self _ (by omega) (by omega)
              have d5 : IntKind.u8.wrap (48 + Q % 10) = 48 + Q % 10 := by simp [IntKind.wrap, IntKind.bits, IntKind.signed]; omega
              have nz : ((U : Int) == 0) = false := by rw [beq_eq_false_iff_ne]; omega
              have nz2 : ¬ (U : Int) = 0 := by omega
              have u1 : (U : Int).tdiv 10 = (U : Int) / 10 := Int.tdiv_eq_ediv_of_nonneg (by omega)
              have hsz3 := b3.size
              have hY : (Dc.dgs V (9 * m) (9 * (m - 1 - i) + t)).length ≤ 70368744177664 := by rw [Dc.dgs_length]; omega
              generalize Dc.dgs V (9 * m) (9 * (m - 1 - i) + t) = Y at *
              clear hU HD hPe
              go_wp2_with (first
                | (at_builtin; (refine wpList_pushb rfl _ _ rfl _ Y rfl wr.heap.size (own_grow own3 ((Below.refl _ _).alloc (Nat.le_refl _) _)) hY _ _ (48 + Q % 10) rfl (by simp) (by simp; omega) ?_; intro l' w4 own4 b4; have b5 := (b3.alloc hsz3 _).trans b4))
                | fail)
              go_roundw
              case rel => exact ⟨t + 1, by omega, by rw [← UN.out]; congr 1, by rw [← Nat.add_assoc, HS.out, ← hZ.out]; exact own4, b5⟩
              case measure => simp [RowKit.intOf]; omega
            · obtain rfl : t = 9 := by omega
              rw [Dc.unit_end]
              go_wp2_with fail
              go_roundw
              case rel => exact ⟨i, by omega, by go_num, by rw [show 9 * (m - i) = 9 * (m - 1 - i) + 9 from by omega]; exact own3, b3⟩
              case measure => simp [RowKit.intOf]
        · obtain rfl : j = 0 := by omega
          rw [Nat.sub_zero] at own2
          obtain ⟨gb, cb, rfl, gb0, gb1, gc2, gc3, HB'⟩ := own_bytes own2 (by rw [Dc.dgs_length]; omega)
          rw [Dc.dgs_length] at HB' gc2 ⊢
          have hnd := Dc.nDigits_le (by omega) hN.out
          have hnp := nDigits_pos V
          have HB : Hid (∀ i, i < 9 * m → wr2.cell? ⟨gb, i, none⟩ = some (.int .u8 (48 + ((V / 10 ^ (9 * m - 1 - i) % 10 : Nat) : Int)))) := fun i hi => by
            rw [HB' i hi]
            unfold nth
            rw [Dc.dgs_at _ _ _ _ hi]
          have HR : Hid (strOfNums ((Dc.dgs V (9 * m) (9 * m)).drop (9 * m - nDigits V)) = ⟨(decDigits V).toArray⟩) := Dc.dgs_str V (9 * m) hnd
          have HC2 : Hid (∀ i, i < nDigits V → wr2.cell? ⟨gb, 9 * m - nDigits V + i, none⟩ = some (.int .u8 (((Dc.dgs V (9 * m) (9 * m)).drop (9 * m - nDigits V)).getD i 0))) := fun i hi => by
            rw [HB' _ (by omega)]
            simp [nth, List.getD_eq_getElem?_getD]
          have HT : Hid (¬ V / 10 ^ (nDigits V - 1) % 10 = 0) := Dc.top_digit V hpos
          have HH : Hid (∀ j, nDigits V ≤ j → V / 10 ^ j = 0) := fun j hj => Dc.high_digit V j hj
          clear HB' own2 hN hpl hp1 HC
          have hbb := hb.trans (bb.mono hsz)
          generalize hN9 : 9 * m = N at *
          go_wp2_with fail
          go_loop [9] (fun t => ∃ k : Nat, k ≤ N - nDigits V ∧ t = .int .i64 k) (fun t => N - nDigits V - (RowKit.intOf t).toNat)
          case atStart => exact ⟨0, by omega, rfl⟩
          case round =>
            obtain ⟨k, hk, rfl⟩ := hrel
            have c0 := HB.out k (by omega)
            by_cases hlt : k < N - nDigits V
            · rw [HH.out (N - 1 - k) (by omega)] at c0
              go_wp2
              go_round
              case rel => exact ⟨k + 1, by omega, by go_num⟩
              case measure => simp [RowKit.intOf]; omega
            · obtain rfl : k = N - nDigits V := by omega
              rw [show N - 1 - (N - nDigits V) = nDigits V - 1 from by omega] at c0
              have hz := HT.out
              generalize V / 10 ^ (nDigits V - 1) % 10 = z at *
              have hz1 : ((48 + (z : Int)) == 48) = false := by rw [beq_eq_false_iff_ne]; omega
              have cv := run_convert_bytes_arg (P := Tryz.prog) wr2 121 5 Tryz.underlying121 Tryz.underlying5 gb (N - nDigits V) (nDigits V) (cb - (N - nDigits V)) ((Dc.dgs V N N).drop (N - nDigits V)) (by rw [List.length_drop, Dc.dgs_length]; omega) HC2.out 9 Tryz.underlying9
              rw [HR.out] at cv
              have sl := sliceb_l gb N cb (N - nDigits V) (by omega) (by omega) wr2
              rw [show N - (N - nDigits V) = nDigits V from by omega] at sl
              have hK : N - nDigits V < N := by omega
              have hK2 : N - nDigits V < cb := by omega
              clear HR HC2 HB HT HH
              generalize N - nDigits V = K at *
              have hne2 : ¬ cb = K := by omega
              go_wp2
              go_ret
              exact ⟨rfl, hbb⟩

/-- (Nat).Text of the reference: the decimal digits. -/
theorem Text_any (v : Value) (xs : List Int) (V : Nat) (w : World) (h : Rd w v xs) (n0 : Nm xs) (hl : xs.length ≤ 1000000000) (hV : val xs = (V : Int)) :
    Calls Tryz.prog 44 #[v] w fun e w' => e = .returned (.string ⟨(decDigits V).toArray⟩) ∧ Below w.heap.size w w' := by
  by_cases hne : 0 < xs.length
  · exact Text_pos v xs V w h n0 hl hV hne
  · obtain ⟨a0, c0, rfl⟩ : ∃ a c, v = .slice a xs.length c := by obtain ⟨_, a, c, e, _⟩ := h; exact ⟨a, c, e⟩
    have e0 : xs.length = 0 := by omega
    have eV : V = 0 := by rw [val_nil0 hne] at hV; simp [val] at hV; omega
    have R : Hid (decDigits V = [48]) := by show _ = _; rw [eV, decDigits_one (by decide)]; rfl
    rw [e0]
    clear h n0 hV
    go_enter Tryz.func44, Tryz.ntmps44
    go_wp2
    go_ret
    exact ⟨by rw [R.out]; rfl, Below.refl _ _⟩
end Go.Proofs.YtmopfnhjooopkaaGreatDoor.L

namespace Go.Proofs.YtmopfnhjooopkaaGreatDoor.L
open Go.RowKit Tl Go.Lib

/-- The sign of a number. -/
def sgn (r : Rat) : Int := if r.num = 0 then 0 else if r.num < 0 then -1 else 1
set_option maxRecDepth 100000 in
set_option maxHeartbeats 800000 in
theorem Sign_q (v : Value) (r : Rat) (w : World) (h : IsQ w v r) :
    Calls Tryz.prog 41 #[v] w fun e w' => e = .returned (.int .i64 (sgn r)) ∧ Below w.heap.size w w' := by
  obtain ⟨ns, ds, a1, a2, c1, c2, rfl, h1, n1, v1, _⟩ := h
  have K0 := Blk.new w #[.bool (decide (r.num < 0)), .slice a1 ns.length c1, .slice a2 ds.length c2] 65
  have pr : Below w.heap.size w (w.alloc (.cells #[.bool (decide (r.num < 0)), .slice a1 ns.length c1, .slice a2 ds.length c2] 65)) := (Below.refl _ _).alloc (Nat.le_refl _) _
  by_cases z : r.num = 0
  · have l0 : ns.length = 0 := by
      by_cases c : 0 < ns.length
      · have := val_pos h1.1 n1 c; omega
      · omega
    have e : sgn r = 0 := by unfold sgn; rw [if_pos z]
    rw [e, l0] at *
    generalize decide (r.num < 0) = g at *
    clear v1 h1 n1 e z
    go_enter Tryz.func41, Tryz.ntmps41
    go_wp2
    go_ret
    exact ⟨rfl, (Below.refl _ _).alloc (Nat.le_refl _) _⟩
  · have l0 : 0 < ns.length := by
      by_cases c : 0 < ns.length
      · exact c
      · have e : ns = [] := List.eq_nil_of_length_eq_zero (by omega)
        rw [e] at v1
        have : val ([] : List Int) = 0 := rfl
        omega
    have hz : ((ns.length : Int) == 0) = false := by rw [beq_eq_false_iff_ne]; omega
    by_cases g : r.num < 0
    · have e : sgn r = -1 := by unfold sgn; rw [if_neg z, if_pos g]
      rw [e, decide_eq_true g] at *
      clear v1 h1 n1 e z g
      go_enter Tryz.func41, Tryz.ntmps41
      go_wp2
      go_ret
      exact ⟨rfl, pr⟩
    · have e : sgn r = 1 := by unfold sgn; rw [if_neg z, if_neg g]
      rw [e, decide_eq_false g] at *
      clear v1 h1 n1 e z g
      go_enter Tryz.func41, Tryz.ntmps41
      go_wp2
      go_ret
      exact ⟨rfl, pr⟩
/-- An exact number as it is written. -/
def wrq (r : Rat) : Value := .agg #[.string (Mo.sB (Mo.sg (decide (r.num < 0)) (decDigits r.num.natAbs))), .string (Mo.sB (decDigits r.den))]
theorem bput {w : World} {n : Nat} {c : Array Value} {t : TypeId} (h : Blk w n c t) (i : Nat) (v : Value) : Blk (w.setCell ⟨n, i, none⟩ v) n (c.setIfInBounds i v) t := by
  have h' : w.heap[n]? = some (.cells c t (0, 0)) := h
  show (w.setCell ⟨n, i, none⟩ v).heap[n]? = _
  simp [World.setCell, Array.getElem?_modify, h']
theorem bel' {w W w1 : World} (pr : Below w.heap.size w W) (b1 : Below W.heap.size W w1) : Below w.heap.size w w1 := pr.trans (b1.mono pr.size)
structure OQ1 (W x : World) (V0 : Value) (V1 : Value) (V2 : Value) (V3 : Value) (V4 : Value) (V5 : Value) (y0 y1 y2 y3 y4 y5 : Bool) (t6 t7 t8 t9 t10 t11 : Value) : Prop where
  bel : Below W.heap.size W x
  o0 : y0 = true → t6 = V0
  o1 : y1 = true → t7 = V1
  o2 : y2 = true → t8 = V2
  o3 : y3 = true → t9 = V3
  o4 : y4 = true → t10 = V4
  o5 : y5 = true → t11 = V5
  d4_3 : y4 = true → y3 = true
  d5_4 : y5 = true → y4 = true
theorem OQ1.grow {W x x' : World} {V0 : Value} {V1 : Value} {V2 : Value} {V3 : Value} {V4 : Value} {V5 : Value} {y0 y1 y2 y3 y4 y5 : Bool} {t6 t7 t8 t9 t10 t11 : Value} (h : OQ1 W x V0 V1 V2 V3 V4 V5 y0 y1 y2 y3 y4 y5 t6 t7 t8 t9 t10 t11) (b : Below x.heap.size x x') : OQ1 W x' V0 V1 V2 V3 V4 V5 y0 y1 y2 y3 y4 y5 t6 t7 t8 t9 t10 t11 where
  bel := bel' h.bel b
  o0 := h.o0
  o1 := h.o1
  o2 := h.o2
  o3 := h.o3
  o4 := h.o4
  o5 := h.o5
  d4_3 := h.d4_3
  d5_4 := h.d5_4
set_option maxRecDepth 100000 in
set_option maxHeartbeats 1600000 in
theorem out_walk (g : Bool) (a1 a2 : Option Addr) (m1 c1 m2 c2 : Nat) (s t u : ByteArray) (S : Int) (w : World) (s1 : s.size ≤ 4096) (s2 : t.size ≤ 4096) (hS : decide (S < 0) = g) (hu : (⟨#[45]⟩ : ByteArray) ++ s = u)
    (T1 : ∀ x, Below w.heap.size w x → Calls Tryz.prog 44 #[.slice a1 m1 c1] x fun e w' => e = .returned (.string s) ∧ Below x.heap.size x w')
    (T2 : ∀ x, Below w.heap.size w x → Calls Tryz.prog 44 #[.slice a2 m2 c2] x fun e w' => e = .returned (.string t) ∧ Below x.heap.size x w')
    (SG : ∀ x, Below w.heap.size w x → Calls Tryz.prog 41 #[.agg #[.bool g, .slice a1 m1 c1, .slice a2 m2 c2]] x fun e w' => e = .returned (.int .i64 S) ∧ Below x.heap.size x w') :
    Calls Tryz.prog 34 #[.agg #[.bool g, .slice a1 m1 c1, .slice a2 m2 c2]] w fun e w' => e = .returned (.tuple #[.agg #[.string (if g then u else s), .string t], .int .i64 0]) ∧ Below w.heap.size w w' := by
  have K0 := (Blk.new w #[.bool g, .slice a1 m1 c1, .slice a2 m2 c2] 65).alloc (.cells #[.string ⟨#[]⟩, .string ⟨#[]⟩] 23)
  have KR := Blk.new (w.alloc (.cells #[.bool g, .slice a1 m1 c1, .slice a2 m2 c2] 65)) #[.string ⟨#[]⟩, .string ⟨#[]⟩] 23
  simp only [World.size_alloc] at KR
  have pr : Below w.heap.size w ((w.alloc (.cells #[.bool g, .slice a1 m1 c1, .slice a2 m2 c2] 65)).alloc (.cells #[.string ⟨#[]⟩, .string ⟨#[]⟩] 23)) := ((Below.refl _ _).alloc (Nat.le_refl _) _).alloc (by simp) _
  have s1' : (s.size : Int) ≤ 4096 := by omega
  have s2' : (t.size : Int) ≤ 4096 := by omega
  have h2 := fun x : World => run_string_add_sum (P := Tryz.prog) x ⟨#[45]⟩ s (by have : (⟨#[45]⟩ : ByteArray).size = 1 := rfl
                                                                                  omega)
  rw [hu] at h2
  clear hu
  go_enter Tryz.func34, Tryz.ntmps34
  cases g
  all_goals
    have hS' : decide (S < 0) = _ := hS
    clear hS
    go_wp2_with fail
  · have SGx := SG
    clear SG
    generalize (w.alloc (.cells #[.bool false, .slice a1 m1 c1, .slice a2 m2 c2] 65)).alloc (.cells #[.string ⟨#[]⟩, .string ⟨#[]⟩] 23) = W at *
    go_cut [4, 5] from 6 to 11 (fun x y wc => x = .string s ∧ y = .string t ∧ Below W.heap.size W wc)
    case first =>
      rename_i hm hJ
      refine wp_region_held (S := fun _ => True) (by kernel_rfl) (any_inv (fun listed a x => ∃ (y0 y1 y2 y3 y4 y5 : Bool) (t6 t7 t8 t9 t10 t11 : Value) (z4 z5 : Value), a = ⟨#[.agg #[.bool false, .slice a1 m1 c1, .slice a2 m2 c2], .pointer (some ⟨w.heap.size, 0, none⟩), .pointer (some ⟨w.heap.size + 1, 0, none⟩), .int .i64 0, z4, z5, t6, t7, t8, t9, t10, t11, undef, undef, undef, undef, undef, undef, undef, undef, undef, undef, undef, undef, undef, undef, undef, undef, undef], []⟩ ∧ ((listed = #[y0, y1, y2, y3, y4, y5, false, false] ∧ OQ1 W x (.pointer (some ⟨w.heap.size, 1, none⟩)) (.slice a1 m1 c1) (.string s) (.pointer (some ⟨w.heap.size, 2, none⟩)) (.slice a2 m2 c2) (.string t) y0 y1 y2 y3 y4 y5 t6 t7 t8 t9 t10 t11 ∧ z4 = undef ∧ z5 = undef) ∨ (listed = #[true, true, true, true, true, true, true, false] ∧ t8 = .string s ∧ t11 = .string t ∧ z4 = .string s ∧ z5 = undef ∧ Below W.heap.size W x) ∨ (listed = #[true, true, true, true, true, true, true, true] ∧ t8 = .string s ∧ t11 = .string t ∧ z4 = .string s ∧ z5 = .string t ∧ Below W.heap.size W x))) ?_ ?_ _ _ _ _ (by decide) ?_)
      · rintro listed a x i ⟨y0, y1, y2, y3, y4, y5, t6, t7, t8, t9, t10, t11, z4, z5, rfl, h⟩ hi
        have hr : i < 8 := List.mem_range.1 (List.mem_filter.1 hi).1
        have hc := (List.mem_filter.1 hi).2
        rcases h with ⟨rfl, h⟩ | ⟨rfl, h⟩ | ⟨rfl, h⟩
        · rcases (show i = 0 ∨ i = 1 ∨ i = 2 ∨ i = 3 ∨ i = 4 ∨ i = 5 ∨ i = 6 ∨ i = 7 by omega) with rfl | rfl | rfl | rfl | rfl | rfl | rfl | rfl
          · obtain ⟨h, rfl, rfl⟩ := h
            clear hc hi
            refine wpOp_step rfl (fun K hK0 => ?_)
            have hK : Hid _ := hK0
            clear hK0
            rw [if_pos (by rfl)]
            go_wp2_with fail
            exact hK.out _ _ ⟨true,_,_,_,_,_,.pointer (some ⟨w.heap.size, 1, none⟩),_,_,_,_,_,undef,undef,rfl,Or.inl ⟨rfl, ⟨{ h with o0 := fun _ => rfl }, rfl, rfl⟩⟩⟩
          · obtain ⟨h, rfl, rfl⟩ := h
            have e0 : y0 = true := by
              revert hc
              cases y0 <;> simp [Region.binds]
            have r0 := h.o0 e0
            subst r0
            clear hc hi
            have kd := ((K0.below h.bel K0.lt).at 1)
            simp at kd
            refine wpOp_step rfl (fun K hK0 => ?_)
            have hK : Hid _ := hK0
            clear hK0
            rw [if_pos (by rfl)]
            go_wp2_with fail
            exact hK.out _ _ ⟨_,true,_,_,_,_,_,.slice a1 m1 c1,_,_,_,_,undef,undef,rfl,Or.inl ⟨rfl, ⟨{ h with o1 := fun _ => rfl }, rfl, rfl⟩⟩⟩
          · obtain ⟨h, rfl, rfl⟩ := h
            have e1 : y1 = true := by
              revert hc
              cases y1 <;> simp [Region.binds]
            have r1 := h.o1 e1
            subst r1
            clear hc hi
            refine wpOp_step rfl (fun K hK0 => ?_)
            have hK : Hid _ := hK0
            clear hK0
            rw [if_pos (by rfl)]
            go_wp2_with (first | (go_at_call 44; go_must (refine (T1 x (bel' pr h.bel)).mono ?_; rintro e x2 ⟨rfl, bb⟩)) | fail)
            exact hK.out _ _ ⟨_,_,true,_,_,_,_,_,_,_,_,_,undef,undef,rfl,Or.inl ⟨rfl, ⟨{ h.grow bb with o2 := fun _ => rfl }, rfl, rfl⟩⟩⟩
          · obtain ⟨h, rfl, rfl⟩ := h
            clear hc hi
            refine wpOp_step rfl (fun K hK0 => ?_)
            have hK : Hid _ := hK0
            clear hK0
            rw [if_pos (by rfl)]
            go_wp2_with fail
            exact hK.out _ _ ⟨_,_,_,true,_,_,_,_,_,.pointer (some ⟨w.heap.size, 2, none⟩),_,_,undef,undef,rfl,Or.inl ⟨rfl, ⟨{ h with o3 := fun _ => rfl, d4_3 := fun _ => rfl }, rfl, rfl⟩⟩⟩
          · obtain ⟨h, rfl, rfl⟩ := h
            have e3 : y3 = true := by
              revert hc
              cases y3 <;> simp [Region.binds]
            have r3 := h.o3 e3
            subst r3
            clear hc hi
            have kd := ((K0.below h.bel K0.lt).at 2)
            simp at kd
            refine wpOp_step rfl (fun K hK0 => ?_)
            have hK : Hid _ := hK0
            clear hK0
            rw [if_pos (by rfl)]
            go_wp2_with fail
            exact hK.out _ _ ⟨_,_,_,_,true,_,_,_,_,_,.slice a2 m2 c2,_,undef,undef,rfl,Or.inl ⟨rfl, ⟨{ h with o4 := fun _ => rfl, d4_3 := fun _ => e3, d5_4 := fun _ => rfl }, rfl, rfl⟩⟩⟩
          · obtain ⟨h, rfl, rfl⟩ := h
            have e4 : y4 = true := by
              revert hc
              cases y4 <;> simp [Region.binds]
            have r4 := h.o4 e4
            subst r4
            clear hc hi
            refine wpOp_step rfl (fun K hK0 => ?_)
            have hK : Hid _ := hK0
            clear hK0
            rw [if_pos (by rfl)]
            go_wp2_with (first | (go_at_call 44; go_must (refine (T2 x (bel' pr h.bel)).mono ?_; rintro e x2 ⟨rfl, bb⟩)) | fail)
            exact hK.out _ _ ⟨_,_,_,_,_,true,_,_,_,_,_,_,undef,undef,rfl,Or.inl ⟨rfl, ⟨{ h.grow bb with o5 := fun _ => rfl, d5_4 := fun _ => e4 }, rfl, rfl⟩⟩⟩
          · obtain ⟨h, rfl, rfl⟩ := h
            have e0 : y0 = true := by
              revert hc
              cases y0 <;> simp [Region.binds]
            have e1 : y1 = true := by
              revert hc
              cases y1 <;> simp [Region.binds]
            have e2 : y2 = true := by
              revert hc
              cases y2 <;> simp [Region.binds]
            have e5 : y5 = true := by
              revert hc
              cases y5 <;> simp [Region.binds]
            have e4 := h.d5_4 e5
            have e3 := h.d4_3 e4
            have r2 := h.o2 e2
            subst r2
            have r5 := h.o5 e5
            subst r5
            clear hc hi
            subst e0 e1 e2 e3 e4 e5
            have bl := h.bel
            clear h
            refine wpOp_step rfl (fun K hK0 => ?_)
            have hK : Hid _ := hK0
            clear hK0
            rw [if_pos (by rfl)]
            go_wp2_with fail
            exact hK.out _ _ ⟨true,true,true,true,true,true,_,_,_,_,_,_,_,_,rfl,Or.inr (Or.inl ⟨rfl, rfl, rfl, rfl, rfl, bl⟩)⟩
          · simp [Region.binds] at hc
        · rcases (show i = 0 ∨ i = 1 ∨ i = 2 ∨ i = 3 ∨ i = 4 ∨ i = 5 ∨ i = 6 ∨ i = 7 by omega) with rfl | rfl | rfl | rfl | rfl | rfl | rfl | rfl
          · simp at hc
          · simp at hc
          · simp at hc
          · simp at hc
          · simp at hc
          · simp at hc
          · simp at hc
          · clear hc hi
            obtain ⟨rfl, rfl, rfl, rfl, bl⟩ := h
            refine wpOp_step rfl (fun K hK0 => ?_)
            have hK : Hid _ := hK0
            clear hK0
            rw [if_pos (by rfl)]
            go_wp2_with fail
            exact hK.out _ _ ⟨true,true,true,true,true,true,_,_,_,_,_,_,_,_,rfl,Or.inr (Or.inr (⟨rfl, rfl, rfl, rfl, rfl, bl⟩))⟩
        · rcases (show i = 0 ∨ i = 1 ∨ i = 2 ∨ i = 3 ∨ i = 4 ∨ i = 5 ∨ i = 6 ∨ i = 7 by omega) with rfl | rfl | rfl | rfl | rfl | rfl | rfl | rfl <;> simp at hc
      · rintro listed a x ⟨y0, y1, y2, y3, y4, y5, t6, t7, t8, t9, t10, t11, z4, z5, rfl, h⟩ hn
        have al := all_listed (by decide +kernel) hn
        rcases h with ⟨rfl, h⟩ | ⟨rfl, h⟩ | ⟨rfl, h⟩
        · have z := al 6 (by decide)
          simp at z
        · have z := al 7 (by decide)
          simp at z
        · obtain ⟨rfl, rfl, rfl, rfl, bl⟩ := h
          refine hJ _ _ ?_
          go_meet
          case rel => exact ⟨rfl, rfl, bl⟩
      · exact ⟨false, false, false, false, false, false, undef, undef, undef, undef, undef, undef, undef, undef, rfl, Or.inl ⟨rfl, ⟨{ bel := (Below.refl _ _).drew, o0 := (by intro q; cases q), o1 := (by intro q; cases q), o2 := (by intro q; cases q), o3 := (by intro q; cases q), o4 := (by intro q; cases q), o5 := (by intro q; cases q), d4_3 := (by intro q; cases q), d5_4 := (by intro q; cases q) }, rfl, rfl⟩⟩⟩
    case rest =>
      obtain ⟨rfl, rfl, b2⟩ := hcut
      have p2 := bel pr b2
      have KR2 := KR.below b2 KR.lt
      have K2 := K0.below b2 K0.lt
      have k20 := K2.at 0
      have k21 := K2.at 1
      have k22 := K2.at 2
      simp at k20 k21 k22
      clear T1 T2 KR K0 pr b2
      rename World => w2
      go_wp2_with (first
        | (go_at_call 41; refine (SGx _ p2).mono ?_; rintro e w3 ⟨rfl, b3⟩; have p3 := bel p2 b3; have KR3 := KR2.below b3 KR2.lt; have kr0 := KR3.at 0; have kr1 := KR3.at 1; have kf0 := KR3.free 0; have kf1 := KR3.free 1; simp at kr0 kr1)
        | fail)
      have KE := bput (bput KR3 0 (.string s)) 1 (.string t)
      have bE := (p3.setCell (p := ⟨w.heap.size + 1, 0, none⟩) (show w.heap.size ≤ w.heap.size + 1 by omega) (.string s)).setCell (p := ⟨w.heap.size + 1, 1, none⟩) (show w.heap.size ≤ w.heap.size + 1 by omega) (.string t)
      generalize (w3.setCell ⟨w.heap.size + 1, 0, none⟩ (.string s)).setCell ⟨w.heap.size + 1, 1, none⟩ (.string t) = WE at *
      have z0 := KE.at 0
      have z1 := KE.at 1
      simp at z0 z1
      exact bodyPost_ret (v := .tuple #[.agg #[.string s, .string t], .int .i64 0]) (by simp [results, Tryz.results34, go_sem, z0, z1]) rfl ⟨rfl, bE⟩
  · have SGx := SG
    clear SG
    generalize (w.alloc (.cells #[.bool true, .slice a1 m1 c1, .slice a2 m2 c2] 65)).alloc (.cells #[.string ⟨#[]⟩, .string ⟨#[]⟩] 23) = W at *
    go_cut [4, 5] from 6 to 11 (fun x y wc => x = .string s ∧ y = .string t ∧ Below W.heap.size W wc)
    case first =>
      rename_i hm hJ
      refine wp_region_held (S := fun _ => True) (by kernel_rfl) (any_inv (fun listed a x => ∃ (y0 y1 y2 y3 y4 y5 : Bool) (t6 t7 t8 t9 t10 t11 : Value) (z4 z5 : Value), a = ⟨#[.agg #[.bool true, .slice a1 m1 c1, .slice a2 m2 c2], .pointer (some ⟨w.heap.size, 0, none⟩), .pointer (some ⟨w.heap.size + 1, 0, none⟩), .int .i64 0, z4, z5, t6, t7, t8, t9, t10, t11, undef, undef, undef, undef, undef, undef, undef, undef, undef, undef, undef, undef, undef, undef, undef, undef, undef], []⟩ ∧ ((listed = #[y0, y1, y2, y3, y4, y5, false, false] ∧ OQ1 W x (.pointer (some ⟨w.heap.size, 1, none⟩)) (.slice a1 m1 c1) (.string s) (.pointer (some ⟨w.heap.size, 2, none⟩)) (.slice a2 m2 c2) (.string t) y0 y1 y2 y3 y4 y5 t6 t7 t8 t9 t10 t11 ∧ z4 = undef ∧ z5 = undef) ∨ (listed = #[true, true, true, true, true, true, true, false] ∧ t8 = .string s ∧ t11 = .string t ∧ z4 = .string s ∧ z5 = undef ∧ Below W.heap.size W x) ∨ (listed = #[true, true, true, true, true, true, true, true] ∧ t8 = .string s ∧ t11 = .string t ∧ z4 = .string s ∧ z5 = .string t ∧ Below W.heap.size W x))) ?_ ?_ _ _ _ _ (by decide) ?_)
      · rintro listed a x i ⟨y0, y1, y2, y3, y4, y5, t6, t7, t8, t9, t10, t11, z4, z5, rfl, h⟩ hi
        have hr : i < 8 := List.mem_range.1 (List.mem_filter.1 hi).1
        have hc := (List.mem_filter.1 hi).2
        rcases h with ⟨rfl, h⟩ | ⟨rfl, h⟩ | ⟨rfl, h⟩
        · rcases (show i = 0 ∨ i = 1 ∨ i = 2 ∨ i = 3 ∨ i = 4 ∨ i = 5 ∨ i = 6 ∨ i = 7 by omega) with rfl | rfl | rfl | rfl | rfl | rfl | rfl | rfl
          · obtain ⟨h, rfl, rfl⟩ := h
            clear hc hi
            refine wpOp_step rfl (fun K hK0 => ?_)
            have hK : Hid _ := hK0
            clear hK0
            rw [if_pos (by rfl)]
            go_wp2_with fail
            exact hK.out _ _ ⟨true,_,_,_,_,_,.pointer (some ⟨w.heap.size, 1, none⟩),_,_,_,_,_,undef,undef,rfl,Or.inl ⟨rfl, ⟨{ h with o0 := fun _ => rfl }, rfl, rfl⟩⟩⟩
          · obtain ⟨h, rfl, rfl⟩ := h
            have e0 : y0 = true := by
              revert hc
              cases y0 <;> simp [Region.binds]
            have r0 := h.o0 e0
            subst r0
            clear hc hi
            have kd := ((K0.below h.bel K0.lt).at 1)
            simp at kd
            refine wpOp_step rfl (fun K hK0 => ?_)
            have hK : Hid _ := hK0
            clear hK0
            rw [if_pos (by rfl)]
            go_wp2_with fail
            exact hK.out _ _ ⟨_,true,_,_,_,_,_,.slice a1 m1 c1,_,_,_,_,undef,undef,rfl,Or.inl ⟨rfl, ⟨{ h with o1 := fun _ => rfl }, rfl, rfl⟩⟩⟩
          · obtain ⟨h, rfl, rfl⟩ := h
            have e1 : y1 = true := by
              revert hc
              cases y1 <;> simp [Region.binds]
            have r1 := h.o1 e1
            subst r1
            clear hc hi
            refine wpOp_step rfl (fun K hK0 => ?_)
            have hK : Hid _ := hK0
            clear hK0
            rw [if_pos (by rfl)]
            go_wp2_with (first | (go_at_call 44; go_must (refine (T1 x (bel' pr h.bel)).mono ?_; rintro e x2 ⟨rfl, bb⟩)) | fail)
            exact hK.out _ _ ⟨_,_,true,_,_,_,_,_,_,_,_,_,undef,undef,rfl,Or.inl ⟨rfl, ⟨{ h.grow bb with o2 := fun _ => rfl }, rfl, rfl⟩⟩⟩
          · obtain ⟨h, rfl, rfl⟩ := h
            clear hc hi
            refine wpOp_step rfl (fun K hK0 => ?_)
            have hK : Hid _ := hK0
            clear hK0
            rw [if_pos (by rfl)]
            go_wp2_with fail
            exact hK.out _ _ ⟨_,_,_,true,_,_,_,_,_,.pointer (some ⟨w.heap.size, 2, none⟩),_,_,undef,undef,rfl,Or.inl ⟨rfl, ⟨{ h with o3 := fun _ => rfl, d4_3 := fun _ => rfl }, rfl, rfl⟩⟩⟩
          · obtain ⟨h, rfl, rfl⟩ := h
            have e3 : y3 = true := by
              revert hc
              cases y3 <;> simp [Region.binds]
            have r3 := h.o3 e3
            subst r3
            clear hc hi
            have kd := ((K0.below h.bel K0.lt).at 2)
            simp at kd
            refine wpOp_step rfl (fun K hK0 => ?_)
            have hK : Hid _ := hK0
            clear hK0
            rw [if_pos (by rfl)]
            go_wp2_with fail
            exact hK.out _ _ ⟨_,_,_,_,true,_,_,_,_,_,.slice a2 m2 c2,_,undef,undef,rfl,Or.inl ⟨rfl, ⟨{ h with o4 := fun _ => rfl, d4_3 := fun _ => e3, d5_4 := fun _ => rfl }, rfl, rfl⟩⟩⟩
          · obtain ⟨h, rfl, rfl⟩ := h
            have e4 : y4 = true := by
              revert hc
              cases y4 <;> simp [Region.binds]
            have r4 := h.o4 e4
            subst r4
            clear hc hi
            refine wpOp_step rfl (fun K hK0 => ?_)
            have hK : Hid _ := hK0
            clear hK0
            rw [if_pos (by rfl)]
            go_wp2_with (first | (go_at_call 44; go_must (refine (T2 x (bel' pr h.bel)).mono ?_; rintro e x2 ⟨rfl, bb⟩)) | fail)
            exact hK.out _ _ ⟨_,_,_,_,_,true,_,_,_,_,_,_,undef,undef,rfl,Or.inl ⟨rfl, ⟨{ h.grow bb with o5 := fun _ => rfl, d5_4 := fun _ => e4 }, rfl, rfl⟩⟩⟩
          · obtain ⟨h, rfl, rfl⟩ := h
            have e0 : y0 = true := by
              revert hc
              cases y0 <;> simp [Region.binds]
            have e1 : y1 = true := by
              revert hc
              cases y1 <;> simp [Region.binds]
            have e2 : y2 = true := by
              revert hc
              cases y2 <;> simp [Region.binds]
            have e5 : y5 = true := by
              revert hc
              cases y5 <;> simp [Region.binds]
            have e4 := h.d5_4 e5
            have e3 := h.d4_3 e4
            have r2 := h.o2 e2
            subst r2
            have r5 := h.o5 e5
            subst r5
            clear hc hi
            subst e0 e1 e2 e3 e4 e5
            have bl := h.bel
            clear h
            refine wpOp_step rfl (fun K hK0 => ?_)
            have hK : Hid _ := hK0
            clear hK0
            rw [if_pos (by rfl)]
            go_wp2_with fail
            exact hK.out _ _ ⟨true,true,true,true,true,true,_,_,_,_,_,_,_,_,rfl,Or.inr (Or.inl ⟨rfl, rfl, rfl, rfl, rfl, bl⟩)⟩
          · simp [Region.binds] at hc
        · rcases (show i = 0 ∨ i = 1 ∨ i = 2 ∨ i = 3 ∨ i = 4 ∨ i = 5 ∨ i = 6 ∨ i = 7 by omega) with rfl | rfl | rfl | rfl | rfl | rfl | rfl | rfl
          · simp at hc
          · simp at hc
          · simp at hc
          · simp at hc
          · simp at hc
          · simp at hc
          · simp at hc
          · clear hc hi
            obtain ⟨rfl, rfl, rfl, rfl, bl⟩ := h
            refine wpOp_step rfl (fun K hK0 => ?_)
            have hK : Hid _ := hK0
            clear hK0
            rw [if_pos (by rfl)]
            go_wp2_with fail
            exact hK.out _ _ ⟨true,true,true,true,true,true,_,_,_,_,_,_,_,_,rfl,Or.inr (Or.inr (⟨rfl, rfl, rfl, rfl, rfl, bl⟩))⟩
        · rcases (show i = 0 ∨ i = 1 ∨ i = 2 ∨ i = 3 ∨ i = 4 ∨ i = 5 ∨ i = 6 ∨ i = 7 by omega) with rfl | rfl | rfl | rfl | rfl | rfl | rfl | rfl <;> simp at hc
      · rintro listed a x ⟨y0, y1, y2, y3, y4, y5, t6, t7, t8, t9, t10, t11, z4, z5, rfl, h⟩ hn
        have al := all_listed (by decide +kernel) hn
        rcases h with ⟨rfl, h⟩ | ⟨rfl, h⟩ | ⟨rfl, h⟩
        · have z := al 6 (by decide)
          simp at z
        · have z := al 7 (by decide)
          simp at z
        · obtain ⟨rfl, rfl, rfl, rfl, bl⟩ := h
          refine hJ _ _ ?_
          go_meet
          case rel => exact ⟨rfl, rfl, bl⟩
      · exact ⟨false, false, false, false, false, false, undef, undef, undef, undef, undef, undef, undef, undef, rfl, Or.inl ⟨rfl, ⟨{ bel := (Below.refl _ _).drew, o0 := (by intro q; cases q), o1 := (by intro q; cases q), o2 := (by intro q; cases q), o3 := (by intro q; cases q), o4 := (by intro q; cases q), o5 := (by intro q; cases q), d4_3 := (by intro q; cases q), d5_4 := (by intro q; cases q) }, rfl, rfl⟩⟩⟩
    case rest =>
      obtain ⟨rfl, rfl, b2⟩ := hcut
      have p2 := bel pr b2
      have KR2 := KR.below b2 KR.lt
      have K2 := K0.below b2 K0.lt
      have k20 := K2.at 0
      have k21 := K2.at 1
      have k22 := K2.at 2
      simp at k20 k21 k22
      clear T1 T2 KR K0 pr b2
      rename World => w2
      go_wp2_with (first
        | (go_at_call 41; refine (SGx _ p2).mono ?_; rintro e w3 ⟨rfl, b3⟩; have p3 := bel p2 b3; have KR3 := KR2.below b3 KR2.lt; have kr0 := KR3.at 0; have kr1 := KR3.at 1; have kf0 := KR3.free 0; have kf1 := KR3.free 1; simp at kr0 kr1)
        | fail)
      have KE := bput (bput KR3 0 (.string u)) 1 (.string t)
      have bE := (p3.setCell (p := ⟨w.heap.size + 1, 0, none⟩) (show w.heap.size ≤ w.heap.size + 1 by omega) (.string u)).setCell (p := ⟨w.heap.size + 1, 1, none⟩) (show w.heap.size ≤ w.heap.size + 1 by omega) (.string t)
      generalize (w3.setCell ⟨w.heap.size + 1, 0, none⟩ (.string u)).setCell ⟨w.heap.size + 1, 1, none⟩ (.string t) = WE at *
      have z0 := KE.at 0
      have z1 := KE.at 1
      simp at z0 z1
      exact bodyPost_ret (v := .tuple #[.agg #[.string u, .string t], .int .i64 0]) (by simp [results, Tryz.results34, go_sem, z0, z1]) rfl ⟨rfl, bE⟩
/-- Out of a number that is not too long. -/
theorem Out_q (v : Value) (r : Rat) (K : Nat) (w : World) (h : IsQ w v r) (hK : QS r K) (hK' : K ≤ 1000000000) (l1 : (decDigits r.num.natAbs).length ≤ 4096) (l2 : (decDigits r.den).length ≤ 4096) :
    Calls Tryz.prog 34 #[v] w fun e w' => e = .returned (.tuple #[wrq r, .int .i64 0]) ∧ Below w.heap.size w w' := by
  have SG := fun x (b : Below w.heap.size w x) => Sign_q v r x (h.grow b)
  obtain ⟨ns, ds, a1, a2, c1, c2, rfl, h1, n1, v1, h2, n2, v2⟩ := h
  have k1 : ns.length ≤ K := len_of_lt h1.1 n1 (by rw [v1]; exact hK.1)
  have k2 : ds.length ≤ K := len_of_lt h2.1 n2 (by rw [v2]; exact hK.2)
  have := out_walk (decide (r.num < 0)) a1 a2 ns.length c1 ds.length c2 (Mo.sB (decDigits r.num.natAbs)) (Mo.sB (decDigits r.den)) _ (sgn r) w (by rw [Mo.sB_size]; exact l1) (by rw [Mo.sB_size]; exact l2)
    (by unfold sgn; by_cases z : r.num = 0
        · rw [if_pos z, z]
        · rw [if_neg z]; by_cases g : r.num < 0
          · rw [if_pos g]; simp [g]
          · rw [if_neg g]; simp [g]) rfl
    (fun x b => Text_any _ ns _ x (h1.grow b) n1 (by omega) v1) (fun x b => Text_any _ ds _ x (h2.grow b) n2 (by omega) v2) SG
  refine this.mono ?_
  rintro e w' ⟨rfl, b⟩
  refine ⟨?_, b⟩
  unfold wrq Mo.sg
  by_cases g : r.num < 0
  · rw [decide_eq_true g]
    rw [if_pos rfl, if_pos rfl, ← Mo.sB_add]; rfl
  · rw [decide_eq_false g]
    simp
end Go.Proofs.YtmopfnhjooopkaaGreatDoor.L

namespace Go.Proofs.YtmopfnhjooopkaaGreatDoor.Mo
open Go.RowKit Go.Proofs.YtmopfnhjooopkaaGreatDoor.L

theorem wrapI (x : Int) (h0 : -9223372036854775808 ≤ x) (h1 : x < 9223372036854775808) : IntKind.i64.wrap x = x := by
  simp [IntKind.wrap, IntKind.bits, IntKind.signed]; omega
/-- The slice value v reads as the ints xs. -/
def Ri (w : World) (v : Value) (xs : List Int) : Prop :=
  (∀ i, -9223372036854775808 ≤ nth xs i ∧ nth xs i ≤ 9223372036854775807) ∧ ∃ a cap, v = .slice a xs.length cap ∧ xs.length ≤ cap ∧ cap ≤ maxLen ∧ (0 < xs.length → ∃ b o, a = some ⟨b, o, none⟩ ∧ Cells w b o xs)
theorem Ri.grow {w w' : World} {v : Value} {xs : List Int} (h : Ri w v xs) (k : Below w.heap.size w w') : Ri w' v xs := by
  obtain ⟨h1, a, cap, h2, h3, h4, h5⟩ := h
  exact ⟨h1, a, cap, h2, h3, h4, fun l => by obtain ⟨b, o, e, c⟩ := h5 l; exact ⟨b, o, e, c.grow k⟩⟩
end Go.Proofs.YtmopfnhjooopkaaGreatDoor.Mo

namespace Go.Proofs.YtmopfnhjooopkaaGreatDoor.Ta
open Go.RowKit Go.Proofs.YtmopfnhjooopkaaGreatDoor.L Dc
open Go.Proofs.YtmopfnhjooopkaaGreatDoor.Mo (Ri wrapI empty_iff)

end Go.Proofs.YtmopfnhjooopkaaGreatDoor.Ta

namespace Go.Proofs.YtmopfnhjooopkaaGreatDoor.Ta
open Go.RowKit Go.Proofs.YtmopfnhjooopkaaGreatDoor.L Dc
open Go.Proofs.YtmopfnhjooopkaaGreatDoor.Mo (Ri wrapI empty_iff)

end Go.Proofs.YtmopfnhjooopkaaGreatDoor.Ta

namespace Go.Proofs.YtmopfnhjooopkaaGreatDoor.Ta
open Go.RowKit Go.Proofs.YtmopfnhjooopkaaGreatDoor.L Dc
open Go.Proofs.YtmopfnhjooopkaaGreatDoor.Mo (Ri wrapI)

/-- The slice value v reads as the ints xs; it has no room if it is nil; it is not too long. -/
def Rx (w : World) (v : Value) (xs : List Int) : Prop := Ri w v xs ∧ (∃ ao c, v = .slice ao xs.length c ∧ (ao = none → c = 0)) ∧ xs.length * 8 ≤ 140737488351232
theorem Rx.grow {w w' : World} {v : Value} {xs : List Int} (h : Rx w v xs) (k : Below w.heap.size w w') : Rx w' v xs := ⟨h.1.grow k, h.2⟩
/-- The slice value v reads as the rows xss. -/
def Rr (w : World) (v : Value) (xss : List (List Int)) : Prop :=
  xss.length * 24 ≤ 140737488351232 ∧ ∃ ao c, v = .slice ao xss.length c ∧ (0 < xss.length → ∃ b o, ao = some ⟨b, o, none⟩ ∧ ∀ d, d < xss.length → ∃ vd, w.cell? ⟨b, o + d, none⟩ = some vd ∧ Rx w vd (xss.getD d []))
theorem Rr.grow {w w' : World} {v : Value} {xss : List (List Int)} (h : Rr w v xss) (k : Below w.heap.size w w') : Rr w' v xss := by
  obtain ⟨h1, ao, c, h2, h3⟩ := h
  refine ⟨h1, ao, c, h2, fun l => ?_⟩
  obtain ⟨b, o, e, f⟩ := h3 l
  refine ⟨b, o, e, fun d hd => ?_⟩
  obtain ⟨vd, c1, c2⟩ := f d hd
  exact ⟨vd, (k.cell (p := ⟨b, o + d, none⟩) (lt_of_cell c1)).trans c1, c2.grow k⟩

end Go.Proofs.YtmopfnhjooopkaaGreatDoor.Ta

namespace Go.Proofs.YtmopfnhjooopkaaGreatDoor.L
open Go.RowKit Tl

theorem isq_form {w : World} {v : Value} {r : Rat} (h : IsQ w v r) : ∃ g p1 m1 c1 p2 m2 c2, v = .agg #[.bool g, .slice p1 m1 c1, .slice p2 m2 c2] ∧ Hid (g = decide (r.num < 0)) := by
  obtain ⟨ns, ds, a1, a2, c1, c2, e, _⟩ := h
  exact ⟨_, a1, _, c1, a2, _, c2, e, rfl⟩
end Go.Proofs.YtmopfnhjooopkaaGreatDoor.L
namespace Go.Proofs.YtmopfnhjooopkaaGreatDoor.Mo
open Go.RowKit

/-- A number of the reference's is answered. -/
def Qf (r : Rat) (x : World) (e : Ending) (w' : World) : Prop := ∃ g a l c a' l' c', e = .returned (.agg #[.bool g, .slice a l c, .slice a' l' c']) ∧ L.IsQ w' (.agg #[.bool g, .slice a l c, .slice a' l' c']) r ∧ Below x.heap.size x w'
theorem qf_of {P : Program} {f : Nat} {args : Array Value} {r : Rat} {x : World} (h : Calls P f args x fun e w' => ∃ v, e = .returned v ∧ L.IsQ w' v r ∧ Below x.heap.size x w') : Calls P f args x (Qf r x) := by
  refine h.mono ?_
  rintro e w' ⟨v, rfl, hq, b⟩
  obtain ⟨g, a, l, c, a', l', c', rfl, _⟩ := L.isq_form hq
  exact ⟨g, a, l, c, a', l', c', rfl, hq, b⟩
end Go.Proofs.YtmopfnhjooopkaaGreatDoor.Mo
