import Derived.Test.YtebilgnmnambnaaGreatDoorPart02
import Derived.Test.YtebilgnmnambnaaGreatDoorPart07
import Derived.Test.YtebilgnmnambnaaGreatDoorPart09
import Derived.Deep.RegionHeld3
import Derived.Test.YtebilgnmnambnaaGreatDoorPart10
import Derived.Laws.Strings

namespace Go.Proofs.YtebilgnmnambnaaGreatDoor.L
open Go.RowKit Tl
theorem infoB : ∃ i, Tryz.prog.info? 5 = some i ∧ i.zero = some (.int .u8 0) ∧ i.size = 1 ∧ i.bytes = 1 := by
  have h : ((Tryz.prog.info? 5).map fun i => (i.zero, i.size, i.bytes)) = some (some (.int .u8 0), 1, 1) := by kernel_rfl
  obtain ⟨i, h1, h2⟩ := Option.map_eq_some_iff.1 h
  simp only [Prod.mk.injEq] at h2
  exact ⟨i, h1, h2.1, h2.2.1, h2.2.2⟩
theorem wpList_pushb {w : World} {ops : Array Oper} {rest : List Oper} {o : Oper} {a : Act} {Q : Exit → Act → World → Prop} (hgd : o.guard = none) (s x : Operand)
    (ho : o.op = .call { callee := .builtin .append, args := #[s, x], argTypes := #[126, 126] })
    (v : Value) (Y : List Int) (hs : a.eval s = v) (base : Nat) (hown : w.ownsRow base 5 1 v Y.length (Y.map (Value.int .u8))) (hL : Y.length ≤ 70368744177664)
    (ad c : Nat) (y : Int) (hx : a.eval x = .slice (some ⟨ad, 0, none⟩) 1 c) (hn : w.cell? ⟨ad, 0, none⟩ = some (.int .u8 y)) (hbase : base ≤ w.heap.size)
    (h : ∀ v' w', w'.ownsRow base 5 1 v' (Y ++ [y]).length ((Y ++ [y]).map (Value.int .u8)) → Below base w w' → wpList Tryz.prog ops Q rest (a.put o.dst v') w') : wpList Tryz.prog ops Q (o :: rest) a w := by
  obtain ⟨i, hi, hz0, hz1, hz2⟩ := infoB
  refine wpList_append_own w hgd s x 126 ho base 5 i (.int .u8 0) 1 1 Tryz.underlying126 hi hz0 hz1 hz2 rfl (by decide) v Y.length _ hs hown ⟨ad, 0, none⟩ 1 c [.int .u8 y] hx rfl ?_ (by intro u hu; simp at hu; subst hu; rfl) (by unfold maxLen; omega) (by omega) hbase ?_
  · intro j u hj
    match j, hj with
    | 0, hj => simp at hj; subst hj; simpa [Addr.add] using hn
  · intro v' w' hown' hgr _
    refine h v' w' (by simpa using hown') ⟨hgr.os, hgr.tape, hgr.output, hgr.size, fun k hk => hgr.block k (by omega) ?_⟩
    obtain ⟨_, hr⟩ := hown
    rcases hr with ⟨rfl, _⟩ | ⟨g, cap, cur, rfl, hb, _⟩
    · simp [Value.ownBlock]
    · simp [Value.ownBlock]; omega
theorem wpList_pushk {w : World} {ops : Array Oper} {rest : List Oper} {o : Oper} {a : Act} {Q : Exit → Act → World → Prop} (hgd : o.guard = none) (s x : Operand)
    (ho : o.op = .call { callee := .builtin .append, args := #[s, x], argTypes := #[53, 53] })
    (v : Value) (Y : List Int) (hs : a.eval s = v) (base L : Nat) (hown : w.ownsRow base 3 1 v Y.length (Y.map (Value.int .i64))) (hlow : ∀ g, v.ownBlock = some g → g < L) (hL : Y.length ≤ 1099511627776)
    (ad c : Nat) (y : Int) (hx : a.eval x = .slice (some ⟨ad, 0, none⟩) 1 c) (hn : w.cell? ⟨ad, 0, none⟩ = some (.int .i64 y)) (hbase : base ≤ w.heap.size)
    (h : ∀ v' w', w'.ownsRow base 3 1 v' (Y ++ [y]).length ((Y ++ [y]).map (Value.int .i64)) → Below base w w' → (∀ k, L ≤ k → k < w.heap.size → w'.heap[k]? = w.heap[k]?) → wpList Tryz.prog ops Q rest (a.put o.dst v') w') : wpList Tryz.prog ops Q (o :: rest) a w := by
  obtain ⟨i, hi, hz0, hz1, hz2⟩ := info_parts Tryz.infoU
  refine wpList_append_own w hgd s x 53 ho base 3 i (.int .i64 0) 1 8 Tryz.underlying53 hi hz0 hz1 hz2 rfl (by decide) v Y.length _ hs hown ⟨ad, 0, none⟩ 1 c [.int .i64 y] hx rfl ?_ (by intro u hu; simp at hu; subst hu; rfl) (by unfold maxLen; omega) (by omega) hbase ?_
  · intro j u hj
    match j, hj with
    | 0, hj => simp at hj; subst hj; simpa [Addr.add] using hn
  · intro v' w' hown' hgr _
    refine h v' w' (by simpa using hown') ⟨hgr.os, hgr.tape, hgr.output, hgr.size, fun k hk => hgr.block k (by omega) ?_⟩ fun k hk hk' => hgr.block k hk' ?_
    · obtain ⟨_, hr⟩ := hown
      rcases hr with ⟨rfl, _⟩ | ⟨g, cap, cur, rfl, hb, _⟩
      · simp [Value.ownBlock]
      · simp [Value.ownBlock]; omega
    · intro e
      have := hlow k e.symm
      omega
def slen : Value → Nat | .slice _ n _ => n | _ => 0
theorem own_slen {w : World} {base n : Nat} {e : TypeId} {v : Value} {xs : List Value} (h : w.ownsRow base e 1 v n xs) : slen v = n := by
  obtain ⟨_, hr⟩ := h
  rcases hr with ⟨rfl, h0⟩ | ⟨g', cap, cur, rfl, _⟩
  · rw [h0]; rfl
  · rfl
theorem own_low {w : World} {base n : Nat} {e : TypeId} {v : Value} {xs : List Value} (h : w.ownsRow base e 1 v n xs) (g : Nat) (hg : v.ownBlock = some g) : g < w.heap.size := by
  obtain ⟨_, hr⟩ := h
  rcases hr with ⟨rfl, _⟩ | ⟨g', cap, cur, rfl, hb, e3, _⟩
  · simp [Value.ownBlock] at hg
  · simp [Value.ownBlock] at hg
    subst hg
    exact Own.lt ⟨cur, _, e3⟩
theorem own_bytes {w : World} {base : Nat} {e : TypeId} {v : Value} {Y : List Int} (h : w.ownsRow base e 1 v Y.length (Y.map (Value.int .u8))) (ne : 0 < Y.length) :
    ∃ g cap, v = .slice (some ⟨g, 0, none⟩) Y.length cap ∧ base ≤ g ∧ g < w.heap.size ∧ Y.length ≤ cap ∧ cap ≤ 9223372036854775807 ∧ ∀ i, i < Y.length → w.cell? ⟨g, i, none⟩ = some (.int .u8 (nth Y i)) := by
  obtain ⟨_, h2⟩ := h
  rcases h2 with ⟨rfl, h2⟩ | ⟨g, cap, cur, rfl, hb, e3, e4, e5, e6, e7⟩
  · omega
  · refine ⟨g, cap, rfl, hb, Own.lt ⟨cur, _, e3⟩, e4, by unfold maxLen at e5; omega, fun i hi => ?_⟩
    rw [Nat.mul_one] at e7
    have h7 := congrArg (fun l : List Value => l[i]?) e7
    simp only [List.getElem?_take, hi, if_true, List.getElem?_map] at h7
    simp only [World.cell?, e3, Option.isSome_none, Bool.false_eq_true, if_false]
    rw [Array.getElem?_toList] at h7
    rw [h7]
    simp [nth, List.getD_eq_getElem?_getD, List.getElem?_eq_getElem hi]
theorem own_ints {w : World} {base : Nat} {e : TypeId} {v : Value} {Y : List Int} (h : w.ownsRow base e 1 v Y.length (Y.map (Value.int .i64))) (ne : 0 < Y.length) :
    ∃ g cap, v = .slice (some ⟨g, 0, none⟩) Y.length cap ∧ base ≤ g ∧ g < w.heap.size ∧ Y.length ≤ cap ∧ cap ≤ 9223372036854775807 ∧ ∀ i, i < Y.length → w.cell? ⟨g, i, none⟩ = some (.int .i64 (nth Y i)) := by
  obtain ⟨_, h2⟩ := h
  rcases h2 with ⟨rfl, h2⟩ | ⟨g, cap, cur, rfl, hb, e3, e4, e5, e6, e7⟩
  · omega
  · refine ⟨g, cap, rfl, hb, Own.lt ⟨cur, _, e3⟩, e4, by unfold maxLen at e5; omega, fun i hi => ?_⟩
    rw [Nat.mul_one] at e7
    have h7 := congrArg (fun l : List Value => l[i]?) e7
    simp only [List.getElem?_take, hi, if_true, List.getElem?_map] at h7
    simp only [World.cell?, e3, Option.isSome_none, Bool.false_eq_true, if_false]
    rw [Array.getElem?_toList] at h7
    rw [h7]
    simp [nth, List.getD_eq_getElem?_getD, List.getElem?_eq_getElem hi]
def Prt (V : Nat) (ps xs : List Int) : Prop := (∀ i, i < ps.length → nth ps i = ((V / 10 ^ (9 * i) % 1000000000 : Nat) : Int)) ∧ val xs = ((V / 10 ^ (9 * ps.length) : Nat) : Int)
theorem Prt.next {V : Nat} {ps xs zs : List Int} {r : Int} (h : Prt V ps xs) (hv : val zs * 1000000000 + r = val xs) (r0 : 0 ≤ r) (r1 : r < 1000000000) : Prt V (ps ++ [r]) zs := by
  obtain ⟨h1, h2⟩ := h
  have e : (V / 10 ^ (9 * (ps ++ [r]).length) : Nat) = V / 10 ^ (9 * ps.length) / 1000000000 := by
    rw [List.length_append, List.length_singleton, Nat.mul_add, Nat.pow_add, ← Nat.div_div_eq_div_mul]
  generalize hA : V / 10 ^ (9 * ps.length) = A at *
  refine ⟨fun i hi => ?_, ?_⟩
  · rw [List.length_append, List.length_singleton] at hi
    by_cases c : i < ps.length
    · have : nth (ps ++ [r]) i = nth ps i := by simp [nth, List.getD_eq_getElem?_getD, List.getElem?_append_left c]
      rw [this]; exact h1 i c
    · obtain rfl : i = ps.length := by omega
      have : nth (ps ++ [r]) ps.length = r := by simp [nth, List.getD_eq_getElem?_getD]
      rw [this, hA]
      omega
  · rw [e]
    omega
theorem Prt.done {V : Nat} {ps : List Int} (h : Prt V ps []) : V < 10 ^ (9 * ps.length) := by
  have h2 := h.2
  have p : 0 < 10 ^ (9 * ps.length) := Nat.pow_pos (by decide)
  generalize 10 ^ (9 * ps.length) = t at *
  have h3 : V / t = 0 := by simp [val] at h2; omega
  rcases Nat.div_eq_zero_iff.1 h3 with h3 | h3 <;> omega
theorem val_nil0 {xs : List Int} (h : ¬ 0 < xs.length) : xs = [] := List.eq_nil_of_length_eq_zero (by omega)
end Go.Proofs.YtebilgnmnambnaaGreatDoor.L

namespace Go.Proofs.YtebilgnmnambnaaGreatDoor.L
open Go.RowKit Tl Go.Lib
theorem pw_ten (n : Nat) : pw n ≤ ((10 ^ (10 * n) : Nat) : Int) := by
  induction n with
  | zero => decide
  | succ n ih =>
    rw [Nat.mul_add, Nat.pow_add]
    simp only [pw]
    generalize 10 ^ (10 * n) = t at *
    have : (10 : Nat) ^ (10 * 1) = 10000000000 := by decide
    rw [this]
    omega
theorem digits_len {xs : List Int} {V : Nat} (hx : Wd xs) (hV : val xs = (V : Int)) (hne : 0 < xs.length) : nDigits V ≤ 10 * xs.length := by
  refine Dc.nDigits_le (by omega) ?_
  have a := val_lt hx
  have b := pw_ten xs.length
  omega
theorem Prt.few {V : Nat} {ps xs : List Int} (h : Prt V ps xs) (hx : 0 < val xs) : 9 * ps.length < nDigits V := by
  have h2 := h.2
  have p : 0 < 10 ^ (9 * ps.length) := Nat.pow_pos (by decide)
  have : 10 ^ (9 * ps.length) ≤ V := by
    have q : 0 < V / 10 ^ (9 * ps.length) := by omega
    exact (Nat.div_pos_iff.1 q).2
  have l := lt_pow_nDigits V
  have : 10 ^ (9 * ps.length) < 10 ^ nDigits V := by omega
  exact (Nat.pow_lt_pow_iff_right (by decide)).1 this
theorem val_pos {xs : List Int} (hx : Wd xs) (n : Nm xs) (ne : 0 < xs.length) : 0 < val xs := by
  have e := val_top ne
  have t := nm_top hx n ne
  have v0 := val_nonneg (hx.take (xs.length - 1))
  have p := pw_pos (xs.length - 1)
  have := Int.mul_pos p t
  omega
theorem elemB : Tryz.prog.elem 126 = 5 := by kernel_rfl
theorem sliceb_l (g len cap : Nat) (lo : Nat) (h1 : lo ≤ len) (hne : lo < cap) (w : World) :
    (Instr.slice 126 (.slice (some ⟨g, 0, none⟩) len cap) (some (.int .i64 (lo : Int))) none none).run Tryz.prog w = .ok (.slice (some ⟨g, lo, none⟩) (len - lo) (cap - lo)) w := by
  rw [run_slice_l w 126 _ len cap (by rw [elemB]; exact Tryz.underlying126) .i64 _ (by omega) (by omega), elemB]
  have e2 : ¬ cap = lo := by omega
  simp [Tryz.sizeOf5, Result.andThen, sliced, e2, Addr.add]
  omega
set_option maxHeartbeats 3200000 in
set_option maxRecDepth 100000 in
theorem Text_pos (v : Value) (xs0 : List Int) (V : Nat) (w : World) (h : Rd w v xs0) (n0 : Nm xs0) (hl : xs0.length ≤ 1000000000) (hV : val xs0 = (V : Int)) (hne : 0 < xs0.length) :
    Calls Tryz.prog 55 #[v] w fun e w' => e = .returned (.string ⟨(decDigits V).toArray⟩) ∧ Below w.heap.size w w' := by
  obtain ⟨a0, c0, rfl⟩ : ∃ a c, v = .slice a xs0.length c := by obtain ⟨_, a, c, e, _⟩ := h; exact ⟨a, c, e⟩
  have P0 : Hid (Prt V [] xs0) := ⟨fun i hi => by simp at hi, by simp [hV]⟩
  have hpos : 0 < V := by have := val_pos h.1 n0 hne; omega
  have hdl := digits_len h.1 hV hne
  have hn0 : ((xs0.length : Int) == 0) = false := by rw [beq_eq_false_iff_ne]; omega
  clear hV
  go_enter Tryz.func55, Tryz.ntmps55
  go_wp2_with fail
  go_loopw [0, 3] (fun a l wr => ∃ (xs ps : List Int) (a1 : Option Addr) (c1 : Nat), a = .slice a1 xs.length c1 ∧ Rd wr a xs ∧ Nm xs ∧ xs.length ≤ xs0.length ∧ wr.ownsRow w.heap.size 3 1 l ps.length (ps.map (Value.int .i64)) ∧ Prt V ps xs ∧ 9 * ps.length ≤ nDigits V + 9 ∧ Below w.heap.size w wr) (fun _ l _ => nDigits V - slen l)
  case atStart => exact ⟨xs0, [], a0, c0, rfl, h, n0, Nat.le_refl _, ⟨by simp, Or.inl ⟨rfl, rfl⟩⟩, P0.out, by simp, Below.refl _ _⟩
  case round =>
    obtain ⟨xs, ps, a1, c1, rfl, hr, hn, hxl, hown, hp, hq, hb⟩ := hrel
    have HQ : Hid (9 * ps.length ≤ nDigits V + 9) := hq
    clear hq
    have HP : Hid (Prt V ps xs) := hp
    have HW : Hid (Wd xs) := hr.1
    clear hp
    have hsz := hb.size
    by_cases hx : 0 < xs.length
    · have fw := HP.out.few (val_pos HW.out hn hx)
      have low := own_low hown
      go_wp2_with (first
        | (go_at_call 113; refine (small_new _ xs 1000000000 _ hr (by omega) (by decide) (by decide)).mono ?_; rintro e w2 ⟨n2, zs, m, rfl, hz, nz, vz, m0, m1, b2⟩; obtain rfl : n2 = zs.length := (by obtain ⟨_, a, c, e, _⟩ := hz; simpa [slen] using congrArg slen e); have VZ : Hid (val zs * 1000000000 + m = val xs) := vz; clear vz; have own2 := own_grow hown b2; have hb2 := hb.trans (b2.mono hsz); have hsz2 := hb2.size; have hsz3 := b2.size)
        | (at_builtin; (refine wpList_pushk rfl _ _ rfl _ ps rfl w.heap.size wr.heap.size (own_grow own2 ((Below.refl _ _).alloc (Nat.le_refl _) _)) low (by omega) _ _ m rfl (by simp) (by simp; omega) ?_; intro l' w3 own3 b3 b4; have hb3 := (hb2.alloc hsz2 _).trans b3))
        | fail)
      go_roundw
      case rel =>
        have lz : zs.length ≤ xs.length := len_mono HW.out hz.1 nz (by have := VZ.out; have := val_nonneg hz.1; omega)
        refine ⟨zs, ps ++ [m], _, _, rfl, ?_, nz, by omega, own3, HP.out.next VZ.out m0 m1, by rw [List.length_append, List.length_singleton]; omega, hb3⟩
        have hz' := hz.grow ((Below.refl _ _).alloc (Nat.le_refl _) (.cells #[.int .i64 m] 3))
        obtain ⟨q1, a, c, e, q2, q3, q4⟩ := hz'
        refine ⟨q1, a, c, e, q2, q3, fun l => ?_⟩
        obtain ⟨b, o, rfl, hc⟩ := q4 l
        simp only [Value.slice.injEq, Option.some.injEq, Addr.mk.injEq] at e
        refine ⟨b, o, rfl, fun i hi => ?_⟩
        have hlt := hc.lt l
        exact (World.cell?_of_block (a := ⟨b, o + i, none⟩) (b4 b (by omega) hlt)).trans (hc i hi)
      case measure =>
        have e1 := own_slen hown
        have e2 := own_slen own3
        rw [List.length_append, List.length_singleton] at e2
        rw [e1, e2]
        omega
    · have HP2 : Hid (Prt V ps []) := by have := HP.out; rw [val_nil0 hx] at this; exact this
      have e0 : xs.length = 0 := by omega
      rw [e0]
      have hm : 0 < ps.length := by
        rcases Nat.eq_zero_or_pos ps.length with e | e
        · have e' : ps = [] := List.eq_nil_of_length_eq_zero e
          have := HP2.out.2
          rw [e'] at this
          simp [val] at this
          omega
        · exact e
      obtain ⟨g, cp, rfl, g0, g1, gc, gc', HC'⟩ := own_ints hown hm
      have HC : Hid (∀ i, i < ps.length → wr.cell? ⟨g, i, none⟩ = some (.int .i64 (nth ps i))) := HC'
      have hN : Hid (V < 10 ^ (9 * ps.length)) := HP2.out.done
      have hpl : Hid (∀ i, i < ps.length → nth ps i = ((V / 10 ^ (9 * i) % 1000000000 : Nat) : Int)) := HP2.out.1
      have hmb := HQ.out
      clear HC' hown HP HP2 HW hr hn h n0 HQ P0 hx hxl e0
      have hp1 : Hid (∀ i, i < ps.length → 0 ≤ nth ps i ∧ nth ps i < 1000000000) := fun i hi => by rw [hpl.out i hi]; omega
      generalize hmm : ps.length = m at *
      clear hmm
      go_wp2_with fail
      go_loopw [6, 7] (fun b i wr2 => ∃ j : Nat, j ≤ m ∧ i = .int .i64 ((j : Int) - 1) ∧ wr2.ownsRow wr.heap.size 5 1 b (Dc.dgs V (9 * m) (9 * (m - j))).length ((Dc.dgs V (9 * m) (9 * (m - j))).map (Value.int .u8)) ∧ Below wr.heap.size wr wr2) (fun _ i _ => (RowKit.intOf i + 1).toNat)
      case atStart => exact ⟨m, Nat.le_refl _, rfl, by rw [Nat.sub_self, Nat.mul_zero, Dc.dgs_zero]; exact ⟨by simp, Or.inl ⟨rfl, rfl⟩⟩, Below.refl _ _⟩
      case round =>
        rename World => wr2
        obtain ⟨j, hj, rfl, own2, bb⟩ := hrel
        by_cases hj0 : 0 < j
        · obtain ⟨i, rfl⟩ : ∃ i, j = i + 1 := ⟨j - 1, by omega⟩
          have e1 : ((i + 1 : Nat) : Int) - 1 = (i : Int) := by omega
          have HE : Hid (9 * (m - (i + 1)) = 9 * (m - 1 - i) + 0) := by show _ = _; omega
          rw [HE.out] at own2
          rw [e1]
          clear e1
          go_wp2_with fail
          go_loopw [6, 8] (fun b u wr3 => ∃ t : Nat, t ≤ 9 ∧ u = .int .i64 ((100000000 / 10 ^ t : Nat) : Int) ∧ wr3.ownsRow wr.heap.size 5 1 b (Dc.dgs V (9 * m) (9 * (m - 1 - i) + t)).length ((Dc.dgs V (9 * m) (9 * (m - 1 - i) + t)).map (Value.int .u8)) ∧ Below wr.heap.size wr wr3) (fun _ u _ => (RowKit.intOf u).toNat)
          case atStart => exact ⟨0, by omega, rfl, own2, bb⟩
          case round =>
            rename World => wr3
            obtain ⟨t, ht, rfl, own3, b3⟩ := hrel
            by_cases ht9 : t ≤ 8
            · have up := Dc.unit_pos ht9
              have ul := Dc.unit_le t
              have HD : Hid _ := Dc.place V i t m (by omega) ht9
              have HS : Hid _ := Dc.dgs_succ V (9 * m) (9 * (m - 1 - i) + t)
              have un := Dc.unit_next t
              have UN : Hid ((100000000 / 10 ^ t : Nat) / 10 = (100000000 / 10 ^ (t + 1) : Nat)) := un
              clear un
              have hPe : Hid (nth ps i = ((V / 10 ^ (9 * i) % 1000000000 : Nat) : Int)) := hpl.out i (by omega)
              obtain ⟨hP0, hP1⟩ := hp1.out i (by omega)
              have cP : wr3.cell? ⟨g, i, none⟩ = some (.int .i64 (nth ps i)) := (b3.cell (p := ⟨g, i, none⟩) g1).trans (HC.out i (by omega))
              generalize hU : (100000000 / 10 ^ t : Nat) = U at *
              generalize nth ps i = P at *
              have hZ : Hid ((48 : Int) + P / (U : Int) % 10 = 48 + ((V / 10 ^ (9 * m - 1 - (9 * (m - 1 - i) + t)) % 10 : Nat) : Int)) := by
                show _ = _
                rw [hPe.out, ← HD.out]
                omega
              have q0 : 0 ≤ P / (U : Int) := Int.ediv_nonneg hP0 (by omega)
              have q1 : P / (U : Int) ≤ P := Int.ediv_le_self _ hP0
              have d1 : P.tdiv (U : Int) = P / (U : Int) := Int.tdiv_eq_ediv_of_nonneg hP0
              generalize P / (U : Int) = Q at *
              have d2 : IntKind.i64.wrap Q = Q := wrap_self _ (by omega) (by omega)
              have d3 : Q.tmod 10 = Q % 10 := Int.tmod_eq_emod_of_nonneg q0
              have d4 : IntKind.i64.wrap (48 + Q % 10) = 48 + Q % 10 := wrap_self _ (by omega) (by omega)
              have d5 : IntKind.u8.wrap (48 + Q % 10) = 48 + Q % 10 := by simp [IntKind.wrap, IntKind.bits, IntKind.signed]; omega
              have nz : ((U : Int) == 0) = false := by rw [beq_eq_false_iff_ne]; omega
              have nz2 : ¬ (U : Int) = 0 := by omega
              have u1 : (U : Int).tdiv 10 = (U : Int) / 10 := Int.tdiv_eq_ediv_of_nonneg (by omega)
              have hsz3 := b3.size
              have hY : (Dc.dgs V (9 * m) (9 * (m - 1 - i) + t)).length ≤ 70368744177664 := by rw [Dc.dgs_length]; omega
              generalize Dc.dgs V (9 * m) (9 * (m - 1 - i) + t) = Y at *
              clear hU HD hPe
              go_wp2_with (first
                | (at_builtin; (refine wpList_pushb rfl _ _ rfl _ Y rfl wr.heap.size (own_grow own3 ((Below.refl _ _).alloc (Nat.le_refl _) _)) hY _ _ (48 + Q % 10) rfl (by simp) (by simp; omega) ?_; intro l' w4 own4 b4; have b5 := (b3.alloc hsz3 _).trans b4))
                | fail)
              go_roundw
              case rel => exact ⟨t + 1, by omega, by rw [← UN.out]; congr 1, by rw [← Nat.add_assoc, HS.out, ← hZ.out]; exact own4, b5⟩
              case measure => simp [RowKit.intOf]; omega
            · obtain rfl : t = 9 := by omega
              rw [Dc.unit_end]
              go_wp2_with fail
              go_roundw
              case rel => exact ⟨i, by omega, by go_num, by rw [show 9 * (m - i) = 9 * (m - 1 - i) + 9 from by omega]; exact own3, b3⟩
              case measure => simp [RowKit.intOf]
        · obtain rfl : j = 0 := by omega
          rw [Nat.sub_zero] at own2
          obtain ⟨gb, cb, rfl, gb0, gb1, gc2, gc3, HB'⟩ := own_bytes own2 (by rw [Dc.dgs_length]; omega)
          rw [Dc.dgs_length] at HB' gc2 ⊢
          have hnd := Dc.nDigits_le (by omega) hN.out
          have hnp := nDigits_pos V
          have HB : Hid (∀ i, i < 9 * m → wr2.cell? ⟨gb, i, none⟩ = some (.int .u8 (48 + ((V / 10 ^ (9 * m - 1 - i) % 10 : Nat) : Int)))) := fun i hi => by
            rw [HB' i hi]
            unfold nth
            rw [Dc.dgs_at _ _ _ _ hi]
          have HR : Hid (strOfNums ((Dc.dgs V (9 * m) (9 * m)).drop (9 * m - nDigits V)) = ⟨(decDigits V).toArray⟩) := Dc.dgs_str V (9 * m) hnd
          have HC2 : Hid (∀ i, i < nDigits V → wr2.cell? ⟨gb, 9 * m - nDigits V + i, none⟩ = some (.int .u8 (((Dc.dgs V (9 * m) (9 * m)).drop (9 * m - nDigits V)).getD i 0))) := fun i hi => by
            rw [HB' _ (by omega)]
            simp [nth, List.getD_eq_getElem?_getD]
          have HT : Hid (¬ V / 10 ^ (nDigits V - 1) % 10 = 0) := Dc.top_digit V hpos
          have HH : Hid (∀ j, nDigits V ≤ j → V / 10 ^ j = 0) := fun j hj => Dc.high_digit V j hj
          clear HB' own2 hN hpl hp1 HC
          have hbb := hb.trans (bb.mono hsz)
          generalize hN9 : 9 * m = N at *
          go_wp2_with fail
          go_loop [9] (fun t => ∃ k : Nat, k ≤ N - nDigits V ∧ t = .int .i64 k) (fun t => N - nDigits V - (RowKit.intOf t).toNat)
          case atStart => exact ⟨0, by omega, rfl⟩
          case round =>
            obtain ⟨k, hk, rfl⟩ := hrel
            have c0 := HB.out k (by omega)
            by_cases hlt : k < N - nDigits V
            · rw [HH.out (N - 1 - k) (by omega)] at c0
              go_wp2
              go_round
              case rel => exact ⟨k + 1, by omega, by go_num⟩
              case measure => simp [RowKit.intOf]; omega
            · obtain rfl : k = N - nDigits V := by omega
              rw [show N - 1 - (N - nDigits V) = nDigits V - 1 from by omega] at c0
              have hz := HT.out
              generalize V / 10 ^ (nDigits V - 1) % 10 = z at *
              have hz1 : ((48 + (z : Int)) == 48) = false := by rw [beq_eq_false_iff_ne]; omega
              have cv := run_convert_bytes_arg (P := Tryz.prog) wr2 126 5 Tryz.underlying126 Tryz.underlying5 gb (N - nDigits V) (nDigits V) (cb - (N - nDigits V)) ((Dc.dgs V N N).drop (N - nDigits V)) (by rw [List.length_drop, Dc.dgs_length]; omega) HC2.out 9 Tryz.underlying9
              rw [HR.out] at cv
              have sl := sliceb_l gb N cb (N - nDigits V) (by omega) (by omega) wr2
              rw [show N - (N - nDigits V) = nDigits V from by omega] at sl
              have hK : N - nDigits V < N := by omega
              have hK2 : N - nDigits V < cb := by omega
              clear HR HC2 HB HT HH
              generalize N - nDigits V = K at *
              have hne2 : ¬ cb = K := by omega
              go_wp2
              go_ret
              exact ⟨rfl, hbb⟩
theorem Text_any (v : Value) (xs : List Int) (V : Nat) (w : World) (h : Rd w v xs) (n0 : Nm xs) (hl : xs.length ≤ 1000000000) (hV : val xs = (V : Int)) :
    Calls Tryz.prog 55 #[v] w fun e w' => e = .returned (.string ⟨(decDigits V).toArray⟩) ∧ Below w.heap.size w w' := by
  by_cases hne : 0 < xs.length
  · exact Text_pos v xs V w h n0 hl hV hne
  · obtain ⟨a0, c0, rfl⟩ : ∃ a c, v = .slice a xs.length c := by obtain ⟨_, a, c, e, _⟩ := h; exact ⟨a, c, e⟩
    have e0 : xs.length = 0 := by omega
    have eV : V = 0 := by rw [val_nil0 hne] at hV; simp [val] at hV; omega
    have R : Hid (decDigits V = [48]) := by show _ = _; rw [eV, decDigits_one (by decide)]; rfl
    rw [e0]
    clear h n0 hV
    go_enter Tryz.func55, Tryz.ntmps55
    go_wp2
    go_ret
    exact ⟨by rw [R.out]; rfl, Below.refl _ _⟩
end Go.Proofs.YtebilgnmnambnaaGreatDoor.L

namespace Go.Proofs.YtebilgnmnambnaaGreatDoor.L
open Go.RowKit Tl Go.Lib
theorem ten_pw (n : Nat) : ((10 ^ n : Nat) : Int) ≤ pw n := by
  induction n with
  | zero => decide
  | succ n ih =>
    rw [Nat.pow_succ]
    simp only [pw]
    omega
def Rs (l : List UInt8) (a j : Nat) (v u : Int) : Prop := v = (Dc.num ((l.drop a).take j) : Int) ∧ u = ((10 ^ j : Nat) : Int)
theorem Rs.next {l : List UInt8} {a j : Nat} {v u : Int} (h : Rs l a j v u) (hj : a + j < l.length) : Rs l a (j + 1) (v * 10 + (((l[a + j]).toNat - 48 : Nat) : Int)) (u * 10) := by
  obtain ⟨rfl, rfl⟩ := h
  refine ⟨?_, by rw [Nat.pow_succ]; simp⟩
  rw [Dc.num_take _ _ (by rw [List.length_drop]; omega)]
  simp
theorem Rs.bd {l : List UInt8} {a j : Nat} {v u : Int} (h : Rs l a j v u) (hd : ∀ c ∈ l, Dc.Dg c) (hj : a + j ≤ l.length) (h9 : j ≤ 9) : 0 ≤ v ∧ v < 1000000000 ∧ 0 < u ∧ u ≤ 1000000000 := by
  obtain ⟨rfl, rfl⟩ := h
  have a1 := Dc.num_lt ((l.drop a).take j) (fun c hc => hd c (List.mem_of_mem_drop (List.mem_of_mem_take hc)))
  rw [List.length_take, List.length_drop, Nat.min_eq_left (by omega)] at a1
  have b1 : 10 ^ j ≤ 10 ^ 9 := Nat.pow_le_pow_right (by decide) h9
  have b2 : 0 < 10 ^ j := Nat.pow_pos (by decide)
  omega
set_option maxHeartbeats 3200000 in
set_option maxRecDepth 100000 in
theorem BRead_any (s : ByteArray) (w : World) (hs : s.size ≤ 1000000000) (hd : ∀ c ∈ s.data.toList, Dc.Dg c) :
    Calls Tryz.prog 76 #[.string s] w fun e w' => ∃ v zs, e = .returned v ∧ Rd w' v zs ∧ Nm zs ∧ val zs = (Dc.num s.data.toList : Int) ∧ zs.length ≤ s.size ∧ Below w.heap.size w w' := by
  have hl : Hid (s.data.toList.length = s.size) := by show _ = _; simp
  have HD : Hid (∀ c ∈ s.data.toList, Dc.Dg c) := hd
  clear hd
  go_enter Tryz.func76, Tryz.ntmps76
  go_wp2_with fail
  go_loopw [3, 4] (fun o p wr => ∃ (a : Nat) (xs : List Int), a ≤ s.size ∧ p = .int .i64 a ∧ Rd wr o xs ∧ Nm xs ∧ val xs = (Dc.num (s.data.toList.take a) : Int) ∧ xs.length ≤ a ∧ Below w.heap.size w wr) (fun _ p _ => s.size - (intOf p).toNat)
  case atStart => exact ⟨0, [], by omega, rfl, rd_nil _, Or.inl rfl, by simp [val, Dc.num], by simp, Below.refl _ _⟩
  case round =>
    obtain ⟨a, xs, ha, rfl, hr, hn, hv, hxl, hb⟩ := hrel
    have HV : Hid (val xs = (Dc.num (s.data.toList.take a) : Int)) := hv
    clear hv
    have hsz := hb.size
    by_cases hlt : a < s.size
    · obtain ⟨n, hn9⟩ : ∃ n : Nat, min 9 (s.size - a) = n := ⟨_, rfl⟩
      have hm : (if (s.size : Int) - (a : Int) < 9 then (s.size : Int) - (a : Int) else 9) = (n : Int) := by split <;> omega
      have n1 : n ≤ 9 := by omega
      have n2 : a + n ≤ s.size := by omega
      have n3 : 0 < n := by omega
      clear hn9
      go_wp2_with fail
      go_loop [6, 7, 8] (fun v u i => ∃ (j : Nat) (x y : Int), j ≤ n ∧ i = .int .i64 ((a : Int) + j) ∧ v = .int .i64 x ∧ u = .int .i64 y ∧ Rs s.data.toList a j x y) (fun _ _ i => a + n - (intOf i).toNat)
      case atStart => exact ⟨0, 0, 1, by omega, by simp, rfl, rfl, by simp [Dc.num], by simp⟩
      case round =>
        obtain ⟨j, x, y, hj, rfl, rfl, rfl, S⟩ := hrel
        have HS : Hid (Rs s.data.toList a j x y) := S
        obtain ⟨x0, x1, y0, y1⟩ := S.bd HD.out (by rw [hl.out]; omega) (by omega)
        clear S
        by_cases hjn : j < n
        · have hk : a + j < s.size := by omega
          have NX : Hid _ := HS.out.next (by rw [hl.out]; omega)
          have dg := HD.out s[a + j] (List.getElem_mem _)
          unfold Dc.Dg at dg
          have hc : Hid (((s[a + j].toNat : Int) - 48) = (((s.data.toList[a + j]'(by rw [hl.out]; omega)).toNat - 48 : Nat) : Int)) := by
            show _ = _
            have : s.data.toList[a + j]'(by rw [hl.out]; omega) = s[a + j] := rfl
            rw [this]
            omega
          have ei : ((a : Int) + j).toNat = a + j := by omega
          have ei0 : (0 : Int) ≤ (a : Int) + j := by omega
          have ei1 : (a : Int) + j < s.size := by omega
          have wc : IntKind.u8.wrap ((s[a + j].toNat : Int) - 48) = (s[a + j].toNat : Int) - 48 := by simp [IntKind.wrap, IntKind.bits, IntKind.signed]; omega
          go_wp2
          go_round
          case rel => exact ⟨j + 1, x * 10 + ((s[a + j].toNat : Int) - 48), y * 10, by omega, by go_num, rfl, rfl, by rw [hc.out]; exact NX.out⟩
          case measure => simp [intOf]; omega
        · obtain rfl : j = n := by omega
          have hnum : Hid (Dc.num (s.data.toList.take (a + j)) = Dc.num (s.data.toList.take a) * 10 ^ j + Dc.num ((s.data.toList.drop a).take j)) := by
            show _ = _
            rw [List.take_add, Dc.num_append, List.length_take, List.length_drop, hl.out, Nat.min_eq_left (by omega)]
          have p1 : pw 1 = 1073741824 := by decide
          have P1 : Hid (pw 1 = 1073741824) := p1
          clear p1
          go_wp2_with (first
            | (go_at_call 100; ((with_reducible refine (NatOf_any y _ (by omega) (by omega)).mono ?_); rintro e w2 ⟨r2, zs2, rfl, hz2, nz2, vz2, b2⟩; have l2 : zs2.length ≤ 1 := len_of_lt hz2.1 nz2 (by rw [P1.out, vz2]; omega); have V2 : Hid (val zs2 = y) := vz2; clear vz2; have hr2 := hr.grow b2))
            | (go_at_call 100; ((with_reducible refine (NatOf_any x _ (by omega) (by omega)).mono ?_); rintro e w4 ⟨r4, zs4, rfl, hz4, nz4, vz4, b4⟩; have l4 : zs4.length ≤ 1 := len_of_lt hz4.1 nz4 (by rw [P1.out, vz4]; omega); have V4 : Hid (val zs4 = x) := vz4; clear vz4; have hz3' := hz3.grow b4))
            | (go_at_call 78; ((with_reducible refine (Mul_any _ _ xs zs2 _ hr2 hz2 (by omega) (by omega)).mono ?_); rintro e w3 ⟨r3, zs3, rfl, hz3, nz3, vz3, b3⟩; have l3 : zs3.length ≤ xs.length + zs2.length := mul_len hr2.1 hz2.1 hz3.1 nz3 vz3; have V3 : Hid (val zs3 = val xs * val zs2) := vz3; clear vz3))
            | (go_at_call 79; ((with_reducible refine (Add_any _ _ zs3 zs4 _ hz3' hz4 (by omega) (by omega)).mono ?_); rintro e w5 ⟨r5, zs5, rfl, hz5, nz5, vz5, b5⟩; have V5 : Hid (val zs5 = val zs3 + val zs4) := vz5; clear vz5)))
          go_roundw
          case rel =>
            have ev : val zs5 = (Dc.num (s.data.toList.take (a + j)) : Int) := by
              rw [V5.out, V4.out, V3.out, V2.out, HV.out, hnum.out, HS.out.1, HS.out.2]
              simp
            have lt := Dc.num_lt_take s.data.toList HD.out (a + j) (by rw [hl.out]; omega)
            have tp := ten_pw (a + j)
            refine ⟨a + j, zs5, by omega, by go_num, hz5, nz5, ev, len_of_lt hz5.1 nz5 (by rw [ev]; omega), ?_⟩
            exact hb.trans (((b2.trans (b3.mono b2.size)).trans (b4.mono (Nat.le_trans b2.size b3.size))).trans (b5.mono (Nat.le_trans (Nat.le_trans b2.size b3.size) b4.size)) |>.mono hsz)
          case measure => simp [intOf]; omega
    · obtain rfl : a = s.size := by omega
      go_wp2
      go_ret
      refine ⟨_, xs, rfl, hr, hn, ?_, hxl, hb⟩
      rw [HV.out, List.take_of_length_le (by rw [hl.out]; omega)]
end Go.Proofs.YtebilgnmnambnaaGreatDoor.L
