import Derived.Test.YtebilgnmnambnaaGreatDoorPart02
import Derived.Test.YtebilgnmnambnaaGreatDoorPart07
import Derived.Test.YtebilgnmnambnaaGreatDoorPart09
import Derived.Deep.RegionHeld3
import Derived.Test.YtebilgnmnambnaaGreatDoorPart10
import Derived.Laws.Strings
import Derived.Test.YtebilgnmnambnaaGreatDoorPart06
import Derived.Deep.DeepCutAuto

namespace Go.Proofs.YtebilgnmnambnaaGreatDoor.L
open Go.RowKit Tl
theorem infoB : ∃ i, Tryz.prog.info? 5 = some i ∧ i.zero = some (.int .u8 0) ∧ i.size = 1 ∧ i.bytes = 1 := by
 have h : ((Tryz.prog.info? 5).map fun i => (i.zero, i.size, i.bytes)) = some (some (.int .u8 0), 1, 1) := by kernel_rfl
 obtain ⟨i, h1, h2⟩ := Option.map_eq_some_iff.1 h
 simp only [Prod.mk.injEq] at h2
 exact ⟨i, h1, h2.1, h2.2.1, h2.2.2⟩
theorem wpList_pushb {w : World} {ops : Array Oper} {rest : List Oper} {o : Oper} {a : Act} {Q : Exit → Act → World → Prop} (hgd : o.guard = none) (s x : Operand)
  (ho : o.op = .call { callee := .builtin .append, args := #[s, x], argTypes := #[126, 126] })
  (v : Value) (Y : List Int) (hs : a.eval s = v) (base : Nat) (hown : w.ownsRow base 5 1 v Y.length (Y.map (Value.int .u8))) (hL : Y.length ≤ 70368744177664)
  (ad c : Nat) (y : Int) (hx : a.eval x = .slice (some ⟨ad, 0, none⟩) 1 c) (hn : w.cell? ⟨ad, 0, none⟩ = some (.int .u8 y)) (hbase : base ≤ w.heap.size)
  (h : ∀ v' w', w'.ownsRow base 5 1 v' (Y ++ [y]).length ((Y ++ [y]).map (Value.int .u8)) → Below base w w' → wpList Tryz.prog ops Q rest (a.put o.dst v') w') : wpList Tryz.prog ops Q (o :: rest) a w := by
 obtain ⟨i, hi, hz0, hz1, hz2⟩ := infoB
 refine wpList_append_own w hgd s x 126 ho base 5 i (.int .u8 0) 1 1 Tryz.underlying126 hi hz0 hz1 hz2 rfl (by decide) v Y.length _ hs hown ⟨ad, 0, none⟩ 1 c [.int .u8 y] hx rfl ?_ (by intro u hu; simp at hu; subst hu; rfl) (by unfold maxLen; omega) (by omega) hbase ?_
 ·intro j u hj
  match j, hj with
  | 0, hj => simp at hj; subst hj; simpa [Addr.add] using hn
 ·intro v' w' hown' hgr _
  refine h v' w' (by simpa using hown') ⟨hgr.os, hgr.tape, hgr.output, hgr.size, fun k hk => hgr.block k (by omega) ?_⟩
  obtain ⟨_, hr⟩ := hown
  rcases hr with ⟨rfl, _⟩ | ⟨g, cap, cur, rfl, hb, _⟩
  ·simp [Value.ownBlock]
  ·simp [Value.ownBlock]; omega
theorem wpList_pushk {w : World} {ops : Array Oper} {rest : List Oper} {o : Oper} {a : Act} {Q : Exit → Act → World → Prop} (hgd : o.guard = none) (s x : Operand)
  (ho : o.op = .call { callee := .builtin .append, args := #[s, x], argTypes := #[53, 53] })
  (v : Value) (Y : List Int) (hs : a.eval s = v) (base L : Nat) (hown : w.ownsRow base 3 1 v Y.length (Y.map (Value.int .i64))) (hlow : ∀ g, v.ownBlock = some g → g < L) (hL : Y.length ≤ 1099511627776)
  (ad c : Nat) (y : Int) (hx : a.eval x = .slice (some ⟨ad, 0, none⟩) 1 c) (hn : w.cell? ⟨ad, 0, none⟩ = some (.int .i64 y)) (hbase : base ≤ w.heap.size)
  (h : ∀ v' w', w'.ownsRow base 3 1 v' (Y ++ [y]).length ((Y ++ [y]).map (Value.int .i64)) → Below base w w' → (∀ k, L ≤ k → k < w.heap.size → w'.heap[k]? = w.heap[k]?) → wpList Tryz.prog ops Q rest (a.put o.dst v') w') : wpList Tryz.prog ops Q (o :: rest) a w := by
 obtain ⟨i, hi, hz0, hz1, hz2⟩ := info_parts Tryz.infoU
 refine wpList_append_own w hgd s x 53 ho base 3 i (.int .i64 0) 1 8 Tryz.underlying53 hi hz0 hz1 hz2 rfl (by decide) v Y.length _ hs hown ⟨ad, 0, none⟩ 1 c [.int .i64 y] hx rfl ?_ (by intro u hu; simp at hu; subst hu; rfl) (by unfold maxLen; omega) (by omega) hbase ?_
 ·intro j u hj
  match j, hj with
  | 0, hj => simp at hj; subst hj; simpa [Addr.add] using hn
 ·intro v' w' hown' hgr _
  refine h v' w' (by simpa using hown') ⟨hgr.os, hgr.tape, hgr.output, hgr.size, fun k hk => hgr.block k (by omega) ?_⟩ fun k hk hk' => hgr.block k hk' ?_
  ·obtain ⟨_, hr⟩ := hown
   rcases hr with ⟨rfl, _⟩ | ⟨g, cap, cur, rfl, hb, _⟩
   ·simp [Value.ownBlock]
   ·simp [Value.ownBlock]; omega
  ·intro e
   have := hlow k e.symm
   omega
def slen : Value → Nat | .slice _ n _ => n | _ => 0
theorem own_slen {w : World} {base n : Nat} {e : TypeId} {v : Value} {xs : List Value} (h : w.ownsRow base e 1 v n xs) : slen v = n := by
 obtain ⟨_, hr⟩ := h
 rcases hr with ⟨rfl, h0⟩ | ⟨g', cap, cur, rfl, _⟩
 ·rw [h0]; rfl
 ·rfl
theorem own_low {w : World} {base n : Nat} {e : TypeId} {v : Value} {xs : List Value} (h : w.ownsRow base e 1 v n xs) (g : Nat) (hg : v.ownBlock = some g) : g < w.heap.size := by
 obtain ⟨_, hr⟩ := h
 rcases hr with ⟨rfl, _⟩ | ⟨g', cap, cur, rfl, hb, e3, _⟩
 ·simp [Value.ownBlock] at hg
 ·simp [Value.ownBlock] at hg
  subst hg
  exact Own.lt ⟨cur, _, e3⟩
theorem own_bytes {w : World} {base : Nat} {e : TypeId} {v : Value} {Y : List Int} (h : w.ownsRow base e 1 v Y.length (Y.map (Value.int .u8))) (ne : 0 < Y.length) :
  ∃ g cap, v = .slice (some ⟨g, 0, none⟩) Y.length cap ∧ base ≤ g ∧ g < w.heap.size ∧ Y.length ≤ cap ∧ cap ≤ 9223372036854775807 ∧ ∀ i, i < Y.length → w.cell? ⟨g, i, none⟩ = some (.int .u8 (nth Y i)) := by
 obtain ⟨_, h2⟩ := h
 rcases h2 with ⟨rfl, h2⟩ | ⟨g, cap, cur, rfl, hb, e3, e4, e5, e6, e7⟩
 ·omega
 ·refine ⟨g, cap, rfl, hb, Own.lt ⟨cur, _, e3⟩, e4, by unfold maxLen at e5; omega, fun i hi => ?_⟩
  rw [Nat.mul_one] at e7
  have h7 := congrArg (fun l : List Value => l[i]?) e7
  simp only [List.getElem?_take, hi, if_true, List.getElem?_map] at h7
  simp only [World.cell?, e3, Option.isSome_none, Bool.false_eq_true, if_false]
  rw [Array.getElem?_toList] at h7
  rw [h7]
  simp [nth, List.getD_eq_getElem?_getD, List.getElem?_eq_getElem hi]
theorem own_ints {w : World} {base : Nat} {e : TypeId} {v : Value} {Y : List Int} (h : w.ownsRow base e 1 v Y.length (Y.map (Value.int .i64))) (ne : 0 < Y.length) :
  ∃ g cap, v = .slice (some ⟨g, 0, none⟩) Y.length cap ∧ base ≤ g ∧ g < w.heap.size ∧ Y.length ≤ cap ∧ cap ≤ 9223372036854775807 ∧ ∀ i, i < Y.length → w.cell? ⟨g, i, none⟩ = some (.int .i64 (nth Y i)) := by
 obtain ⟨_, h2⟩ := h
 rcases h2 with ⟨rfl, h2⟩ | ⟨g, cap, cur, rfl, hb, e3, e4, e5, e6, e7⟩
 ·omega
 ·refine ⟨g, cap, rfl, hb, Own.lt ⟨cur, _, e3⟩, e4, by unfold maxLen at e5; omega, fun i hi => ?_⟩
  rw [Nat.mul_one] at e7
  have h7 := congrArg (fun l : List Value => l[i]?) e7
  simp only [List.getElem?_take, hi, if_true, List.getElem?_map] at h7
  simp only [World.cell?, e3, Option.isSome_none, Bool.false_eq_true, if_false]
  rw [Array.getElem?_toList] at h7
  rw [h7]
  simp [nth, List.getD_eq_getElem?_getD, List.getElem?_eq_getElem hi]
def Prt (V : Nat) (ps xs : List Int) : Prop := (∀ i, i < ps.length → nth ps i = ((V / 10 ^ (9 * i) % 1000000000 : Nat) : Int)) ∧ val xs = ((V / 10 ^ (9 * ps.length) : Nat) : Int)
theorem Prt.next {V : Nat} {ps xs zs : List Int} {r : Int} (h : Prt V ps xs) (hv : val zs * 1000000000 + r = val xs) (r0 : 0 ≤ r) (r1 : r < 1000000000) : Prt V (ps ++ [r]) zs := by
 obtain ⟨h1, h2⟩ := h
 have e : (V / 10 ^ (9 * (ps ++ [r]).length) : Nat) = V / 10 ^ (9 * ps.length) / 1000000000 := by
  rw [List.length_append, List.length_singleton, Nat.mul_add, Nat.pow_add, ← Nat.div_div_eq_div_mul]
 generalize hA : V / 10 ^ (9 * ps.length) = A at *
 refine ⟨fun i hi => ?_, ?_⟩
 ·rw [List.length_append, List.length_singleton] at hi
  by_cases c : i < ps.length
  ·have : nth (ps ++ [r]) i = nth ps i := by simp [nth, List.getD_eq_getElem?_getD, List.getElem?_append_left c]
   rw [this]; exact h1 i c
  ·obtain rfl : i = ps.length := by omega
   have : nth (ps ++ [r]) ps.length = r := by simp [nth, List.getD_eq_getElem?_getD]
   rw [this, hA]
   omega
 ·rw [e]
  omega
theorem Prt.done {V : Nat} {ps : List Int} (h : Prt V ps []) : V < 10 ^ (9 * ps.length) := by
 have h2 := h.2
 have p : 0 < 10 ^ (9 * ps.length) := Nat.pow_pos (by decide)
 generalize 10 ^ (9 * ps.length) = t at *
 have h3 : V / t = 0 := by simp [val] at h2; omega
 rcases Nat.div_eq_zero_iff.1 h3 with h3 | h3 <;> omega
theorem val_nil0 {xs : List Int} (h : ¬ 0 < xs.length) : xs = [] := List.eq_nil_of_length_eq_zero (by omega)
end Go.Proofs.YtebilgnmnambnaaGreatDoor.L

namespace Go.Proofs.YtebilgnmnambnaaGreatDoor.L
open Go.RowKit Tl Go.Lib
theorem pw_ten (n : Nat) : pw n ≤ ((10 ^ (10 * n) : Nat) : Int) := by
 induction n with
 | zero => decide
 | succ n ih =>
  rw [Nat.mul_add, Nat.pow_add]
  simp only [pw]
  generalize 10 ^ (10 * n) = t at *
  have : (10 : Nat) ^ (10 * 1) = 10000000000 := by decide
  rw [this]
  omega
theorem digits_len {xs : List Int} {V : Nat} (hx : Wd xs) (hV : val xs = (V : Int)) (hne : 0 < xs.length) : nDigits V ≤ 10 * xs.length := by
 refine Dc.nDigits_le (by omega) ?_
 have a := val_lt hx
 have b := pw_ten xs.length
 omega
theorem Prt.few {V : Nat} {ps xs : List Int} (h : Prt V ps xs) (hx : 0 < val xs) : 9 * ps.length < nDigits V := by
 have h2 := h.2
 have p : 0 < 10 ^ (9 * ps.length) := Nat.pow_pos (by decide)
 have : 10 ^ (9 * ps.length) ≤ V := by
  have q : 0 < V / 10 ^ (9 * ps.length) := by omega
  exact (Nat.div_pos_iff.1 q).2
 have l := lt_pow_nDigits V
 have : 10 ^ (9 * ps.length) < 10 ^ nDigits V := by omega
 exact (Nat.pow_lt_pow_iff_right (by decide)).1 this
theorem val_pos {xs : List Int} (hx : Wd xs) (n : Nm xs) (ne : 0 < xs.length) : 0 < val xs := by
 have e := val_top ne
 have t := nm_top hx n ne
 have v0 := val_nonneg (hx.take (xs.length - 1))
 have p := pw_pos (xs.length - 1)
 have := Int.mul_pos p t
 omega
theorem elemB : Tryz.prog.elem 126 = 5 := by kernel_rfl
theorem sliceb_l (g len cap : Nat) (lo : Nat) (h1 : lo ≤ len) (hne : lo < cap) (w : World) :
  (Instr.slice 126 (.slice (some ⟨g, 0, none⟩) len cap) (some (.int .i64 (lo : Int))) none none).run Tryz.prog w = .ok (.slice (some ⟨g, lo, none⟩) (len - lo) (cap - lo)) w := by
 rw [run_slice_l w 126 _ len cap (by rw [elemB]; exact Tryz.underlying126) .i64 _ (by omega) (by omega), elemB]
 have e2 : ¬ cap = lo := by omega
 simp [Tryz.sizeOf5, Result.andThen, sliced, e2, Addr.add]
 omega
set_option maxHeartbeats 3200000 in
set_option maxRecDepth 100000 in
theorem Text_pos (v : Value) (xs0 : List Int) (V : Nat) (w : World) (h : Rd w v xs0) (n0 : Nm xs0) (hl : xs0.length ≤ 1000000000) (hV : val xs0 = (V : Int)) (hne : 0 < xs0.length) :
  Calls Tryz.prog 55 #[v] w fun e w' => e = .returned (.string ⟨(decDigits V).toArray⟩) ∧ Below w.heap.size w w' := by
 obtain ⟨a0, c0, rfl⟩ : ∃ a c, v = .slice a xs0.length c := by obtain ⟨_, a, c, e, _⟩ := h; exact ⟨a, c, e⟩
 have P0 : Hid (Prt V [] xs0) := ⟨fun i hi => by simp at hi, by simp [hV]⟩
 have hpos : 0 < V := by have := val_pos h.1 n0 hne; omega
 have hdl := digits_len h.1 hV hne
 have hn0 : ((xs0.length : Int) == 0) = false := by rw [beq_eq_false_iff_ne]; omega
 clear hV
 go_enter Tryz.func55, Tryz.ntmps55
 go_wp2_with fail
 go_loopw [0, 3] (fun a l wr => ∃ (xs ps : List Int) (a1 : Option Addr) (c1 : Nat), a = .slice a1 xs.length c1 ∧ Rd wr a xs ∧ Nm xs ∧ xs.length ≤ xs0.length ∧ wr.ownsRow w.heap.size 3 1 l ps.length (ps.map (Value.int .i64)) ∧ Prt V ps xs ∧ 9 * ps.length ≤ nDigits V + 9 ∧ Below w.heap.size w wr) (fun _ l _ => nDigits V - slen l)
 case atStart => exact ⟨xs0, [], a0, c0, rfl, h, n0, Nat.le_refl _, ⟨by simp, Or.inl ⟨rfl, rfl⟩⟩, P0.out, by simp, Below.refl _ _⟩
 case round =>
  obtain ⟨xs, ps, a1, c1, rfl, hr, hn, hxl, hown, hp, hq, hb⟩ := hrel
  have HQ : Hid (9 * ps.length ≤ nDigits V + 9) := hq
  clear hq
  have HP : Hid (Prt V ps xs) := hp
  have HW : Hid (Wd xs) := hr.1
  clear hp
  have hsz := hb.size
  by_cases hx : 0 < xs.length
  ·have fw := HP.out.few (val_pos HW.out hn hx)
   have low := own_low hown
   go_wp2_with (first
    | (go_at_call 113; refine (small_new _ xs 1000000000 _ hr (by omega) (by decide) (by decide)).mono ?_; rintro e w2 ⟨n2, zs, m, rfl, hz, nz, vz, m0, m1, b2⟩; obtain rfl : n2 = zs.length := (by obtain ⟨_, a, c, e, _⟩ := hz; simpa [slen] using congrArg slen e); have VZ : Hid (val zs * 1000000000 + m = val xs) := vz; clear vz; have own2 := own_grow hown b2; have hb2 := hb.trans (b2.mono hsz); have hsz2 := hb2.size; have hsz3 := b2.size)
    | (at_builtin; (refine wpList_pushk rfl _ _ rfl _ ps rfl w.heap.size wr.heap.size (own_grow own2 ((Below.refl _ _).alloc (Nat.le_refl _) _)) low (by omega) _ _ m rfl (by simp) (by simp; omega) ?_; intro l' w3 own3 b3 b4; have hb3 := (hb2.alloc hsz2 _).trans b3))
    | fail)
   go_roundw
   case rel =>
    have lz : zs.length ≤ xs.length := len_mono HW.out hz.1 nz (by have := VZ.out; have := val_nonneg hz.1; omega)
    refine ⟨zs, ps ++ [m], _, _, rfl, ?_, nz, by omega, own3, HP.out.next VZ.out m0 m1, by rw [List.length_append, List.length_singleton]; omega, hb3⟩
    have hz' := hz.grow ((Below.refl _ _).alloc (Nat.le_refl _) (.cells #[.int .i64 m] 3))
    obtain ⟨q1, a, c, e, q2, q3, q4⟩ := hz'
    refine ⟨q1, a, c, e, q2, q3, fun l => ?_⟩
    obtain ⟨b, o, rfl, hc⟩ := q4 l
    simp only [Value.slice.injEq, Option.some.injEq, Addr.mk.injEq] at e
    refine ⟨b, o, rfl, fun i hi => ?_⟩
    have hlt := hc.lt l
    exact (World.cell?_of_block (a := ⟨b, o + i, none⟩) (b4 b (by omega) hlt)).trans (hc i hi)
   case measure =>
    have e1 := own_slen hown
    have e2 := own_slen own3
    rw [List.length_append, List.length_singleton] at e2
    rw [e1, e2]
    omega
  ·have HP2 : Hid (Prt V ps []) := by have := HP.out; rw [val_nil0 hx] at this; exact this
   have e0 : xs.length = 0 := by omega
   rw [e0]
   have hm : 0 < ps.length := by
    rcases Nat.eq_zero_or_pos ps.length with e | e
    ·have e' : ps = [] := List.eq_nil_of_length_eq_zero e
     have := HP2.out.2
     rw [e'] at this
     simp [val] at this
     omega
    ·exact e
   obtain ⟨g, cp, rfl, g0, g1, gc, gc', HC'⟩ := own_ints hown hm
   have HC : Hid (∀ i, i < ps.length → wr.cell? ⟨g, i, none⟩ = some (.int .i64 (nth ps i))) := HC'
   have hN : Hid (V < 10 ^ (9 * ps.length)) := HP2.out.done
   have hpl : Hid (∀ i, i < ps.length → nth ps i = ((V / 10 ^ (9 * i) % 1000000000 : Nat) : Int)) := HP2.out.1
   have hmb := HQ.out
   clear HC' hown HP HP2 HW hr hn h n0 HQ P0 hx hxl e0
   have hp1 : Hid (∀ i, i < ps.length → 0 ≤ nth ps i ∧ nth ps i < 1000000000) := fun i hi => by rw [hpl.out i hi]; omega
   generalize hmm : ps.length = m at *
   clear hmm
   go_wp2_with fail
   go_loopw [6, 7] (fun b i wr2 => ∃ j : Nat, j ≤ m ∧ i = .int .i64 ((j : Int) - 1) ∧ wr2.ownsRow wr.heap.size 5 1 b (Dc.dgs V (9 * m) (9 * (m - j))).length ((Dc.dgs V (9 * m) (9 * (m - j))).map (Value.int .u8)) ∧ Below wr.heap.size wr wr2) (fun _ i _ => (RowKit.intOf i + 1).toNat)
   case atStart => exact ⟨m, Nat.le_refl _, rfl, by rw [Nat.sub_self, Nat.mul_zero, Dc.dgs_zero]; exact ⟨by simp, Or.inl ⟨rfl, rfl⟩⟩, Below.refl _ _⟩
   case round =>
    rename World => wr2
    obtain ⟨j, hj, rfl, own2, bb⟩ := hrel
    by_cases hj0 : 0 < j
    ·obtain ⟨i, rfl⟩ : ∃ i, j = i + 1 := ⟨j - 1, by omega⟩
     have e1 : ((i + 1 : Nat) : Int) - 1 = (i : Int) := by omega
     have HE : Hid (9 * (m - (i + 1)) = 9 * (m - 1 - i) + 0) := by show _ = _; omega
     rw [HE.out] at own2
     rw [e1]
     clear e1
     go_wp2_with fail
     go_loopw [6, 8] (fun b u wr3 => ∃ t : Nat, t ≤ 9 ∧ u = .int .i64 ((100000000 / 10 ^ t : Nat) : Int) ∧ wr3.ownsRow wr.heap.size 5 1 b (Dc.dgs V (9 * m) (9 * (m - 1 - i) + t)).length ((Dc.dgs V (9 * m) (9 * (m - 1 - i) + t)).map (Value.int .u8)) ∧ Below wr.heap.size wr wr3) (fun _ u _ => (RowKit.intOf u).toNat)
     case atStart => exact ⟨0, by omega, rfl, own2, bb⟩
     case round =>
      rename World => wr3
      obtain ⟨t, ht, rfl, own3, b3⟩ := hrel
      by_cases ht9 : t ≤ 8
      ·have up := Dc.unit_pos ht9
       have ul := Dc.unit_le t
       have HD : Hid _ := Dc.place V i t m (by omega) ht9
       have HS : Hid _ := Dc.dgs_succ V (9 * m) (9 * (m - 1 - i) + t)
       have un := Dc.unit_next t
       have UN : Hid ((100000000 / 10 ^ t : Nat) / 10 = (100000000 / 10 ^ (t + 1) : Nat)) := un
       clear un
       have hPe : Hid (nth ps i = ((V / 10 ^ (9 * i) % 1000000000 : Nat) : Int)) := hpl.out i (by omega)
       obtain ⟨hP0, hP1⟩ := hp1.out i (by omega)
       have cP : wr3.cell? ⟨g, i, none⟩ = some (.int .i64 (nth ps i)) := (b3.cell (p := ⟨g, i, none⟩) g1).trans (HC.out i (by omega))
       generalize hU : (100000000 / 10 ^ t : Nat) = U at *
       generalize nth ps i = P at *
       have hZ : Hid ((48 : Int) + P / (U : Int) % 10 = 48 + ((V / 10 ^ (9 * m - 1 - (9 * (m - 1 - i) + t)) % 10 : Nat) : Int)) := by
        show _ = _
        rw [hPe.out, ← HD.out]
        omega
       have q0 : 0 ≤ P / (U : Int) := Int.ediv_nonneg hP0 (by omega)
       have q1 : P / (U : Int) ≤ P := Int.ediv_le_self _ hP0
       have d1 : P.tdiv (U : Int) = P / (U : Int) := Int.tdiv_eq_ediv_of_nonneg hP0
       generalize P / (U : Int) = Q at *
       have d2 : IntKind.i64.wrap Q = Q := wrap_self _ (by omega) (by omega)
       have d3 : Q.tmod 10 = Q % 10 := Int.tmod_eq_emod_of_nonneg q0
       have d4 : IntKind.i64.wrap (48 + Q % 10) = 48 + Q % 10 := wrap_self _ (by omega) (by omega)
       have d5 : IntKind.u8.wrap (48 + Q % 10) = 48 + Q % 10 := by simp [IntKind.wrap, IntKind.bits, IntKind.signed]; omega
       have nz : ((U : Int) == 0) = false := by rw [beq_eq_false_iff_ne]; omega
       have nz2 : ¬ (U : Int) = 0 := by omega
       have u1 : (U : Int).tdiv 10 = (U : Int) / 10 := Int.tdiv_eq_ediv_of_nonneg (by omega)
       have hsz3 := b3.size
       have hY : (Dc.dgs V (9 * m) (9 * (m - 1 - i) + t)).length ≤ 70368744177664 := by rw [Dc.dgs_length]; omega
       generalize Dc.dgs V (9 * m) (9 * (m - 1 - i) + t) = Y at *
       clear hU HD hPe
       go_wp2_with (first
        | (at_builtin; (refine wpList_pushb rfl _ _ rfl _ Y rfl wr.heap.size (own_grow own3 ((Below.refl _ _).alloc (Nat.le_refl _) _)) hY _ _ (48 + Q % 10) rfl (by simp) (by simp; omega) ?_; intro l' w4 own4 b4; have b5 := (b3.alloc hsz3 _).trans b4))
        | fail)
       go_roundw
       case rel => exact ⟨t + 1, by omega, by rw [← UN.out]; congr 1, by rw [← Nat.add_assoc, HS.out, ← hZ.out]; exact own4, b5⟩
       case measure => simp [RowKit.intOf]; omega
      ·obtain rfl : t = 9 := by omega
       rw [Dc.unit_end]
       go_wp2_with fail
       go_roundw
       case rel => exact ⟨i, by omega, by go_num, by rw [show 9 * (m - i) = 9 * (m - 1 - i) + 9 from by omega]; exact own3, b3⟩
       case measure => simp [RowKit.intOf]
    ·obtain rfl : j = 0 := by omega
     rw [Nat.sub_zero] at own2
     obtain ⟨gb, cb, rfl, gb0, gb1, gc2, gc3, HB'⟩ := own_bytes own2 (by rw [Dc.dgs_length]; omega)
     rw [Dc.dgs_length] at HB' gc2 ⊢
     have hnd := Dc.nDigits_le (by omega) hN.out
     have hnp := nDigits_pos V
     have HB : Hid (∀ i, i < 9 * m → wr2.cell? ⟨gb, i, none⟩ = some (.int .u8 (48 + ((V / 10 ^ (9 * m - 1 - i) % 10 : Nat) : Int)))) := fun i hi => by
      rw [HB' i hi]
      unfold nth
      rw [Dc.dgs_at _ _ _ _ hi]
     have HR : Hid (strOfNums ((Dc.dgs V (9 * m) (9 * m)).drop (9 * m - nDigits V)) = ⟨(decDigits V).toArray⟩) := Dc.dgs_str V (9 * m) hnd
     have HC2 : Hid (∀ i, i < nDigits V → wr2.cell? ⟨gb, 9 * m - nDigits V + i, none⟩ = some (.int .u8 (((Dc.dgs V (9 * m) (9 * m)).drop (9 * m - nDigits V)).getD i 0))) := fun i hi => by
      rw [HB' _ (by omega)]
      simp [nth, List.getD_eq_getElem?_getD]
     have HT : Hid (¬ V / 10 ^ (nDigits V - 1) % 10 = 0) := Dc.top_digit V hpos
     have HH : Hid (∀ j, nDigits V ≤ j → V / 10 ^ j = 0) := fun j hj => Dc.high_digit V j hj
     clear HB' own2 hN hpl hp1 HC
     have hbb := hb.trans (bb.mono hsz)
     generalize hN9 : 9 * m = N at *
     go_wp2_with fail
     go_loop [9] (fun t => ∃ k : Nat, k ≤ N - nDigits V ∧ t = .int .i64 k) (fun t => N - nDigits V - (RowKit.intOf t).toNat)
     case atStart => exact ⟨0, by omega, rfl⟩
     case round =>
      obtain ⟨k, hk, rfl⟩ := hrel
      have c0 := HB.out k (by omega)
      by_cases hlt : k < N - nDigits V
      ·rw [HH.out (N - 1 - k) (by omega)] at c0
       go_wp2
       go_round
       case rel => exact ⟨k + 1, by omega, by go_num⟩
       case measure => simp [RowKit.intOf]; omega
      ·obtain rfl : k = N - nDigits V := by omega
       rw [show N - 1 - (N - nDigits V) = nDigits V - 1 from by omega] at c0
       have hz := HT.out
       generalize V / 10 ^ (nDigits V - 1) % 10 = z at *
       have hz1 : ((48 + (z : Int)) == 48) = false := by rw [beq_eq_false_iff_ne]; omega
       have cv := run_convert_bytes_arg (P := Tryz.prog) wr2 126 5 Tryz.underlying126 Tryz.underlying5 gb (N - nDigits V) (nDigits V) (cb - (N - nDigits V)) ((Dc.dgs V N N).drop (N - nDigits V)) (by rw [List.length_drop, Dc.dgs_length]; omega) HC2.out 9 Tryz.underlying9
       rw [HR.out] at cv
       have sl := sliceb_l gb N cb (N - nDigits V) (by omega) (by omega) wr2
       rw [show N - (N - nDigits V) = nDigits V from by omega] at sl
       have hK : N - nDigits V < N := by omega
       have hK2 : N - nDigits V < cb := by omega
       clear HR HC2 HB HT HH
       generalize N - nDigits V = K at *
       have hne2 : ¬ cb = K := by omega
       go_wp2
       go_ret
       exact ⟨rfl, hbb⟩
theorem Text_any (v : Value) (xs : List Int) (V : Nat) (w : World) (h : Rd w v xs) (n0 : Nm xs) (hl : xs.length ≤ 1000000000) (hV : val xs = (V : Int)) :
  Calls Tryz.prog 55 #[v] w fun e w' => e = .returned (.string ⟨(decDigits V).toArray⟩) ∧ Below w.heap.size w w' := by
 by_cases hne : 0 < xs.length
 ·exact Text_pos v xs V w h n0 hl hV hne
 ·obtain ⟨a0, c0, rfl⟩ : ∃ a c, v = .slice a xs.length c := by obtain ⟨_, a, c, e, _⟩ := h; exact ⟨a, c, e⟩
  have e0 : xs.length = 0 := by omega
  have eV : V = 0 := by rw [val_nil0 hne] at hV; simp [val] at hV; omega
  have R : Hid (decDigits V = [48]) := by show _ = _; rw [eV, decDigits_one (by decide)]; rfl
  rw [e0]
  clear h n0 hV
  go_enter Tryz.func55, Tryz.ntmps55
  go_wp2
  go_ret
  exact ⟨by rw [R.out]; rfl, Below.refl _ _⟩
end Go.Proofs.YtebilgnmnambnaaGreatDoor.L

namespace Go.Proofs.YtebilgnmnambnaaGreatDoor.L
open Go.RowKit Tl Go.Lib
theorem ten_pw (n : Nat) : ((10 ^ n : Nat) : Int) ≤ pw n := by
 induction n with
 | zero => decide
 | succ n ih =>
  rw [Nat.pow_succ]
  simp only [pw]
  omega
def Rs (l : List UInt8) (a j : Nat) (v u : Int) : Prop := v = (Dc.num ((l.drop a).take j) : Int) ∧ u = ((10 ^ j : Nat) : Int)
theorem Rs.next {l : List UInt8} {a j : Nat} {v u : Int} (h : Rs l a j v u) (hj : a + j < l.length) : Rs l a (j + 1) (v * 10 + (((l[a + j]).toNat - 48 : Nat) : Int)) (u * 10) := by
 obtain ⟨rfl, rfl⟩ := h
 refine ⟨?_, by rw [Nat.pow_succ]; simp⟩
 rw [Dc.num_take _ _ (by rw [List.length_drop]; omega)]
 simp
theorem Rs.bd {l : List UInt8} {a j : Nat} {v u : Int} (h : Rs l a j v u) (hd : ∀ c ∈ l, Dc.Dg c) (hj : a + j ≤ l.length) (h9 : j ≤ 9) : 0 ≤ v ∧ v < 1000000000 ∧ 0 < u ∧ u ≤ 1000000000 := by
 obtain ⟨rfl, rfl⟩ := h
 have a1 := Dc.num_lt ((l.drop a).take j) (fun c hc => hd c (List.mem_of_mem_drop (List.mem_of_mem_take hc)))
 rw [List.length_take, List.length_drop, Nat.min_eq_left (by omega)] at a1
 have b1 : 10 ^ j ≤ 10 ^ 9 := Nat.pow_le_pow_right (by decide) h9
 have b2 : 0 < 10 ^ j := Nat.pow_pos (by decide)
 omega
set_option maxHeartbeats 3200000 in
set_option maxRecDepth 100000 in
theorem BRead_any (s : ByteArray) (w : World) (hs : s.size ≤ 1000000000) (hd : ∀ c ∈ s.data.toList, Dc.Dg c) :
  Calls Tryz.prog 76 #[.string s] w fun e w' => ∃ v zs, e = .returned v ∧ Rd w' v zs ∧ Nm zs ∧ val zs = (Dc.num s.data.toList : Int) ∧ zs.length ≤ s.size ∧ Below w.heap.size w w' := by
 have hl : Hid (s.data.toList.length = s.size) := by show _ = _; simp
 have HD : Hid (∀ c ∈ s.data.toList, Dc.Dg c) := hd
 clear hd
 go_enter Tryz.func76, Tryz.ntmps76
 go_wp2_with fail
 go_loopw [3, 4] (fun o p wr => ∃ (a : Nat) (xs : List Int), a ≤ s.size ∧ p = .int .i64 a ∧ Rd wr o xs ∧ Nm xs ∧ val xs = (Dc.num (s.data.toList.take a) : Int) ∧ xs.length ≤ a ∧ Below w.heap.size w wr) (fun _ p _ => s.size - (intOf p).toNat)
 case atStart => exact ⟨0, [], by omega, rfl, rd_nil _, Or.inl rfl, by simp [val, Dc.num], by simp, Below.refl _ _⟩
 case round =>
  obtain ⟨a, xs, ha, rfl, hr, hn, hv, hxl, hb⟩ := hrel
  have HV : Hid (val xs = (Dc.num (s.data.toList.take a) : Int)) := hv
  clear hv
  have hsz := hb.size
  by_cases hlt : a < s.size
  ·obtain ⟨n, hn9⟩ : ∃ n : Nat, min 9 (s.size - a) = n := ⟨_, rfl⟩
   have hm : (if (s.size : Int) - (a : Int) < 9 then (s.size : Int) - (a : Int) else 9) = (n : Int) := by split <;> omega
   have n1 : n ≤ 9 := by omega
   have n2 : a + n ≤ s.size := by omega
   have n3 : 0 < n := by omega
   clear hn9
   go_wp2_with fail
   go_loop [6, 7, 8] (fun v u i => ∃ (j : Nat) (x y : Int), j ≤ n ∧ i = .int .i64 ((a : Int) + j) ∧ v = .int .i64 x ∧ u = .int .i64 y ∧ Rs s.data.toList a j x y) (fun _ _ i => a + n - (intOf i).toNat)
   case atStart => exact ⟨0, 0, 1, by omega, by simp, rfl, rfl, by simp [Dc.num], by simp⟩
   case round =>
    obtain ⟨j, x, y, hj, rfl, rfl, rfl, S⟩ := hrel
    have HS : Hid (Rs s.data.toList a j x y) := S
    obtain ⟨x0, x1, y0, y1⟩ := S.bd HD.out (by rw [hl.out]; omega) (by omega)
    clear S
    by_cases hjn : j < n
    ·have hk : a + j < s.size := by omega
     have NX : Hid _ := HS.out.next (by rw [hl.out]; omega)
     have dg := HD.out s[a + j] (List.getElem_mem _)
     unfold Dc.Dg at dg
     have hc : Hid (((s[a + j].toNat : Int) - 48) = (((s.data.toList[a + j]'(by rw [hl.out]; omega)).toNat - 48 : Nat) : Int)) := by
      show _ = _
      have : s.data.toList[a + j]'(by rw [hl.out]; omega) = s[a + j] := rfl
      rw [this]
      omega
     have ei : ((a : Int) + j).toNat = a + j := by omega
     have ei0 : (0 : Int) ≤ (a : Int) + j := by omega
     have ei1 : (a : Int) + j < s.size := by omega
     have wc : IntKind.u8.wrap ((s[a + j].toNat : Int) - 48) = (s[a + j].toNat : Int) - 48 := by simp [IntKind.wrap, IntKind.bits, IntKind.signed]; omega
     go_wp2
     go_round
     case rel => exact ⟨j + 1, x * 10 + ((s[a + j].toNat : Int) - 48), y * 10, by omega, by go_num, rfl, rfl, by rw [hc.out]; exact NX.out⟩
     case measure => simp [intOf]; omega
    ·obtain rfl : j = n := by omega
     have hnum : Hid (Dc.num (s.data.toList.take (a + j)) = Dc.num (s.data.toList.take a) * 10 ^ j + Dc.num ((s.data.toList.drop a).take j)) := by
      show _ = _
      rw [List.take_add, Dc.num_append, List.length_take, List.length_drop, hl.out, Nat.min_eq_left (by omega)]
     have p1 : pw 1 = 1073741824 := by decide
     have P1 : Hid (pw 1 = 1073741824) := p1
     clear p1
     go_wp2_with (first
      | (go_at_call 100; ((with_reducible refine (NatOf_any y _ (by omega) (by omega)).mono ?_); rintro e w2 ⟨r2, zs2, rfl, hz2, nz2, vz2, b2⟩; have l2 : zs2.length ≤ 1 := len_of_lt hz2.1 nz2 (by rw [P1.out, vz2]; omega); have V2 : Hid (val zs2 = y) := vz2; clear vz2; have hr2 := hr.grow b2))
      | (go_at_call 100; ((with_reducible refine (NatOf_any x _ (by omega) (by omega)).mono ?_); rintro e w4 ⟨r4, zs4, rfl, hz4, nz4, vz4, b4⟩; have l4 : zs4.length ≤ 1 := len_of_lt hz4.1 nz4 (by rw [P1.out, vz4]; omega); have V4 : Hid (val zs4 = x) := vz4; clear vz4; have hz3' := hz3.grow b4))
      | (go_at_call 78; ((with_reducible refine (Mul_any _ _ xs zs2 _ hr2 hz2 (by omega) (by omega)).mono ?_); rintro e w3 ⟨r3, zs3, rfl, hz3, nz3, vz3, b3⟩; have l3 : zs3.length ≤ xs.length + zs2.length := mul_len hr2.1 hz2.1 hz3.1 nz3 vz3; have V3 : Hid (val zs3 = val xs * val zs2) := vz3; clear vz3))
      | (go_at_call 79; ((with_reducible refine (Add_any _ _ zs3 zs4 _ hz3' hz4 (by omega) (by omega)).mono ?_); rintro e w5 ⟨r5, zs5, rfl, hz5, nz5, vz5, b5⟩; have V5 : Hid (val zs5 = val zs3 + val zs4) := vz5; clear vz5)))
     go_roundw
     case rel =>
      have ev : val zs5 = (Dc.num (s.data.toList.take (a + j)) : Int) := by
       rw [V5.out, V4.out, V3.out, V2.out, HV.out, hnum.out, HS.out.1, HS.out.2]
       simp
      have lt := Dc.num_lt_take s.data.toList HD.out (a + j) (by rw [hl.out]; omega)
      have tp := ten_pw (a + j)
      refine ⟨a + j, zs5, by omega, by go_num, hz5, nz5, ev, len_of_lt hz5.1 nz5 (by rw [ev]; omega), ?_⟩
      exact hb.trans (((b2.trans (b3.mono b2.size)).trans (b4.mono (Nat.le_trans b2.size b3.size))).trans (b5.mono (Nat.le_trans (Nat.le_trans b2.size b3.size) b4.size)) |>.mono hsz)
     case measure => simp [intOf]; omega
  ·obtain rfl : a = s.size := by omega
   go_wp2
   go_ret
   refine ⟨_, xs, rfl, hr, hn, ?_, hxl, hb⟩
   rw [HV.out, List.take_of_length_le (by rw [hl.out]; omega)]
end Go.Proofs.YtebilgnmnambnaaGreatDoor.L

namespace Go.Proofs.YtebilgnmnambnaaGreatDoor.L
open Go.RowKit Tl Go.Lib
def sgn (r : Rat) : Int := if r.num = 0 then 0 else if r.num < 0 then -1 else 1
set_option maxRecDepth 100000 in
set_option maxHeartbeats 800000 in
theorem Sign_q (v : Value) (r : Rat) (w : World) (h : IsQ w v r) :
  Calls Tryz.prog 53 #[v] w fun e w' => e = .returned (.int .i64 (sgn r)) ∧ Below w.heap.size w w' := by
 obtain ⟨ns, ds, a1, a2, c1, c2, rfl, h1, n1, v1, _⟩ := h
 have K0 := Blk.new w #[.bool (decide (r.num < 0)), .slice a1 ns.length c1, .slice a2 ds.length c2] 56
 have pr : Below w.heap.size w (w.alloc (.cells #[.bool (decide (r.num < 0)), .slice a1 ns.length c1, .slice a2 ds.length c2] 56)) := (Below.refl _ _).alloc (Nat.le_refl _) _
 by_cases z : r.num = 0
 ·have l0 : ns.length = 0 := by
   by_cases c : 0 < ns.length
   ·have := val_pos h1.1 n1 c; omega
   ·omega
  have e : sgn r = 0 := by unfold sgn; rw [if_pos z]
  rw [e, l0] at *
  generalize decide (r.num < 0) = g at *
  clear v1 h1 n1 e z
  go_enter Tryz.func53, Tryz.ntmps53
  go_wp2
  go_ret
  exact ⟨rfl, (Below.refl _ _).alloc (Nat.le_refl _) _⟩
 ·have l0 : 0 < ns.length := by
   by_cases c : 0 < ns.length
   ·exact c
   ·have e : ns = [] := List.eq_nil_of_length_eq_zero (by omega)
    rw [e] at v1
    have : val ([] : List Int) = 0 := rfl
    omega
  have hz : ((ns.length : Int) == 0) = false := by rw [beq_eq_false_iff_ne]; omega
  by_cases g : r.num < 0
  ·have e : sgn r = -1 := by unfold sgn; rw [if_neg z, if_pos g]
   rw [e, decide_eq_true g] at *
   clear v1 h1 n1 e z g
   go_enter Tryz.func53, Tryz.ntmps53
   go_wp2
   go_ret
   exact ⟨rfl, pr⟩
  ·have e : sgn r = 1 := by unfold sgn; rw [if_neg z, if_neg g]
   rw [e, decide_eq_false g] at *
   clear v1 h1 n1 e z g
   go_enter Tryz.func53, Tryz.ntmps53
   go_wp2
   go_ret
   exact ⟨rfl, pr⟩
def wrq (r : Rat) : Value := .agg #[.string (Mo.sB (Mo.sg (decide (r.num < 0)) (decDigits r.num.natAbs))), .string (Mo.sB (decDigits r.den))]
theorem bput {w : World} {n : Nat} {c : Array Value} {t : TypeId} (h : Blk w n c t) (i : Nat) (v : Value) : Blk (w.setCell ⟨n, i, none⟩ v) n (c.setIfInBounds i v) t := by
 have h' : w.heap[n]? = some (.cells c t (0, 0)) := h
 show (w.setCell ⟨n, i, none⟩ v).heap[n]? = _
 simp [World.setCell, Array.getElem?_modify, h']
theorem bel' {w W w1 : World} (pr : Below w.heap.size w W) (b1 : Below W.heap.size W w1) : Below w.heap.size w w1 := pr.trans (b1.mono pr.size)
structure OQ1 (W x : World) (V0 : Value) (V1 : Value) (V2 : Value) (V3 : Value) (V4 : Value) (V5 : Value) (y0 y1 y2 y3 y4 y5 : Bool) (t6 t7 t8 t9 t10 t11 : Value) : Prop where
 bel : Below W.heap.size W x
 o0 : y0 = true → t6 = V0
 o1 : y1 = true → t7 = V1
 o2 : y2 = true → t8 = V2
 o3 : y3 = true → t9 = V3
 o4 : y4 = true → t10 = V4
 o5 : y5 = true → t11 = V5
 d4_3 : y4 = true → y3 = true
 d5_4 : y5 = true → y4 = true
theorem OQ1.grow {W x x' : World} {V0 : Value} {V1 : Value} {V2 : Value} {V3 : Value} {V4 : Value} {V5 : Value} {y0 y1 y2 y3 y4 y5 : Bool} {t6 t7 t8 t9 t10 t11 : Value} (h : OQ1 W x V0 V1 V2 V3 V4 V5 y0 y1 y2 y3 y4 y5 t6 t7 t8 t9 t10 t11) (b : Below x.heap.size x x') : OQ1 W x' V0 V1 V2 V3 V4 V5 y0 y1 y2 y3 y4 y5 t6 t7 t8 t9 t10 t11 where
 bel := bel' h.bel b
 o0 := h.o0
 o1 := h.o1
 o2 := h.o2
 o3 := h.o3
 o4 := h.o4
 o5 := h.o5
 d4_3 := h.d4_3
 d5_4 := h.d5_4
set_option maxRecDepth 100000 in
set_option maxHeartbeats 1600000 in
theorem out_walk (g : Bool) (a1 a2 : Option Addr) (m1 c1 m2 c2 : Nat) (s t u : ByteArray) (S : Int) (w : World) (s1 : s.size ≤ 4096) (s2 : t.size ≤ 4096) (hS : decide (S < 0) = g) (hu : (⟨#[45]⟩ : ByteArray) ++ s = u)
  (T1 : ∀ x, Below w.heap.size w x → Calls Tryz.prog 55 #[.slice a1 m1 c1] x fun e w' => e = .returned (.string s) ∧ Below x.heap.size x w')
  (T2 : ∀ x, Below w.heap.size w x → Calls Tryz.prog 55 #[.slice a2 m2 c2] x fun e w' => e = .returned (.string t) ∧ Below x.heap.size x w')
  (SG : ∀ x, Below w.heap.size w x → Calls Tryz.prog 53 #[.agg #[.bool g, .slice a1 m1 c1, .slice a2 m2 c2]] x fun e w' => e = .returned (.int .i64 S) ∧ Below x.heap.size x w') :
  Calls Tryz.prog 46 #[.agg #[.bool g, .slice a1 m1 c1, .slice a2 m2 c2]] w fun e w' => e = .returned (.tuple #[.agg #[.string (if g then u else s), .string t], .int .i64 0]) ∧ Below w.heap.size w w' := by
 have K0 := (Blk.new w #[.bool g, .slice a1 m1 c1, .slice a2 m2 c2] 56).alloc (.cells #[.string ⟨#[]⟩, .string ⟨#[]⟩] 23)
 have KR := Blk.new (w.alloc (.cells #[.bool g, .slice a1 m1 c1, .slice a2 m2 c2] 56)) #[.string ⟨#[]⟩, .string ⟨#[]⟩] 23
 simp only [World.size_alloc] at KR
 have pr : Below w.heap.size w ((w.alloc (.cells #[.bool g, .slice a1 m1 c1, .slice a2 m2 c2] 56)).alloc (.cells #[.string ⟨#[]⟩, .string ⟨#[]⟩] 23)) := ((Below.refl _ _).alloc (Nat.le_refl _) _).alloc (by simp) _
 have s1' : (s.size : Int) ≤ 4096 := by omega
 have s2' : (t.size : Int) ≤ 4096 := by omega
 have h2 := fun x : World => run_string_add_sum (P := Tryz.prog) x ⟨#[45]⟩ s (by
  have : (⟨#[45]⟩ : ByteArray).size = 1 := rfl
  omega)
 rw [hu] at h2
 clear hu
 go_enter Tryz.func46, Tryz.ntmps46
 cases g
 all_goals
  have hS' : decide (S < 0) = _ := hS
  clear hS
  go_wp2_with fail
 ·have SGx := SG
  clear SG
  generalize (w.alloc (.cells #[.bool false, .slice a1 m1 c1, .slice a2 m2 c2] 56)).alloc (.cells #[.string ⟨#[]⟩, .string ⟨#[]⟩] 23) = W at *
  go_cut [4, 5] from 6 to 11 (fun x y wc => x = .string s ∧ y = .string t ∧ Below W.heap.size W wc)
  case first =>
   rename_i hm hJ
   refine wp_region_held (S := fun _ => True) (by kernel_rfl) (any_inv (fun listed a x => ∃ (y0 y1 y2 y3 y4 y5 : Bool) (t6 t7 t8 t9 t10 t11 : Value) (z4 z5 : Value), a = ⟨#[.agg #[.bool false, .slice a1 m1 c1, .slice a2 m2 c2], .pointer (some ⟨w.heap.size, 0, none⟩), .pointer (some ⟨w.heap.size + 1, 0, none⟩), .int .i64 0, z4, z5, t6, t7, t8, t9, t10, t11, undef, undef, undef, undef, undef, undef, undef, undef, undef, undef, undef, undef, undef, undef, undef, undef, undef], []⟩ ∧ ((listed = #[y0, y1, y2, y3, y4, y5, false, false] ∧ OQ1 W x (.pointer (some ⟨w.heap.size, 1, none⟩)) (.slice a1 m1 c1) (.string s) (.pointer (some ⟨w.heap.size, 2, none⟩)) (.slice a2 m2 c2) (.string t) y0 y1 y2 y3 y4 y5 t6 t7 t8 t9 t10 t11 ∧ z4 = undef ∧ z5 = undef) ∨ (listed = #[true, true, true, true, true, true, true, false] ∧ t8 = .string s ∧ t11 = .string t ∧ z4 = .string s ∧ z5 = undef ∧ Below W.heap.size W x) ∨ (listed = #[true, true, true, true, true, true, true, true] ∧ t8 = .string s ∧ t11 = .string t ∧ z4 = .string s ∧ z5 = .string t ∧ Below W.heap.size W x))) ?_ ?_ _ _ _ _ (by decide) ?_)
   ·rintro listed a x i ⟨y0, y1, y2, y3, y4, y5, t6, t7, t8, t9, t10, t11, z4, z5, rfl, h⟩ hi
    have hr : i < 8 := List.mem_range.1 (List.mem_filter.1 hi).1
    have hc := (List.mem_filter.1 hi).2
    rcases h with ⟨rfl, h⟩ | ⟨rfl, h⟩ | ⟨rfl, h⟩
    ·rcases (show i = 0 ∨ i = 1 ∨ i = 2 ∨ i = 3 ∨ i = 4 ∨ i = 5 ∨ i = 6 ∨ i = 7 by omega) with rfl | rfl | rfl | rfl | rfl | rfl | rfl | rfl
     ·obtain ⟨h, rfl, rfl⟩ := h
      clear hc hi
      refine wpOp_step rfl (fun K hK0 => ?_)
      have hK : Hid _ := hK0
      clear hK0
      rw [if_pos (by rfl)]
      go_wp2_with fail
      exact hK.out _ _ ⟨true,_,_,_,_,_,.pointer (some ⟨w.heap.size, 1, none⟩),_,_,_,_,_,undef,undef,rfl,Or.inl ⟨rfl, ⟨{ h with o0 := fun _ => rfl }, rfl, rfl⟩⟩⟩
     ·obtain ⟨h, rfl, rfl⟩ := h
      have e0 : y0 = true := by
       revert hc
       cases y0 <;> simp [Region.binds]
      have r0 := h.o0 e0
      subst r0
      clear hc hi
      have kd := ((K0.below h.bel K0.lt).at 1)
      simp at kd
      refine wpOp_step rfl (fun K hK0 => ?_)
      have hK : Hid _ := hK0
      clear hK0
      rw [if_pos (by rfl)]
      go_wp2_with fail
      exact hK.out _ _ ⟨_,true,_,_,_,_,_,.slice a1 m1 c1,_,_,_,_,undef,undef,rfl,Or.inl ⟨rfl, ⟨{ h with o1 := fun _ => rfl }, rfl, rfl⟩⟩⟩
     ·obtain ⟨h, rfl, rfl⟩ := h
      have e1 : y1 = true := by
       revert hc
       cases y1 <;> simp [Region.binds]
      have r1 := h.o1 e1
      subst r1
      clear hc hi
      refine wpOp_step rfl (fun K hK0 => ?_)
      have hK : Hid _ := hK0
      clear hK0
      rw [if_pos (by rfl)]
      go_wp2_with (first | (go_at_call 55; go_must (refine (T1 x (bel' pr h.bel)).mono ?_; rintro e x2 ⟨rfl, bb⟩)) | fail)
      exact hK.out _ _ ⟨_,_,true,_,_,_,_,_,_,_,_,_,undef,undef,rfl,Or.inl ⟨rfl, ⟨{ h.grow bb with o2 := fun _ => rfl }, rfl, rfl⟩⟩⟩
     ·obtain ⟨h, rfl, rfl⟩ := h
      clear hc hi
      refine wpOp_step rfl (fun K hK0 => ?_)
      have hK : Hid _ := hK0
      clear hK0
      rw [if_pos (by rfl)]
      go_wp2_with fail
      exact hK.out _ _ ⟨_,_,_,true,_,_,_,_,_,.pointer (some ⟨w.heap.size, 2, none⟩),_,_,undef,undef,rfl,Or.inl ⟨rfl, ⟨{ h with o3 := fun _ => rfl, d4_3 := fun _ => rfl }, rfl, rfl⟩⟩⟩
     ·obtain ⟨h, rfl, rfl⟩ := h
      have e3 : y3 = true := by
       revert hc
       cases y3 <;> simp [Region.binds]
      have r3 := h.o3 e3
      subst r3
      clear hc hi
      have kd := ((K0.below h.bel K0.lt).at 2)
      simp at kd
      refine wpOp_step rfl (fun K hK0 => ?_)
      have hK : Hid _ := hK0
      clear hK0
      rw [if_pos (by rfl)]
      go_wp2_with fail
      exact hK.out _ _ ⟨_,_,_,_,true,_,_,_,_,_,.slice a2 m2 c2,_,undef,undef,rfl,Or.inl ⟨rfl, ⟨{ h with o4 := fun _ => rfl, d4_3 := fun _ => e3, d5_4 := fun _ => rfl }, rfl, rfl⟩⟩⟩
     ·obtain ⟨h, rfl, rfl⟩ := h
      have e4 : y4 = true := by
       revert hc
       cases y4 <;> simp [Region.binds]
      have r4 := h.o4 e4
      subst r4
      clear hc hi
      refine wpOp_step rfl (fun K hK0 => ?_)
      have hK : Hid _ := hK0
      clear hK0
      rw [if_pos (by rfl)]
      go_wp2_with (first | (go_at_call 55; go_must (refine (T2 x (bel' pr h.bel)).mono ?_; rintro e x2 ⟨rfl, bb⟩)) | fail)
      exact hK.out _ _ ⟨_,_,_,_,_,true,_,_,_,_,_,_,undef,undef,rfl,Or.inl ⟨rfl, ⟨{ h.grow bb with o5 := fun _ => rfl, d5_4 := fun _ => e4 }, rfl, rfl⟩⟩⟩
     ·obtain ⟨h, rfl, rfl⟩ := h
      have e0 : y0 = true := by
       revert hc
       cases y0 <;> simp [Region.binds]
      have e1 : y1 = true := by
       revert hc
       cases y1 <;> simp [Region.binds]
      have e2 : y2 = true := by
       revert hc
       cases y2 <;> simp [Region.binds]
      have e5 : y5 = true := by
       revert hc
       cases y5 <;> simp [Region.binds]
      have e4 := h.d5_4 e5
      have e3 := h.d4_3 e4
      have r2 := h.o2 e2
      subst r2
      have r5 := h.o5 e5
      subst r5
      clear hc hi
      subst e0 e1 e2 e3 e4 e5
      have bl := h.bel
      clear h
      refine wpOp_step rfl (fun K hK0 => ?_)
      have hK : Hid _ := hK0
      clear hK0
      rw [if_pos (by rfl)]
      go_wp2_with fail
      exact hK.out _ _ ⟨true,true,true,true,true,true,_,_,_,_,_,_,_,_,rfl,Or.inr (Or.inl ⟨rfl, rfl, rfl, rfl, rfl, bl⟩)⟩
     ·simp [Region.binds] at hc
    ·rcases (show i = 0 ∨ i = 1 ∨ i = 2 ∨ i = 3 ∨ i = 4 ∨ i = 5 ∨ i = 6 ∨ i = 7 by omega) with rfl | rfl | rfl | rfl | rfl | rfl | rfl | rfl
     ·simp at hc
     ·simp at hc
     ·simp at hc
     ·simp at hc
     ·simp at hc
     ·simp at hc
     ·simp at hc
     ·clear hc hi
      obtain ⟨rfl, rfl, rfl, rfl, bl⟩ := h
      refine wpOp_step rfl (fun K hK0 => ?_)
      have hK : Hid _ := hK0
      clear hK0
      rw [if_pos (by rfl)]
      go_wp2_with fail
      exact hK.out _ _ ⟨true,true,true,true,true,true,_,_,_,_,_,_,_,_,rfl,Or.inr (Or.inr (⟨rfl, rfl, rfl, rfl, rfl, bl⟩))⟩
    ·rcases (show i = 0 ∨ i = 1 ∨ i = 2 ∨ i = 3 ∨ i = 4 ∨ i = 5 ∨ i = 6 ∨ i = 7 by omega) with rfl | rfl | rfl | rfl | rfl | rfl | rfl | rfl <;> simp at hc
   ·rintro listed a x ⟨y0, y1, y2, y3, y4, y5, t6, t7, t8, t9, t10, t11, z4, z5, rfl, h⟩ hn
    have al := all_listed (by decide +kernel) hn
    rcases h with ⟨rfl, h⟩ | ⟨rfl, h⟩ | ⟨rfl, h⟩
    ·have z := al 6 (by decide)
     simp at z
    ·have z := al 7 (by decide)
     simp at z
    ·obtain ⟨rfl, rfl, rfl, rfl, bl⟩ := h
     refine hJ _ _ ?_
     go_meet
     case rel => exact ⟨rfl, rfl, bl⟩
   ·exact ⟨false, false, false, false, false, false, undef, undef, undef, undef, undef, undef, undef, undef, rfl, Or.inl ⟨rfl, ⟨{ bel := (Below.refl _ _).drew, o0 := (by intro q; cases q), o1 := (by intro q; cases q), o2 := (by intro q; cases q), o3 := (by intro q; cases q), o4 := (by intro q; cases q), o5 := (by intro q; cases q), d4_3 := (by intro q; cases q), d5_4 := (by intro q; cases q) }, rfl, rfl⟩⟩⟩
  case rest =>
   obtain ⟨rfl, rfl, b2⟩ := hcut
   have p2 := bel pr b2
   have KR2 := KR.below b2 KR.lt
   have K2 := K0.below b2 K0.lt
   have k20 := K2.at 0
   have k21 := K2.at 1
   have k22 := K2.at 2
   simp at k20 k21 k22
   clear T1 T2 KR K0 pr b2
   rename World => w2
   go_wp2_with (first
    | (go_at_call 53; refine (SGx _ p2).mono ?_; rintro e w3 ⟨rfl, b3⟩; have p3 := bel p2 b3; have KR3 := KR2.below b3 KR2.lt; have kr0 := KR3.at 0; have kr1 := KR3.at 1; have kf0 := KR3.free 0; have kf1 := KR3.free 1; simp at kr0 kr1)
    | fail)
   have KE := bput (bput KR3 0 (.string s)) 1 (.string t)
   have bE := (p3.setCell (p := ⟨w.heap.size + 1, 0, none⟩) (show w.heap.size ≤ w.heap.size + 1 by omega) (.string s)).setCell (p := ⟨w.heap.size + 1, 1, none⟩) (show w.heap.size ≤ w.heap.size + 1 by omega) (.string t)
   generalize (w3.setCell ⟨w.heap.size + 1, 0, none⟩ (.string s)).setCell ⟨w.heap.size + 1, 1, none⟩ (.string t) = WE at *
   have z0 := KE.at 0
   have z1 := KE.at 1
   simp at z0 z1
   exact bodyPost_ret (v := .tuple #[.agg #[.string s, .string t], .int .i64 0]) (by simp [results, Tryz.results46, go_sem, z0, z1]) rfl ⟨rfl, bE⟩
 ·have SGx := SG
  clear SG
  generalize (w.alloc (.cells #[.bool true, .slice a1 m1 c1, .slice a2 m2 c2] 56)).alloc (.cells #[.string ⟨#[]⟩, .string ⟨#[]⟩] 23) = W at *
  go_cut [4, 5] from 6 to 11 (fun x y wc => x = .string s ∧ y = .string t ∧ Below W.heap.size W wc)
  case first =>
   rename_i hm hJ
   refine wp_region_held (S := fun _ => True) (by kernel_rfl) (any_inv (fun listed a x => ∃ (y0 y1 y2 y3 y4 y5 : Bool) (t6 t7 t8 t9 t10 t11 : Value) (z4 z5 : Value), a = ⟨#[.agg #[.bool true, .slice a1 m1 c1, .slice a2 m2 c2], .pointer (some ⟨w.heap.size, 0, none⟩), .pointer (some ⟨w.heap.size + 1, 0, none⟩), .int .i64 0, z4, z5, t6, t7, t8, t9, t10, t11, undef, undef, undef, undef, undef, undef, undef, undef, undef, undef, undef, undef, undef, undef, undef, undef, undef], []⟩ ∧ ((listed = #[y0, y1, y2, y3, y4, y5, false, false] ∧ OQ1 W x (.pointer (some ⟨w.heap.size, 1, none⟩)) (.slice a1 m1 c1) (.string s) (.pointer (some ⟨w.heap.size, 2, none⟩)) (.slice a2 m2 c2) (.string t) y0 y1 y2 y3 y4 y5 t6 t7 t8 t9 t10 t11 ∧ z4 = undef ∧ z5 = undef) ∨ (listed = #[true, true, true, true, true, true, true, false] ∧ t8 = .string s ∧ t11 = .string t ∧ z4 = .string s ∧ z5 = undef ∧ Below W.heap.size W x) ∨ (listed = #[true, true, true, true, true, true, true, true] ∧ t8 = .string s ∧ t11 = .string t ∧ z4 = .string s ∧ z5 = .string t ∧ Below W.heap.size W x))) ?_ ?_ _ _ _ _ (by decide) ?_)
   ·rintro listed a x i ⟨y0, y1, y2, y3, y4, y5, t6, t7, t8, t9, t10, t11, z4, z5, rfl, h⟩ hi
    have hr : i < 8 := List.mem_range.1 (List.mem_filter.1 hi).1
    have hc := (List.mem_filter.1 hi).2
    rcases h with ⟨rfl, h⟩ | ⟨rfl, h⟩ | ⟨rfl, h⟩
    ·rcases (show i = 0 ∨ i = 1 ∨ i = 2 ∨ i = 3 ∨ i = 4 ∨ i = 5 ∨ i = 6 ∨ i = 7 by omega) with rfl | rfl | rfl | rfl | rfl | rfl | rfl | rfl
     ·obtain ⟨h, rfl, rfl⟩ := h
      clear hc hi
      refine wpOp_step rfl (fun K hK0 => ?_)
      have hK : Hid _ := hK0
      clear hK0
      rw [if_pos (by rfl)]
      go_wp2_with fail
      exact hK.out _ _ ⟨true,_,_,_,_,_,.pointer (some ⟨w.heap.size, 1, none⟩),_,_,_,_,_,undef,undef,rfl,Or.inl ⟨rfl, ⟨{ h with o0 := fun _ => rfl }, rfl, rfl⟩⟩⟩
     ·obtain ⟨h, rfl, rfl⟩ := h
      have e0 : y0 = true := by
       revert hc
       cases y0 <;> simp [Region.binds]
      have r0 := h.o0 e0
      subst r0
      clear hc hi
      have kd := ((K0.below h.bel K0.lt).at 1)
      simp at kd
      refine wpOp_step rfl (fun K hK0 => ?_)
      have hK : Hid _ := hK0
      clear hK0
      rw [if_pos (by rfl)]
      go_wp2_with fail
      exact hK.out _ _ ⟨_,true,_,_,_,_,_,.slice a1 m1 c1,_,_,_,_,undef,undef,rfl,Or.inl ⟨rfl, ⟨{ h with o1 := fun _ => rfl }, rfl, rfl⟩⟩⟩
     ·obtain ⟨h, rfl, rfl⟩ := h
      have e1 : y1 = true := by
       revert hc
       cases y1 <;> simp [Region.binds]
      have r1 := h.o1 e1
      subst r1
      clear hc hi
      refine wpOp_step rfl (fun K hK0 => ?_)
      have hK : Hid _ := hK0
      clear hK0
      rw [if_pos (by rfl)]
      go_wp2_with (first | (go_at_call 55; go_must (refine (T1 x (bel' pr h.bel)).mono ?_; rintro e x2 ⟨rfl, bb⟩)) | fail)
      exact hK.out _ _ ⟨_,_,true,_,_,_,_,_,_,_,_,_,undef,undef,rfl,Or.inl ⟨rfl, ⟨{ h.grow bb with o2 := fun _ => rfl }, rfl, rfl⟩⟩⟩
     ·obtain ⟨h, rfl, rfl⟩ := h
      clear hc hi
      refine wpOp_step rfl (fun K hK0 => ?_)
      have hK : Hid _ := hK0
      clear hK0
      rw [if_pos (by rfl)]
      go_wp2_with fail
      exact hK.out _ _ ⟨_,_,_,true,_,_,_,_,_,.pointer (some ⟨w.heap.size, 2, none⟩),_,_,undef,undef,rfl,Or.inl ⟨rfl, ⟨{ h with o3 := fun _ => rfl, d4_3 := fun _ => rfl }, rfl, rfl⟩⟩⟩
     ·obtain ⟨h, rfl, rfl⟩ := h
      have e3 : y3 = true := by
       revert hc
       cases y3 <;> simp [Region.binds]
      have r3 := h.o3 e3
      subst r3
      clear hc hi
      have kd := ((K0.below h.bel K0.lt).at 2)
      simp at kd
      refine wpOp_step rfl (fun K hK0 => ?_)
      have hK : Hid _ := hK0
      clear hK0
      rw [if_pos (by rfl)]
      go_wp2_with fail
      exact hK.out _ _ ⟨_,_,_,_,true,_,_,_,_,_,.slice a2 m2 c2,_,undef,undef,rfl,Or.inl ⟨rfl, ⟨{ h with o4 := fun _ => rfl, d4_3 := fun _ => e3, d5_4 := fun _ => rfl }, rfl, rfl⟩⟩⟩
     ·obtain ⟨h, rfl, rfl⟩ := h
      have e4 : y4 = true := by
       revert hc
       cases y4 <;> simp [Region.binds]
      have r4 := h.o4 e4
      subst r4
      clear hc hi
      refine wpOp_step rfl (fun K hK0 => ?_)
      have hK : Hid _ := hK0
      clear hK0
      rw [if_pos (by rfl)]
      go_wp2_with (first | (go_at_call 55; go_must (refine (T2 x (bel' pr h.bel)).mono ?_; rintro e x2 ⟨rfl, bb⟩)) | fail)
      exact hK.out _ _ ⟨_,_,_,_,_,true,_,_,_,_,_,_,undef,undef,rfl,Or.inl ⟨rfl, ⟨{ h.grow bb with o5 := fun _ => rfl, d5_4 := fun _ => e4 }, rfl, rfl⟩⟩⟩
     ·obtain ⟨h, rfl, rfl⟩ := h
      have e0 : y0 = true := by
       revert hc
       cases y0 <;> simp [Region.binds]
      have e1 : y1 = true := by
       revert hc
       cases y1 <;> simp [Region.binds]
      have e2 : y2 = true := by
       revert hc
       cases y2 <;> simp [Region.binds]
      have e5 : y5 = true := by
       revert hc
       cases y5 <;> simp [Region.binds]
      have e4 := h.d5_4 e5
      have e3 := h.d4_3 e4
      have r2 := h.o2 e2
      subst r2
      have r5 := h.o5 e5
      subst r5
      clear hc hi
      subst e0 e1 e2 e3 e4 e5
      have bl := h.bel
      clear h
      refine wpOp_step rfl (fun K hK0 => ?_)
      have hK : Hid _ := hK0
      clear hK0
      rw [if_pos (by rfl)]
      go_wp2_with fail
      exact hK.out _ _ ⟨true,true,true,true,true,true,_,_,_,_,_,_,_,_,rfl,Or.inr (Or.inl ⟨rfl, rfl, rfl, rfl, rfl, bl⟩)⟩
     ·simp [Region.binds] at hc
    ·rcases (show i = 0 ∨ i = 1 ∨ i = 2 ∨ i = 3 ∨ i = 4 ∨ i = 5 ∨ i = 6 ∨ i = 7 by omega) with rfl | rfl | rfl | rfl | rfl | rfl | rfl | rfl
     ·simp at hc
     ·simp at hc
     ·simp at hc
     ·simp at hc
     ·simp at hc
     ·simp at hc
     ·simp at hc
     ·clear hc hi
      obtain ⟨rfl, rfl, rfl, rfl, bl⟩ := h
      refine wpOp_step rfl (fun K hK0 => ?_)
      have hK : Hid _ := hK0
      clear hK0
      rw [if_pos (by rfl)]
      go_wp2_with fail
      exact hK.out _ _ ⟨true,true,true,true,true,true,_,_,_,_,_,_,_,_,rfl,Or.inr (Or.inr (⟨rfl, rfl, rfl, rfl, rfl, bl⟩))⟩
    ·rcases (show i = 0 ∨ i = 1 ∨ i = 2 ∨ i = 3 ∨ i = 4 ∨ i = 5 ∨ i = 6 ∨ i = 7 by omega) with rfl | rfl | rfl | rfl | rfl | rfl | rfl | rfl <;> simp at hc
   ·rintro listed a x ⟨y0, y1, y2, y3, y4, y5, t6, t7, t8, t9, t10, t11, z4, z5, rfl, h⟩ hn
    have al := all_listed (by decide +kernel) hn
    rcases h with ⟨rfl, h⟩ | ⟨rfl, h⟩ | ⟨rfl, h⟩
    ·have z := al 6 (by decide)
     simp at z
    ·have z := al 7 (by decide)
     simp at z
    ·obtain ⟨rfl, rfl, rfl, rfl, bl⟩ := h
     refine hJ _ _ ?_
     go_meet
     case rel => exact ⟨rfl, rfl, bl⟩
   ·exact ⟨false, false, false, false, false, false, undef, undef, undef, undef, undef, undef, undef, undef, rfl, Or.inl ⟨rfl, ⟨{ bel := (Below.refl _ _).drew, o0 := (by intro q; cases q), o1 := (by intro q; cases q), o2 := (by intro q; cases q), o3 := (by intro q; cases q), o4 := (by intro q; cases q), o5 := (by intro q; cases q), d4_3 := (by intro q; cases q), d5_4 := (by intro q; cases q) }, rfl, rfl⟩⟩⟩
  case rest =>
   obtain ⟨rfl, rfl, b2⟩ := hcut
   have p2 := bel pr b2
   have KR2 := KR.below b2 KR.lt
   have K2 := K0.below b2 K0.lt
   have k20 := K2.at 0
   have k21 := K2.at 1
   have k22 := K2.at 2
   simp at k20 k21 k22
   clear T1 T2 KR K0 pr b2
   rename World => w2
   go_wp2_with (first
    | (go_at_call 53; refine (SGx _ p2).mono ?_; rintro e w3 ⟨rfl, b3⟩; have p3 := bel p2 b3; have KR3 := KR2.below b3 KR2.lt; have kr0 := KR3.at 0; have kr1 := KR3.at 1; have kf0 := KR3.free 0; have kf1 := KR3.free 1; simp at kr0 kr1)
    | fail)
   have KE := bput (bput KR3 0 (.string u)) 1 (.string t)
   have bE := (p3.setCell (p := ⟨w.heap.size + 1, 0, none⟩) (show w.heap.size ≤ w.heap.size + 1 by omega) (.string u)).setCell (p := ⟨w.heap.size + 1, 1, none⟩) (show w.heap.size ≤ w.heap.size + 1 by omega) (.string t)
   generalize (w3.setCell ⟨w.heap.size + 1, 0, none⟩ (.string u)).setCell ⟨w.heap.size + 1, 1, none⟩ (.string t) = WE at *
   have z0 := KE.at 0
   have z1 := KE.at 1
   simp at z0 z1
   exact bodyPost_ret (v := .tuple #[.agg #[.string u, .string t], .int .i64 0]) (by simp [results, Tryz.results46, go_sem, z0, z1]) rfl ⟨rfl, bE⟩
theorem Out_q (v : Value) (r : Rat) (K : Nat) (w : World) (h : IsQ w v r) (hK : QS r K) (hK' : K ≤ 1000000000) (l1 : (decDigits r.num.natAbs).length ≤ 4096) (l2 : (decDigits r.den).length ≤ 4096) :
  Calls Tryz.prog 46 #[v] w fun e w' => e = .returned (.tuple #[wrq r, .int .i64 0]) ∧ Below w.heap.size w w' := by
 have SG := fun x (b : Below w.heap.size w x) => Sign_q v r x (h.grow b)
 obtain ⟨ns, ds, a1, a2, c1, c2, rfl, h1, n1, v1, h2, n2, v2⟩ := h
 have k1 : ns.length ≤ K := len_of_lt h1.1 n1 (by rw [v1]; exact hK.1)
 have k2 : ds.length ≤ K := len_of_lt h2.1 n2 (by rw [v2]; exact hK.2)
 have := out_walk (decide (r.num < 0)) a1 a2 ns.length c1 ds.length c2 (Mo.sB (decDigits r.num.natAbs)) (Mo.sB (decDigits r.den)) _ (sgn r) w (by rw [Mo.sB_size]; exact l1) (by rw [Mo.sB_size]; exact l2)
  (by
   unfold sgn
   by_cases z : r.num = 0
   ·rw [if_pos z, z]
   ·rw [if_neg z]; by_cases g : r.num < 0
    ·rw [if_pos g]; simp [g]
    ·rw [if_neg g]; simp [g]) rfl
  (fun x b => Text_any _ ns _ x (h1.grow b) n1 (by omega) v1) (fun x b => Text_any _ ds _ x (h2.grow b) n2 (by omega) v2) SG
 refine this.mono ?_
 rintro e w' ⟨rfl, b⟩
 refine ⟨?_, b⟩
 unfold wrq Mo.sg
 by_cases g : r.num < 0
 ·rw [decide_eq_true g]
  rw [if_pos rfl, if_pos rfl, ← Mo.sB_add]; rfl
 ·rw [decide_eq_false g]
  simp
end Go.Proofs.YtebilgnmnambnaaGreatDoor.L

namespace Go.Proofs.YtebilgnmnambnaaGreatDoor.L
open Go.RowKit Tl
end Go.Proofs.YtebilgnmnambnaaGreatDoor.L

namespace Go.Proofs.YtebilgnmnambnaaGreatDoor.L
open Go.RowKit Tl
def sg3 (g : Bool) (n : Nat) : Int := if n = 0 then 0 else if g = true then -1 else 1
theorem Sign_fn (g : Bool) (a1 a2 : Option Addr) (n1 c1 n2 c2 : Nat) (w : World) :
  Calls Tryz.prog 53 #[.agg #[.bool g, .slice a1 n1 c1, .slice a2 n2 c2]] w fun e w' => e = .returned (.int .i64 (sg3 g n1)) ∧ Below w.heap.size w w' := by
 unfold sg3
 by_cases h : n1 = 0
 ·subst h
  rw [if_pos rfl]
  go_enter Tryz.func53, Tryz.ntmps53
  go_wp2
  go_ret
  exact ⟨rfl, (Below.refl _ _).alloc (Nat.le_refl _) _⟩
 ·rw [if_neg h]
  have hz : ((n1 : Int) == 0) = false := by rw [beq_eq_false_iff_ne]; omega
  cases g
  ·go_enter Tryz.func53, Tryz.ntmps53
   go_wp2
   go_ret
   exact ⟨by simp, (Below.refl _ _).alloc (Nat.le_refl _) _⟩
  ·go_enter Tryz.func53, Tryz.ntmps53
   go_wp2
   go_ret
   exact ⟨by simp, (Below.refl _ _).alloc (Nat.le_refl _) _⟩
end Go.Proofs.YtebilgnmnambnaaGreatDoor.L

namespace Go.Proofs.YtebilgnmnambnaaGreatDoor.L
open Go.RowKit Tl
def cmpR (r s : Rat) : Int := if r < s then -1 else if s < r then 1 else 0
theorem sg3_num {xs : List Int} {r : Rat} (h : Wd xs) (n : Nm xs) (v : val xs = (r.num.natAbs : Int)) : sg3 (decide (r.num < 0)) xs.length = if r.num < 0 then -1 else if r.num = 0 then 0 else 1 := by
 unfold sg3
 have e : xs.length = 0 ↔ r.num = 0 := by
  constructor
  ·intro k
   have : xs = [] := List.eq_nil_of_length_eq_zero k
   rw [this] at v
   rw [val_nil] at v
   omega
  ·intro k
   have : val xs = 0 := by rw [v, k]; rfl
   rw [val_eq_zero h n] at this
   rw [this]; rfl
 by_cases c : r.num = 0
 ·rw [if_pos (e.2 c), if_neg (by omega), if_pos c]
 ·rw [if_neg (fun k => c (e.1 k))]
  by_cases d : r.num < 0
  ·rw [if_pos d, decide_eq_true d, if_pos rfl]
  ·rw [if_neg d, if_neg c, decide_eq_false d, if_neg (by simp)]
end Go.Proofs.YtebilgnmnambnaaGreatDoor.L

namespace Go.Proofs.YtebilgnmnambnaaGreatDoor.L
open Go.RowKit Tl
set_option maxHeartbeats 1600000 in
set_option maxRecDepth 100000 in
theorem Of_pos (n : Int) (n0 : 0 ≤ n) (n1 : n < 9223372036854775808) (w : World) :
  Calls Tryz.prog 36 #[.int .i64 n] w fun e w' => ∃ u1 u2 ns, e = .returned (.agg #[.bool false, u1, u2]) ∧ Rd w' u1 ns ∧ Nm ns ∧ val ns = n ∧ Rd w' u2 [1] ∧ Below w.heap.size w w' := by
 have hz : ¬ n < 0 := by omega
 have K0 := Blk.new w #[.bool false, .slice none 0 0, .slice none 0 0] 56
 have pr : Below w.heap.size w (w.alloc (.cells #[.bool false, .slice none 0 0, .slice none 0 0] 56)) := (Below.refl _ _).alloc (Nat.le_refl _) _
 go_enter Tryz.func36, Tryz.ntmps36
 go_wp2_with (first
  | (go_at_call 100; (refine (NatOf_any (n) _ (by omega) (by omega)).mono ?_); (rintro x w1 ⟨u, ns, rfl, hu, nu, vu, b1⟩; have VU : Hid (val ns = n) := vu; clear vu; replace K0 := (K0.below b1 K0.lt).alloc (.cells #[.int .i64 1] 3); replace pr := (bel pr b1); have pr2 := pr.alloc pr.size (.cells #[.int .i64 1] 3); replace hu := hu.grow ((Below.refl _ _).alloc (Nat.le_refl _) (.cells #[.int .i64 1] 3)); have ho : Rd (w1.alloc (.cells #[.int .i64 1] 3)) (.slice (some ⟨w1.heap.size, 0, none⟩) 1 1) [1] := rd_one (by simp) (by decide) (by decide); have e0 : (w1.alloc (.cells #[.int .i64 1] 3)).cell? ⟨w.heap.size, 0, none⟩ = some (.bool false) := K0.at 0; have e1 : (w1.alloc (.cells #[.int .i64 1] 3)).cell? ⟨w.heap.size, 1, none⟩ = some (.slice none 0 0) := K0.at 1; have e2 : (w1.alloc (.cells #[.int .i64 1] 3)).cell? ⟨w.heap.size, 2, none⟩ = some (.slice none 0 0) := K0.at 2; have z0 := K0.free 0; have z1 := K0.free 1; have z2 := K0.free 2; obtain ⟨a1, c1, rfl⟩ : ∃ a c, u = .slice a ns.length c := (by obtain ⟨_, a, c, e, _⟩ := hu; exact ⟨a, c, e⟩)))
  | fail)
 obtain ⟨F0, F1, F2, FB⟩ := put3 (.bool false) (.slice a1 ns.length c1) (.slice (some ⟨w1.heap.size, 0, none⟩) 1 1) e0 e1 e2
 exact bodyPost_ret (v := .agg #[.bool false, .slice a1 ns.length c1, .slice (some ⟨w1.heap.size, 0, none⟩) 1 1]) (by simp [results, Tryz.results36, go_sem, F0, F1, F2]) rfl ⟨_, _, ns, rfl, hu.putQ K0, nu, VU.out, ho.putQ K0, FB _ _ (Nat.le_refl _) pr2⟩
set_option maxHeartbeats 1600000 in
set_option maxRecDepth 100000 in
theorem Of_neg (n : Int) (n0 : n < 0) (n1 : -9223372036854775808 ≤ n) (w : World) :
  Calls Tryz.prog 36 #[.int .i64 n] w fun e w' => ∃ u1 u2 ns, e = .returned (.agg #[.bool true, u1, u2]) ∧ Rd w' u1 ns ∧ Nm ns ∧ val ns = -n ∧ Rd w' u2 [1] ∧ Below w.heap.size w w' := by
 have c1 : IntKind.u64.wrap n = n + 18446744073709551616 := by rw [IntKind.wrap_u64]; omega
 have c2 : IntKind.u64.wrap (-(n + 18446744073709551616)) = -n := by rw [IntKind.wrap_u64]; omega
 have K0 := Blk.new w #[.bool false, .slice none 0 0, .slice none 0 0] 56
 have pr : Below w.heap.size w (w.alloc (.cells #[.bool false, .slice none 0 0, .slice none 0 0] 56)) := (Below.refl _ _).alloc (Nat.le_refl _) _
 go_enter Tryz.func36, Tryz.ntmps36
 go_wp2_with (first
  | (go_at_call 99; (refine (NatOf64_any (-n) _ (by omega) (by omega)).mono ?_); (rintro x w1 ⟨u, ns, rfl, hu, nu, vu, b1⟩; have VU : Hid (val ns = -n) := vu; clear vu; replace K0 := (K0.below b1 K0.lt).alloc (.cells #[.int .i64 1] 3); replace pr := (bel pr b1); have pr2 := pr.alloc pr.size (.cells #[.int .i64 1] 3); replace hu := hu.grow ((Below.refl _ _).alloc (Nat.le_refl _) (.cells #[.int .i64 1] 3)); have ho : Rd (w1.alloc (.cells #[.int .i64 1] 3)) (.slice (some ⟨w1.heap.size, 0, none⟩) 1 1) [1] := rd_one (by simp) (by decide) (by decide); have e0 : (w1.alloc (.cells #[.int .i64 1] 3)).cell? ⟨w.heap.size, 0, none⟩ = some (.bool false) := K0.at 0; have e1 : (w1.alloc (.cells #[.int .i64 1] 3)).cell? ⟨w.heap.size, 1, none⟩ = some (.slice none 0 0) := K0.at 1; have e2 : (w1.alloc (.cells #[.int .i64 1] 3)).cell? ⟨w.heap.size, 2, none⟩ = some (.slice none 0 0) := K0.at 2; have z0 := K0.free 0; have z1 := K0.free 1; have z2 := K0.free 2; obtain ⟨a1, c1, rfl⟩ : ∃ a c, u = .slice a ns.length c := (by obtain ⟨_, a, c, e, _⟩ := hu; exact ⟨a, c, e⟩)))
  | fail)
 obtain ⟨F0, F1, F2, FB⟩ := put3 (.bool true) (.slice a1 ns.length c1) (.slice (some ⟨w1.heap.size, 0, none⟩) 1 1) e0 e1 e2
 exact bodyPost_ret (v := .agg #[.bool true, .slice a1 ns.length c1, .slice (some ⟨w1.heap.size, 0, none⟩) 1 1]) (by simp [results, Tryz.results36, go_sem, F0, F1, F2]) rfl ⟨_, _, ns, rfl, hu.putQ K0, nu, VU.out, ho.putQ K0, FB _ _ (Nat.le_refl _) pr2⟩
end Go.Proofs.YtebilgnmnambnaaGreatDoor.L
