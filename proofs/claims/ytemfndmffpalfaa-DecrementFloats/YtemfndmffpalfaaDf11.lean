import Derived.Test.YtemfndmffpalfaaDf10
import Derived.Deep.RegionHeld3
namespace Go.Proofs.Ytemfndmffpalfaa.Df
open Go.RowKit Tn Go.Proofs.Ytemfndmffpalfaa.Ta
open Go.Proofs.Ytemfndmffpalfaa.Mo (Ri wrapI)

/-- None is not nought. -/
theorem nan_ne {x : Nat} (h : nan64 x = true) : (FloatKind.f64.format.order x 0 != some .eq) = true := by
  obtain ⟨s, f, e⟩ := nan_read h
  show (Ieee.Format.order Ieee.double x 0 != some .eq) = true
  unfold Ieee.Format.order
  rw [e]
  rfl
theorem quotient_some (digits : Nat) (s t : Bool) (m n : Nat) (i j : Int) (h : n ≠ 0) : ∃ d, (Ieee.Datum.number s m i).quotient digits (.number t n j) = some d := by
  simp [Ieee.Datum.quotient, h]
theorem nearest_le (n : Nat) : Ieee.double.nearest false n 0 ≤ Ieee.double.infRung := by
  unfold Ieee.Format.nearest Ieee.Format.word
  split
  · simp
  · simp only [Bool.false_eq_true, if_false]
    exact Nat.min_le_right _ _
theorem inf_rung : Ieee.double.infRung = 9218868437227405312 := by decide +kernel
theorem ten_read : ∃ m i, Ieee.double.read 4711630319722168320 = .number false m i ∧ m ≠ 0 := by
  rw [read64, if_neg (by decide), if_pos (by decide)]
  exact ⟨_, _, rfl, by decide⟩
theorem quo_some {n : Int} (h : 0 ≤ n) : ∃ z, floatBits .quo .f64 (floatOfInt .f64 n) 4711630319722168320 = some z := by
  have le : floatOfInt .f64 n ≤ 9218868437227405312 := by
    have e : floatOfInt .f64 n = Ieee.double.nearest (decide (n < 0)) n.natAbs 0 := rfl
    rw [e, decide_eq_false (show ¬ n < 0 by omega), ← inf_rung]
    exact nearest_le _
  have e : floatBits .quo .f64 (floatOfInt .f64 n) 4711630319722168320 = Ieee.double.div (floatOfInt .f64 n) 4711630319722168320 := rfl
  rw [e]
  generalize floatOfInt .f64 n = x at *
  obtain ⟨m, i, e2, hm⟩ := ten_read
  unfold Ieee.Format.div
  have rx : rg64 x ≤ 9218868437227405312 := by unfold rg64; have := Nat.mod_le x 9223372036854775808; omega
  generalize Ieee.double.fractionBits + 2 = dg
  rw [e2]
  have num : ∀ (s : Bool) (m' : Nat) (i' : Int), ∃ z, Option.map Ieee.double.write ((Ieee.Datum.number s m' i').quotient dg (.number false m i)) = some z := fun s m' i' => by
    obtain ⟨d, hd⟩ := quotient_some dg s false m' m i' i hm
    rw [hd]
    exact ⟨_, rfl⟩
  rw [read64 x]
  by_cases q1 : rg64 x < 4503599627370496
  · rw [if_pos q1]; exact num _ _ _
  · rw [if_neg q1]
    by_cases q2 : rg64 x < 9218868437227405312
    · rw [if_pos q2]; exact num _ _ _
    · rw [if_neg q2, if_pos (by omega)]
      exact ⟨_, rfl⟩
/-- A number less itself. -/
theorem sub_self (r : Nat) : (rg64 r < 9218868437227405312 → floatBits .sub .f64 r r = some 0) ∧ (¬ rg64 r < 9218868437227405312 → floatBits .sub .f64 r r = none) := by
  have key : ∀ (s : Bool) (m : Nat) (i : Int), (Ieee.Datum.number s m i).sum (Ieee.Datum.number s m i).opposite = some (.number false 0 i) := by
    intro s m i
    unfold Ieee.Datum.opposite Ieee.Datum.sum
    simp only [Int.min_self, Int.sub_self]
    unfold Ieee.signed
    cases s <;> simp <;> omega
  have zero : ∀ i, Ieee.double.write (.number false 0 i) = 0 := fun i => by
    unfold Ieee.Format.write Ieee.Format.nearest
    simp
    rfl
  constructor
  · intro h
    show Ieee.double.sub r r = some 0
    unfold Ieee.Format.sub
    rw [read64]
    by_cases q : rg64 r < 4503599627370496
    · rw [if_pos q, key]; show some _ = _; rw [zero]
    · rw [if_neg q, if_pos h, key]; show some _ = _; rw [zero]
  · intro h
    show Ieee.double.sub r r = none
    unfold Ieee.Format.sub
    rw [read64, if_neg (by omega), if_neg h]
    split
    · cases ng64 r <;> rfl
    · rfl
set_option maxRecDepth 100000 in
set_option maxHeartbeats 3200000 in
theorem RFloats_e (f age : Int) (vr : Value) (r : Nat) (z : Int) (w : World) (hz : (z != 0) = true) (CK : ∀ x, Below w.heap.size w x → Calls Try.prog 11 #[.agg #[.int .i64 f, vr], .int .i64 age] x fun e w' => e = .returned (.int .i64 z) ∧ Below x.heap.size x w') : Calls Try.prog 5 #[.agg #[.int .i64 f, vr], .int .i64 age, .float .f64 r] w fun e w' => e = .returned (.tuple #[.slice none 0 0, .int .i64 z]) ∧ Below w.heap.size w w' := by
  have K := Blk.new w #[.int .i64 f, vr] 24
  have pr : Below w.heap.size w (w.alloc (.cells #[.int .i64 f, vr] 24)) := (Below.refl _ _).alloc (Nat.le_refl _) _
  go_enter Try.func5, Try.ntmps5
  go_wp2_with (first
    | (go_at_call 11; (refine (CK _ pr).mono ?_); (rintro e w1 ⟨rfl, b1⟩); (have p1 := bel' pr b1); (have K1 := K.below b1 K.lt); (have k01 := K1.at 0); (have k11 := K1.at 1); (simp at k01 k11))
    | fail)
  go_ret2
  exact ⟨rfl, p1⟩
set_option maxRecDepth 100000 in
set_option maxHeartbeats 3200000 in
theorem RFloats_nan (f age : Int) (vr : Value) (r : Nat) (w : World) (hs : floatBits .sub .f64 r r = none) (CK : ∀ x, Below w.heap.size w x → Calls Try.prog 11 #[.agg #[.int .i64 f, vr], .int .i64 age] x fun e w' => e = .returned (.int .i64 0) ∧ Below x.heap.size x w') : Calls Try.prog 5 #[.agg #[.int .i64 f, vr], .int .i64 age, .float .f64 r] w fun e w' => e = .returned (.tuple #[.slice none 0 0, .int .i64 20]) ∧ Below w.heap.size w w' := by
  have K := Blk.new w #[.int .i64 f, vr] 24
  have pr : Below w.heap.size w (w.alloc (.cells #[.int .i64 f, vr] 24)) := (Below.refl _ _).alloc (Nat.le_refl _) _
  have e1 := fun W => run_nan .sub (Or.inr (Or.inr rfl)) 25 _ _ hs W
  have t1 := fun W => nan_ne (nw_nan r r W)
  clear hs
  go_enter Try.func5, Try.ntmps5
  go_wp2_with (first
    | (go_at_call 11; (refine (CK _ pr).mono ?_); (rintro e w1 ⟨rfl, b1⟩); (have p1 := bel' pr b1); (have K1 := K.below b1 K.lt); (have k01 := K1.at 0); (have k11 := K1.at 1); (simp at k01 k11))
    | fail)
  go_ret2
  exact ⟨rfl, p1.drew⟩
set_option maxRecDepth 100000 in
set_option maxHeartbeats 3200000 in
theorem RFloats_low (f age : Int) (vr : Value) (r : Nat) (w : World) (hs : floatBits .sub .f64 r r = some 0) (hr : (FloatKind.f64.format.order r 0 == some .lt) = true) (CK : ∀ x, Below w.heap.size w x → Calls Try.prog 11 #[.agg #[.int .i64 f, vr], .int .i64 age] x fun e w' => e = .returned (.int .i64 0) ∧ Below x.heap.size x w') : Calls Try.prog 5 #[.agg #[.int .i64 f, vr], .int .i64 age, .float .f64 r] w fun e w' => e = .returned (.tuple #[.slice none 0 0, .int .i64 1]) ∧ Below w.heap.size w w' := by
  have K := Blk.new w #[.int .i64 f, vr] 24
  have pr : Below w.heap.size w (w.alloc (.cells #[.int .i64 f, vr] 24)) := (Below.refl _ _).alloc (Nat.le_refl _) _
  have e1 := fun W : World => run_float_arith (P := Try.prog) W .sub 25 .f64 _ _ _ hs
  have t1 : (FloatKind.f64.format.order 0 0 != some .eq) = false := by rfl
  clear hs
  go_enter Try.func5, Try.ntmps5
  go_wp2_with (first
    | (go_at_call 11; (refine (CK _ pr).mono ?_); (rintro e w1 ⟨rfl, b1⟩); (have p1 := bel' pr b1); (have K1 := K.below b1 K.lt); (have k01 := K1.at 0); (have k11 := K1.at 1); (simp at k01 k11))
    | fail)
  go_ret2
  exact ⟨rfl, p1⟩
/-- A list that is made by append, as it reads. -/
def Fv (w : World) (base : Nat) (v : Value) (n : Nat) (R : Nat → Nat → Prop) : Prop := ∃ vals : List Value, w.ownsRow base 25 1 v n vals ∧ vals.length = n ∧ ∀ i, i < n → ∃ x, vals[i]? = some (.float .f64 x) ∧ R i x
theorem Fv.grow {w w' : World} {base n : Nat} {v : Value} {R : Nat → Nat → Prop} (h : Fv w base v n R) (k : Below w.heap.size w w') : Fv w' base v n R := by
  obtain ⟨vals, ⟨h0, h⟩, h8, h9⟩ := h
  refine ⟨vals, ⟨h0, ?_⟩, h8, h9⟩
  rcases h with h | ⟨g, cap, cur, h1, h2, h3, h4⟩
  · exact Or.inl h
  · exact Or.inr ⟨g, cap, cur, h1, h2, (k.block g (Own.lt ⟨cur, _, h3⟩)).trans h3, h4⟩
theorem Fv.fr {w : World} {base n : Nat} {v : Value} {R : Nat → Nat → Prop} (h : Fv w base v n R) (hn : 0 < n) : Fr w v n R := by
  obtain ⟨vals, ⟨_, h⟩, h8, h9⟩ := h
  rcases h with ⟨_, h0⟩ | ⟨g, cap, cur, h1, h2, h3, h4, h5, h6, h7⟩
  · omega
  · refine ⟨g, cap, h1, h4, h5, fun i hi => ?_⟩
    obtain ⟨x, e, r⟩ := h9 i hi
    refine ⟨x, ?_, r⟩
    have e2 := congrArg (fun l : List Value => l[i]?) h7
    simp only [Nat.mul_one, List.getElem?_take, hi, if_true] at e2
    rw [e, Array.getElem?_toList] at e2
    have K : Blk w g cur 25 := h3
    exact (K.at i).trans e2
/-- append(l, x). -/
theorem wpList_push_float {w : World} {ops : Array Oper} {rest : List Oper} {o : Oper} {a : Act} {Q : Exit → Act → World → Prop} (hgd : o.guard = none) (s x : Operand)
    (ho : o.op = .call { callee := .builtin .append, args := #[s, x], argTypes := #[26, 26] })
    (v : Value) (n : Nat) (R : Nat → Nat → Prop) (hs : a.eval s = v) (base : Nat) (hown : Fv w base v n R) (hL : n ≤ 4096)
    (ad c y : Nat) (hx : a.eval x = .slice (some ⟨ad, 0, none⟩) 1 c) (c0 : w.cell? ⟨ad, 0, none⟩ = some (.float .f64 y)) (hy : R n y) (hbase : base ≤ w.heap.size)
    (h : ∀ v' w', Fv w' base v' (n + 1) R → Below base w w' → wpList Try.prog ops Q rest (a.put o.dst v') w') : wpList Try.prog ops Q (o :: rest) a w := by
  obtain ⟨i, hi, hz0, hz1, hz2⟩ := info_parts (show (Try.prog.info? 25).map (fun i => (i.zero, i.size, i.bytes)) = some (some (.float .f64 0), 1, 8) by kernel_rfl)
  obtain ⟨vals, hr, h8, h9⟩ := hown
  refine wpList_append_own w hgd s x 26 ho base 25 i _ 1 8 (by kernel_rfl) hi hz0 hz1 hz2 rfl (by decide) v n vals hs hr ⟨ad, 0, none⟩ 1 c [.float .f64 y] hx rfl ?_ (by intro u hu; simp at hu; subst hu; rfl) (by unfold maxLen; omega) (by omega) hbase ?_
  · intro j u hj
    match j, hj with
    | 0, hj => simp at hj; subst hj; simpa [Addr.add] using c0
    | j + 1, hj => simp at hj
  · intro v' w' hown' hgr _
    refine h v' w' ⟨vals ++ [.float .f64 y], hown', by simp [h8], fun j hj => ?_⟩ ⟨hgr.os, hgr.tape, hgr.output, hgr.size, fun k hk => hgr.block k (by omega) ?_⟩
    · by_cases c : j = n
      · subst c
        exact ⟨y, by rw [List.getElem?_append_right (by omega), h8]; simp, hy⟩
      · obtain ⟨z, e, r⟩ := h9 j (by omega)
        exact ⟨z, by rw [List.getElem?_append_left (by omega)]; exact e, r⟩
    · obtain ⟨_, hr⟩ := hr
      rcases hr with ⟨rfl, _⟩ | ⟨g, cap, cur, rfl, hb, _⟩
      · simp [Value.ownBlock]
      · simp [Value.ownBlock]; omega
end Go.Proofs.Ytemfndmffpalfaa.Df
