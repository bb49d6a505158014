import Derived.Test.YtebilgnmnambnaaGreatDoorPart07
import Derived.Test.YtebilgnmnambnaaGreatDoorPart03
import Derived.Laws.AppendOwn

namespace Go.Proofs.YtebilgnmnambnaaGreatDoor.L
open Go.RowKit Tl
/- Long division, limb by limb: the plain part. -/
theorem val_set : ∀ {X : List Int} {k : Nat} (_ : k < X.length) (v : Int), val (X.set k v) = val X + pw k * (v - nth X k)
 | [], k, h, _ => by simp at h
 | x :: xs, 0, _, v => by simp [val, pw, nth]; omega
 | x :: xs, k + 1, h, v => by
  have ih := val_set (X := xs) (k := k) (by simpa using h) v
  simp only [List.set_cons_succ, val, pw, ih]
  have e : nth (x :: xs) (k + 1) = nth xs k := by simp [nth]
  rw [e]; grind
theorem wd_of_set {X : List Int} {k : Nat} (h : Wd (X.set k 0)) (h0 : 0 ≤ nth X k) (h1 : nth X k < 1073741824) : Wd X := by
 have := h.set k h0 h1
 rw [List.set_set] at this
 by_cases c : k < X.length
 ·have e : X.set k (nth X k) = X := by simp [nth, List.getD_eq_getElem?_getD, List.getElem?_eq_getElem c]
  rwa [e] at this
 ·rw [List.set_eq_of_length_le (by omega)] at this; exact this
theorem bd_of_set {X : List Int} {k : Nat} (h : Wd (X.set k 0)) {i : Nat} (hi : k ≠ i) : 0 ≤ nth X i ∧ nth X i < 1073741824 := by
 have := nth_bd h i
 rwa [nth_set_other _ _ _ _ hi] at this
theorem set_comm0 {X : List Int} {k i : Nat} (h : Wd (X.set k 0)) (hi : k ≠ i) {v : Int} (v0 : 0 ≤ v) (v1 : v < 1073741824) : Wd ((X.set i v).set k 0) := by
 rw [List.set_comm _ _ (Ne.symm hi)]; exact h.set i v0 v1
theorem val_parts {X : List Int} {m : Nat} (hm : m < X.length) (hz : val (X.drop (m + 1)) = 0) : val X = val (X.take m) + pw m * nth X m := by
 have e1 := val_split X (m + 1) (by omega)
 rw [hz, val_at X m hm] at e1; omega
theorem take_set_same (X : List Int) (m : Nat) (v : Int) : (X.set m v).take m = X.take m := by
 rw [List.take_set]; exact List.set_eq_of_length_le (by simp; omega)
structure Mid (U V : List Int) (k : Nat) (g : Int) (X : List Int) : Prop where
 len : X.length = U.length
 wd : Wd (X.set (k + V.length) 0)
 up : X.drop (k + V.length + 1) = U.drop (k + V.length + 1)
 eq : val X = val U - g * (pw k * val V)
theorem up_zero {U V : List Int} {k : Nat} (hU : Wd U) (hV : Wd V) (hl : k + V.length < U.length) (hlt : val U < pw (k + 1) * val V) : val (U.drop (k + V.length + 1)) = 0 := by
 have e := val_split U (k + V.length + 1) (by omega)
 have p := pw_pos (k + V.length + 1)
 have t0 := val_nonneg (hU.take (k + V.length + 1))
 have d0 := val_nonneg (hU.drop (k + V.length + 1))
 have v1 := val_lt hV
 have e2 : pw (k + V.length + 1) = pw (k + 1) * pw V.length := by rw [← pw_add]; congr 1; omega
 have p2 := pw_pos (k + 1)
 have h3 : pw (k + 1) * val V ≤ pw (k + V.length + 1) := by rw [e2]; exact Int.mul_le_mul_of_nonneg_left (Int.le_of_lt v1) (Int.le_of_lt p2)
 by_cases c : val (U.drop (k + V.length + 1)) = 0
 ·exact c
 ·have := Int.mul_le_mul_of_nonneg_left (show 1 ≤ val (U.drop (k + V.length + 1)) by omega) (Int.le_of_lt p)
  omega
def dig (U V : List Int) (k : Nat) : Int := val U / (pw k * val V)
theorem dig_bd {U V : List Int} {k : Nat} (hU : Wd U) (v0 : 0 < val V) (hlt : val U < pw (k + 1) * val V) : 0 ≤ dig U V k ∧ dig U V k < 1073741824 ∧ dig U V k * (pw k * val V) ≤ val U ∧ val U < (dig U V k + 1) * (pw k * val V) := by
 have p : 0 < pw k * val V := Int.mul_pos (pw_pos k) v0
 have u0 := val_nonneg hU
 refine ⟨Int.ediv_nonneg u0 (Int.le_of_lt p), ?_, Tn.quo_le p, ?_⟩
 ·refine Int.ediv_lt_of_lt_mul p ?_
  have : pw (k + 1) * val V = 1073741824 * (pw k * val V) := by simp only [pw]; grind
  omega
 ·have := Int.lt_ediv_add_one_mul_self (val U) p
  exact this
theorem dig_fits {U V : List Int} {k n : Nat} (hU : Wd U) (hV : Wd V) (hn : V.length = n + 2) (hl : k + (n + 2) < U.length) (v0 : 0 < val V) (hlt : val U < pw (k + 1) * val V) :
  dig U V k * (nth V (n + 1) * 1073741824 + nth V n) ≤ (nth U (k + (n + 2)) * 1073741824 + nth U (k + (n + 1))) * 1073741824 + nth U (k + n) := by
 obtain ⟨q0, _, hq, _⟩ := dig_bd hU v0 hlt
 have hz := up_zero hU hV (by omega) hlt
 rw [hn] at hz
 have eU := val_parts (X := U) (m := k + (n + 2)) (by omega) hz
 have eU1 := val_at U (k + (n + 1)) (by omega)
 have eU2 := val_at U (k + n) (by omega)
 rw [show k + (n + 1) + 1 = k + (n + 2) from by omega] at eU1
 rw [show k + n + 1 = k + (n + 1) from by omega] at eU2
 have eV1 := val_at V (n + 1) (by omega)
 have eV2 := val_at V n (by omega)
 rw [show n + 1 + 1 = V.length from by omega, List.take_length] at eV1
 have t0 := val_nonneg (hV.take n)
 have t1 := val_lt (hU.take (k + n))
 rw [List.length_take, Nat.min_eq_left (by omega)] at t1
 have a1 : pw (k + (n + 1)) = 1073741824 * pw (k + n) := rfl
 have a2 : pw (k + (n + 2)) = 1073741824 * (1073741824 * pw (k + n)) := rfl
 have a3 : pw (n + 1) = 1073741824 * pw n := rfl
 have a4 : pw (k + n) = pw k * pw n := pw_add k n
 have pk := pw_pos k
 have pn := pw_pos n
 have pkn := pw_pos (k + n)
 generalize dig U V k = q at *
 generalize nth V (n + 1) = x1 at *
 generalize nth V n = x0 at *
 generalize nth U (k + (n + 2)) = y2 at *
 generalize nth U (k + (n + 1)) = y1 at *
 generalize nth U (k + n) = y0 at *
 have f1 : val V = val (V.take n) + (x1 * 1073741824 + x0) * pw n := by rw [eV1, eV2, a3]; grind
 have f2 : val U = val (U.take (k + n)) + ((y2 * 1073741824 + y1) * 1073741824 + y0) * pw (k + n) := by rw [eU, eU1, eU2, a1, a2]; grind
 have f3 : pw k * val V = pw k * val (V.take n) + (x1 * 1073741824 + x0) * pw (k + n) := by rw [f1, a4]; grind
 have g1 : 0 ≤ q * (pw k * val (V.take n)) := Int.mul_nonneg q0 (Int.mul_nonneg (Int.le_of_lt pk) t0)
 have g2 : q * (x1 * 1073741824 + x0) * pw (k + n) < (((y2 * 1073741824 + y1) * 1073741824 + y0) + 1) * pw (k + n) := by
  have h1 : q * (pw k * val V) = q * (pw k * val (V.take n)) + q * (x1 * 1073741824 + x0) * pw (k + n) := by rw [f3]; grind
  have h2 : (((y2 * 1073741824 + y1) * 1073741824 + y0) + 1) * pw (k + n) = ((y2 * 1073741824 + y1) * 1073741824 + y0) * pw (k + n) + pw (k + n) := by grind
  omega
 have := Int.lt_of_mul_lt_mul_right g2 (Int.le_of_lt pkn)
 omega
theorem dig_start {U V : List Int} {k n : Nat} {T : Int} (hU : Wd U) (hV : Wd V) (hn : V.length = n + 2) (hl : k + (n + 2) < U.length) (v1 : 0 < nth V (n + 1)) (v0 : 0 < val V) (hlt : val U < pw (k + 1) * val V) (hT : nth U (k + (n + 2)) * 1073741824 + nth U (k + (n + 1)) = T) : dig U V k ≤ T / nth V (n + 1) := by
 have h := dig_fits hU hV hn hl v0 hlt
 rw [hT] at h
 exact Tn.est_start (b := 1073741824) (by decide) v1 (nth_bd hV n).1 (nth_bd hU (k + n)).2 (dig_bd hU v0 hlt).1 h
theorem dig_down {U V : List Int} {k n : Nat} {T g : Int} (hU : Wd U) (hV : Wd V) (hn : V.length = n + 2) (hl : k + (n + 2) < U.length) (v1 : 0 < nth V (n + 1)) (v0 : 0 < val V) (hlt : val U < pw (k + 1) * val V) (hT : nth U (k + (n + 2)) * 1073741824 + nth U (k + (n + 1)) = T)
  (hc : (T - g * nth V (n + 1)) * 1073741824 + nth U (k + n) < g * nth V n) : dig U V k ≤ g - 1 := by
 have h := dig_fits hU hV hn hl v0 hlt
 rw [hT] at h
 have b0 := (nth_bd hV n).1
 exact Tn.est_down (b := 1073741824) (r := T - g * nth V (n + 1)) (by omega) (by omega) h (by omega)
structure Sb (U V : List Int) (k : Nat) (g : Int) (i : Nat) (c : Int) (X : List Int) : Prop where
 len : X.length = U.length
 wd : Wd X
 up : X.drop (k + V.length) = U.drop (k + V.length)
 c0 : 0 ≤ c
 c1 : c ≤ 1073741824
 eq : val X - pw (k + i) * c = val U - g * (pw k * val (V.take i))
theorem Sb.start {U V : List Int} {k : Nat} {g : Int} (hU : Wd U) : Sb U V k g 0 0 U := ⟨rfl, hU, rfl, by omega, by omega, by simp [val]⟩
theorem Sb.next {U V : List Int} {k : Nat} {g : Int} {i : Nat} {c x' c' : Int} {X : List Int} (h : Sb U V k g i c X) (hl : k + V.length < U.length) (hi : i < V.length) (x0 : 0 ≤ x') (x1 : x' < 1073741824) (c0 : 0 ≤ c') (c1 : c' ≤ 1073741824)
  (hx : x' = nth X (k + i) - c - g * nth V i + c' * 1073741824) : Sb U V k g (i + 1) c' (X.set (k + i) x') := by
 have hlen := h.len
 refine ⟨by simp [hlen], h.wd.set _ x0 x1, ?_, c0, c1, ?_⟩
 ·rw [List.drop_set_of_lt (by omega)]; exact h.up
 ·have e := h.eq
  rw [val_set (by omega), hx, val_at V i hi, show k + (i + 1) = k + i + 1 from rfl]
  have a4 : pw (k + i) = pw k * pw i := pw_add k i
  simp only [pw]
  rw [a4] at e ⊢
  grind
theorem Sb.mid {U V : List Int} {k : Nat} {g : Int} {c : Int} {X : List Int} (h : Sb U V k g V.length c X) (hl : k + V.length < U.length) : Mid U V k g (X.set (k + V.length) (nth X (k + V.length) - c)) ∧ -1073741824 ≤ nth X (k + V.length) - c ∧ nth X (k + V.length) - c < 1073741824 := by
 have hlen := h.len
 have b := nth_bd h.wd (k + V.length)
 refine ⟨⟨by simp [hlen], ?_, ?_, ?_⟩, by have := h.c1; omega, by have := h.c0; omega⟩
 ·rw [List.set_set]; exact h.wd.set _ (by omega) (by omega)
 ·rw [drop_set_succ]
  have := congrArg (List.drop 1) h.up
  simpa [List.drop_drop, Nat.add_comm] using this
 ·have e := h.eq
  rw [List.take_length] at e
  rw [val_set (by omega)]
  generalize nth X (k + V.length) = y at *
  generalize pw (k + V.length) = p at *
  have : p * (y - c - y) = - (p * c) := by grind
  omega
structure Ad (Y V : List Int) (k : Nat) (i : Nat) (c : Int) (X : List Int) : Prop where
 len : X.length = Y.length
 wd : Wd (X.set (k + V.length) 0)
 up : X.drop (k + V.length) = Y.drop (k + V.length)
 c0 : 0 ≤ c
 c1 : c ≤ 1
 eq : val X + pw (k + i) * c = val Y + pw k * val (V.take i)
theorem Ad.start {Y V : List Int} {k : Nat} (hY : Wd (Y.set (k + V.length) 0)) : Ad Y V k 0 0 Y := ⟨rfl, hY, rfl, by omega, by omega, by simp [val]⟩
theorem Ad.next {Y V : List Int} {k : Nat} {i : Nat} {c S : Int} {X : List Int} (h : Ad Y V k i c X) (hV : Wd V) (hl : k + V.length < Y.length) (hi : i < V.length) (hS : S = c + (nth X (k + i) + nth V i)) : Ad Y V k (i + 1) (S / 1073741824) (X.set (k + i) (S % 1073741824)) := by
 have hlen := h.len
 have b := bd_of_set h.wd (i := k + i) (by omega)
 have b2 := nth_bd hV i
 have c0 := h.c0
 have c1 := h.c1
 refine ⟨by simp [hlen], set_comm0 h.wd (by omega) (by omega) (by omega), ?_, by omega, by omega, ?_⟩
 ·rw [List.drop_set_of_lt (by omega)]; exact h.up
 ·have e := h.eq
  have es : S = S % 1073741824 + 1073741824 * (S / 1073741824) := by omega
  rw [val_set (by omega), val_at V i hi, show k + (i + 1) = k + i + 1 from rfl]
  have a4 : pw (k + i) = pw k * pw i := pw_add k i
  generalize S % 1073741824 = p at *
  generalize S / 1073741824 = q at *
  simp only [pw]
  rw [a4] at e ⊢
  grind
theorem Ad.mid {U V : List Int} {k : Nat} {g c : Int} {Y X : List Int} (hM : Mid U V k g Y) (h : Ad Y V k V.length c X) (hl : k + V.length < U.length) : Mid U V k (g - 1) (X.set (k + V.length) (nth X (k + V.length) + c)) ∧ nth X (k + V.length) = nth Y (k + V.length) := by
 have hlen := h.len
 have hlen2 := hM.len
 refine ⟨⟨by simp [hlen, hlen2], ?_, ?_, ?_⟩, ?_⟩
 ·rw [List.set_set]; exact h.wd
 ·rw [drop_set_succ, ← hM.up]
  have := congrArg (List.drop 1) h.up
  simpa [List.drop_drop, Nat.add_comm] using this
 ·have e := h.eq
  have e2 := hM.eq
  rw [List.take_length] at e
  rw [val_set (by omega)]
  generalize nth X (k + V.length) = y at *
  generalize pw (k + V.length) = p at *
  have a : p * (y + c - y) = p * c := by grind
  have b : (g - 1) * (pw k * val V) = g * (pw k * val V) - pw k * val V := by grind
  omega
 ·have := congrArg (fun l => nth l 0) h.up
  simpa [nth_drop] using this
theorem Mid.neg {U V X : List Int} {k : Nat} {g : Int} (h : Mid U V k g X) (hU : Wd U) (hV : Wd V) (hl : k + V.length < U.length) (v0 : 0 < val V) (hlt : val U < pw (k + 1) * val V) (ht : nth X (k + V.length) < 0) : dig U V k ≤ g - 1 := by
 obtain ⟨q0, _, hq, _⟩ := dig_bd hU v0 hlt
 have hz := up_zero hU hV hl hlt
 rw [← h.up] at hz
 have hlen := h.len
 have e := val_parts (X := X) (m := k + V.length) (by omega) hz
 have w : Wd (X.take (k + V.length)) := by have := h.wd.take (k + V.length); rwa [take_set_same] at this
 have t1 := val_lt w
 rw [List.length_take, Nat.min_eq_left (by omega)] at t1
 have p := pw_pos (k + V.length)
 have := Int.mul_le_mul_of_nonneg_left (show nth X (k + V.length) ≤ -1 by omega) (Int.le_of_lt p)
 have hx : val X < 0 := by omega
 have h2 : dig U V k * (pw k * val V) < g * (pw k * val V) := by have := h.eq; omega
 have := Int.lt_of_mul_lt_mul_right h2 (Int.le_of_lt (Int.mul_pos (pw_pos k) v0))
 omega
theorem Mid.done {U V X : List Int} {k : Nat} {g : Int} (h : Mid U V k g X) (hU : Wd U) (hV : Wd V) (hl : k + V.length < U.length) (v0 : 0 < val V) (hlt : val U < pw (k + 1) * val V) (hg : dig U V k ≤ g) (ht : ¬ nth X (k + V.length) < 0) : g = dig U V k ∧ Wd X ∧ val X < pw k * val V := by
 obtain ⟨q0, _, hq, hq2⟩ := dig_bd hU v0 hlt
 have hz := up_zero hU hV hl hlt
 rw [← h.up] at hz
 have hlen := h.len
 have e := val_parts (X := X) (m := k + V.length) (by omega) hz
 have w : Wd (X.take (k + V.length)) := by have := h.wd.take (k + V.length); rwa [take_set_same] at this
 have t0 := val_nonneg w
 have p := pw_pos (k + V.length)
 have pk := pw_pos k
 have pp : 0 < pw k * val V := Int.mul_pos pk v0
 have hx : 0 ≤ val X := by have := Int.mul_nonneg (Int.le_of_lt p) (show 0 ≤ nth X (k + V.length) by omega); omega
 have h2 : g * (pw k * val V) < (dig U V k + 1) * (pw k * val V) := by have := h.eq; omega
 have h3 := Int.lt_of_mul_lt_mul_right h2 (Int.le_of_lt pp)
 have eg : g = dig U V k := by omega
 have h4 : val X < pw k * val V := by
  have := h.eq
  rw [eg] at this
  have : (dig U V k + 1) * (pw k * val V) = dig U V k * (pw k * val V) + pw k * val V := by grind
  omega
 have h5 : pw k * val V ≤ pw (k + V.length) := by rw [pw_add]; exact Int.mul_le_mul_of_nonneg_left (Int.le_of_lt (val_lt hV)) (Int.le_of_lt pk)
 have tz : nth X (k + V.length) = 0 := by
  by_cases c : nth X (k + V.length) = 0
  ·exact c
  ·have := Int.mul_le_mul_of_nonneg_left (show 1 ≤ nth X (k + V.length) by omega) (Int.le_of_lt p)
   omega
 exact ⟨eg, wd_of_set h.wd (by omega) (by omega), h4⟩
theorem quo_set {Q X U V : List Int} {k : Nat} {g A : Int} (hk : k < Q.length) (hz : nth Q k = 0) (hA : val Q * val V + val U = A) (hX : val X = val U - g * (pw k * val V)) : val (Q.set k g) * val V + val X = A := by
 rw [val_set hk, hz, hX, ← hA]; grind
end Go.Proofs.YtebilgnmnambnaaGreatDoor.L

namespace Go.Proofs.YtebilgnmnambnaaGreatDoor.L
open Go.RowKit Tl
theorem run_append_types {P : Program} (w : World) (t t' ty e e' : TypeId) (i : TypeInfo) (hi : P.info? e = some i) (u a : Option Addr) (n d m c : Nat) (ht : P.underlying t = some (.slice e)) (ht' : P.underlying t' = some (.slice e')) :
  (Builtin.append_ #[t, t'] ty #[.slice u n d, .slice a m c]).run P w = (Builtin.append_ #[t, t] ty #[.slice u n d, .slice a m c]).run P w := by
 simp [Builtin.append_, run_underlying ht, run_underlying ht', sizeOf, typeInfo, hi]
theorem Tryz.underNat : Tryz.prog.underlying 54 = some (.slice 3) := by kernel_rfl
theorem wpList_append_nat {w : World} {ops : Array Oper} {rest : List Oper} {o : Oper} {a : Act} {Q : Exit → Act → World → Prop} (hgd : o.guard = none) (s x : Operand)
  (ho : o.op = .call { callee := .builtin .append, args := #[s, x], argTypes := #[53, 54] })
  (g0 base : Nat) (cur : Array Value) (hs : a.eval s = .slice (some ⟨g0, 0, none⟩) 0 0) (hg : w.heap[g0]? = some (.cells cur 3 (0, 0))) (hcur : cur.size = 0) (hbg : base ≤ g0)
  (b o' m c : Nat) (xs : List Int) (hx : a.eval x = .slice (some ⟨b, o', none⟩) m c) (em : m = xs.length) (hc : Cells w b o' xs) (hL : xs.length ≤ 1099511627776) (hbase : base ≤ w.heap.size)
  (h : ∀ g cap w', w'.ownsRow base 3 1 (.slice (some ⟨g, 0, none⟩) xs.length cap) xs.length (xs.map (Value.int .i64)) → base ≤ g → Own w' g → cap ≤ 9223372036854775807 → xs.length ≤ cap → Cells w' g 0 xs → Below base w w' → wpList Tryz.prog ops Q rest (a.put o.dst (.slice (some ⟨g, 0, none⟩) xs.length cap)) w') : wpList Tryz.prog ops Q (o :: rest) a w := by
 subst em
 obtain ⟨i, hi, hz0, hz1, hz2⟩ := info_parts Tryz.infoU
 have hown : w.ownsRow base 3 1 (.slice (some ⟨g0, 0, none⟩) 0 0) 0 [] := ⟨rfl, Or.inr ⟨g0, 0, cur, rfl, hbg, hg, Nat.le_refl _, by decide, by simp [hcur], by simp⟩⟩
 have hnews : ∀ (j : Nat) (u : Value), (xs.map (Value.int .i64))[j]? = some u → w.cell? ((⟨b, o', none⟩ : Addr).add j) = some u := by
  intro j u hj
  rw [List.getElem?_map] at hj
  obtain ⟨y, hy, rfl⟩ := Option.map_eq_some_iff.1 hj
  have hjl : j < xs.length := by
   by_cases c : j < xs.length
   ·exact c
   ·rw [List.getElem?_eq_none (by omega)] at hy; cases hy
  have := hc.at hjl
  rw [Addr.add_lit, this]
  simp [nth, List.getD_eq_getElem?_getD, hy]
 refine wpList_plain hgd fun K hK => ?_
 obtain ⟨v', w', hr, h2, h3, h4⟩ := run_append_own (P := Tryz.prog) w base 53 o.type 3 i (.int .i64 0) 1 8 Tryz.underlying53 hi hz0 hz1 hz2 rfl (by decide) _ 0 [] hown ⟨b, o', none⟩ xs.length c (xs.map (Value.int .i64)) (by simp) hnews (by intro u hu; simp at hu; obtain ⟨y, _, rfl⟩ := hu; rfl) (by unfold maxLen; omega) (by omega) hbase
 ·unfold Oper.wp execOp
  simp only [ho, resolve, invoke, builtin, Sem.run_bind, Sem.run_pure, Result.andThen_ok, List.map_toArray, List.map_cons, List.map_nil, hs, hx, run_append_types w _ _ _ _ _ _ hi _ _ _ _ _ _ Tryz.underlying53 Tryz.underNat, hr]
  have hbl : Below base w w' := by
   refine ⟨h3.os, h3.tape, h3.output, h3.size, fun k hk => h3.block k (by omega) ?_⟩
   simp [Value.ownBlock]; omega
  rw [Nat.zero_add, List.nil_append] at h2
  have h2' := h2
  obtain ⟨_, h5⟩ := h2
  rcases h5 with ⟨rfl, h5⟩ | ⟨g, cap, cur', rfl, e2, e3, e4, e5, e6, e7⟩
  ·simp at h4
  ·refine hK _ _ (h g cap w' h2' e2 ⟨cur', _, e3⟩ e5 e4 ?_ hbl)
   intro i hi
   rw [Nat.mul_one] at e7
   have h7 := congrArg (fun l : List Value => l[i]?) e7
   simp only [List.getElem?_take, hi, if_true, List.getElem?_map] at h7
   simp only [World.cell?, e3, Nat.zero_add, Option.isSome_none, Bool.false_eq_true, if_false]
   rw [Array.getElem?_toList] at h7
   rw [h7]
   simp [nth, List.getD_eq_getElem?_getD, List.getElem?_eq_getElem hi]
end Go.Proofs.YtebilgnmnambnaaGreatDoor.L

namespace Go.Proofs.YtebilgnmnambnaaGreatDoor.L
open Go.RowKit Tl
theorem bits_mask (S : Int) (r : Nat) (hr : r < 30) (h0 : 0 ≤ S) (h1 : S ≤ 576460752303423488) : bits .and .i64 S (2 ^ r - 1) = S % 2 ^ r := by
 obtain ⟨a, rfl⟩ := Int.eq_ofNat_of_zero_le h0
 have hp : 2 ^ r ≤ 2 ^ 29 := Nat.pow_le_pow_right (by decide) (by omega)
 have hp0 : 0 < 2 ^ r := Nat.two_pow_pos r
 have e : (2 : Int) ^ r - 1 = ((2 ^ r - 1 : Nat) : Int) := by
  have e : ((2 ^ r : Nat) : Int) = (2 : Int) ^ r := by simp
  omega
 have a1 : (BitVec.ofInt 64 ((a : Nat) : Int)).toNat = a := by
  rw [BitVec.ofInt_natCast, BitVec.toNat_ofNat]; exact Nat.mod_eq_of_lt (by omega)
 have a2 : (BitVec.ofInt 64 ((2 ^ r - 1 : Nat) : Int)).toNat = 2 ^ r - 1 := by
  rw [BitVec.ofInt_natCast, BitVec.toNat_ofNat]; exact Nat.mod_eq_of_lt (by omega)
 rw [e]
 show IntKind.i64.wrap ((BitVec.ofInt 64 ((a : Nat) : Int) &&& BitVec.ofInt 64 ((2 ^ r - 1 : Nat) : Int)).toNat : Int) = _
 rw [BitVec.toNat_and, a1, a2, Nat.and_two_pow_sub_one_eq_mod]
 have hm := Nat.mod_lt a hp0
 rw [wrap_self _ (by omega) (by omega)]
 simp
theorem shr_val {xs X : List Int} {n q r : Nat} {cy : Int} (hx : Wd xs) (hq : q < xs.length) (en : n = 30 * q + r) (c0 : 0 ≤ cy) (c1 : cy < 2 ^ r) (h : val X * 2 ^ r + cy = val (xs.drop q)) : val X = val xs / 2 ^ n := by
 have p0 : (0 : Int) < 2 ^ r := Int.pow_pos (by decide)
 have e1 := val_split xs q (by omega)
 have t0 := val_nonneg (hx.take q)
 have t1 := val_lt (hx.take q)
 rw [List.length_take, Nat.min_eq_left (by omega)] at t1
 have pq := pw_pos q
 have e2 : val xs / pw q = val (xs.drop q) := by
  rw [e1, Int.add_mul_ediv_left _ _ (by omega), Int.ediv_eq_zero_of_lt t0 t1]; omega
 have e3 : val (xs.drop q) / 2 ^ r = val X := by
  rw [← h, Int.add_comm, Int.add_mul_ediv_right _ _ (by omega), Int.ediv_eq_zero_of_lt c0 c1]; omega
 rw [en, Int.pow_add, ← pw_two, ← Int.ediv_ediv_of_nonneg (Int.le_of_lt pq), e2, e3]
set_option maxHeartbeats 1600000 in
set_option maxRecDepth 100000 in
theorem shr_some (b1 o1 c1 : Nat) (xs : List Int) (n q r : Nat) (w : World) (hx : Wd xs) (hc1 : Cells w b1 o1 xs) (l1 : xs.length ≤ 549755813888) (l2 : xs.length ≤ c1) (l3 : c1 ≤ 9223372036854775807) (hn : n ≤ 1099511627776) (hq : (n : Int) / 30 = q) (hr : (n : Int) % 30 = r) (hlt : q < xs.length) :
  Calls Tryz.prog 185 #[.slice (some ⟨b1, o1, none⟩) xs.length c1, .int .i64 n] w fun e w' => ∃ v zs, e = .returned v ∧ Rd w' v zs ∧ Nm zs ∧ val zs = val xs / 2 ^ n ∧ Below w.heap.size w w' := by
 have r1 : r < 30 := by omega
 have hge : ¬ ((xs.length : Int) ≤ q) := by omega
 have hcap : q < c1 := by omega
 obtain ⟨Y, hY⟩ : ∃ Y, Y = xs.drop q := ⟨_, rfl⟩
 have lY : Y.length = xs.length - q := by rw [hY, List.length_drop]
 have wY : Wd Y := by rw [hY]; exact hx.drop q
 have cY : Hid (Cells w b1 (o1 + q) Y) := by rw [hY]; exact hc1.drop q
 have HY : Hid (Y = xs.drop q) := hY
 clear hY
 have hp : ((2 : Int) ^ r) ≤ 536870912 := by
  have h : 2 ^ r ≤ 2 ^ 29 := Nat.pow_le_pow_right (by decide) (by omega)
  have e : ((2 ^ r : Nat) : Int) = (2 : Int) ^ r := by simp
  rw [← e]; omega
 have hp0 : (0 : Int) < 2 ^ r := Int.pow_pos (by decide)
 go_enter Tryz.func185, Tryz.ntmps185
 go_wp2_with (first
  | (at_builtin; refine wpList_append_nat rfl _ _ rfl w.heap.size w.heap.size #[] rfl (heap_alloc_new _ _) rfl (Nat.le_refl _) b1 (o1 + q) (xs.length - q) (c1 - q) Y rfl lY.symm (cY.out.grow ((Below.refl _ _).alloc (Nat.le_refl _) _)) (by omega) (by simp) ?_; intro g cap w1 hown hg ho hcap2 hlc hcs hbl; clear hown)
  | fail)
 go_loopw [6, 7] (fun c i wr => ∃ (j : Nat) (cy : Int) (X : List Int), j ≤ Y.length ∧ c = .int .i64 cy ∧ i = .int .i64 ((j : Int) - 1) ∧ 0 ≤ cy ∧ cy < 2 ^ r ∧ X.length = Y.length ∧ Wd X ∧ X.take j = Y.take j ∧ val (X.drop j) * 2 ^ r + cy = val (Y.drop j) ∧ Cells wr g 0 X ∧ Wr g 0 Y.length w1 wr) (fun _ i _ => (intOf i + 1).toNat)
 case atStart => exact ⟨Y.length, 0, Y, Nat.le_refl _, rfl, by go_num, by omega, hp0, rfl, wY, rfl, by simp [val], hcs, Wr.refl _ _ _ _⟩
 case round =>
  obtain ⟨j, cy, X, hj, rfl, rfl, r0, r2, hl, hX, ht, hv, hc, hwr⟩ := hrel
  have HV : Hid (val (X.drop j) * 2 ^ r + cy = val (Y.drop j)) := hv
  have HT : Hid (X.take j = Y.take j) := ht
  clear hv ht
  have hb := ((Below.refl w.heap.size w).alloc (Nat.le_refl _) (Obj.cells #[] 3)).trans (hbl.trans (hwr.below (B := w.heap.size) hg (by have := hbl.size; simp at this; omega)))
  by_cases hlt2 : 0 < j
  ·obtain ⟨i, rfl⟩ : ∃ i, j = i + 1 := ⟨j - 1, by omega⟩
   have kx := hc.at (i := i) (by omega)
   have kf := ((ho.wr hwr).free 0 Y.length) i (by omega)
   rw [Nat.zero_add] at kx kf
   have bx := nth_bd hX i
   obtain ⟨S, hS⟩ : ∃ S, nth X i + cy * 1073741824 = S := ⟨_, rfl⟩
   have p1 : IntKind.i64.wrap (cy * 1073741824) = cy * 1073741824 := wrap_self _ (by omega) (by omega)
   have p2 : IntKind.i64.wrap (nth X i + cy * 1073741824) = S := by rw [hS]; exact wrap_self _ (by omega) (by omega)
   have s0 : 0 ≤ S := by omega
   have s1 : S ≤ 576460752303423488 := by omega
   have t1 : ((i : Int) + 1 - 1) = i := by omega
   have eX : nth X i = nth Y i := by
    have := congrArg (fun l => nth l i) HT.out
    rwa [nth_take _ _ _ (by omega), nth_take _ _ _ (by omega)] at this
   have R : Hid _ := quo_step (s := S) hX (by omega) (by omega) hp0 r0 r2 (nth_bd wY i).1 (nth_bd wY i).2 (by omega) HV.out
   have bm := bits_mask S r r1 s0 s1
   clear hS eX
   go_wp2
   go_roundw
   case rel =>
    refine ⟨i, _, _, by omega, rfl, by go_num, R.out.2.2.1, R.out.2.2.2, by simp [hl], R.out.1, ?_, R.out.2.1, by simpa using hc.set i (by omega) _, by simpa using hwr.setCell i (by omega) _⟩
    rw [take_set_same]
    have := congrArg (List.take i) HT.out
    rwa [List.take_take, List.take_take, Nat.min_eq_left (by omega)] at this
   case measure => simp [intOf]
  ·have ek : j = 0 := by omega
   subst ek
   have Rv : Hid (val X = val xs / 2 ^ n) := by
    have h := HV.out
    rw [List.drop_zero, List.drop_zero, HY.out] at h
    exact shr_val hx hlt (by omega) r0 r2 h
   clear HV HT
   go_wp2_with (first
    | (go_at_call 141; refine (norm_rd _ _ _ X _ (by omega) hX (by omega) hcap2 (fun _ => ⟨_, _, rfl, hc⟩)).mono ?_; rintro e w' ⟨n', zs, rfl, hrd, hnm, hvz, rfl⟩; have hvz' : Hid _ := hvz.trans Rv.out; clear hvz)
    | fail)
   go_ret
   exact ⟨_, zs, rfl, hrd, hnm, hvz'.out, hb⟩
set_option maxRecDepth 100000 in
theorem shr_none (a1 : Option Addr) (l c1 : Nat) (n q : Int) (w : World) (hn0 : 0 ≤ n) (hn1 : n ≤ 1099511627776) (hq : n / 30 = q) (hl : (l : Int) ≤ q) :
  Calls Tryz.prog 185 #[.slice a1 l c1, .int .i64 n] w fun e w' => e = .returned (.slice none 0 0) ∧ w' = w := by
 go_enter Tryz.func185, Tryz.ntmps185
 go_wp2
 go_ret
 exact ⟨rfl, rfl⟩
theorem Shr_any (v : Value) (xs : List Int) (n : Nat) (w : World) (h : Rd w v xs) (l1 : xs.length ≤ 549755813888) (hn : n ≤ 1099511627776) :
  Calls Tryz.prog 185 #[v, .int .i64 n] w fun e w' => ∃ r zs, e = .returned r ∧ Rd w' r zs ∧ Nm zs ∧ val zs = val xs / 2 ^ n ∧ Below w.heap.size w w' := by
 obtain ⟨hx, a1, c1, rfl, h2, h3, g1⟩ := h
 by_cases ne : n / 30 < xs.length
 ·obtain ⟨b, o, rfl, hc⟩ := g1 (by omega)
  exact shr_some b o c1 xs n (n / 30) (n % 30) w hx hc l1 h2 h3 hn (by simp) (by simp) ne
 ·refine (shr_none a1 xs.length c1 n ((n / 30 : Nat) : Int) w (by omega) (by omega) (by omega) (by omega)).mono ?_
  rintro e w' ⟨rfl, rfl⟩
  refine ⟨_, [], rfl, rd_nil _, Or.inl rfl, ?_, Below.refl _ _⟩
  have v0 := val_nonneg hx
  have v1 := val_lt hx
  have p := pw_mono (show xs.length ≤ n / 30 by omega)
  have e2 : pw (n / 30) ≤ 2 ^ n := by
   rw [pw_two]
   have h : 2 ^ (30 * (n / 30)) ≤ 2 ^ n := Nat.pow_le_pow_right (by decide) (by omega)
   exact_mod_cast h
  exact (Int.ediv_eq_zero_of_lt v0 (by omega)).symm
end Go.Proofs.YtebilgnmnambnaaGreatDoor.L

namespace Go.Proofs.YtebilgnmnambnaaGreatDoor.L
open Go.RowKit Tl
/- Long division: what lies where, and how it begins. -/
theorem own_parts {w : World} {base : Nat} {e : TypeId} {v : Value} {Y : List Int} (h : w.ownsRow base e 1 v Y.length (Y.map (Value.int .i64))) (ne : 0 < Y.length) :
  ∃ g cap, v = .slice (some ⟨g, 0, none⟩) Y.length cap ∧ base ≤ g ∧ Own w g ∧ Y.length ≤ cap ∧ cap ≤ 9223372036854775807 ∧ Cells w g 0 Y := by
 obtain ⟨_, h2⟩ := h
 rcases h2 with ⟨rfl, h2⟩ | ⟨g, cap, cur, rfl, e2, e3, e4, e5, e6, e7⟩
 ·omega
 ·refine ⟨g, cap, rfl, e2, ⟨cur, _, e3⟩, e4, e5, ?_⟩
  intro i hi
  rw [Nat.mul_one] at e7
  have h7 := congrArg (fun l : List Value => l[i]?) e7
  simp only [List.getElem?_take, hi, if_true, List.getElem?_map] at h7
  simp only [World.cell?, e3, Nat.zero_add, Option.isSome_none, Bool.false_eq_true, if_false]
  rw [Array.getElem?_toList] at h7
  rw [h7]
  simp [nth, List.getD_eq_getElem?_getD, List.getElem?_eq_getElem hi]
structure Lay (w wr : World) (bv ov gU gQ : Nat) (V U Q : List Int) : Prop where
 h1 : bv < gU
 h2 : gU < gQ
 h3 : w.heap.size ≤ gU
 below : Below w.heap.size w wr
 cv : Cells wr bv ov V
 cu : Cells wr gU 0 U
 cq : Cells wr gQ 0 Q
 ou : Own wr gU
 oq : Own wr gQ
theorem Lay.drewN {w wr : World} {bv ov gU gQ : Nat} {V U Q : List Int} (h : Lay w wr bv ov gU gQ V U Q) (m : Nat) : Lay w (wr.drewN m) bv ov gU gQ V U Q := ⟨h.h1, h.h2, h.h3, ⟨h.below.os, h.below.tape, h.below.output, h.below.size, h.below.block⟩, h.cv, h.cu, h.cq, h.ou, h.oq⟩
theorem Lay.setU {w wr : World} {bv ov gU gQ : Nat} {V U Q : List Int} (h : Lay w wr bv ov gU gQ V U Q) (k : Nat) (hk : k < U.length) (x : Int) : Lay w (wr.setCell ⟨gU, k, none⟩ (.int .i64 x)) bv ov gU gQ V (U.set k x) Q := by
 have hw : Wr gU 0 U.length wr (wr.setCell ⟨gU, k, none⟩ (.int .i64 x)) := (Wr.refl _ _ _ _).setCell k (by omega) _
 have a := h.h1; have b := h.h2; have c := h.h3
 exact ⟨a, b, c, h.below.trans (hw.below c h.below.size), h.cv.other hw (by omega), by simpa using h.cu.set k hk x, h.cq.other hw (by omega), h.ou.wr hw, h.oq.wr hw⟩
theorem Lay.setQ {w wr : World} {bv ov gU gQ : Nat} {V U Q : List Int} (h : Lay w wr bv ov gU gQ V U Q) (k : Nat) (hk : k < Q.length) (x : Int) : Lay w (wr.setCell ⟨gQ, k, none⟩ (.int .i64 x)) bv ov gU gQ V U (Q.set k x) := by
 have hw : Wr gQ 0 Q.length wr (wr.setCell ⟨gQ, k, none⟩ (.int .i64 x)) := (Wr.refl _ _ _ _).setCell k (by omega) _
 have a := h.h1; have b := h.h2; have c := h.h3
 exact ⟨a, b, c, h.below.trans (hw.below (by omega) h.below.size), h.cv.other hw (by omega), h.cu.other hw (by omega), by simpa using h.cq.set k hk x, h.ou.wr hw, h.oq.wr hw⟩
theorem Lay.atU {w wr : World} {bv ov gU gQ : Nat} {V U Q : List Int} (h : Lay w wr bv ov gU gQ V U Q) {k : Nat} (hk : k < U.length) : wr.cell? ⟨gU, k, none⟩ = some (.int .i64 (nth U k)) := by have := h.cu.at hk; rwa [Nat.zero_add] at this
theorem Lay.freeU {w wr : World} {bv ov gU gQ : Nat} {V U Q : List Int} (h : Lay w wr bv ov gU gQ V U Q) (k : Nat) : wr.frozen? ⟨gU, k, none⟩ = false := by have := h.ou.free 0 (k + 1) k (by omega); rwa [Nat.zero_add] at this
theorem Lay.freeQ {w wr : World} {bv ov gU gQ : Nat} {V U Q : List Int} (h : Lay w wr bv ov gU gQ V U Q) (k : Nat) : wr.frozen? ⟨gQ, k, none⟩ = false := by have := h.oq.free 0 (k + 1) k (by omega); rwa [Nat.zero_add] at this
theorem two_le {s : Nat} (hs : s ≤ 29) : (0 : Int) < 2 ^ s ∧ (2 : Int) ^ s ≤ 536870912 ∧ ∃ u : Int, 2 ^ s * u = 1073741824 := by
 have h : 2 ^ s ≤ 2 ^ 29 := Nat.pow_le_pow_right (by decide) hs
 have e : ((2 ^ s : Nat) : Int) = (2 : Int) ^ s := by simp
 refine ⟨Int.pow_pos (by decide), by omega, 2 ^ (30 - s), ?_⟩
 rw [← Int.pow_add, show s + (30 - s) = 30 from by omega]; decide
theorem shift_len {ys V : List Int} {s : Nat} (hy : Wd ys) (ny : Nm ys) (l : 0 < ys.length) (hV : Wd V) (nV : Nm V) (hs : s ≤ 29) (ht : nth ys (ys.length - 1) * 2 ^ s < 1073741824) (e : val V = val ys * 2 ^ s) : V.length = ys.length := by
 obtain ⟨p0, p1, u, hu⟩ := two_le hs
 have ne : ys ≠ [] := by intro h; rw [h] at l; simp at l
 have lo := val_low hy ny ne
 have at1 := val_at ys (ys.length - 1) (by omega)
 rw [show ys.length - 1 + 1 = ys.length from by omega, List.take_length] at at1
 have t1 := val_lt (hy.take (ys.length - 1))
 rw [List.length_take, Nat.min_eq_left (by omega)] at t1
 have b := nth_bd hy (ys.length - 1)
 have hu1 : nth ys (ys.length - 1) + 1 ≤ u := by
  have : nth ys (ys.length - 1) * 2 ^ s < u * 2 ^ s := by rw [Int.mul_comm u]; omega
  have := Int.lt_of_mul_lt_mul_right this (Int.le_of_lt p0)
  omega
 have p := pw_pos (ys.length - 1)
 have hi : val ys ≤ (nth ys (ys.length - 1) + 1) * pw (ys.length - 1) := by
  rw [at1]; have : (nth ys (ys.length - 1) + 1) * pw (ys.length - 1) = pw (ys.length - 1) * nth ys (ys.length - 1) + pw (ys.length - 1) := by grind
  omega
 have hi2 : val ys < u * pw (ys.length - 1) := by
  have h1 : val ys < (nth ys (ys.length - 1) + 1) * pw (ys.length - 1) := by
   rw [at1]; have : (nth ys (ys.length - 1) + 1) * pw (ys.length - 1) = pw (ys.length - 1) * nth ys (ys.length - 1) + pw (ys.length - 1) := by grind
   omega
  have := Int.mul_le_mul_of_nonneg_right hu1 (Int.le_of_lt p)
  omega
 have hV1 : val V < pw ys.length := by
  have h1 := Int.mul_lt_mul_of_pos_right hi2 p0
  have h2 : u * pw (ys.length - 1) * 2 ^ s = pw ys.length := by
   rw [show ys.length = ys.length - 1 + 1 from by omega, pw, ← hu, show ys.length - 1 + 1 - 1 = ys.length - 1 from by omega]; grind
  omega
 have hV0 : pw (ys.length - 1) ≤ val V := by
  rw [e]
  have := Int.mul_le_mul_of_nonneg_left (show 1 ≤ (2 : Int) ^ s by omega) (show 0 ≤ val ys by omega)
  omega
 have up : V.length ≤ ys.length := by
  by_cases c : V.length ≤ ys.length
  ·exact c
  ·have nv : V ≠ [] := by intro h; rw [h] at c; simp at c
   have := val_low hV nV nv
   have := pw_mono (show ys.length ≤ V.length - 1 by omega)
   omega
 have dn : ys.length ≤ V.length := by
  by_cases c : ys.length ≤ V.length
  ·exact c
  ·have := val_lt hV
   have := pw_mono (show V.length ≤ ys.length - 1 by omega)
   omega
 omega
theorem shl_len {xs A : List Int} {s : Nat} (hx : Wd xs) (hA : Wd A) (nA : Nm A) (hs : s ≤ 29) (e : val A = val xs * 2 ^ s) : A.length ≤ xs.length + 1 := by
 obtain ⟨p0, p1, _⟩ := two_le hs
 by_cases c : A.length ≤ xs.length + 1
 ·exact c
 ·have nv : A ≠ [] := by intro h; rw [h] at c; simp at c
  have l := val_low hA nA nv
  have m := pw_mono (show xs.length + 1 ≤ A.length - 1 by omega)
  have h := val_lt hx
  have h0 := val_nonneg hx
  have a := Int.mul_le_mul_of_nonneg_left p1 h0
  have p := pw_pos xs.length
  have : pw (xs.length + 1) = 1073741824 * pw xs.length := rfl
  omega
theorem start_lt {xs ys U V : List Int} {s M : Nat} (hx : Wd xs) (hy : Wd ys) (ny : Nm ys) (l : 0 < ys.length) (eU : val U = val xs * 2 ^ s) (eV : val V = val ys * 2 ^ s) (hs : s ≤ 29) (hM : xs.length + 1 = M + ys.length) : val U < pw M * val V := by
 obtain ⟨p0, p1, _⟩ := two_le hs
 have ne : ys ≠ [] := by intro h; rw [h] at l; simp at l
 have lo := val_low hy ny ne
 have h := val_lt hx
 rw [show xs.length = M + (ys.length - 1) from by omega, pw_add] at h
 have a := Int.mul_le_mul_of_nonneg_left lo (Int.le_of_lt (pw_pos M))
 have b := Int.mul_lt_mul_of_pos_right (show val xs < pw M * val ys by omega) p0
 rw [eU, eV]
 have : pw M * (val ys * 2 ^ s) = pw M * val ys * 2 ^ s := by grind
 omega
theorem shift_back {X Y Q R s : Int} (s0 : 0 < s) (_y0 : 0 < Y) (h : Q * (Y * s) + R = X * s) (r0 : 0 ≤ R) (r1 : R < Y * s) : X = Q * Y + R / s ∧ 0 ≤ R / s ∧ R / s < Y := by
 have e : R = (X - Q * Y) * s := by grind
 have e2 : R / s = X - Q * Y := by rw [e]; exact Int.mul_ediv_cancel _ (by omega)
 refine ⟨by omega, Int.ediv_nonneg r0 (by omega), ?_⟩
 rw [e2]
 have : (X - Q * Y) * s < Y * s := by omega
 exact Int.lt_of_mul_lt_mul_right this (by omega)
set_option maxRecDepth 100000 in
theorem dm_less (v1 v2 : Value) (xs ys : List Int) (w : World) (h1 : Rd w v1 xs) (h2 : Rd w v2 ys) (n1 : Nm xs) (n2 : Nm ys) (l1 : xs.length ≤ 274877906944) (hlt : val xs < val ys) :
  Calls Tryz.prog 142 #[v1, v2] w fun e w' => e = .returned (.tuple #[.slice none 0 0, v1]) ∧ Below w.heap.size w w' := by
 have hc : cmp3 (val xs) (val ys) = -1 := cmp3_lt hlt
 go_enter Tryz.func142, Tryz.ntmps142
 go_wp2_with (first
  | (go_at_call 98; refine (Cmp_any v1 v2 xs ys _ h1 h2 n1 n2 (by omega)).mono ?_; rintro e w' ⟨rfl, hb⟩)
  | fail)
 exact bodyPost_ret (v := .tuple #[.slice none 0 0, v1]) (by simp [results, Tryz.results142, go_sem]) rfl ⟨rfl, hb⟩
set_option maxHeartbeats 1600000 in
set_option maxRecDepth 100000 in
theorem dm_one (v1 v2 : Value) (xs ys : List Int) (w : World) (h1 : Rd w v1 xs) (h2 : Rd w v2 ys) (n1 : Nm xs) (n2 : Nm ys) (l1 : xs.length ≤ 274877906944) (hle : val ys ≤ val xs) (hl : ys.length = 1) :
  Calls Tryz.prog 142 #[v1, v2] w fun e w' => ∃ q r zs rs, e = .returned (.tuple #[q, r]) ∧ Rd w' q zs ∧ Nm zs ∧ Rd w' r rs ∧ Nm rs ∧ val xs = val zs * val ys + val rs ∧ 0 ≤ val rs ∧ val rs < val ys ∧ Below w.heap.size w w' := by
 have hc : ¬ cmp3 (val xs) (val ys) < 0 := by unfold cmp3; rw [if_neg (by omega)]; split <;> omega
 obtain ⟨d, rfl⟩ : ∃ d, ys = [d] := by
  match ys, hl with
  | [d], _ => exact ⟨d, rfl⟩
 have hd := (h2.1).head
 have d0 : d ≠ 0 := by
  rcases n2 with h | h
  ·cases h
  ·simpa using h
 have hR2 : Hid (∀ w', Below w.heap.size w w' → Rd w' v2 [d]) := fun w' k => h2.grow k
 have hR1 : Hid (∀ w', Below w.heap.size w w' → Rd w' v1 xs) := fun w' k => h1.grow k
 have h2' := h2
 obtain ⟨_, a2, c2, rfl, _, _, g2⟩ := h2'
 obtain ⟨b2, o2, rfl, cs2⟩ := g2 (by simp)
 go_enter Tryz.func142, Tryz.ntmps142
 go_wp2_with (first
  | (go_at_call 98; refine (Cmp_any v1 _ xs [d] _ h1 h2 n1 n2 (by omega)).mono ?_; rintro e w1 ⟨rfl, hb⟩; have k1 := (cs2.grow hb).at (i := 0) (by simp); rw [Nat.add_zero] at k1; have k2 : nth [d] 0 = d := rfl; rw [k2] at k1)
  | (go_at_call 113; refine (small_any v1 xs d _ (hR1.out _ hb) (by omega) (by omega) hd.2).mono ?_; rintro e w2 ⟨r, zs, m, rfl, hr, hn, hv, m0, m1, hb2⟩; have HV : Hid (val zs * d + m = val xs) := hv; clear hv)
  | (go_at_call 100; refine (NatOf_any m _ m0 (by omega)).mono ?_; rintro e w3 ⟨r2, rs, rfl, hr3, hn3, hv3, hb3⟩)
  | fail)
 have e1 : val [d] = d := by simp [val]
 have hbb := hb.trans ((hb2.mono hb.size).trans (hb3.mono (Nat.le_trans hb.size hb2.size)))
 exact bodyPost_ret (v := .tuple #[r, r2]) (by simp [results, Tryz.results142, go_sem]) rfl ⟨_, _, zs, rs, rfl, hr.grow hb3, hn, hr3, hn3, by rw [e1, hv3]; exact HV.out.symm, by omega, by rw [e1]; omega, hbb⟩
end Go.Proofs.YtebilgnmnambnaaGreatDoor.L
