import Derived.Test.YtfalncbcomlelaaGreatDoorB8
import Derived.Test.YtfalncbcomlelaaGreatDoorB10
import Derived.Test.YtfalncbcomlelaaGreatDoorM2
namespace Go.Proofs.YtfalncbcomlelaaGreatDoor.L
open Go.RowKit Tl

/- Long division, limb by limb: the plain part. -/

theorem val_set : ∀ {X : List Int} {k : Nat} (_ : k < X.length) (v : Int), val (X.set k v) = val X + pw k * (v - nth X k)
  | [], k, h, _ => by simp at h
  | x :: xs, 0, _, v => by simp [val, pw, nth]; omega
  | x :: xs, k + 1, h, v => by
    have ih := val_set (X := xs) (k := k) (by simpa using h) v
    simp only [List.set_cons_succ, val, pw, ih]
    have e : nth (x :: xs) (k + 1) = nth xs k := by simp [nth]
    rw [e]; grind
theorem mul_pw (k i : Nat) : pw (k + i) = pw k * pw i := pw_add k i
theorem wd_of_set {X : List Int} {k : Nat} (h : Wd (X.set k 0)) (h0 : 0 ≤ nth X k) (h1 : nth X k < 1073741824) : Wd X := by
  have := h.set k h0 h1
  rw [List.set_set] at this
  by_cases c : k < X.length
  · have e : X.set k (nth X k) = X := by simp [nth, List.getD_eq_getElem?_getD, List.getElem?_eq_getElem c]
    rwa [e] at this
  · rw [List.set_eq_of_length_le (by omega)] at this; exact this
theorem bd_of_set {X : List Int} {k : Nat} (h : Wd (X.set k 0)) {i : Nat} (hi : k ≠ i) : 0 ≤ nth X i ∧ nth X i < 1073741824 := by
  have := nth_bd h i
  rwa [nth_set_other _ _ _ _ hi] at this
theorem set_comm0 {X : List Int} {k i : Nat} (h : Wd (X.set k 0)) (hi : k ≠ i) {v : Int} (v0 : 0 ≤ v) (v1 : v < 1073741824) : Wd ((X.set i v).set k 0) := by
  rw [List.set_comm _ _ (Ne.symm hi)]; exact h.set i v0 v1
/-- The row with place k+n apart: what stands below it, and it. -/
theorem val_parts {X : List Int} {m : Nat} (hm : m < X.length) (hz : val (X.drop (m + 1)) = 0) : val X = val (X.take m) + pw m * nth X m := by
  have e1 := val_split X (m + 1) (by omega)
  rw [hz, val_at X m hm] at e1; omega
theorem take_set_same (X : List Int) (m : Nat) (v : Int) : (X.set m v).take m = X.take m := by
  rw [List.take_set]; exact List.set_eq_of_length_le (by simp; omega)
/-- While one digit g of the quotient is being found: U is what was left, X what is. -/
structure Mid (U V : List Int) (k : Nat) (g : Int) (X : List Int) : Prop where
  len : X.length = U.length
  wd : Wd (X.set (k + V.length) 0)
  up : X.drop (k + V.length + 1) = U.drop (k + V.length + 1)
  eq : val X = val U - g * (pw k * val V)
/-- What is left is less than a unit of place k + 1. -/
theorem up_zero {U V : List Int} {k : Nat} (hU : Wd U) (hV : Wd V) (hl : k + V.length < U.length) (hlt : val U < pw (k + 1) * val V) : val (U.drop (k + V.length + 1)) = 0 := by
  have e := val_split U (k + V.length + 1) (by omega)
  have p := pw_pos (k + V.length + 1)
  have t0 := val_nonneg (hU.take (k + V.length + 1))
  have d0 := val_nonneg (hU.drop (k + V.length + 1))
  have v1 := val_lt hV
  have e2 : pw (k + V.length + 1) = pw (k + 1) * pw V.length := by rw [← pw_add]; congr 1; omega
  have p2 := pw_pos (k + 1)
  have h3 : pw (k + 1) * val V ≤ pw (k + V.length + 1) := by rw [e2]; exact Int.mul_le_mul_of_nonneg_left (Int.le_of_lt v1) (Int.le_of_lt p2)
  by_cases c : val (U.drop (k + V.length + 1)) = 0
  · exact c
  · have := Int.mul_le_mul_of_nonneg_left (show 1 ≤ val (U.drop (k + V.length + 1)) by omega) (Int.le_of_lt p)
    omega
/-- The digit. -/
def dig (U V : List Int) (k : Nat) : Int := val U / (pw k * val V)
theorem dig_bd {U V : List Int} {k : Nat} (hU : Wd U) (v0 : 0 < val V) (hlt : val U < pw (k + 1) * val V) : 0 ≤ dig U V k ∧ dig U V k < 1073741824 ∧ dig U V k * (pw k * val V) ≤ val U ∧ val U < (dig U V k + 1) * (pw k * val V) := by
  have p : 0 < pw k * val V := Int.mul_pos (pw_pos k) v0
  have u0 := val_nonneg hU
  refine ⟨Int.ediv_nonneg u0 (Int.le_of_lt p), ?_, Tn.quo_le p, ?_⟩
  · refine Int.ediv_lt_of_lt_mul p ?_
    have : pw (k + 1) * val V = 1073741824 * (pw k * val V) := by simp only [pw]; grind
    omega
  · have := Int.lt_ediv_add_one_mul_self (val U) p
    exact this
/-- The three highest limbs against the two of the divisor. -/
theorem dig_fits {U V : List Int} {k n : Nat} (hU : Wd U) (hV : Wd V) (hn : V.length = n + 2) (hl : k + (n + 2) < U.length) (v0 : 0 < val V) (hlt : val U < pw (k + 1) * val V) :
    dig U V k * (nth V (n + 1) * 1073741824 + nth V n) ≤ (nth U (k + (n + 2)) * 1073741824 + nth U (k + (n + 1))) * 1073741824 + nth U (k + n) := by
  obtain ⟨q0, _, hq, _⟩ := dig_bd hU v0 hlt
  have hz := up_zero hU hV (by omega) hlt
  rw [hn] at hz
  have eU := val_parts (X := U) (m := k + (n + 2)) (by omega) hz
  have eU1 := val_at U (k + (n + 1)) (by omega)
  have eU2 := val_at U (k + n) (by omega)
  rw [show k + (n + 1) + 1 = k + (n + 2) from by omega] at eU1
  rw [show k + n + 1 = k + (n + 1) from by omega] at eU2
  have eV1 := val_at V (n + 1) (by omega)
  have eV2 := val_at V n (by omega)
  rw [show n + 1 + 1 = V.length from by omega, List.take_length] at eV1
  have t0 := val_nonneg (hV.take n)
  have t1 := val_lt (hU.take (k + n))
  rw [List.length_take, Nat.min_eq_left (by omega)] at t1
  have a1 : pw (k + (n + 1)) = 1073741824 * pw (k + n) := rfl
  have a2 : pw (k + (n + 2)) = 1073741824 * (1073741824 * pw (k + n)) := rfl
  have a3 : pw (n + 1) = 1073741824 * pw n := rfl
  have a4 : pw (k + n) = pw k * pw n := pw_add k n
  have pk := pw_pos k
  have pn := pw_pos n
  have pkn := pw_pos (k + n)
  generalize dig U V k = q at *
  generalize nth V (n + 1) = x1 at *
  generalize nth V n = x0 at *
  generalize nth U (k + (n + 2)) = y2 at *
  generalize nth U (k + (n + 1)) = y1 at *
  generalize nth U (k + n) = y0 at *
  have f1 : val V = val (V.take n) + (x1 * 1073741824 + x0) * pw n := by rw [eV1, eV2, a3]; grind
  have f2 : val U = val (U.take (k + n)) + ((y2 * 1073741824 + y1) * 1073741824 + y0) * pw (k + n) := by rw [eU, eU1, eU2, a1, a2]; grind
  have f3 : pw k * val V = pw k * val (V.take n) + (x1 * 1073741824 + x0) * pw (k + n) := by rw [f1, a4]; grind
  have g1 : 0 ≤ q * (pw k * val (V.take n)) := Int.mul_nonneg q0 (Int.mul_nonneg (Int.le_of_lt pk) t0)
  have g2 : q * (x1 * 1073741824 + x0) * pw (k + n) < (((y2 * 1073741824 + y1) * 1073741824 + y0) + 1) * pw (k + n) := by
    have h1 : q * (pw k * val V) = q * (pw k * val (V.take n)) + q * (x1 * 1073741824 + x0) * pw (k + n) := by rw [f3]; grind
    have h2 : (((y2 * 1073741824 + y1) * 1073741824 + y0) + 1) * pw (k + n) = ((y2 * 1073741824 + y1) * 1073741824 + y0) * pw (k + n) + pw (k + n) := by grind
    omega
  have := Int.lt_of_mul_lt_mul_right g2 (Int.le_of_lt pkn)
  omega
/-- The guess begins not below the digit .. -/
theorem dig_start {U V : List Int} {k n : Nat} {T : Int} (hU : Wd U) (hV : Wd V) (hn : V.length = n + 2) (hl : k + (n + 2) < U.length) (v1 : 0 < nth V (n + 1)) (v0 : 0 < val V) (hlt : val U < pw (k + 1) * val V) (hT : nth U (k + (n + 2)) * 1073741824 + nth U (k + (n + 1)) = T) : dig U V k ≤ T / nth V (n + 1) := by
  have h := dig_fits hU hV hn hl v0 hlt
  rw [hT] at h
  exact Tn.est_start (b := 1073741824) (by decide) v1 (nth_bd hV n).1 (nth_bd hU (k + n)).2 (dig_bd hU v0 hlt).1 h
/-- .. and goes down only where it is above it. -/
theorem dig_down {U V : List Int} {k n : Nat} {T g : Int} (hU : Wd U) (hV : Wd V) (hn : V.length = n + 2) (hl : k + (n + 2) < U.length) (v1 : 0 < nth V (n + 1)) (v0 : 0 < val V) (hlt : val U < pw (k + 1) * val V) (hT : nth U (k + (n + 2)) * 1073741824 + nth U (k + (n + 1)) = T)
    (hc : (T - g * nth V (n + 1)) * 1073741824 + nth U (k + n) < g * nth V n) : dig U V k ≤ g - 1 := by
  have h := dig_fits hU hV hn hl v0 hlt
  rw [hT] at h
  have b0 := (nth_bd hV n).1
  exact Tn.est_down (b := 1073741824) (r := T - g * nth V (n + 1)) (by omega) (by omega) h (by omega)
/-- A product is taken away, i limbs of it. -/
structure Sb (U V : List Int) (k : Nat) (g : Int) (i : Nat) (c : Int) (X : List Int) : Prop where
  len : X.length = U.length
  wd : Wd X
  up : X.drop (k + V.length) = U.drop (k + V.length)
  c0 : 0 ≤ c
  c1 : c ≤ 1073741824
  eq : val X - pw (k + i) * c = val U - g * (pw k * val (V.take i))
theorem Sb.start {U V : List Int} {k : Nat} {g : Int} (hU : Wd U) : Sb U V k g 0 0 U := ⟨rfl, hU, rfl, by omega, by omega, by simp [val]⟩
theorem Sb.next {U V : List Int} {k : Nat} {g : Int} {i : Nat} {c x' c' : Int} {X : List Int} (h : Sb U V k g i c X) (hl : k + V.length < U.length) (hi : i < V.length) (x0 : 0 ≤ x') (x1 : x' < 1073741824) (c0 : 0 ≤ c') (c1 : c' ≤ 1073741824)
    (hx : x' = nth X (k + i) - c - g * nth V i + c' * 1073741824) : Sb U V k g (i + 1) c' (X.set (k + i) x') := by
  have hlen := h.len
  refine ⟨by simp [hlen], h.wd.set _ x0 x1, ?_, c0, c1, ?_⟩
  · rw [List.drop_set_of_lt (by omega)]; exact h.up
  · have e := h.eq
    rw [val_set (by omega), hx, val_at V i hi, show k + (i + 1) = k + i + 1 from rfl]
    have a4 : pw (k + i) = pw k * pw i := pw_add k i
    simp only [pw]
    rw [a4] at e ⊢
    grind
theorem Sb.mid {U V : List Int} {k : Nat} {g : Int} {c : Int} {X : List Int} (h : Sb U V k g V.length c X) (hl : k + V.length < U.length) : Mid U V k g (X.set (k + V.length) (nth X (k + V.length) - c)) ∧ -1073741824 ≤ nth X (k + V.length) - c ∧ nth X (k + V.length) - c < 1073741824 := by
  have hlen := h.len
  have b := nth_bd h.wd (k + V.length)
  refine ⟨⟨by simp [hlen], ?_, ?_, ?_⟩, by have := h.c1; omega, by have := h.c0; omega⟩
  · rw [List.set_set]; exact h.wd.set _ (by omega) (by omega)
  · rw [drop_set_succ]
    have := congrArg (List.drop 1) h.up
    simpa [List.drop_drop, Nat.add_comm] using this
  · have e := h.eq
    rw [List.take_length] at e
    rw [val_set (by omega)]
    generalize nth X (k + V.length) = y at *
    generalize pw (k + V.length) = p at *
    have : p * (y - c - y) = - (p * c) := by grind
    omega
/-- The divisor is added again, i limbs of it. -/
structure Ad (Y V : List Int) (k : Nat) (i : Nat) (c : Int) (X : List Int) : Prop where
  len : X.length = Y.length
  wd : Wd (X.set (k + V.length) 0)
  up : X.drop (k + V.length) = Y.drop (k + V.length)
  c0 : 0 ≤ c
  c1 : c ≤ 1
  eq : val X + pw (k + i) * c = val Y + pw k * val (V.take i)
theorem Ad.start {Y V : List Int} {k : Nat} (hY : Wd (Y.set (k + V.length) 0)) : Ad Y V k 0 0 Y := ⟨rfl, hY, rfl, by omega, by omega, by simp [val]⟩
theorem Ad.next {Y V : List Int} {k : Nat} {i : Nat} {c S : Int} {X : List Int} (h : Ad Y V k i c X) (hV : Wd V) (hl : k + V.length < Y.length) (hi : i < V.length) (hS : S = c + (nth X (k + i) + nth V i)) : Ad Y V k (i + 1) (S / 1073741824) (X.set (k + i) (S % 1073741824)) := by
  have hlen := h.len
  have b := bd_of_set h.wd (i := k + i) (by omega)
  have b2 := nth_bd hV i
  have c0 := h.c0
  have c1 := h.c1
  refine ⟨by simp [hlen], set_comm0 h.wd (by omega) (by omega) (by omega), ?_, by omega, by omega, ?_⟩
  · rw [List.drop_set_of_lt (by omega)]; exact h.up
  · have e := h.eq
    have es : S = S % 1073741824 + 1073741824 * (S / 1073741824) := by omega
    rw [val_set (by omega), val_at V i hi, show k + (i + 1) = k + i + 1 from rfl]
    have a4 : pw (k + i) = pw k * pw i := pw_add k i
    generalize S % 1073741824 = p at *
    generalize S / 1073741824 = q at *
    simp only [pw]
    rw [a4] at e ⊢
    grind
theorem Ad.mid {U V : List Int} {k : Nat} {g c : Int} {Y X : List Int} (hM : Mid U V k g Y) (h : Ad Y V k V.length c X) (hl : k + V.length < U.length) : Mid U V k (g - 1) (X.set (k + V.length) (nth X (k + V.length) + c)) ∧ nth X (k + V.length) = nth Y (k + V.length) := by
  have hlen := h.len
  have hlen2 := hM.len
  refine ⟨⟨by simp [hlen, hlen2], ?_, ?_, ?_⟩, ?_⟩
  · rw [List.set_set]; exact h.wd
  · rw [drop_set_succ, ← hM.up]
    have := congrArg (List.drop 1) h.up
    simpa [List.drop_drop, Nat.add_comm] using this
  · have e := h.eq
    have e2 := hM.eq
    rw [List.take_length] at e
    rw [val_set (by omega)]
    generalize nth X (k + V.length) = y at *
    generalize pw (k + V.length) = p at *
    have a : p * (y + c - y) = p * c := by grind
    have b : (g - 1) * (pw k * val V) = g * (pw k * val V) - pw k * val V := by grind
    omega
  · have := congrArg (fun l => nth l 0) h.up
    simpa [nth_drop] using this
/-- The highest limb tells whether the digit is still too great. -/
theorem Mid.neg {U V X : List Int} {k : Nat} {g : Int} (h : Mid U V k g X) (hU : Wd U) (hV : Wd V) (hl : k + V.length < U.length) (v0 : 0 < val V) (hlt : val U < pw (k + 1) * val V) (ht : nth X (k + V.length) < 0) : dig U V k ≤ g - 1 := by
  obtain ⟨q0, _, hq, _⟩ := dig_bd hU v0 hlt
  have hz := up_zero hU hV hl hlt
  rw [← h.up] at hz
  have hlen := h.len
  have e := val_parts (X := X) (m := k + V.length) (by omega) hz
  have w : Wd (X.take (k + V.length)) := by have := h.wd.take (k + V.length); rwa [take_set_same] at this
  have t1 := val_lt w
  rw [List.length_take, Nat.min_eq_left (by omega)] at t1
  have p := pw_pos (k + V.length)
  have := Int.mul_le_mul_of_nonneg_left (show nth X (k + V.length) ≤ -1 by omega) (Int.le_of_lt p)
  have hx : val X < 0 := by omega
  have h2 : dig U V k * (pw k * val V) < g * (pw k * val V) := by have := h.eq; omega
  have := Int.lt_of_mul_lt_mul_right h2 (Int.le_of_lt (Int.mul_pos (pw_pos k) v0))
  omega
theorem Mid.done {U V X : List Int} {k : Nat} {g : Int} (h : Mid U V k g X) (hU : Wd U) (hV : Wd V) (hl : k + V.length < U.length) (v0 : 0 < val V) (hlt : val U < pw (k + 1) * val V) (hg : dig U V k ≤ g) (ht : ¬ nth X (k + V.length) < 0) : g = dig U V k ∧ Wd X ∧ val X < pw k * val V := by
  obtain ⟨q0, _, hq, hq2⟩ := dig_bd hU v0 hlt
  have hz := up_zero hU hV hl hlt
  rw [← h.up] at hz
  have hlen := h.len
  have e := val_parts (X := X) (m := k + V.length) (by omega) hz
  have w : Wd (X.take (k + V.length)) := by have := h.wd.take (k + V.length); rwa [take_set_same] at this
  have t0 := val_nonneg w
  have p := pw_pos (k + V.length)
  have pk := pw_pos k
  have pp : 0 < pw k * val V := Int.mul_pos pk v0
  have hx : 0 ≤ val X := by have := Int.mul_nonneg (Int.le_of_lt p) (show 0 ≤ nth X (k + V.length) by omega); omega
  have h2 : g * (pw k * val V) < (dig U V k + 1) * (pw k * val V) := by have := h.eq; omega
  have h3 := Int.lt_of_mul_lt_mul_right h2 (Int.le_of_lt pp)
  have eg : g = dig U V k := by omega
  have h4 : val X < pw k * val V := by
    have := h.eq
    rw [eg] at this
    have : (dig U V k + 1) * (pw k * val V) = dig U V k * (pw k * val V) + pw k * val V := by grind
    omega
  have h5 : pw k * val V ≤ pw (k + V.length) := by rw [pw_add]; exact Int.mul_le_mul_of_nonneg_left (Int.le_of_lt (val_lt hV)) (Int.le_of_lt pk)
  have tz : nth X (k + V.length) = 0 := by
    by_cases c : nth X (k + V.length) = 0
    · exact c
    · have := Int.mul_le_mul_of_nonneg_left (show 1 ≤ nth X (k + V.length) by omega) (Int.le_of_lt p)
      omega
  exact ⟨eg, wd_of_set h.wd (by omega) (by omega), h4⟩
/-- The digits so far. -/
theorem quo_set {Q X U V : List Int} {k : Nat} {g A : Int} (hk : k < Q.length) (hz : nth Q k = 0) (hA : val Q * val V + val U = A) (hX : val X = val U - g * (pw k * val V)) : val (Q.set k g) * val V + val X = A := by
  rw [val_set hk, hz, hX, ← hA]; grind
end Go.Proofs.YtfalncbcomlelaaGreatDoor.L
