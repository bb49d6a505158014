import Derived.Test.YtiobnojcmeeikaaGreatDoorPart08
import Derived.Test.YtiobnojcmeeikaaGreatDoorPart04
import Derived.Laws.AppendOwn

namespace Go.Proofs.YtiobnojcmeeikaaGreatDoor.L
open Go.RowKit Tl

theorem own_grow {w w' : World} {base n : Nat} {e : TypeId} {v : Value} {xs : List Value} (h : w.ownsRow base e 1 v n xs) (k : Below w.heap.size w w') : w'.ownsRow base e 1 v n xs := by
  obtain ⟨h1, h2⟩ := h
  refine ⟨h1, ?_⟩
  rcases h2 with h2 | ⟨g, cap, cur, e1, e2, e3, e4⟩
  · exact Or.inl h2
  · exact Or.inr ⟨g, cap, cur, e1, e2, (k.block g (Own.lt ⟨cur, _, e3⟩)).trans e3, e4⟩
theorem own_rd {w : World} {base : Nat} {e : TypeId} {v : Value} {Y : List Int} (hY : Wd Y) (h : w.ownsRow base e 1 v Y.length (Y.map (Value.int .i64))) : Rd w v Y := by
  obtain ⟨_, h2⟩ := h
  rcases h2 with ⟨rfl, h2⟩ | ⟨g, cap, cur, rfl, _, e3, e4, e5, e6, e7⟩
  · have : Y = [] := List.eq_nil_of_length_eq_zero h2
    subst this
    exact rd_nil w
  · refine ⟨hY, _, _, rfl, e4, e5, fun _ => ⟨g, 0, rfl, ?_⟩⟩
    intro i hi
    rw [Nat.mul_one] at e7
    have h7 := congrArg (fun l : List Value => l[i]?) e7
    simp only [List.getElem?_take, hi, if_true, List.getElem?_map] at h7
    simp only [World.cell?, e3, Nat.zero_add, Option.isSome_none, Bool.false_eq_true, if_false]
    rw [Array.getElem?_toList] at h7
    rw [h7]
    simp [nth, List.getD_eq_getElem?_getD, List.getElem?_eq_getElem hi]
theorem of_step {Y : List Int} {m N : Int} (hY : Wd Y) (m0 : 0 < m) (hv : val Y + pw Y.length * m = N) :
    Wd (Y ++ [m % 1073741824]) ∧ val (Y ++ [m % 1073741824]) + pw (Y ++ [m % 1073741824]).length * (m / 1073741824) = N ∧ (m / 1073741824 ≠ 0 ∨ Nm (Y ++ [m % 1073741824])) := by
  refine ⟨hY.append (Wd.cons (by omega) (by omega) Wd.nil), ?_, ?_⟩
  · rw [val_append, List.length_append]
    simp only [List.length_singleton, pw, val]
    have e : m = m % 1073741824 + 1073741824 * (m / 1073741824) := by omega
    generalize m % 1073741824 = a at *
    generalize m / 1073741824 = b at *
    grind
  · by_cases h : m / 1073741824 = 0
    · right
      refine Or.inr ?_
      simp
      omega
    · exact Or.inl h
theorem of_len {Y : List Int} {m N : Int} (hY : Wd Y) (m0 : 0 < m) (hN : N < 18446744073709551616) (hv : val Y + pw Y.length * m = N) : Y.length ≤ 2 := by
  have v0 := val_nonneg hY
  by_cases h : Y.length ≤ 2
  · exact h
  · have p := pw_mono (show 3 ≤ Y.length by omega)
    have e : pw 3 = 1237940039285380274899124224 := by decide
    have q := Int.mul_le_mul_of_nonneg_left (show 1 ≤ m by omega) (Int.le_of_lt (pw_pos Y.length))
    omega
set_option maxHeartbeats 1600000 in
set_option maxRecDepth 100000 in
/-- NatOf of the reference. -/
theorem NatOf_any (N : Int) (w : World) (n0 : 0 ≤ N) (n1 : N < 9223372036854775808) :
    Calls Tryz.prog 55 #[.int .i64 N] w fun e w' => ∃ r zs, e = .returned r ∧ Rd w' r zs ∧ Nm zs ∧ val zs = N ∧ Below w.heap.size w w' := by
  go_enter Tryz.func55, Tryz.ntmps55
  go_wp2_with fail
  go_loopw [0, 3] (fun n l wr => ∃ (m : Int) (Y : List Int), n = .int .i64 m ∧ 0 ≤ m ∧ m ≤ N ∧ wr.ownsRow w.heap.size 3 1 l Y.length (Y.map (Value.int .i64)) ∧ Wd Y ∧ val Y + pw Y.length * m = N ∧ (m ≠ 0 ∨ Nm Y) ∧ Below w.heap.size w wr) (fun n _ _ => (intOf n).toNat)
  case atStart => exact ⟨N, [], rfl, n0, Int.le_refl _, ⟨by simp, Or.inl ⟨rfl, rfl⟩⟩, Wd.nil, by simp [val, pw], Or.inr (Or.inl rfl), Below.refl _ _⟩
  case round =>
    obtain ⟨m, Y, rfl, m0, m1, hown, hY, hv, hn, hb⟩ := hrel
    have HV : Hid (val Y + pw Y.length * m = N) := hv
    have HN : Hid (m ≠ 0 ∨ Nm Y) := hn
    clear hv hn
    by_cases hm : 0 < m
    · have R : Hid _ := of_step hY hm HV.out
      have L := of_len hY hm (by omega) HV.out
      have hsz := hb.size
      have u1 : m.tmod 1073741824 = m % 1073741824 := Int.tmod_eq_emod_of_nonneg m0
      have u2 : m.tdiv 1073741824 = m / 1073741824 := Int.tdiv_eq_ediv_of_nonneg m0
      go_wp2_with (first
        | (at_builtin; (refine wpList_push rfl _ _ rfl _ Y rfl w.heap.size (own_grow hown ((Below.refl _ _).alloc (Nat.le_refl _) _)) (by omega) _ _ (m % 1073741824) rfl (by simp) (by simp; omega) ?_; intro l' w2 hown2 hb2; have hb3 := (hb.alloc (Nat.le_trans (Nat.le_refl _) hsz) _).trans hb2))
        | fail)
      go_roundw
      case rel => exact ⟨m / 1073741824, _, rfl, by omega, by omega, hown2, R.out.1, R.out.2.1, R.out.2.2, hb3⟩
      case measure => simp [intOf]; omega
    · have e0 : m = 0 := by omega
      have Rv : Hid (val Y = N ∧ Nm Y) := by
        have h1 := HV.out
        rw [e0, Int.mul_zero, Int.add_zero] at h1
        exact ⟨h1, HN.out.resolve_left (by omega)⟩
      have hrd : Hid (Rd wr u3 Y) := own_rd hY hown
      clear e0 HV HN
      go_wp2
      go_ret
      exact ⟨_, rfl, Y, hrd.out, Rv.out.2, Rv.out.1, hb⟩
set_option maxHeartbeats 1600000 in
set_option maxRecDepth 100000 in
/-- NatOf64 of the reference. -/
theorem NatOf64_any (N : Int) (w : World) (n0 : 0 ≤ N) (n1 : N < 18446744073709551616) :
    Calls Tryz.prog 27 #[.int .u64 N] w fun e w' => ∃ r zs, e = .returned r ∧ Rd w' r zs ∧ Nm zs ∧ val zs = N ∧ Below w.heap.size w w' := by
  go_enter Tryz.func27, Tryz.ntmps27
  go_wp2_with fail
  go_loopw [0, 3] (fun n l wr => ∃ (m : Int) (Y : List Int), n = .int .u64 m ∧ 0 ≤ m ∧ m ≤ N ∧ wr.ownsRow w.heap.size 3 1 l Y.length (Y.map (Value.int .i64)) ∧ Wd Y ∧ val Y + pw Y.length * m = N ∧ (m ≠ 0 ∨ Nm Y) ∧ Below w.heap.size w wr) (fun n _ _ => (intOf n).toNat)
  case atStart => exact ⟨N, [], rfl, n0, Int.le_refl _, ⟨by simp, Or.inl ⟨rfl, rfl⟩⟩, Wd.nil, by simp [val, pw], Or.inr (Or.inl rfl), Below.refl _ _⟩
  case round =>
    obtain ⟨m, Y, rfl, m0, m1, hown, hY, hv, hn, hb⟩ := hrel
    have HV : Hid (val Y + pw Y.length * m = N) := hv
    have HN : Hid (m ≠ 0 ∨ Nm Y) := hn
    clear hv hn
    by_cases hm : 0 < m
    · have R : Hid _ := of_step hY hm HV.out
      have L := of_len hY hm (by omega) HV.out
      have hsz := hb.size
      have u1 : m.tmod 1073741824 = m % 1073741824 := Int.tmod_eq_emod_of_nonneg m0
      have u2 : m.tdiv 1073741824 = m / 1073741824 := Int.tdiv_eq_ediv_of_nonneg m0
      have u3 : IntKind.i64.wrap (m % 1073741824) = m % 1073741824 := wrap_self _ (by omega) (by omega)
      go_wp2_with (first
        | (at_builtin; (refine wpList_push rfl _ _ rfl _ Y rfl w.heap.size (own_grow hown ((Below.refl _ _).alloc (Nat.le_refl _) _)) (by omega) _ _ (m % 1073741824) rfl (by simp) (by simp; omega) ?_; intro l' w2 hown2 hb2; have hb3 := (hb.alloc (Nat.le_trans (Nat.le_refl _) hsz) _).trans hb2))
        | fail)
      go_roundw
      case rel => exact ⟨m / 1073741824, _, rfl, by omega, by omega, hown2, R.out.1, R.out.2.1, R.out.2.2, hb3⟩
      case measure => simp [intOf]; omega
    · have e0 : m = 0 := by omega
      have Rv : Hid (val Y = N ∧ Nm Y) := by
        have h1 := HV.out
        rw [e0, Int.mul_zero, Int.add_zero] at h1
        exact ⟨h1, HN.out.resolve_left (by omega)⟩
      have hrd : Hid (Rd wr u3 Y) := own_rd hY hown
      clear e0 HV HN
      go_wp2
      go_ret
      exact ⟨_, rfl, Y, hrd.out, Rv.out.2, Rv.out.1, hb⟩
end Go.Proofs.YtiobnojcmeeikaaGreatDoor.L

namespace Go.Proofs.YtiobnojcmeeikaaGreatDoor.L
open Go.RowKit Tl

/- Long division, limb by limb: the plain part. -/

theorem val_set : ∀ {X : List Int} {k : Nat} (_ : k < X.length) (v : Int), val (X.set k v) = val X + pw k * (v - nth X k)
  | [], k, h, _ => by simp at h
  | x :: xs, 0, _, v => by simp [val, pw, nth]; omega
  | x :: xs, k + 1, h, v => by
    have ih := val_set (X := xs) (k := k) (by simpa using h) v
    simp only [List.set_cons_succ, val, pw, ih]
    have e : nth (x :: xs) (k + 1) = nth xs k := by simp [nth]
    rw [e]; grind
theorem mul_pw (k i : Nat) : pw (k + i) = pw k * pw i := pw_add k i
theorem wd_of_set {X : List Int} {k : Nat} (h : Wd (X.set k 0)) (h0 : 0 ≤ nth X k) (h1 : nth X k < 1073741824) : Wd X := by
  have := h.set k h0 h1
  rw [List.set_set] at this
  by_cases c : k < X.length
  · have e : X.set k (nth X k) = X := by simp [nth, List.getD_eq_getElem?_getD, List.getElem?_eq_getElem c]
    rwa [e] at this
  · rw [List.set_eq_of_length_le (by omega)] at this; exact this
theorem bd_of_set {X : List Int} {k : Nat} (h : Wd (X.set k 0)) {i : Nat} (hi : k ≠ i) : 0 ≤ nth X i ∧ nth X i < 1073741824 := by
  have := nth_bd h i
  rwa [nth_set_other _ _ _ _ hi] at this
theorem set_comm0 {X : List Int} {k i : Nat} (h : Wd (X.set k 0)) (hi : k ≠ i) {v : Int} (v0 : 0 ≤ v) (v1 : v < 1073741824) : Wd ((X.set i v).set k 0) := by
  rw [List.set_comm _ _ (Ne.symm hi)]; exact h.set i v0 v1
/-- The row with place k+n apart: what stands below it, and it. -/
theorem val_parts {X : List Int} {m : Nat} (hm : m < X.length) (hz : val (X.drop (m + 1)) = 0) : val X = val (X.take m) + pw m * nth X m := by
  have e1 := val_split X (m + 1) (by omega)
  rw [hz, val_at X m hm] at e1; omega
theorem take_set_same (X : List Int) (m : Nat) (v : Int) : (X.set m v).take m = X.take m := by
  rw [List.take_set]; exact List.set_eq_of_length_le (by simp; omega)
/-- While one digit g of the quotient is being found: U is what was left, X what is. -/
structure Mid (U V : List Int) (k : Nat) (g : Int) (X : List Int) : Prop where
  len : X.length = U.length
  wd : Wd (X.set (k + V.length) 0)
  up : X.drop (k + V.length + 1) = U.drop (k + V.length + 1)
  eq : val X = val U - g * (pw k * val V)
/-- What is left is less than a unit of place k + 1. -/
theorem up_zero {U V : List Int} {k : Nat} (hU : Wd U) (hV : Wd V) (hl : k + V.length < U.length) (hlt : val U < pw (k + 1) * val V) : val (U.drop (k + V.length + 1)) = 0 := by
  have e := val_split U (k + V.length + 1) (by omega)
  have p := pw_pos (k + V.length + 1)
  have t0 := val_nonneg (hU.take (k + V.length + 1))
  have d0 := val_nonneg (hU.drop (k + V.length + 1))
  have v1 := val_lt hV
  have e2 : pw (k + V.length + 1) = pw (k + 1) * pw V.length := by rw [← pw_add]; congr 1; omega
  have p2 := pw_pos (k + 1)
  have h3 : pw (k + 1) * val V ≤ pw (k + V.length + 1) := by rw [e2]; exact Int.mul_le_mul_of_nonneg_left (Int.le_of_lt v1) (Int.le_of_lt p2)
  by_cases c : val (U.drop (k + V.length + 1)) = 0
  · exact c
  · have := Int.mul_le_mul_of_nonneg_left (show 1 ≤ val (U.drop (k + V.length + 1)) by omega) (Int.le_of_lt p)
    omega
/-- The digit. -/
def dig (U V : List Int) (k : Nat) : Int := val U / (pw k * val V)
theorem dig_bd {U V : List Int} {k : Nat} (hU : Wd U) (v0 : 0 < val V) (hlt : val U < pw (k + 1) * val V) : 0 ≤ dig U V k ∧ dig U V k < 1073741824 ∧ dig U V k * (pw k * val V) ≤ val U ∧ val U < (dig U V k + 1) * (pw k * val V) := by
  have p : 0 < pw k * val V := Int.mul_pos (pw_pos k) v0
  have u0 := val_nonneg hU
  refine ⟨Int.ediv_nonneg u0 (Int.le_of_lt p), ?_, Tn.quo_le p, ?_⟩
  · refine Int.ediv_lt_of_lt_mul p ?_
    have : pw (k + 1) * val V = 1073741824 * (pw k * val V) := by simp only [pw]; grind
    omega
  · have := Int.lt_ediv_add_one_mul_self (val U) p
    exact this
/-- The three highest limbs against the two of the divisor. -/
theorem dig_fits {U V : List Int} {k n : Nat} (hU : Wd U) (hV : Wd V) (hn : V.length = n + 2) (hl : k + (n + 2) < U.length) (v0 : 0 < val V) (hlt : val U < pw (k + 1) * val V) :
    dig U V k * (nth V (n + 1) * 1073741824 + nth V n) ≤ (nth U (k + (n + 2)) * 1073741824 + nth U (k + (n + 1))) * 1073741824 + nth U (k + n) := by
  obtain ⟨q0, _, hq, _⟩ := dig_bd hU v0 hlt
  have hz := up_zero hU hV (by omega) hlt
  rw [hn] at hz
  have eU := val_parts (X := U) (m := k + (n + 2)) (by omega) hz
  have eU1 := val_at U (k + (n + 1)) (by omega)
  have eU2 := val_at U (k + n) (by omega)
  rw [show k + (n + 1) + 1 = k + (n + 2) from by omega] at eU1
  rw [show k + n + 1 = k + (n + 1) from by omega] at eU2
  have eV1 := val_at V (n + 1) (by omega)
  have eV2 := val_at V n (by omega)
  rw [show n + 1 + 1 = V.length from by omega, List.take_length] at eV1
  have t0 := val_nonneg (hV.take n)
  have t1 := val_lt (hU.take (k + n))
  rw [List.length_take, Nat.min_eq_left (by omega)] at t1
  have a1 : pw (k + (n + 1)) = 1073741824 * pw (k + n) := rfl
  have a2 : pw (k + (n + 2)) = 1073741824 * (1073741824 * pw (k + n)) := rfl
  have a3 : pw (n + 1) = 1073741824 * pw n := rfl
  have a4 : pw (k + n) = pw k * pw n := pw_add k n
  have pk := pw_pos k
  have pn := pw_pos n
  have pkn := pw_pos (k + n)
  generalize dig U V k = q at *
  generalize nth V (n + 1) = x1 at *
  generalize nth V n = x0 at *
  generalize nth U (k + (n + 2)) = y2 at *
  generalize nth U (k + (n + 1)) = y1 at *
  generalize nth U (k + n) = y0 at *
  have f1 : val V = val (V.take n) + (x1 * 1073741824 + x0) * pw n := by rw [eV1, eV2, a3]; grind
  have f2 : val U = val (U.take (k + n)) + ((y2 * 1073741824 + y1) * 1073741824 + y0) * pw (k + n) := by rw [eU, eU1, eU2, a1, a2]; grind
  have f3 : pw k * val V = pw k * val (V.take n) + (x1 * 1073741824 + x0) * pw (k + n) := by rw [f1, a4]; grind
  have g1 : 0 ≤ q * (pw k * val (V.take n)) := Int.mul_nonneg q0 (Int.mul_nonneg (Int.le_of_lt pk) t0)
  have g2 : q * (x1 * 1073741824 + x0) * pw (k + n) < (((y2 * 1073741824 + y1) * 1073741824 + y0) + 1) * pw (k + n) := by
    have h1 : q * (pw k * val V) = q * (pw k * val (V.take n)) + q * (x1 * 1073741824 + x0) * pw (k + n) := by rw [f3]; grind
    have h2 : (((y2 * 1073741824 + y1) * 1073741824 + y0) + 1) * pw (k + n) = ((y2 * 1073741824 + y1) * 1073741824 + y0) * pw (k + n) + pw (k + n) := by grind
    omega
  have := Int.lt_of_mul_lt_mul_right g2 (Int.le_of_lt pkn)
  omega
/-- The guess begins not below the digit .. -/
theorem dig_start {U V : List Int} {k n : Nat} {T : Int} (hU : Wd U) (hV : Wd V) (hn : V.length = n + 2) (hl : k + (n + 2) < U.length) (v1 : 0 < nth V (n + 1)) (v0 : 0 < val V) (hlt : val U < pw (k + 1) * val V) (hT : nth U (k + (n + 2)) * 1073741824 + nth U (k + (n + 1)) = T) : dig U V k ≤ T / nth V (n + 1) := by
  have h := dig_fits hU hV hn hl v0 hlt
  rw [hT] at h
  exact Tn.est_start (b := 1073741824) (by decide) v1 (nth_bd hV n).1 (nth_bd hU (k + n)).2 (dig_bd hU v0 hlt).1 h
/-- .. and goes down only where it is above it. -/
theorem dig_down {U V : List Int} {k n : Nat} {T g : Int} (hU : Wd U) (hV : Wd V) (hn : V.length = n + 2) (hl : k + (n + 2) < U.length) (v1 : 0 < nth V (n + 1)) (v0 : 0 < val V) (hlt : val U < pw (k + 1) * val V) (hT : nth U (k + (n + 2)) * 1073741824 + nth U (k + (n + 1)) = T)
    (hc : (T - g * nth V (n + 1)) * 1073741824 + nth U (k + n) < g * nth V n) : dig U V k ≤ g - 1 := by
  have h := dig_fits hU hV hn hl v0 hlt
  rw [hT] at h
  have b0 := (nth_bd hV n).1
  exact Tn.est_down (b := 1073741824) (r := T - g * nth V (n + 1)) (by omega) (by omega) h (by omega)
/-- A product is taken away, i limbs of it. -/
structure Sb (U V : List Int) (k : Nat) (g : Int) (i : Nat) (c : Int) (X : List Int) : Prop where
  len : X.length = U.length
  wd : Wd X
  up : X.drop (k + V.length) = U.drop (k + V.length)
  c0 : 0 ≤ c
  c1 : c ≤ 1073741824
  eq : val X - pw (k + i) * c = val U - g * (pw k * val (V.take i))
theorem Sb.start {U V : List Int} {k : Nat} {g : Int} (hU : Wd U) : Sb U V k g 0 0 U := ⟨rfl, hU, rfl, by omega, by omega, by simp [val]⟩
theorem Sb.next {U V : List Int} {k : Nat} {g : Int} {i : Nat} {c x' c' : Int} {X : List Int} (h : Sb U V k g i c X) (hl : k + V.length < U.length) (hi : i < V.length) (x0 : 0 ≤ x') (x1 : x' < 1073741824) (c0 : 0 ≤ c') (c1 : c' ≤ 1073741824)
    (hx : x' = nth X (k + i) - c - g * nth V i + c' * 1073741824) : Sb U V k g (i + 1) c' (X.set (k + i) x') := by
  have hlen := h.len
  refine ⟨by simp [hlen], h.wd.set _ x0 x1, ?_, c0, c1, ?_⟩
  · rw [List.drop_set_of_lt (by omega)]; exact h.up
  · have e := h.eq
    rw [val_set (by omega), hx, val_at V i hi, show k + (i + 1) = k + i + 1 from rfl]
    have a4 : pw (k + i) = pw k * pw i := pw_add k i
    simp only [pw]
    rw [a4] at e ⊢
    grind
theorem Sb.mid {U V : List Int} {k : Nat} {g : Int} {c : Int} {X : List Int} (h : Sb U V k g V.length c X) (hl : k + V.length < U.length) : Mid U V k g (X.set (k + V.length) (nth X (k + V.length) - c)) ∧ -1073741824 ≤ nth X (k + V.length) - c ∧ nth X (k + V.length) - c < 1073741824 := by
  have hlen := h.len
  have b := nth_bd h.wd (k + V.length)
  refine ⟨⟨by simp [hlen], ?_, ?_, ?_⟩, by have := h.c1; omega, by have := h.c0; omega⟩
  · rw [List.set_set]; exact h.wd.set _ (by omega) (by omega)
  · rw [drop_set_succ]
    have := congrArg (List.drop 1) h.up
    simpa [List.drop_drop, Nat.add_comm] using this
  · have e := h.eq
    rw [List.take_length] at e
    rw [val_set (by omega)]
    generalize nth X (k + V.length) = y at *
    generalize pw (k + V.length) = p at *
    have : p * (y - c - y) = - (p * c) := by grind
    omega
/-- The divisor is added again, i limbs of it. -/
structure Ad (Y V : List Int) (k : Nat) (i : Nat) (c : Int) (X : List Int) : Prop where
  len : X.length = Y.length
  wd : Wd (X.set (k + V.length) 0)
  up : X.drop (k + V.length) = Y.drop (k + V.length)
  c0 : 0 ≤ c
  c1 : c ≤ 1
  eq : val X + pw (k + i) * c = val Y + pw k * val (V.take i)
theorem Ad.start {Y V : List Int} {k : Nat} (hY : Wd (Y.set (k + V.length) 0)) : Ad Y V k 0 0 Y := ⟨rfl, hY, rfl, by omega, by omega, by simp [val]⟩
theorem Ad.next {Y V : List Int} {k : Nat} {i : Nat} {c S : Int} {X : List Int} (h : Ad Y V k i c X) (hV : Wd V) (hl : k + V.length < Y.length) (hi : i < V.length) (hS : S = c + (nth X (k + i) + nth V i)) : Ad Y V k (i + 1) (S / 1073741824) (X.set (k + i) (S % 1073741824)) := by
  have hlen := h.len
  have b := bd_of_set h.wd (i := k + i) (by omega)
  have b2 := nth_bd hV i
  have c0 := h.c0
  have c1 := h.c1
  refine ⟨by simp [hlen], set_comm0 h.wd (by omega) (by omega) (by omega), ?_, by omega, by omega, ?_⟩
  · rw [List.drop_set_of_lt (by omega)]; exact h.up
  · have e := h.eq
    have es : S = S % 1073741824 + 1073741824 * (S / 1073741824) := by omega
    rw [val_set (by omega), val_at V i hi, show k + (i + 1) = k + i + 1 from rfl]
    have a4 : pw (k + i) = pw k * pw i := pw_add k i
    generalize S % 1073741824 = p at *
    generalize S / 1073741824 = q at *
    simp only [pw]
    rw [a4] at e ⊢
    grind
theorem Ad.mid {U V : List Int} {k : Nat} {g c : Int} {Y X : List Int} (hM : Mid U V k g Y) (h : Ad Y V k V.length c X) (hl : k + V.length < U.length) : Mid U V k (g - 1) (X.set (k + V.length) (nth X (k + V.length) + c)) ∧ nth X (k + V.length) = nth Y (k + V.length) := by
  have hlen := h.len
  have hlen2 := hM.len
  refine ⟨⟨by simp [hlen, hlen2], ?_, ?_, ?_⟩, ?_⟩
  · rw [List.set_set]; exact h.wd
  · rw [drop_set_succ, ← hM.up]
    have := congrArg (List.drop 1) h.up
    simpa [List.drop_drop, Nat.add_comm] using this
  · have e := h.eq
    have e2 := hM.eq
    rw [List.take_length] at e
    rw [val_set (by omega)]
    generalize nth X (k + V.length) = y at *
    generalize pw (k + V.length) = p at *
    have a : p * (y + c - y) = p * c := by grind
    have b : (g - 1) * (pw k * val V) = g * (pw k * val V) - pw k * val V := by grind
    omega
  · have := congrArg (fun l => nth l 0) h.up
    simpa [nth_drop] using this
/-- The highest limb tells whether the digit is still too great. -/
theorem Mid.neg {U V X : List Int} {k : Nat} {g : Int} (h : Mid U V k g X) (hU : Wd U) (hV : Wd V) (hl : k + V.length < U.length) (v0 : 0 < val V) (hlt : val U < pw (k + 1) * val V) (ht : nth X (k + V.length) < 0) : dig U V k ≤ g - 1 := by
  obtain ⟨q0, _, hq, _⟩ := dig_bd hU v0 hlt
  have hz := up_zero hU hV hl hlt
  rw [← h.up] at hz
  have hlen := h.len
  have e := val_parts (X := X) (m := k + V.length) (by omega) hz
  have w : Wd (X.take (k + V.length)) := by have := h.wd.take (k + V.length); rwa [take_set_same] at this
  have t1 := val_lt w
  rw [List.length_take, Nat.min_eq_left (by omega)] at t1
  have p := pw_pos (k + V.length)
  have := Int.mul_le_mul_of_nonneg_left (show nth X (k + V.length) ≤ -1 by omega) (Int.le_of_lt p)
  have hx : val X < 0 := by omega
  have h2 : dig U V k * (pw k * val V) < g * (pw k * val V) := by have := h.eq; omega
  have := Int.lt_of_mul_lt_mul_right h2 (Int.le_of_lt (Int.mul_pos (pw_pos k) v0))
  omega
theorem Mid.done {U V X : List Int} {k : Nat} {g : Int} (h : Mid U V k g X) (hU : Wd U) (hV : Wd V) (hl : k + V.length < U.length) (v0 : 0 < val V) (hlt : val U < pw (k + 1) * val V) (hg : dig U V k ≤ g) (ht : ¬ nth X (k + V.length) < 0) : g = dig U V k ∧ Wd X ∧ val X < pw k * val V := by
  obtain ⟨q0, _, hq, hq2⟩ := dig_bd hU v0 hlt
  have hz := up_zero hU hV hl hlt
  rw [← h.up] at hz
  have hlen := h.len
  have e := val_parts (X := X) (m := k + V.length) (by omega) hz
  have w : Wd (X.take (k + V.length)) := by have := h.wd.take (k + V.length); rwa [take_set_same] at this
  have t0 := val_nonneg w
  have p := pw_pos (k + V.length)
  have pk := pw_pos k
  have pp : 0 < pw k * val V := Int.mul_pos pk v0
  have hx : 0 ≤ val X := by have := Int.mul_nonneg (Int.le_of_lt p) (show 0 ≤ nth X (k + V.length) by omega); omega
  have h2 : g * (pw k * val V) < (dig U V k + 1) * (pw k * val V) := by have := h.eq; omega
  have h3 := Int.lt_of_mul_lt_mul_right h2 (Int.le_of_lt pp)
  have eg : g = dig U V k := by omega
  have h4 : val X < pw k * val V := by
    have := h.eq
    rw [eg] at this
    have : (dig U V k + 1) * (pw k * val V) = dig U V k * (pw k * val V) + pw k * val V := by grind
    omega
  have h5 : pw k * val V ≤ pw (k + V.length) := by rw [pw_add]; exact Int.mul_le_mul_of_nonneg_left (Int.le_of_lt (val_lt hV)) (Int.le_of_lt pk)
  have tz : nth X (k + V.length) = 0 := by
    by_cases c : nth X (k + V.length) = 0
    · exact c
    · have := Int.mul_le_mul_of_nonneg_left (show 1 ≤ nth X (k + V.length) by omega) (Int.le_of_lt p)
      omega
  exact ⟨eg, wd_of_set h.wd (by omega) (by omega), h4⟩
/-- The digits so far. -/
theorem quo_set {Q X U V : List Int} {k : Nat} {g A : Int} (hk : k < Q.length) (hz : nth Q k = 0) (hA : val Q * val V + val U = A) (hX : val X = val U - g * (pw k * val V)) : val (Q.set k g) * val V + val X = A := by
  rw [val_set hk, hz, hX, ← hA]; grind
end Go.Proofs.YtiobnojcmeeikaaGreatDoor.L

namespace Go.Proofs.YtiobnojcmeeikaaGreatDoor.L
open Go.RowKit Tl

/-- The second argument's type counts only where it is a number's. -/
theorem run_append_types {P : Program} (w : World) (t t' ty e e' : TypeId) (i : TypeInfo) (hi : P.info? e = some i) (u a : Option Addr) (n d m c : Nat) (ht : P.underlying t = some (.slice e)) (ht' : P.underlying t' = some (.slice e')) :
    (Builtin.append_ #[t, t'] ty #[.slice u n d, .slice a m c]).run P w = (Builtin.append_ #[t, t] ty #[.slice u n d, .slice a m c]).run P w := by
  simp [Builtin.append_, run_underlying ht, run_underlying ht', sizeOf, typeInfo, hi]
theorem Tryz.underNat : Tryz.prog.underlying 47 = some (.slice 3) := by kernel_rfl
/-- append([]int{}, x...), x a number. -/
theorem wpList_append_nat {w : World} {ops : Array Oper} {rest : List Oper} {o : Oper} {a : Act} {Q : Exit → Act → World → Prop} (hgd : o.guard = none) (s x : Operand)
    (ho : o.op = .call { callee := .builtin .append, args := #[s, x], argTypes := #[46, 47] })
    (g0 base : Nat) (cur : Array Value) (hs : a.eval s = .slice (some ⟨g0, 0, none⟩) 0 0) (hg : w.heap[g0]? = some (.cells cur 3 (0, 0))) (hcur : cur.size = 0) (hbg : base ≤ g0)
    (b o' m c : Nat) (xs : List Int) (hx : a.eval x = .slice (some ⟨b, o', none⟩) m c) (em : m = xs.length) (hc : Cells w b o' xs) (hL : xs.length ≤ 1099511627776) (hbase : base ≤ w.heap.size)
    (h : ∀ g cap w', w'.ownsRow base 3 1 (.slice (some ⟨g, 0, none⟩) xs.length cap) xs.length (xs.map (Value.int .i64)) → base ≤ g → Own w' g → cap ≤ 9223372036854775807 → xs.length ≤ cap → Cells w' g 0 xs → Below base w w' → wpList Tryz.prog ops Q rest (a.put o.dst (.slice (some ⟨g, 0, none⟩) xs.length cap)) w') : wpList Tryz.prog ops Q (o :: rest) a w := by
  subst em
  obtain ⟨i, hi, hz0, hz1, hz2⟩ := info_parts Tryz.infoU
  have hown : w.ownsRow base 3 1 (.slice (some ⟨g0, 0, none⟩) 0 0) 0 [] := ⟨rfl, Or.inr ⟨g0, 0, cur, rfl, hbg, hg, Nat.le_refl _, by decide, by simp [hcur], by simp⟩⟩
  have hnews : ∀ (j : Nat) (u : Value), (xs.map (Value.int .i64))[j]? = some u → w.cell? ((⟨b, o', none⟩ : Addr).add j) = some u := by
    intro j u hj
    rw [List.getElem?_map] at hj
    obtain ⟨y, hy, rfl⟩ := Option.map_eq_some_iff.1 hj
    have hjl : j < xs.length := by
      by_cases c : j < xs.length
      · exact c
      · rw [List.getElem?_eq_none (by omega)] at hy; cases hy
    have := hc.at hjl
    rw [Addr.add_lit, this]
    simp [nth, List.getD_eq_getElem?_getD, hy]
  refine wpList_plain hgd fun K hK => ?_
  obtain ⟨v', w', hr, h2, h3, h4⟩ := run_append_own (P := Tryz.prog) w base 46 o.type 3 i (.int .i64 0) 1 8 Tryz.underlying46 hi hz0 hz1 hz2 rfl (by decide) _ 0 [] hown ⟨b, o', none⟩ xs.length c (xs.map (Value.int .i64)) (by simp) hnews (by intro u hu; simp at hu; obtain ⟨y, _, rfl⟩ := hu; rfl) (by unfold maxLen; omega) (by omega) hbase
  · unfold Oper.wp execOp
    simp only [ho, resolve, invoke, builtin, Sem.run_bind, Sem.run_pure, Result.andThen_ok, List.map_toArray, List.map_cons, List.map_nil, hs, hx, run_append_types w _ _ _ _ _ _ hi _ _ _ _ _ _ Tryz.underlying46 Tryz.underNat, hr]
    have hbl : Below base w w' := by
      refine ⟨h3.os, h3.tape, h3.output, h3.size, fun k hk => h3.block k (by omega) ?_⟩
      simp [Value.ownBlock]; omega
    rw [Nat.zero_add, List.nil_append] at h2
    have h2' := h2
    obtain ⟨_, h5⟩ := h2
    rcases h5 with ⟨rfl, h5⟩ | ⟨g, cap, cur', rfl, e2, e3, e4, e5, e6, e7⟩
    · simp at h4
    · refine hK _ _ (h g cap w' h2' e2 ⟨cur', _, e3⟩ e5 e4 ?_ hbl)
      intro i hi
      rw [Nat.mul_one] at e7
      have h7 := congrArg (fun l : List Value => l[i]?) e7
      simp only [List.getElem?_take, hi, if_true, List.getElem?_map] at h7
      simp only [World.cell?, e3, Nat.zero_add, Option.isSome_none, Bool.false_eq_true, if_false]
      rw [Array.getElem?_toList] at h7
      rw [h7]
      simp [nth, List.getD_eq_getElem?_getD, List.getElem?_eq_getElem hi]
end Go.Proofs.YtiobnojcmeeikaaGreatDoor.L

namespace Go.Proofs.YtiobnojcmeeikaaGreatDoor.L
open Go.RowKit Tl

theorem bits_mask (S : Int) (r : Nat) (hr : r < 30) (h0 : 0 ≤ S) (h1 : S ≤ 576460752303423488) : bits .and .i64 S (2 ^ r - 1) = S % 2 ^ r := by
  obtain ⟨a, rfl⟩ := Int.eq_ofNat_of_zero_le h0
  have hp : 2 ^ r ≤ 2 ^ 29 := Nat.pow_le_pow_right (by decide) (by omega)
  have hp0 : 0 < 2 ^ r := Nat.two_pow_pos r
  have e : (2 : Int) ^ r - 1 = ((2 ^ r - 1 : Nat) : Int) := by
    have e : ((2 ^ r : Nat) : Int) = (2 : Int) ^ r := by simp
    omega
  have a1 : (BitVec.ofInt 64 ((a : Nat) : Int)).toNat = a := by
    rw [BitVec.ofInt_natCast, BitVec.toNat_ofNat]; exact Nat.mod_eq_of_lt (by omega)
  have a2 : (BitVec.ofInt 64 ((2 ^ r - 1 : Nat) : Int)).toNat = 2 ^ r - 1 := by
    rw [BitVec.ofInt_natCast, BitVec.toNat_ofNat]; exact Nat.mod_eq_of_lt (by omega)
  rw [e]
  show IntKind.i64.wrap ((BitVec.ofInt 64 ((a : Nat) : Int) &&& BitVec.ofInt 64 ((2 ^ r - 1 : Nat) : Int)).toNat : Int) = _
  rw [BitVec.toNat_and, a1, a2, Nat.and_two_pow_sub_one_eq_mod]
  have hm := Nat.mod_lt a hp0
  rw [wrap_self _ (by omega) (by omega)]
  simp
/-- What is thrown away counts for nothing. -/
theorem shr_val {xs X : List Int} {n q r : Nat} {cy : Int} (hx : Wd xs) (hq : q < xs.length) (en : n = 30 * q + r) (c0 : 0 ≤ cy) (c1 : cy < 2 ^ r) (h : val X * 2 ^ r + cy = val (xs.drop q)) : val X = val xs / 2 ^ n := by
  have p0 : (0 : Int) < 2 ^ r := Int.pow_pos (by decide)
  have e1 := val_split xs q (by omega)
  have t0 := val_nonneg (hx.take q)
  have t1 := val_lt (hx.take q)
  rw [List.length_take, Nat.min_eq_left (by omega)] at t1
  have pq := pw_pos q
  have e2 : val xs / pw q = val (xs.drop q) := by
    rw [e1, Int.add_mul_ediv_left _ _ (by omega), Int.ediv_eq_zero_of_lt t0 t1]; omega
  have e3 : val (xs.drop q) / 2 ^ r = val X := by
    rw [← h, Int.add_comm, Int.add_mul_ediv_right _ _ (by omega), Int.ediv_eq_zero_of_lt c0 c1]; omega
  rw [en, Int.pow_add, ← pw_two, ← Int.ediv_ediv_of_nonneg (Int.le_of_lt pq), e2, e3]
set_option maxHeartbeats 1600000 in
set_option maxRecDepth 100000 in
/-- (Nat).Shr of the reference. -/
theorem shr_some (b1 o1 c1 : Nat) (xs : List Int) (n q r : Nat) (w : World) (hx : Wd xs) (hc1 : Cells w b1 o1 xs) (l1 : xs.length ≤ 549755813888) (l2 : xs.length ≤ c1) (l3 : c1 ≤ 9223372036854775807) (hn : n ≤ 1099511627776) (hq : (n : Int) / 30 = q) (hr : (n : Int) % 30 = r) (hlt : q < xs.length) :
    Calls Tryz.prog 56 #[.slice (some ⟨b1, o1, none⟩) xs.length c1, .int .i64 n] w fun e w' => ∃ v zs, e = .returned v ∧ Rd w' v zs ∧ Nm zs ∧ val zs = val xs / 2 ^ n ∧ Below w.heap.size w w' := by
  have r1 : r < 30 := by omega
  have hge : ¬ ((xs.length : Int) ≤ q) := by omega
  have hcap : q < c1 := by omega
  obtain ⟨Y, hY⟩ : ∃ Y, Y = xs.drop q := ⟨_, rfl⟩
  have lY : Y.length = xs.length - q := by rw [hY, List.length_drop]
  have wY : Wd Y := by rw [hY]; exact hx.drop q
  have cY : Hid (Cells w b1 (o1 + q) Y) := by rw [hY]; exact hc1.drop q
  have HY : Hid (Y = xs.drop q) := hY
  clear hY
  have hp : ((2 : Int) ^ r) ≤ 536870912 := by
    have h : 2 ^ r ≤ 2 ^ 29 := Nat.pow_le_pow_right (by decide) (by omega)
    have e : ((2 ^ r : Nat) : Int) = (2 : Int) ^ r := by simp
    rw [← e]; omega
  have hp0 : (0 : Int) < 2 ^ r := Int.pow_pos (by decide)
  go_enter Tryz.func56, Tryz.ntmps56
  go_wp2_with (first
    | (at_builtin; refine wpList_append_nat rfl _ _ rfl w.heap.size w.heap.size #[] rfl (heap_alloc_new _ _) rfl (Nat.le_refl _) b1 (o1 + q) (xs.length - q) (c1 - q) Y rfl lY.symm (cY.out.grow ((Below.refl _ _).alloc (Nat.le_refl _) _)) (by omega) (by simp) ?_; intro g cap w1 hown hg ho hcap2 hlc hcs hbl; clear hown)
    | fail)
  go_loopw [6, 7] (fun c i wr => ∃ (j : Nat) (cy : Int) (X : List Int), j ≤ Y.length ∧ c = .int .i64 cy ∧ i = .int .i64 ((j : Int) - 1) ∧ 0 ≤ cy ∧ cy < 2 ^ r ∧ X.length = Y.length ∧ Wd X ∧ X.take j = Y.take j ∧ val (X.drop j) * 2 ^ r + cy = val (Y.drop j) ∧ Cells wr g 0 X ∧ Wr g 0 Y.length w1 wr) (fun _ i _ => (intOf i + 1).toNat)
  case atStart => exact ⟨Y.length, 0, Y, Nat.le_refl _, rfl, by go_num, by omega, hp0, rfl, wY, rfl, by simp [val], hcs, Wr.refl _ _ _ _⟩
  case round =>
    obtain ⟨j, cy, X, hj, rfl, rfl, r0, r2, hl, hX, ht, hv, hc, hwr⟩ := hrel
    have HV : Hid (val (X.drop j) * 2 ^ r + cy = val (Y.drop j)) := hv
    have HT : Hid (X.take j = Y.take j) := ht
    clear hv ht
    have hb := ((Below.refl w.heap.size w).alloc (Nat.le_refl _) (Obj.cells #[] 3)).trans (hbl.trans (hwr.below (B := w.heap.size) hg (by have := hbl.size; simp at this; omega)))
    by_cases hlt2 : 0 < j
    · obtain ⟨i, rfl⟩ : ∃ i, j = i + 1 := ⟨j - 1, by omega⟩
      have kx := hc.at (i := i) (by omega)
      have kf := ((ho.wr hwr).free 0 Y.length) i (by omega)
      rw [Nat.zero_add] at kx kf
      have bx := nth_bd hX i
      obtain ⟨S, hS⟩ : ∃ S, nth X i + cy * 1073741824 = S := ⟨_, rfl⟩
      have p1 : IntKind.i64.wrap (cy * 1073741824) = cy * 1073741824 := wrap_self _ (by omega) (by omega)
      have p2 : IntKind.i64.wrap (nth X i + cy * 1073741824) = S := by rw [hS]; exact wrap_self _ (by omega) (by omega)
      have s0 : 0 ≤ S := by omega
      have s1 : S ≤ 576460752303423488 := by omega
      have t1 : ((i : Int) + 1 - 1) = i := by omega
      have eX : nth X i = nth Y i := by
        have := congrArg (fun l => nth l i) HT.out
        rwa [nth_take _ _ _ (by omega), nth_take _ _ _ (by omega)] at this
      have R : Hid _ := quo_step (s := S) hX (by omega) (by omega) hp0 r0 r2 (nth_bd wY i).1 (nth_bd wY i).2 (by omega) HV.out
      have bm := bits_mask S r r1 s0 s1
      clear hS eX
      go_wp2
      go_roundw
      case rel =>
        refine ⟨i, _, _, by omega, rfl, by go_num, R.out.2.2.1, R.out.2.2.2, by simp [hl], R.out.1, ?_, R.out.2.1, by simpa using hc.set i (by omega) _, by simpa using hwr.setCell i (by omega) _⟩
        rw [take_set_same]
        have := congrArg (List.take i) HT.out
        rwa [List.take_take, List.take_take, Nat.min_eq_left (by omega)] at this
      case measure => simp [intOf]
    · have ek : j = 0 := by omega
      subst ek
      have Rv : Hid (val X = val xs / 2 ^ n) := by
        have h := HV.out
        rw [List.drop_zero, List.drop_zero, HY.out] at h
        exact shr_val hx hlt (by omega) r0 r2 h
      clear HV HT
      go_wp2_with (first
        | (go_at_call 45; refine (norm_rd _ _ _ X _ (by omega) hX (by omega) hcap2 (fun _ => ⟨_, _, rfl, hc⟩)).mono ?_; rintro e w' ⟨n', zs, rfl, hrd, hnm, hvz, rfl⟩; have hvz' : Hid _ := hvz.trans Rv.out; clear hvz)
        | fail)
      go_ret
      exact ⟨_, zs, rfl, hrd, hnm, hvz'.out, hb⟩
set_option maxRecDepth 100000 in
theorem shr_none (a1 : Option Addr) (l c1 : Nat) (n q : Int) (w : World) (hn0 : 0 ≤ n) (hn1 : n ≤ 1099511627776) (hq : n / 30 = q) (hl : (l : Int) ≤ q) :
    Calls Tryz.prog 56 #[.slice a1 l c1, .int .i64 n] w fun e w' => e = .returned (.slice none 0 0) ∧ w' = w := by
  go_enter Tryz.func56, Tryz.ntmps56
  go_wp2
  go_ret
  exact ⟨rfl, rfl⟩
theorem Shr_any (v : Value) (xs : List Int) (n : Nat) (w : World) (h : Rd w v xs) (l1 : xs.length ≤ 549755813888) (hn : n ≤ 1099511627776) :
    Calls Tryz.prog 56 #[v, .int .i64 n] w fun e w' => ∃ r zs, e = .returned r ∧ Rd w' r zs ∧ Nm zs ∧ val zs = val xs / 2 ^ n ∧ Below w.heap.size w w' := by
  obtain ⟨hx, a1, c1, rfl, h2, h3, g1⟩ := h
  by_cases ne : n / 30 < xs.length
  · obtain ⟨b, o, rfl, hc⟩ := g1 (by omega)
    exact shr_some b o c1 xs n (n / 30) (n % 30) w hx hc l1 h2 h3 hn (by simp) (by simp) ne
  · refine (shr_none a1 xs.length c1 n ((n / 30 : Nat) : Int) w (by omega) (by omega) (by omega) (by omega)).mono ?_
    rintro e w' ⟨rfl, rfl⟩
    refine ⟨_, [], rfl, rd_nil _, Or.inl rfl, ?_, Below.refl _ _⟩
    have v0 := val_nonneg hx
    have v1 := val_lt hx
    have p := pw_mono (show xs.length ≤ n / 30 by omega)
    have e2 : pw (n / 30) ≤ 2 ^ n := by
      rw [pw_two]
      have h : 2 ^ (30 * (n / 30)) ≤ 2 ^ n := Nat.pow_le_pow_right (by decide) (by omega)
      exact_mod_cast h
    exact (Int.ediv_eq_zero_of_lt v0 (by omega)).symm
end Go.Proofs.YtiobnojcmeeikaaGreatDoor.L
