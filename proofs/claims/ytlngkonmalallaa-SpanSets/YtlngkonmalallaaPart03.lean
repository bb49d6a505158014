import Derived.Test.YtlngkonmalallaaPart02
import Derived.Deep.DeepCutAuto
import Derived.Deep.CutBlock
import Derived.Deep.RegionHeld3
import Derived.WalkKit
import Derived.WalkSpells
import Derived.WalkSmall
import Derived.Deep.QuietTactic
import Derived.BigQuiet

namespace Go.Proofs.Ytlngkonmalallaa.L
open Go.RowKit Tl

theorem le_less {G x T : Int} (h : G * x ≤ T) (x0 : 0 ≤ x) : (G - 1) * x ≤ T := by
  have : (G - 1) * x = G * x - x := by grind
  omega
theorem drewN_two (w : World) (m n : Nat) : (w.drewN m).drewN n = w.drewN (m + n) := by simp [World.drewN, Nat.add_assoc]
theorem down_one {G : Int} (h : 1 ≤ G) : (intOf (.int .i64 (G - 1))).toNat < (intOf (.int .i64 G)).toNat := by simp [intOf]; omega
/-- One limb of the product, taken away: with a borrow .. -/
theorem sb_neg {y c g v x Z : Int} (y0 : 0 ≤ y) (y1 : y < 1073741824) (c0 : 0 ≤ c) (c1 : c ≤ 1073741824) (g1 : g ≤ 1073741823) (v0 : 0 ≤ v) (v1 : v < 1073741824) (hx : y - c - g * v = x) (hZ : -x + 1073741824 - 1 = Z) (hn : x < 0) :
    (0 ≤ Z / 1073741824 ∧ Z / 1073741824 ≤ 1073741824 ∧ 0 ≤ x + Z / 1073741824 * 1073741824 ∧ x + Z / 1073741824 * 1073741824 < 1073741824 ∧ x + Z / 1073741824 * 1073741824 = y - c - g * v + Z / 1073741824 * 1073741824) ∧
    0 ≤ Z ∧ Z < 1152921506754330624 ∧ IntKind.i64.wrap (-x) = -x ∧ IntKind.i64.wrap (-x + 1073741824) = -x + 1073741824 ∧ IntKind.i64.wrap (-x + 1073741824 - 1) = Z ∧ IntKind.i64.wrap (Z / 1073741824 * 1073741824) = Z / 1073741824 * 1073741824 ∧ IntKind.i64.wrap (x + Z / 1073741824 * 1073741824) = x + Z / 1073741824 * 1073741824 := by
  have a := Int.mul_le_mul_of_nonneg_right g1 v0
  have b : 1073741823 * v ≤ 1073741823 * 1073741823 := Int.mul_le_mul_of_nonneg_left (by omega) (by decide)
  refine ⟨⟨by omega, by omega, by omega, by omega, by omega⟩, by omega, by omega, wrap_self _ (by omega) (by omega), wrap_self _ (by omega) (by omega), ?_, wrap_self _ (by omega) (by omega), wrap_self _ (by omega) (by omega)⟩
  rw [hZ]; exact wrap_self _ (by omega) (by omega)
theorem sb_bd {y c g v : Int} (y0 : 0 ≤ y) (y1 : y < 1073741824) (c0 : 0 ≤ c) (c1 : c ≤ 1073741824) (g0 : 0 ≤ g) (g1 : g ≤ 1073741823) (v0 : 0 ≤ v) (v1 : v < 1073741824) :
    IntKind.i64.wrap (y - c) = y - c ∧ IntKind.i64.wrap (g * v) = g * v ∧ IntKind.i64.wrap (y - c - g * v) = y - c - g * v ∧ -1152921504606846976 - 2147483648 < y - c - g * v ∧ y - c - g * v < 1073741824 := by
  have a := Int.mul_le_mul_of_nonneg_right g1 v0
  have b : 1073741823 * v ≤ 1073741823 * 1073741823 := Int.mul_le_mul_of_nonneg_left (by omega) (by decide)
  have d := Int.mul_nonneg g0 v0
  exact ⟨wrap_self _ (by omega) (by omega), wrap_self _ (by omega) (by omega), wrap_self _ (by omega) (by omega), by omega, by omega⟩
theorem up_one {n i : Nat} (h : i < n) : n - (intOf (.int .i64 ((i : Int) + 1))).toNat < n - (intOf (.int .i64 (i : Int))).toNat := by simp [intOf]; omega
theorem nm_len {zs xs : List Int} (hz : Wd zs) (nz : Nm zs) (hx : Wd xs) (h : val zs = val xs) : zs.length ≤ xs.length := by
  by_cases c : zs.length ≤ xs.length
  · exact c
  · have ne : zs ≠ [] := by intro h2; rw [h2] at c; simp at c
    have a := val_low hz nz ne
    have b := val_lt hx
    have d := pw_mono (show xs.length ≤ zs.length - 1 by omega)
    omega
def lenOfS : Value → Nat
  | .slice _ n _ => n
  | _ => 0
theorem shl_pos {xs A : List Int} {s : Nat} (h : 0 < xs.length) (n : Nm xs) (hx : Wd xs) (e : val A = val xs * 2 ^ s) : 0 < A.length := by
  by_cases c : 0 < A.length
  · exact c
  · have e0 : A = [] := List.eq_nil_of_length_eq_zero (by omega)
    rw [e0] at e
    have ne : xs ≠ [] := by intro h2; rw [h2] at h; simp at h
    have lo := val_low hx n ne
    have p := pw_pos (xs.length - 1)
    have := Int.mul_pos (show 0 < val xs by omega) (show (0 : Int) < 2 ^ s from Int.pow_pos (by decide))
    simp [val] at e
    omega
set_option maxHeartbeats 4000000 in
set_option maxRecDepth 100000 in
/-- DivMod of the reference: by two limbs and more. -/
theorem dm_long (v1 : Value) (b2 o2 c2 : Nat) (xs ys : List Int) (w : World) (h1 : Rd w v1 xs) (h2 : Rd w (.slice (some ⟨b2, o2, none⟩) ys.length c2) ys) (n1 : Nm xs) (n2 : Nm ys) (l1 : xs.length ≤ 274877906944) (hle : val ys ≤ val xs) (hl : 2 ≤ ys.length) (hll : ys.length ≤ xs.length) (cs2 : Cells w b2 o2 ys) :
    Calls Try.prog 114 #[v1, .slice (some ⟨b2, o2, none⟩) ys.length c2] w fun e w' => ∃ q r zs rs, e = .returned (.tuple #[q, r]) ∧ Rd w' q zs ∧ Nm zs ∧ Rd w' r rs ∧ Nm rs ∧ val xs = val zs * val ys + val rs ∧ 0 ≤ val rs ∧ val rs < val ys ∧ Below w.heap.size w w' := by
  have hc : ¬ cmp3 (val xs) (val ys) < 0 := by unfold cmp3; rw [if_neg (by omega)]; split <;> omega
  have hne1 : ((ys.length : Int) == 1) = false := by rw [beq_eq_false_iff_ne]; omega
  have ly1 : Hid (1 ≤ ys.length) := show 1 ≤ ys.length by omega
  have hR2 : Hid (∀ w', Below w.heap.size w w' → Rd w' (.slice (some ⟨b2, o2, none⟩) ys.length c2) ys) := fun w' k => h2.grow k
  have hR1 : Hid (∀ w', Below w.heap.size w w' → Rd w' v1 xs) := fun w' k => h1.grow k
  have hC2 : Hid (∀ w', Below w.heap.size w w' → Cells w' b2 o2 ys) := fun w' k => cs2.grow k
  have W1 : Hid (Wd xs) := h1.1
  have W2 : Hid (Wd ys) := h2.1
  have E1 : ∃ a1 c1, v1 = .slice a1 xs.length c1 := by obtain ⟨_, a1, c1, e, _⟩ := h1; exact ⟨a1, c1, e⟩
  obtain ⟨a1, c1, rfl⟩ := E1
  obtain ⟨t, ht⟩ : ∃ t, nth ys (ys.length - 1) = t := ⟨_, rfl⟩
  have tb : 0 < t ∧ t < 1073741824 := by
    have := nth_bd W2.out (ys.length - 1)
    rcases n2 with h | h
    · rw [h] at hl; simp at hl
    · unfold nth at ht this; omega
  have HT : Hid (nth ys (ys.length - 1) = t) := ht
  clear ht
  go_enter Try.func114, Try.ntmps114
  go_wp2_with (first
    | (go_at_call 83; refine (Cmp_any _ _ xs ys _ h1 h2 n1 n2 (by omega)).mono ?_; rintro e w1 ⟨rfl, hb⟩; have k1 := (hC2.out _ hb).at (i := ys.length - 1) (by omega); rw [HT.out] at k1)
    | fail)
  go_loop [8] (fun s => ∃ k : Nat, k ≤ 29 ∧ s = .int .i64 k ∧ t * 2 ^ k < 1073741824) (fun s => 29 - (intOf s).toNat)
  case atStart => exact ⟨0, by omega, rfl, by simp; omega⟩
  case round =>
    obtain ⟨s, hs, rfl, hts⟩ := hrel
    obtain ⟨P, hP⟩ : ∃ P, t * 2 ^ s = P := ⟨_, rfl⟩
    rw [hP] at hts
    have p0 : 0 ≤ P := by rw [← hP]; exact Int.mul_nonneg (by omega) (Int.le_of_lt (two_le hs).1)
    have pw1 : IntKind.i64.wrap (t * 2 ^ s) = P := by rw [hP]; exact wrap_self _ (by omega) (by omega)
    have HP : Hid (t * 2 ^ s = P) := hP
    clear hP
    by_cases hlt : P < 536870912
    · have s1 : s + 1 ≤ 29 := by
        by_cases c : s ≤ 28
        · omega
        · have : s = 29 := by omega
          have e := HP.out
          rw [this] at e
          have : (2 : Int) ^ 29 = 536870912 := by decide
          rw [this] at e
          omega
      have s2 : Hid (t * 2 ^ (s + 1) < 1073741824) := by have e := HP.out; show t * 2 ^ (s + 1) < 1073741824; rw [Int.pow_succ, ← Int.mul_assoc, e]; omega
      go_wp2
      go_round
      case rel => exact ⟨s + 1, s1, by go_num, s2.out⟩
      case measure => simp [intOf]; omega
    · have HTS : Hid (nth ys (ys.length - 1) * 2 ^ s < 1073741824) := by show _ < _; rw [HT.out, HP.out]; exact hts
      clear HP hts
      go_wp2_with (first
        | (go_at_call 79; (with_reducible refine (Shl_any (.slice (some ⟨b2, o2, none⟩) ys.length c2) ys s _ (hR2.out _ hb) (by omega) (by omega)).mono ?_); (rintro e w2 ⟨vV, V, rfl, hrV, hnV, hvV, hb2⟩; have HVV : Hid (val V = val ys * 2 ^ s) := hvV; have lV : Hid (V.length = ys.length) := shift_len W2.out n2 (by omega) hrV.1 hnV hs HTS.out hvV; obtain ⟨wV, aV, cV, rfl, lc1, lc2, gV⟩ := hrV; obtain ⟨bv, ov, rfl, hcV⟩ := gV (by rw [lV.out]; omega); clear gV hvV; have bV := hcV.lt (by rw [lV.out]; omega); have hbw := hb.trans (hb2.mono hb.size); have hbA := hbw.alloc hbw.size (Obj.cells #[] 3)))
        | (go_at_call 79; (with_reducible refine (Shl_any (.slice a1 xs.length c1) xs s _ (hR1.out _ hbA) (by omega) (by omega)).mono ?_); (rintro e w3 ⟨vA, A, rfl, hrA, hnA, hvA, hb3⟩; have lA : A.length ≤ xs.length + 1 := shl_len W1.out hrA.1 hnA hs hvA; have pA : 0 < A.length := shl_pos (by omega) n1 W1.out hvA; have HVA : Hid (val A = val xs * 2 ^ s) := hvA; obtain ⟨wA, aA, cA, rfl, lc3, lc4, gA⟩ := hrA; obtain ⟨bA, oA, rfl, hcA⟩ := gA pA; clear gA hvA))
        | (at_builtin; refine wpList_append_nat rfl _ _ rfl w2.heap.size w2.heap.size #[] rfl ((hb3.block _ (by simp)).trans (heap_alloc_new _ _)) rfl (Nat.le_refl _) bA oA A.length cA A rfl rfl hcA (by omega) (by have := hb3.size; simp at this; omega) ?_; (intro g cap w4 hown hg ho hcap2 hlc hcs hb4; have hb24 := ((Below.refl w2.heap.size w2).alloc (Nat.le_refl _) (Obj.cells #[] 3)).trans ((hb3.mono (by simp)).trans hb4); clear hg ho hlc hcs))
        | fail)
      go_loopw [10] (fun l wr => ∃ (U : List Int) (g cap : Nat), l = .slice (some ⟨g, 0, none⟩) U.length cap ∧ wr.ownsRow w2.heap.size 3 1 l U.length (U.map (Value.int .i64)) ∧ Wd U ∧ val U = val xs * 2 ^ s ∧ U.length ≤ xs.length + 1 ∧ 0 < U.length ∧ Below w2.heap.size w2 wr) (fun l _ => xs.length + 1 - lenOfS l)
      case atStart => exact ⟨A, g, cap, rfl, hown, wA, HVA.out, lA, pA, hb24⟩
      case round =>
        clear hown hb24 hb4 hcap2 hb3 wA HVA lA pA
        obtain ⟨U, g', cap', rfl, hown, wU, hvU, lU, pU, hb24⟩ := hrel
        have HVU : Hid (val U = val xs * 2 ^ s) := hvU
        clear hvU
        by_cases hlt3 : U.length < xs.length + 1
        · have hsz := hb24.size
          go_wp2_with (first
            | (at_builtin; (refine wpList_push rfl _ _ rfl _ U rfl w2.heap.size (own_grow hown ((Below.refl _ _).alloc (Nat.le_refl _) _)) (by omega) _ _ 0 rfl (by simp) (by simp; omega) ?_; intro l' w5 hown2 hb5; have hb6 := (hb24.alloc hsz _).trans hb5; obtain ⟨g2, cap2, rfl, _⟩ := own_parts hown2 (by simp)))
            | fail)
          go_roundw
          case rel =>
            have eL : (U ++ [0]).length = U.length + 1 := by simp
            exact ⟨U ++ [0], g2, cap2, by rw [eL], by rw [← eL]; exact hown2, wU.append (Wd.cons (by omega) (by omega) Wd.nil), by rw [val_append]; simp [val, HVU.out], by simp; omega, by simp, hb6⟩
          case measure => simp [lenOfS]; omega
        · obtain ⟨gU, capU, eU, hgU, oU, lc5, lc6, hcU⟩ := own_parts hown pU
          obtain ⟨rfl, rfl⟩ : gU = g' ∧ capU = cap' := by simp at eU; exact ⟨eU.1.symm, eU.2.symm⟩
          clear eU hown
          have hcV4 := hcV.below hb24 bV
          have hbw4 := hbw.trans (hb24.mono hbw.size)
          have szU := oU.lt
          have hN : Hid (U.length = xs.length + 1) := show U.length = xs.length + 1 by omega
          have lV2 : V.length ≤ xs.length := by rw [lV.out]; exact hll
          obtain ⟨M, hM⟩ : ∃ M, U.length = M + V.length := ⟨U.length - V.length, by omega⟩
          have HM : Hid (xs.length + 1 = M + ys.length) := by show _ = _; have := hN.out; have := lV.out; omega
          have hM0 : U.length - V.length = M := by omega
          have hM1 : (U.length : Int) - V.length = M := by omega
          have mb : M ≤ 274877906945 := by omega
          go_wp2_with (first
            | (at_make; refine wpList_make_words rfl _ _ rfl M _ _ rfl rfl (by omega) (by omega) (by omega) ?_; intro w5 k1 k2 k3 k4)
            | fail)
          have hLay : Lay w w5 bv ov gU wr.heap.size V U (List.replicate M 0) := ⟨by omega, szU, by have := hbw.size; omega, hbw4.trans (k3.mono hbw4.size), hcV4.below k3 (by omega), hcU.below k3 szU, k1, oU.grow k3, k2⟩
          have hA0 : Hid (val U < pw M * val V) := start_lt W1.out W2.out n2 (by omega) HVU.out HVV.out hs HM.out
          clear k1 k2 k3 k4 hcU hcV4 oU szU hgU hb24 hbw4 hcA lc3 lc4 hbA hb hb2 HT tb pw1 p0 hlt h1 h2 cs2 hC2 hR1 hR2 bV hcV hbw hnA
          generalize wr.heap.size = gQ at hLay ⊢
          clear wr
          have hV0 : Hid (0 < val V) := by show 0 < val V; have := val_low wV hnV (by intro h; rw [h] at lV; have := lV.out; simp at this; omega); have := pw_pos (V.length - 1); omega
          obtain ⟨n, hn⟩ : ∃ n, V.length = n + 2 := ⟨V.length - 2, by have := lV.out; omega⟩
          have Hn : Hid (V.length = n + 2) := hn
          have hn1 : V.length ≤ n + 2 := by omega
          have hn2 : n + 2 ≤ V.length := by omega
          have HMV : Hid (U.length = M + V.length) := hM
          have K1 : Hid (xs.length ≤ 274877906944 ∧ 2 ≤ ys.length ∧ ys.length ≤ xs.length ∧ s ≤ 29 ∧ U.length ≤ capU ∧ capU ≤ 9223372036854775807) := ⟨l1, hl, hll, hs, lc5, lc6⟩
          have vb : V.length ≤ 274877906945 := by omega
          clear hn hM hM0 hM1 l1 hl hll hs lc5 lc6 hle lc1 lc2 lU pU hlt3 lV2 hne1 hc ly1 hN
          go_loopw [13] (fun j wr => ∃ (J : Nat) (X Q : List Int), J ≤ M ∧ j = .int .i64 ((J : Int) - 1) ∧ X.length = U.length ∧ Q.length = M ∧ Wd X ∧ Wd Q ∧ (∀ i, i < J → nth Q i = 0) ∧ val Q * val V + val X = val U ∧ val X < pw J * val V ∧ Lay w wr bv ov gU gQ V X Q) (fun j _ => (intOf j + 1).toNat)
          case atStart => exact ⟨M, U, List.replicate M 0, Nat.le_refl _, by go_num, rfl, by simp, wU, wd_zero M, fun i _ => nth_replicate M i, by rw [val_zeros]; simp, hA0.out, hLay⟩
          case round =>
            clear hLay hA0
            obtain ⟨J, X, Q, hJ, rfl, lX, lQ, wX, wQ, hQ0, hval, hlt4, hLay⟩ := hrel
            have HVal : Hid (val Q * val V + val X = val U) := hval
            have HQ0 : Hid (∀ i, i < J → nth Q i = 0) := hQ0
            have HLt : Hid (val X < pw J * val V) := hlt4
            have LX : Hid (X.length = M + V.length) := lX.trans HMV.out
            have LQ : Hid (Q.length = M) := lQ
            clear hval hQ0 hlt4 lX lQ
            obtain ⟨wo, rfl⟩ : ∃ wo : World, wo = wr := ⟨_, rfl⟩
            by_cases hJ0 : 0 < J
            · obtain ⟨k, rfl⟩ : ∃ k, J = k + 1 := ⟨J - 1, by omega⟩
              rw [show (((k + 1 : Nat) : Int) - 1) = (k : Int) from by omega]
              have i1 : ((k : Int) + 1 - 1) = k := by omega
              have i2 : (0 : Int) ≤ (k : Int) + V.length - 1 := by omega
              have i3 : ((k : Int) + V.length - 1).toNat = k + (n + 1) := by omega
              have i4 : (0 : Int) ≤ (k : Int) + V.length - 2 := by omega
              have i5 : ((k : Int) + V.length - 2).toNat = k + n := by omega
              have i6 : (0 : Int) ≤ (V.length : Int) - 1 := by omega
              have i7 : ((V.length : Int) - 1).toNat = n + 1 := by omega
              have i8 : (0 : Int) ≤ (V.length : Int) - 2 := by omega
              have i9 : ((V.length : Int) - 2).toNat = n := by omega
              have j1 : (0 : Int) ≤ (k : Int) + V.length := by omega
              have j2 : ((k : Int) + V.length).toNat = k + V.length := by omega
              have cU2 := hLay.atU (k := k + V.length) (by rw [LX.out]; omega)
              have cU1 := hLay.atU (k := k + (n + 1)) (by rw [LX.out]; omega)
              have cU0 := hLay.atU (k := k + n) (by rw [LX.out]; omega)
              have cV1 := hLay.cv.at (i := n + 1) (by omega)
              have cV0 := hLay.cv.at (i := n) (by omega)
              have bU2 := nth_bd wX (k + V.length)
              have bU1 := nth_bd wX (k + (n + 1))
              have bU0 := nth_bd wX (k + n)
              have bV1 := nth_bd wV (n + 1)
              have bV0 := nth_bd wV n
              have bV1' : 0 < nth V (n + 1) := by
                rcases hnV with h | h
                · have := Hn.out; rw [h] at this; simp at this
                · rw [show V.length - 1 = n + 1 from by omega] at h; unfold nth at bV1 ⊢; omega
              have HU2 : Hid (nth X (k + V.length) = nth X (k + (n + 2))) := by rw [Hn.out]; rfl
              obtain ⟨y2, hy2⟩ : ∃ y, nth X (k + V.length) = y := ⟨_, rfl⟩
              obtain ⟨y1, hy1⟩ : ∃ y, nth X (k + (n + 1)) = y := ⟨_, rfl⟩
              obtain ⟨y0, hy0⟩ : ∃ y, nth X (k + n) = y := ⟨_, rfl⟩
              obtain ⟨x1, hx1⟩ : ∃ y, nth V (n + 1) = y := ⟨_, rfl⟩
              obtain ⟨x0, hx0⟩ : ∃ y, nth V n = y := ⟨_, rfl⟩
              obtain ⟨T, hT⟩ : ∃ T, y2 * 1073741824 + y1 = T := ⟨_, rfl⟩
              rw [hy2] at cU2 bU2
              rw [hy1] at cU1 bU1
              rw [hy0] at cU0 bU0
              rw [hx1] at cV1 bV1 bV1'
              rw [hx0] at cV0 bV0
              have DS : Hid (dig X V k ≤ T / x1) := by
                have h := dig_start (T := T) wX wV Hn.out (by rw [LX.out]; omega) (by rw [hx1]; exact bV1') hV0.out HLt.out (by rw [← HU2.out, hy2, hy1]; exact hT)
                rwa [hx1] at h
              have DD : Hid (∀ g : Int, (T - g * x1) * 1073741824 + y0 < g * x0 → dig X V k ≤ g - 1) := by
                intro g hc
                exact dig_down (T := T) wX wV Hn.out (by rw [LX.out]; omega) (by rw [hx1]; exact bV1') hV0.out HLt.out (by rw [← HU2.out, hy2, hy1]; exact hT) (by rw [hx1, hy0, hx0]; exact hc)
              have DB : Hid (0 ≤ dig X V k ∧ dig X V k < 1073741824) := by have h := dig_bd wX hV0.out HLt.out; exact ⟨h.1, h.2.1⟩
              have w1' : IntKind.i64.wrap (y2 * 1073741824) = y2 * 1073741824 := wrap_self _ (by omega) (by omega)
              have w2' : IntKind.i64.wrap (y2 * 1073741824 + y1) = T := by rw [hT]; exact wrap_self _ (by omega) (by omega)
              have t0 : 0 ≤ T := by omega
              have t1 : T < 1152921504606846976 := by omega
              have HU2' : Hid (nth X (k + V.length) = y2) := hy2
              clear hy2 hy1 hy0 hx1 hx0 hT HU2
              have u1 : T.tdiv x1 = T / x1 := Int.tdiv_eq_ediv_of_nonneg t0
              have u3 : IntKind.i64.wrap (T / x1) = T / x1 := wrap_self _ (by have := Int.ediv_nonneg t0 bV1.1; omega) (by have := Int.ediv_le_self x1 t0; omega)
              have nz : (x1 == 0) = false := by rw [beq_eq_false_iff_ne]; omega
              have nz2 : ¬ x1 = 0 := by omega
              obtain ⟨G0, hG0⟩ : ∃ G0 : Int, (if 1073741823 < T / x1 then 1073741823 else T / x1) = G0 := ⟨_, rfl⟩
              have GS : Hid (dig X V k ≤ G0 ∧ 0 ≤ G0 ∧ G0 ≤ 1073741823 ∧ G0 * x1 ≤ T) := by
                have e1 : T / x1 * x1 ≤ T := Int.ediv_mul_le T nz2
                have e0 : 0 ≤ T / x1 := Int.ediv_nonneg t0 bV1.1
                have a := DS.out
                have b := DB.out
                have hg : G0 ≤ T / x1 ∧ dig X V k ≤ G0 ∧ 0 ≤ G0 ∧ G0 ≤ 1073741823 := by rw [← hG0]; split <;> omega
                have := Int.mul_le_mul_of_nonneg_right hg.1 bV1.1
                exact ⟨hg.2.1, hg.2.2.1, hg.2.2.2, by omega⟩
              go_wp2_with fail
              go_quiet (fail)
              go_upto_block 6 with fail
              go_cut [15] (fun g wc => ∃ (G : Int) (m : Nat), g = .int .i64 G ∧ dig X V k ≤ G ∧ 0 ≤ G ∧ G ≤ 1073741823 ∧ wc = wo.drewN m)
              case first =>
                go_wp2_with fail
                go_loopw [15] (fun g wr => ∃ (G : Int) (m : Nat), g = .int .i64 G ∧ dig X V k ≤ G ∧ 0 ≤ G ∧ G ≤ 1073741823 ∧ G * x1 ≤ T ∧ wr = wo.drewN m) (fun g _ => (intOf g).toNat)
                case atStart => exact ⟨_, _, rfl, GS.out.1, GS.out.2.1, GS.out.2.2.1, GS.out.2.2.2, rfl⟩
                case round =>
                  obtain ⟨G, m, rfl, g1, g2, g3, g4, rfl⟩ := hrel
                  have G1 : Hid (dig X V k ≤ G) := g1
                  clear g1
                  obtain ⟨D, hD⟩ : ∃ D, T - G * x1 = D := ⟨_, rfl⟩
                  have gp := Int.mul_nonneg g2 bV1.1
                  have d1 : IntKind.i64.wrap (G * x1) = G * x1 := wrap_self _ (by omega) (by omega)
                  have d2 : IntKind.i64.wrap (T - G * x1) = D := by rw [hD]; exact wrap_self _ (by omega) (by omega)
                  have d3 : 0 ≤ D := by omega
                  by_cases hDl : D < 1073741824
                  · have hd : decide (D < 1073741824) = true := by simp [hDl]
                    have gp0 := Int.mul_nonneg g2 bV0.1
                    have gp1 := Int.mul_le_mul_of_nonneg_right g3 bV0.1
                    obtain ⟨E, hE⟩ : ∃ E, G * x0 = E := ⟨_, rfl⟩
                    obtain ⟨F, hF⟩ : ∃ F, D * 1073741824 + y0 = F := ⟨_, rfl⟩
                    have d4 : IntKind.i64.wrap (G * x0) = E := by rw [hE]; exact wrap_self _ (by omega) (by omega)
                    have d5 : IntKind.i64.wrap (D * 1073741824) = D * 1073741824 := wrap_self _ (by omega) (by omega)
                    have d6 : IntKind.i64.wrap (D * 1073741824 + y0) = F := by rw [hF]; exact wrap_self _ (by omega) (by omega)
                    by_cases hEF : F < E
                    ·
                      have he : decide (F < E) = true := by simp [hEF]
                      have DN : Hid (dig X V k ≤ G - 1) := DD.out G (by rw [hD, hF, hE]; exact hEF)
                      have GN : Hid ((G - 1) * x1 ≤ T) := le_less g4 bV1.1
                      have G1' : 1 ≤ G := by have := DN.out; have := DB.out; omega
                      have GN2 : Hid (0 ≤ G - 1 ∧ G - 1 ≤ 1073741823) := ⟨by omega, by omega⟩
                      clear hD hE hF
                      go_wp2_with fail
                      go_quiet (fail)
                      go_wp2
                      go_roundw
                      case rel => exact ⟨G - 1, _, rfl, DN.out, GN2.out.1, GN2.out.2, GN.out, rfl⟩
                      case measure => exact down_one G1'
                    ·
                      have he : decide (F < E) = false := by simp; omega
                      clear hD hE hF
                      go_wp2_with fail
                      go_quiet (fail)
                      go_wp2
                      go_meet
                      case rel => exact ⟨G, _, rfl, G1.out, g2, g3, drewN_two _ _ _⟩
                  ·
                    have hd : decide (D < 1073741824) = false := by simp; omega
                    clear hD
                    go_wp2_with fail
                    go_quiet (fail)
                    go_wp2
                    go_meet
                    case rel => exact ⟨G, _, rfl, G1.out, g2, g3, drewN_two _ _ _⟩
              case rest =>
                obtain ⟨G, m, rfl, g1, g2, g3, rfl⟩ := hcut
                have G1 : Hid (dig X V k ≤ G) := g1
                have hLay1 : Hid (Lay w (wo.drewN m) bv ov gU gQ V X Q) := hLay.drewN m
                clear g1 hLay cU2 cU1 cU0 cV1 cV0 bU2 bU1 bU0 bV1 bV0 bV1' DS DD w1' w2' t0 t1 u1 u3 nz nz2 GS hG0 HU2'
                clear i2 i3 i4 i5 i6 i7 i8 i9
                go_wp2_with fail
                go_loopw [16, 17] (fun c i wr => ∃ (i' : Nat) (cy : Int) (Y : List Int), i' ≤ V.length ∧ c = .int .i64 cy ∧ i = .int .i64 i' ∧ Sb X V k G i' cy Y ∧ Lay w wr bv ov gU gQ V Y Q) (fun _ i _ => V.length - (intOf i).toNat)
                case atStart => exact ⟨0, 0, X, Nat.zero_le _, rfl, rfl, Sb.start wX, hLay1.out⟩
                case round =>
                  clear hLay1
                  obtain ⟨i, cy, Y, hi, rfl, rfl, hSb, hLay⟩ := hrel
                  have lY : Hid (Y.length = M + V.length) := hSb.len.trans LX.out
                  by_cases hlt6 : i < V.length
                  · have q1 := hLay.atU (k := i + k) (by rw [lY.out]; omega)
                    have q2 := hLay.cv.at (i := i) hlt6
                    have q3 := hLay.freeU (i + k)
                    have b1 := nth_bd hSb.wd (i + k)
                    have b2 := nth_bd wV i
                    have z1 : (0 : Int) ≤ (i : Int) + k := by omega
                    have z2 : ((i : Int) + k).toNat = i + k := by omega
                    obtain ⟨y, hy⟩ : ∃ y, nth Y (i + k) = y := ⟨_, rfl⟩
                    obtain ⟨v, hv⟩ : ∃ v, nth V i = v := ⟨_, rfl⟩
                    rw [hy] at q1 b1
                    rw [hv] at q2 b2
                    have bd := sb_bd b1.1 b1.2 hSb.c0 hSb.c1 g2 g3 b2.1 b2.2
                    obtain ⟨x, hx⟩ : ∃ x, y - cy - G * v = x := ⟨_, rfl⟩
                    have e1 := bd.1
                    have e2 := bd.2.1
                    have e3 : IntKind.i64.wrap (y - cy - G * v) = x := bd.2.2.1.trans hx
                    have e4 := bd.2.2.2
                    rw [hx] at e4
                    clear bd
                    have i6 : Hid (i + 1 ≤ V.length) := hlt6
                    have i7 : Hid (i + k < Y.length) := by show i + k < Y.length; rw [lY.out]; omega
                    have i8 : Hid (k + V.length < X.length) := by show k + V.length < X.length; rw [LX.out]; omega
                    by_cases hxn : x < 0
                    · 
                      obtain ⟨Z, hZ⟩ : ∃ Z, -x + 1073741824 - 1 = Z := ⟨_, rfl⟩
                      have R := sb_neg b1.1 b1.2 hSb.c0 hSb.c1 g3 b2.1 b2.2 hx hZ hxn
                      have NX : Hid (Sb X V k G (i + 1) (Z / 1073741824) (Y.set (i + k) (x + Z / 1073741824 * 1073741824))) := by
                        have := hSb.next (x' := x + Z / 1073741824 * 1073741824) (c' := Z / 1073741824) i8.out hlt6 R.1.2.2.1 R.1.2.2.2.1 R.1.1 R.1.2.1 (by rw [Nat.add_comm k i, hy, hv]; exact R.1.2.2.2.2)
                        rwa [Nat.add_comm k i] at this
                      have LN : Hid (∀ m, Lay w ((wr.drewN m).setCell ⟨gU, i + k, none⟩ (.int .i64 (x + Z / 1073741824 * 1073741824))) bv ov gU gQ V (Y.set (i + k) (x + Z / 1073741824 * 1073741824)) Q) := fun m => (hLay.drewN m).setU (i + k) i7.out _
                      obtain ⟨R1, f4, f8, f1, f2, f3, f5, f6⟩ := R
                      clear R1
                      have f7 : Z.tdiv 1073741824 = Z / 1073741824 := Int.tdiv_eq_ediv_of_nonneg f4
                      clear hx hy hv hZ b1 b2
                      go_wp2_with fail
                      go_quiet (fail)
                      go_wp2
                      go_roundw
                      case rel => exact ⟨i + 1, _, _, i6.out, rfl, rfl, NX.out, LN.out _⟩
                      case measure => exact up_one hlt6
                    ·
                      have x0 : 0 ≤ x := by omega
                      have NX : Hid (Sb X V k G (i + 1) 0 (Y.set (i + k) x)) := by
                        have := hSb.next (x' := x) (c' := 0) i8.out hlt6 x0 e4.2 (Int.le_refl 0) (by decide) (by rw [Nat.add_comm k i, hy, hv, hx]; simp)
                        rwa [Nat.add_comm k i] at this
                      have LN : Hid (∀ m, Lay w ((wr.drewN m).setCell ⟨gU, i + k, none⟩ (.int .i64 x)) bv ov gU gQ V (Y.set (i + k) x) Q) := fun m => (hLay.drewN m).setU (i + k) i7.out _
                      clear hx hy hv b1 b2
                      go_wp2_with fail
                      go_quiet (fail)
                      go_wp2
                      go_roundw
                      case rel => exact ⟨i + 1, _, _, i6.out, rfl, rfl, NX.out, LN.out _⟩
                      case measure => exact up_one hlt6
                  · have ei : Hid (i = V.length) := show i = V.length by omega
                    have hSb2 : Hid (Sb X V k G V.length cy Y) := by have := hSb; rw [ei.out] at this; exact this
                    have hl8 : k + V.length < X.length := by rw [LX.out]; omega
                    have hM8 : Hid _ := hSb2.out.mid hl8
                    have q1 := hLay.atU (k := k + V.length) (by rw [lY.out]; omega)
                    have q3 := hLay.freeU (k + V.length)
                    have b1 := nth_bd hSb.wd (k + V.length)
                    obtain ⟨y, hy⟩ : ∃ y, nth Y (k + V.length) = y := ⟨_, rfl⟩
                    rw [hy] at q1 b1 hM8
                    have e1 : IntKind.i64.wrap (y - cy) = y - cy := wrap_self _ (by have := hSb.c0; have := hSb.c1; omega) (by have := hSb.c0; have := hSb.c1; omega)
                    have LN : Hid (Lay w (wr.setCell ⟨gU, k + V.length, none⟩ (.int .i64 (y - cy))) bv ov gU gQ V (Y.set (k + V.length) (y - cy)) Q) := hLay.setU (k + V.length) (by rw [lY.out]; omega) _
                    have b3 : Hid (-1073741824 ≤ y - cy ∧ y - cy < 1073741824) := ⟨hM8.out.2.1, hM8.out.2.2⟩
                    have NT : Hid (nth (Y.set (k + V.length) (y - cy)) (k + V.length) = y - cy) := nth_set_same _ _ _ (by rw [lY.out]; omega)
                    clear hSb hSb2 ei lY hy b1 hi
                    go_wp2_with fail
                    clear q1 q3 e1 hLay
                    go_loopw [15] (fun g wr => ∃ (G' : Int) (Y' : List Int), g = .int .i64 G' ∧ dig X V k ≤ G' ∧ G' ≤ 1073741823 ∧ Mid X V k G' Y' ∧ -1073741824 ≤ nth Y' (k + V.length) ∧ nth Y' (k + V.length) < 1073741824 ∧ Lay w wr bv ov gU gQ V Y' Q) (fun g _ => (intOf g).toNat)
                    case atStart => exact ⟨G, _, rfl, G1.out, g3, hM8.out.1, by rw [NT.out]; exact b3.out.1, by rw [NT.out]; exact b3.out.2, LN.out⟩
                    case round =>
                      clear hM8 b3 NT LN G1 g2 g3
                      obtain ⟨G', Y', rfl, g1, g3, hMid, t0, t1, hLay⟩ := hrel
                      have G1 : Hid (dig X V k ≤ G') := g1
                      have g2 : 0 ≤ G' := by have := DB.out; omega
                      have lY : Hid (Y'.length = M + V.length) := hMid.len.trans LX.out
                      have q1 := hLay.atU (k := k + V.length) (by rw [lY.out]; omega)
                      clear g1
                      obtain ⟨t', ht'⟩ : ∃ y, nth Y' (k + V.length) = y := ⟨_, rfl⟩
                      rw [ht'] at q1 t0 t1
                      have HT' : Hid (nth Y' (k + V.length) = t') := ht'
                      clear ht'
                      obtain ⟨wm, rfl⟩ : ∃ wm : World, wm = wr := ⟨_, rfl⟩
                      by_cases htn : t' < 0
                      · have DN : Hid (dig X V k ≤ G' - 1) := hMid.neg wX wV hl8 hV0.out HLt.out (by rw [HT'.out]; exact htn)
                        have G1' : 1 ≤ G' := by have := DN.out; have := DB.out; omega
                        have GN2 : Hid (G' - 1 ≤ 1073741823) := show G' - 1 ≤ 1073741823 by omega
                        go_wp2_with fail
                        go_loopw [16, 19] (fun c i wr => ∃ (i' : Nat) (cy : Int) (Z : List Int), i' ≤ V.length ∧ c = .int .i64 cy ∧ i = .int .i64 i' ∧ Ad Y' V k i' cy Z ∧ Lay w wr bv ov gU gQ V Z Q) (fun _ i _ => V.length - (intOf i).toNat)
                        case atStart => exact ⟨0, 0, Y', Nat.zero_le _, rfl, rfl, Ad.start hMid.wd, hLay⟩
                        case round =>
                          obtain ⟨i, cy, Z, hi, rfl, rfl, hAd, hLay2⟩ := hrel
                          have lZ : Hid (Z.length = M + V.length) := hAd.len.trans lY.out
                          by_cases hlt6 : i < V.length
                          ·
                            have q4 := hLay2.atU (k := i + k) (by rw [lZ.out]; omega)
                            have q2 := hLay2.cv.at (i := i) hlt6
                            have q3 := hLay2.freeU (i + k)
                            have b1 := bd_of_set hAd.wd (i := i + k) (by omega)
                            have b2 := nth_bd wV i
                            have z1 : (0 : Int) ≤ (i : Int) + k := by omega
                            have z2 : ((i : Int) + k).toNat = i + k := by omega
                            obtain ⟨y, hy⟩ : ∃ y, nth Z (i + k) = y := ⟨_, rfl⟩
                            obtain ⟨v, hv⟩ : ∃ v, nth V i = v := ⟨_, rfl⟩
                            rw [hy] at q4 b1
                            rw [hv] at q2 b2
                            obtain ⟨S, hS⟩ : ∃ S, cy + (y + v) = S := ⟨_, rfl⟩
                            have c0 := hAd.c0
                            have c1 := hAd.c1
                            have e1 : IntKind.i64.wrap (y + v) = y + v := wrap_self _ (by omega) (by omega)
                            have e2 : IntKind.i64.wrap (cy + (y + v)) = S := by rw [hS]; exact wrap_self _ (by omega) (by omega)
                            have s0 : 0 ≤ S := by omega
                            have s1 : S < 4294967296 := by omega
                            have i6 : Hid (i + 1 ≤ V.length) := hlt6
                            have i7 : Hid (i + k < Z.length) := by show i + k < Z.length; rw [lZ.out]; omega
                            have i9 : Hid (k + V.length < Y'.length) := by show k + V.length < Y'.length; rw [lY.out]; omega
                            have NX : Hid (Ad Y' V k (i + 1) (S / 1073741824) (Z.set (i + k) (S % 1073741824))) := by
                              have := hAd.next (S := S) wV i9.out hlt6 (by rw [Nat.add_comm k i, hy, hv]; exact hS.symm)
                              rwa [Nat.add_comm k i] at this
                            have LN : Hid (∀ m, Lay w ((wr.drewN m).setCell ⟨gU, i + k, none⟩ (.int .i64 (S % 1073741824))) bv ov gU gQ V (Z.set (i + k) (S % 1073741824)) Q) := fun m => (hLay2.drewN m).setU (i + k) i7.out _
                            clear hS hy hv b1 b2 c0 c1
                            go_wp2_with fail
                            go_quiet (fail)
                            go_wp2
                            go_roundw
                            case rel => exact ⟨i + 1, _, _, i6.out, rfl, rfl, NX.out, LN.out _⟩
                            case measure => exact up_one hlt6
                          ·
                            have hAd2 : Hid (Ad Y' V k V.length cy Z) := by have ei : i = V.length := by omega
                                                                            have := hAd; rw [ei] at this; exact this
                            have hM8 : Hid _ := hAd2.out.mid hMid hl8
                            have q4 := hLay2.atU (k := k + V.length) (by rw [lZ.out]; omega)
                            have q3 := hLay2.freeU (k + V.length)
                            rw [hM8.out.2, HT'.out] at q4
                            have c0 := hAd.c0
                            have c1 := hAd.c1
                            have e1 : IntKind.i64.wrap (t' + cy) = t' + cy := wrap_self _ (by omega) (by omega)
                            have LN : Hid (Lay w (wr.setCell ⟨gU, k + V.length, none⟩ (.int .i64 (t' + cy))) bv ov gU gQ V (Z.set (k + V.length) (t' + cy)) Q) := hLay2.setU (k + V.length) (by rw [lZ.out]; omega) _
                            have NT : Hid (nth (Z.set (k + V.length) (t' + cy)) (k + V.length) = t' + cy) := nth_set_same _ _ _ (by rw [lZ.out]; omega)
                            have NM : Hid (Mid X V k (G' - 1) (Z.set (k + V.length) (t' + cy))) := by have := hM8.out.1; rw [hM8.out.2, HT'.out] at this; exact this
                            have b3 : Hid (-1073741824 ≤ t' + cy ∧ t' + cy < 1073741824) := ⟨by omega, by omega⟩
                            clear c0 c1 hAd hAd2 hM8
                            go_wp2
                            go_roundw
                            case rel => exact ⟨G' - 1, _, rfl, DN.out, GN2.out, NM.out, by rw [NT.out]; exact b3.out.1, by rw [NT.out]; exact b3.out.2, LN.out⟩
                            case measure => exact down_one G1'
                      ·
                        have R : Hid _ := hMid.done wX wV hl8 hV0.out HLt.out G1.out (by rw [HT'.out]; exact htn)
                        have q3 := hLay.freeQ k
                        have q2 := hLay.cq.at (i := k) (by rw [LQ.out]; omega)
                        rw [Nat.zero_add] at q2
                        have LN : Hid (Lay w (wm.setCell ⟨gQ, k, none⟩ (.int .i64 G')) bv ov gU gQ V Y' (Q.set k G')) := hLay.setQ k (by rw [LQ.out]; omega) _
                        have VN : Hid (val (Q.set k G') * val V + val Y' = val U) := quo_set (by rw [LQ.out]; omega) (HQ0.out k (by omega)) HVal.out hMid.eq
                        have WN : Hid (Wd (Q.set k G')) := wQ.set k g2 (by omega)
                        have ZN : Hid (∀ i, i < k → nth (Q.set k G') i = 0) := fun i hi => by rw [nth_set_other _ _ _ _ (by omega)]; exact HQ0.out i (by omega)
                        have LY2 : Hid (Y'.length = U.length) := lY.out.trans HMV.out.symm
                        have LQ2 : Hid ((Q.set k G').length = M) := by show (Q.set k G').length = M; rw [List.length_set]; exact LQ.out
                        have kM : Hid (k ≤ M) := show k ≤ M by omega
                        go_wp2
                        go_roundw
                        case rel => exact ⟨k, Y', _, kM.out, rfl, LY2.out, LQ2.out, R.out.2.1, WN.out, ZN.out, VN.out, R.out.2.2, LN.out⟩
                        case measure => simp [intOf]
            ·
              have ej : Hid (J = 0) := show J = 0 by omega
              have RV : Hid (val Q * (val ys * 2 ^ s) + val X = val xs * 2 ^ s) := by have := HVal.out; rw [HVV.out, HVU.out] at this; exact this
              have RL : Hid (val X < val ys * 2 ^ s) := by show val X < val ys * 2 ^ s; have h := HLt.out; rw [ej.out, HVV.out] at h; simpa [pw] using h
              have ub3 : M + V.length ≤ 274877906945 := by have := HM.out; have := lV.out; have := K1.out; omega
              have ub : M + V.length ≤ capU := by have := HMV.out; have := K1.out; omega
              have ub2 : capU ≤ 9223372036854775807 := K1.out.2.2.2.2.2
              have hs : s ≤ 29 := K1.out.2.2.2.1
              have hbw := hLay.below
              have SB : Hid _ := shift_back (two_le hs).1 (show 0 < val ys by have := val_low W2.out n2 (by intro h; have := K1.out.2.1; rw [h] at this; simp at this); have := pw_pos (ys.length - 1); omega) RV.out (val_nonneg wX) RL.out
              go_wp2_with (first
                | (go_at_call 115; (with_reducible refine (norm_rd (some ⟨gQ, 0, none⟩) M M Q _ LQ.out.symm wQ (by rw [LQ.out]; omega) (by omega) (fun _ => ⟨_, _, rfl, hLay.cq⟩)).mono ?_); rintro e w' ⟨nq2, zs, rfl, hrd, hnm, hvz, rfl⟩; have hvz' : Hid _ := hvz; clear hvz)
                | (go_at_call 115; (with_reducible refine (norm_rd (some ⟨gU, 0, none⟩) (M + V.length) capU X _ LX.out.symm wX (by rw [LX.out]; omega) (by omega) (fun _ => ⟨_, _, rfl, hLay.cu⟩)).mono ?_); rintro e w' ⟨nq3, rs, rfl, hrd2, hnm2, hvr, rfl⟩; have hvr' : Hid _ := hvr; clear hvr)
                | fail)
              have h8 := nm_len hrd2.1 hnm2 wX hvr'.out
              rw [LX.out] at h8
              refine (Shr_any _ rs s _ hrd2 (by omega) (by omega)).mono ?_
              rintro e w6 ⟨vr, r2, rfl, hrd3, hnm3, hvr3, hb6⟩
              have hvr3' : Hid _ := hvr3
              clear hvr3
              go_wp2
              have hq := hrd.grow hb6
              have hb7 := hbw.trans (hb6.mono hbw.size)
              have hsb := SB.out
              rw [← hvz'.out, ← hvr'.out, ← hvr3'.out] at hsb
              exact bodyPost_ret (v := .tuple #[.slice (some ⟨gQ, 0, none⟩) nq2 M, vr]) (by simp [results, Try.results114, go_sem]) rfl ⟨_, _, zs, r2, rfl, hq, hnm, hrd3, hnm3, hsb.1, hsb.2.1, hsb.2.2, hb7⟩
/-- DivMod of the reference. -/
theorem DivMod_any (v1 v2 : Value) (xs ys : List Int) (w : World) (h1 : Rd w v1 xs) (h2 : Rd w v2 ys) (n1 : Nm xs) (n2 : Nm ys) (l1 : xs.length ≤ 274877906944) (hne : 0 < val ys) :
    Calls Try.prog 114 #[v1, v2] w fun e w' => ∃ q r zs rs, e = .returned (.tuple #[q, r]) ∧ Rd w' q zs ∧ Nm zs ∧ Rd w' r rs ∧ Nm rs ∧ val xs = val zs * val ys + val rs ∧ 0 ≤ val rs ∧ val rs < val ys ∧ Below w.heap.size w w' := by
  have ly : 0 < ys.length := by
    by_cases c : 0 < ys.length
    · exact c
    · have e0 : ys = [] := List.eq_nil_of_length_eq_zero (by omega)
      rw [e0] at hne; simp [val] at hne
  by_cases hlt : val xs < val ys
  · refine (dm_less v1 v2 xs ys w h1 h2 n1 n2 l1 hlt).mono ?_
    rintro e w' ⟨rfl, hb⟩
    exact ⟨_, _, [], xs, rfl, rd_nil _, Or.inl rfl, h1.grow hb, n1, by simp [val], val_nonneg h1.1, hlt, hb⟩
  · by_cases hone : ys.length = 1
    · exact dm_one v1 v2 xs ys w h1 h2 n1 n2 l1 (by omega) hone
    · have hll : ys.length ≤ xs.length := by
        by_cases c : ys.length ≤ xs.length
        · exact c
        · have := val_lt_of_length h1.1 h2.1 n2 (by omega); omega
      have h2' := h2
      obtain ⟨_, a2, c2, rfl, _, _, g2⟩ := h2'
      obtain ⟨b2, o2, rfl, cs2⟩ := g2 ly
      exact dm_long v1 b2 o2 c2 xs ys w h1 h2 n1 n2 l1 (by omega) (by omega) hll cs2
end Go.Proofs.Ytlngkonmalallaa.L

namespace Go.Proofs.Ytlngkonmalallaa.L
open Go.RowKit Tl

/-- The number that a row holds. -/
def cellNum (w : World) (p : Addr) : Int := match w.cell? p with | some (.int _ x) => x | _ => 0
def rowNum (w : World) : Value → Nat
  | .slice (some p) l _ => (val ((List.range l).map fun i => cellNum w ⟨p.block, p.off + i, none⟩)).toNat
  | _ => 0
theorem rowNum_rd {w : World} {v : Value} {xs : List Int} (h : Rd w v xs) : rowNum w v = (val xs).toNat := by
  obtain ⟨_, a, c, rfl, _, _, g⟩ := h
  by_cases h0 : xs = []
  · subst h0; cases a <;> simp [rowNum, val]
  · obtain ⟨b, o, rfl, hc⟩ := g (List.length_pos_iff.2 h0)
    simp only [rowNum]
    congr 2
    apply List.ext_getElem?
    intro i
    by_cases hi : i < xs.length
    · have := hc i hi
      simp [List.getElem?_map, List.getElem?_range hi, cellNum, this, nth, List.getD_eq_getElem?_getD, List.getElem?_eq_getElem hi]
    · rw [List.getElem?_eq_none (by simp; omega), List.getElem?_eq_none (by omega)]
theorem len_mono {A B : List Int} (hA : Wd A) (hB : Wd B) (nB : Nm B) (h : val B ≤ val A) : B.length ≤ A.length := by
  by_cases c : B.length ≤ A.length
  · exact c
  · have := val_lt_of_length hA hB nB (by omega); omega
theorem gcd_of_div {a b z r : Int} (h : a = z * b + r) : Int.gcd b r = Int.gcd a b := by
  have e : r = a - z * b := by omega
  rw [e, Int.gcd_comm a b, Int.mul_comm, Int.gcd_sub_mul_left_right]
theorem gcd_nought {a : Int} (h : 0 ≤ a) : a = (Int.gcd a 0 : Int) := by
  rw [Int.gcd_zero_right]; omega
theorem nm_pos {xs : List Int} (h : Wd xs) (n : Nm xs) (l : 0 < xs.length) : 0 < val xs := by
  have := val_low h n (by intro e; rw [e] at l; simp at l)
  have := pw_pos (xs.length - 1)
  omega
theorem nm_nil {xs : List Int} (l : ¬ 0 < xs.length) : xs = [] := List.eq_nil_of_length_eq_zero (by omega)
set_option maxHeartbeats 1600000 in
set_option maxRecDepth 100000 in
/-- Gcd of the reference. -/
theorem Gcd_any (v1 v2 : Value) (xs ys : List Int) (L : Nat) (w : World) (h1 : Rd w v1 xs) (h2 : Rd w v2 ys) (n1 : Nm xs) (n2 : Nm ys) (l1 : xs.length ≤ L) (l2 : ys.length ≤ L) (hL : L ≤ 274877906944) :
    Calls Try.prog 113 #[v1, v2] w fun e w' => ∃ r zs, e = .returned r ∧ Rd w' r zs ∧ Nm zs ∧ val zs = (Int.gcd (val xs) (val ys) : Int) ∧ zs.length ≤ L ∧ Below w.heap.size w w' := by
  obtain ⟨G, hG⟩ : ∃ G, Int.gcd (val xs) (val ys) = G := ⟨_, rfl⟩
  rw [hG]
  go_enter Try.func113, Try.ntmps113
  go_wp2_with fail
  go_loopw [0, 1] (fun a b wr => ∃ A B, Rd wr a A ∧ Nm A ∧ Rd wr b B ∧ Nm B ∧ Int.gcd (val A) (val B) = G ∧ A.length ≤ L ∧ B.length ≤ L ∧ Below w.heap.size w wr) (fun _ b wr => rowNum wr b)
  case atStart => exact ⟨xs, ys, h1, n1, h2, n2, hG, l1, l2, Below.refl _ _⟩
  case round =>
    obtain ⟨A, B, hA, nA, hB, nB, hg, lA, lB, hb⟩ := hrel
    have HG : Hid (Int.gcd (val A) (val B) = G) := hg
    have hB' : Hid (Rd wr u1 B) := hB
    obtain ⟨wB, a2, c2, rfl, _, _, _⟩ := hB
    clear hg hG
    by_cases hlt : 0 < B.length
    · have MB : Hid _ := rowNum_rd hB'.out
      have vB := nm_pos wB nB hlt
      go_wp2_with (first
        | (go_at_call 114; (refine (DivMod_any _ _ A B _ hA hB'.out nA nB (by omega) vB).mono ?_); rintro e w2 ⟨q, r, zs, rs, rfl, hq, nq, hr, nr, hv, r0, r1, hb2⟩)
        | fail)
      go_roundw
      case rel => exact ⟨B, rs, hB'.out.grow hb2, nB, hr, nr, (gcd_of_div hv).trans HG.out, lB, Nat.le_trans (len_mono wB hr.1 nr (by omega)) lB, hb.trans (hb2.mono hb.size)⟩
      case measure =>
        show rowNum w2 r < rowNum wr _
        rw [MB.out, rowNum_rd hr]; omega
    · have e0 : Hid (B = []) := nm_nil hlt
      have RG : Hid (val A = (G : Int)) := by
        have := HG.out
        rw [e0.out] at this
        show val A = (G : Int)
        rw [← this]
        exact gcd_nought (val_nonneg hA.1)
      go_wp2
      go_ret
      exact ⟨_, A, rfl, hA, nA, RG.out, lA, hb⟩
end Go.Proofs.Ytlngkonmalallaa.L

namespace Tn
/-- The number of a row of words of 64 bits, the lowest first. -/
def val : List Int → Int
  | [] => 0
  | x :: xs => x + 18446744073709551616 * val xs
/-- The unit behind n words. -/
def pw : Nat → Int
  | 0 => 1
  | n + 1 => 18446744073709551616 * pw n
/-- Each is a word. -/
def Wd (xs : List Int) : Prop := ∀ x, x ∈ xs → 0 ≤ x ∧ x < 18446744073709551616

theorem pw_pos (n : Nat) : 0 < pw n := by
  induction n with
  | zero => simp [pw]
  | succ n ih => simp only [pw]; omega
theorem pw_add (m n : Nat) : pw (m + n) = pw m * pw n := by
  induction m with
  | zero => simp [pw]
  | succ m ih => rw [Nat.succ_add]; simp only [pw, ih]; grind
theorem pw_mono {m n : Nat} (h : m ≤ n) : pw m ≤ pw n := by
  obtain ⟨k, rfl⟩ := Nat.exists_eq_add_of_le h
  rw [pw_add]
  have h1 := pw_pos m
  have h2 : 1 ≤ pw k := pw_pos k
  have := Int.mul_le_mul_of_nonneg_left h2 (Int.le_of_lt h1)
  omega
theorem Wd.nil : Wd [] := by intro x h; simp at h
theorem Wd.cons {x : Int} {xs : List Int} (h0 : 0 ≤ x) (h1 : x < 18446744073709551616) (h : Wd xs) : Wd (x :: xs) := by
  intro y hy
  rcases List.mem_cons.1 hy with rfl | hy
  · exact ⟨h0, h1⟩
  · exact h y hy
theorem Wd.head {x : Int} {xs : List Int} (h : Wd (x :: xs)) : 0 ≤ x ∧ x < 18446744073709551616 := h x (by simp)
theorem Wd.tail {x : Int} {xs : List Int} (h : Wd (x :: xs)) : Wd xs := fun y hy => h y (by simp [hy])
theorem Wd.append {xs ys : List Int} (h : Wd xs) (k : Wd ys) : Wd (xs ++ ys) := by
  intro y hy
  rcases List.mem_append.1 hy with hy | hy
  · exact h y hy
  · exact k y hy
theorem Wd.left {xs ys : List Int} (h : Wd (xs ++ ys)) : Wd xs := fun y hy => h y (by simp [hy])
theorem Wd.right {xs ys : List Int} (h : Wd (xs ++ ys)) : Wd ys := fun y hy => h y (by simp [hy])
theorem Wd.take {xs : List Int} (h : Wd xs) (n : Nat) : Wd (xs.take n) := fun y hy => h y (List.mem_of_mem_take hy)
theorem Wd.drop {xs : List Int} (h : Wd xs) (n : Nat) : Wd (xs.drop n) := fun y hy => h y (List.mem_of_mem_drop hy)
theorem Wd.set {xs : List Int} (h : Wd xs) (n : Nat) {v : Int} (h0 : 0 ≤ v) (h1 : v < 18446744073709551616) : Wd (xs.set n v) := by
  intro y hy
  rcases List.mem_or_eq_of_mem_set hy with hy | rfl
  · exact h y hy
  · exact ⟨h0, h1⟩
theorem Wd.zeros (n : Nat) : Wd (List.replicate n 0) := by
  intro y hy; have := List.eq_of_mem_replicate hy; omega
theorem Wd.get {xs : List Int} (h : Wd xs) (i : Nat) : 0 ≤ xs.getD i 0 ∧ xs.getD i 0 < 18446744073709551616 := by
  by_cases hi : i < xs.length
  · simp only [List.getD_eq_getElem?_getD, List.getElem?_eq_getElem hi, Option.getD_some]; exact h _ (List.getElem_mem hi)
  · simp [List.getD_eq_getElem?_getD, List.getElem?_eq_none (Nat.le_of_not_lt hi)]

theorem val_append (xs ys : List Int) : val (xs ++ ys) = val xs + pw xs.length * val ys := by
  induction xs with
  | nil => simp [val, pw]
  | cons x xs ih => simp only [List.cons_append, val, ih, List.length_cons, pw]; grind
theorem val_nonneg {xs : List Int} (h : Wd xs) : 0 ≤ val xs := by
  induction xs with
  | nil => simp [val]
  | cons x xs ih => have := ih h.tail; have := h.head; simp only [val]; omega
theorem val_lt {xs : List Int} (h : Wd xs) : val xs < pw xs.length := by
  induction xs with
  | nil => simp [val, pw]
  | cons x xs ih => have := ih h.tail; have := h.head; simp only [val, List.length_cons, pw]; omega
theorem val_zeros (n : Nat) : val (List.replicate n 0) = 0 := by
  induction n with
  | zero => rfl
  | succ n ih => simp [List.replicate_succ, val, ih]
theorem val_split (xs : List Int) (n : Nat) (h : n ≤ xs.length) : val xs = val (xs.take n) + pw n * val (xs.drop n) := by
  conv => lhs; rw [← List.take_append_drop n xs]
  rw [val_append, List.length_take, Nat.min_eq_left h]
theorem take_succ_getD (xs : List Int) (k : Nat) (h : k < xs.length) : xs.take (k + 1) = xs.take k ++ [xs.getD k 0] := by
  rw [List.take_succ_eq_append_getElem h]; simp [List.getD_eq_getElem?_getD, List.getElem?_eq_getElem h]
theorem drop_getD (xs : List Int) (k : Nat) (h : k < xs.length) : xs.drop k = xs.getD k 0 :: xs.drop (k + 1) := by
  rw [List.drop_eq_getElem_cons h]; simp [List.getD_eq_getElem?_getD, List.getElem?_eq_getElem h]
theorem val_take_succ (xs : List Int) (k : Nat) (h : k < xs.length) : val (xs.take (k + 1)) = val (xs.take k) + pw k * xs.getD k 0 := by
  rw [take_succ_getD xs k h, val_append, List.length_take, Nat.min_eq_left (Nat.le_of_lt h)]; simp [val]
theorem take_set_succ (xs : List Int) (k : Nat) (v : Int) (h : k < xs.length) : (xs.set k v).take (k + 1) = xs.take k ++ [v] := by
  rw [take_succ_getD _ k (by simpa using h)]
  congr 1
  · rw [List.take_set]; exact List.set_eq_of_length_le (by simp; omega)
  · simp [List.getD_eq_getElem?_getD, h]
theorem drop_set_succ (xs : List Int) (k : Nat) (v : Int) : (xs.set k v).drop (k + 1) = xs.drop (k + 1) := by
  rw [List.drop_set_of_lt (by omega)]
/-- No nought at the high end. -/
def Nm (xs : List Int) : Prop := xs = [] ∨ xs.getD (xs.length - 1) 0 ≠ 0
theorem Nm.nil : Nm [] := Or.inl rfl
theorem val_low {xs : List Int} (h : Wd xs) (n : Nm xs) (ne : xs ≠ []) : pw (xs.length - 1) ≤ val xs := by
  have hl : 0 < xs.length := by cases xs with | nil => exact absurd rfl ne | cons => simp
  have e := val_split xs (xs.length - 1) (by omega)
  rw [drop_getD xs _ (by omega), Nat.sub_add_cancel hl, List.drop_length] at e
  rcases n with n | n
  · exact absurd n ne
  · have h1 := (h.get (xs.length - 1)).1
    have h2 := val_nonneg (h.take (xs.length - 1))
    have h3 := Int.mul_le_mul_of_nonneg_left (show 1 ≤ xs.getD (xs.length - 1) 0 by omega) (Int.le_of_lt (pw_pos (xs.length - 1)))
    simp only [val, Int.mul_zero, Int.add_zero] at e
    omega
theorem pw_lt {m n : Nat} (h : m < n) : pw m < pw n := by
  have := pw_mono (show m + 1 ≤ n from h); have := pw_pos m; simp only [pw] at *; omega
/-- More words, a greater number. -/
theorem val_lt_of_length {xs ys : List Int} (h : Wd xs) (k : Wd ys) (n : Nm ys) (hl : xs.length < ys.length) : val xs < val ys := by
  have h1 := val_lt h
  have h2 := val_low k n (by intro e; simp [e] at hl)
  have h3 := pw_mono (show xs.length ≤ ys.length - 1 by omega)
  omega
theorem val_eq_zero {xs : List Int} (h : Wd xs) (n : Nm xs) : val xs = 0 ↔ xs = [] := by
  constructor
  · intro e
    by_cases ne : xs = []
    · exact ne
    · have := val_low h n ne; have := pw_pos (xs.length - 1); omega
  · rintro rfl; rfl
/-- A number has one row of words. -/
theorem val_inj {xs : List Int} : ∀ {ys : List Int}, Wd xs → Wd ys → xs.length = ys.length → val xs = val ys → xs = ys := by
  induction xs with
  | nil => intro ys _ _ hl _; cases ys with | nil => rfl | cons => simp at hl
  | cons x xs ih =>
    intro ys h k hl e
    cases ys with
    | nil => simp at hl
    | cons y ys =>
      have := h.head; have := k.head
      simp only [val] at e
      have e1 : x = y := by omega
      have e2 : val xs = val ys := by omega
      rw [e1, ih h.tail k.tail (by simpa using hl) e2]
theorem val_inj_nm {xs ys : List Int} (h : Wd xs) (k : Wd ys) (m : Nm xs) (n : Nm ys) (e : val xs = val ys) : xs = ys := by
  refine val_inj h k ?_ e
  rcases Nat.lt_trichotomy xs.length ys.length with l | l | l
  · have := val_lt_of_length h k n l; omega
  · exact l
  · have := val_lt_of_length k h m l; omega
end Tn

namespace Go.Proofs.Ytlngkonmalallaa
open Go.RowKit Tn
/-- A word of a row, kept from the walk's own rules. -/
def nth (xs : List Int) (i : Nat) : Int := xs.getD i 0
theorem nth_bd {xs : List Int} (h : Wd xs) (i : Nat) : 0 ≤ nth xs i ∧ nth xs i < 18446744073709551616 := h.get i
theorem nth_set_same (xs : List Int) (k : Nat) (v : Int) (h : k < xs.length) : nth (xs.set k v) k = v := by simp [nth, List.getD_eq_getElem?_getD, h]
theorem nth_set_other (xs : List Int) (k j : Nat) (v : Int) (h : k ≠ j) : nth (xs.set k v) j = nth xs j := by simp [nth, List.getD_eq_getElem?_getD, h]
theorem nth_drop (xs : List Int) (k j : Nat) : nth (xs.drop k) j = nth xs (k + j) := by simp [nth, List.getD_eq_getElem?_getD]
theorem nth_take (xs : List Int) (k j : Nat) (h : j < k) : nth (xs.take k) j = nth xs j := by simp [nth, List.getD_eq_getElem?_getD, h]

/-- X is S, rewritten up to place k. -/
structure Part (X S : List Int) (k : Nat) : Prop where
  len : X.length = S.length
  wd : Wd X
  drop : X.drop k = S.drop k
theorem Part.refl {S : List Int} (h : Wd S) (k : Nat) : Part S S k := ⟨rfl, h, rfl⟩
theorem Part.nth {X S : List Int} {k : Nat} (h : Part X S k) : nth X k = nth S k := by
  have e := congrArg (fun l => Go.Proofs.Ytlngkonmalallaa.nth l 0) h.drop
  simpa [nth_drop] using e
theorem Part.step {X S : List Int} {k : Nat} (h : Part X S k) {v : Int} (h0 : 0 ≤ v) (h1 : v < 18446744073709551616) : Part (X.set k v) S (k + 1) := by
  refine ⟨by rw [List.length_set, h.len], h.wd.set k h0 h1, ?_⟩
  rw [drop_set_succ]
  have e := congrArg (List.drop 1) h.drop
  simpa [List.drop_drop, Nat.add_comm] using e
theorem Part.val {X S : List Int} {k : Nat} (h : Part X S k) (hk : k < S.length) (v : Int) : val ((X.set k v).take (k + 1)) = val (X.take k) + pw k * v := by
  have hl := h.len
  rw [take_set_succ X k v (by omega), val_append, List.length_take, Nat.min_eq_left (by omega)]; simp [Tn.val]
theorem Part.whole {X S : List Int} {k : Nat} (h : Part X S k) (hk : k ≤ S.length) : Tn.val X - Tn.val (X.take k) = Tn.val S - Tn.val (S.take k) := by
  have hl := h.len
  have e1 := val_split X k (by omega); have e2 := val_split S k hk; rw [h.drop] at e1; omega
theorem val_at (xs : List Int) (k : Nat) (h : k < xs.length) : val (xs.take (k + 1)) = val (xs.take k) + pw k * nth xs k := val_take_succ xs k h

/-- The cells of block b from o on hold the words xs. -/
def Cells (w : World) (b o : Nat) (xs : List Int) : Prop := ∀ i, i < xs.length → w.cell? ⟨b, o + i, none⟩ = some (.int .u64 (nth xs i))
/-- n cells of block b from o on may be written. -/
def Free (w : World) (b o n : Nat) : Prop := ∀ i, i < n → w.frozen? ⟨b, o + i, none⟩ = false

/-- Nothing that lay in w has turned, but n cells of block b from o on. -/
structure Wr (b o n : Nat) (w w' : World) : Prop where
  os : w'.os = w.os
  tape : w'.tape = w.tape
  output : w'.output = w.output
  size : w.heap.size ≤ w'.heap.size
  block : ∀ k, k < w.heap.size → k ≠ b → w'.heap[k]? = w.heap[k]?
  cell : ∀ i, (i < o ∨ o + n ≤ i) → w'.cell? ⟨b, i, none⟩ = w.cell? ⟨b, i, none⟩
  froz : ∀ i, w'.frozen? ⟨b, i, none⟩ = w.frozen? ⟨b, i, none⟩
  own : ∀ c t f, w.heap[b]? = some (.cells c t f) → ∃ c', w'.heap[b]? = some (.cells c' t f) ∧ c'.size = c.size

theorem Wr.refl (b o n : Nat) (w : World) : Wr b o n w w := ⟨rfl, rfl, rfl, Nat.le_refl _, fun _ _ _ => rfl, fun _ _ => rfl, fun _ => rfl, fun c _ _ h => ⟨c, h, rfl⟩⟩
theorem Wr.trans {b o n : Nat} {x y z : World} (h : Wr b o n x y) (k : Wr b o n y z) : Wr b o n x z :=
  ⟨k.os.trans h.os, k.tape.trans h.tape, k.output.trans h.output, Nat.le_trans h.size k.size, fun i hi hb => (k.block i (Nat.lt_of_lt_of_le hi h.size) hb).trans (h.block i hi hb),
    fun i hi => (k.cell i hi).trans (h.cell i hi), fun i => (k.froz i).trans (h.froz i), fun c t f e => by obtain ⟨c1, e1, s1⟩ := h.own c t f e; obtain ⟨c2, e2, s2⟩ := k.own c1 t f e1; exact ⟨c2, e2, s2.trans s1⟩⟩
theorem Wr.drew {b o n : Nat} {x y : World} (h : Wr b o n x y) : Wr b o n x y.drew := ⟨h.os, h.tape, h.output, h.size, h.block, h.cell, h.froz, h.own⟩
theorem Wr.drewN {b o n : Nat} {x y : World} (h : Wr b o n x y) (m : Nat) : Wr b o n x (y.drewN m) := ⟨h.os, h.tape, h.output, h.size, h.block, h.cell, h.froz, h.own⟩
theorem Wr.mono {b o n o' n' : Nat} {x y : World} (h : Wr b o n x y) (h1 : o' ≤ o) (h2 : o + n ≤ o' + n') : Wr b o' n' x y := ⟨h.os, h.tape, h.output, h.size, h.block, fun i hi => h.cell i (by omega), h.froz, h.own⟩
theorem Wr.setCell {b o n : Nat} {x y : World} (h : Wr b o n x y) (i : Nat) (hi : o ≤ i ∧ i < o + n) (v : Value) : Wr b o n x (y.setCell ⟨b, i, none⟩ v) :=
  h.trans ⟨rfl, rfl, rfl, by simp [World.setCell], fun k _ hb => Below.heap_setCell _ _ _ _ hb, fun j hj => World.cell?_setCell_other _ _ _ _ (by simp), fun j => World.frozen?_setCell _ _ _ _, fun c t f e => ⟨c.setIfInBounds i v, by simp [World.setCell, Array.getElem?_modify, e], by simp⟩⟩
theorem Wr.below {b o n : Nat} {x y : World} (h : Wr b o n x y) {B : Nat} (hB : B ≤ b) (hB' : B ≤ x.heap.size) : Below B x y :=
  ⟨h.os, h.tape, h.output, h.size, fun k hk => h.block k (by omega) (by omega)⟩
theorem Wr.of_below {b o n : Nat} {x y : World} (h : Below x.heap.size x y) (hb : b < x.heap.size) : Wr b o n x y :=
  ⟨h.os, h.tape, h.output, h.size, fun k hk _ => h.block k hk, fun _ _ => h.cell hb, fun _ => h.frozen hb, fun c _ _ e => ⟨c, (h.block b hb).trans e, rfl⟩⟩
theorem Wr.alloc {b o n : Nat} {x y : World} (h : Wr b o n x y) (hb : b < x.heap.size) (ob : Obj) : Wr b o n x (y.alloc ob) :=
  h.trans (Wr.of_below ((Below.refl _ _).alloc (Nat.le_refl _) ob) (Nat.lt_of_lt_of_le hb h.size))

theorem lt_of_cell {w : World} {b i : Nat} {v : Value} (h : w.cell? ⟨b, i, none⟩ = some v) : b < w.heap.size := by
  by_cases hb : b < w.heap.size
  · exact hb
  · simp [World.cell?, Array.getElem?_eq_none (Nat.le_of_not_lt hb)] at h
theorem Cells.lt {w : World} {b o : Nat} {xs : List Int} (h : Cells w b o xs) (ne : 0 < xs.length) : b < w.heap.size := lt_of_cell (h 0 ne)
theorem Cells.at {w : World} {b o : Nat} {xs : List Int} (h : Cells w b o xs) {i : Nat} (hi : i < xs.length) : w.cell? ⟨b, o + i, none⟩ = some (.int .u64 (nth xs i)) := h i hi
theorem Cells.below {w w' : World} {B b o : Nat} {xs : List Int} (h : Cells w b o xs) (k : Below B w w') (hb : b < B) : Cells w' b o xs := fun i hi => (k.cell (p := ⟨b, o + i, none⟩) hb).trans (h i hi)
theorem Cells.grow {w w' : World} {b o : Nat} {xs : List Int} (h : Cells w b o xs) (k : Below w.heap.size w w') : Cells w' b o xs := fun i hi => (k.cell (p := ⟨b, o + i, none⟩) (lt_of_cell (h i hi))).trans (h i hi)
/-- Writes to another block turn nothing here. -/
theorem Cells.other {w w' : World} {b o b' o' n' : Nat} {xs : List Int} (h : Cells w b o xs) (k : Wr b' o' n' w w') (hb : b ≠ b') : Cells w' b o xs := fun i hi =>
  (World.cell?_of_block (a := ⟨b, o + i, none⟩) (k.block b (lt_of_cell (h i hi)) hb)).trans (h i hi)
/-- Writes elsewhere in the same block turn nothing here. -/
theorem Cells.apart {w w' : World} {b o o' n' : Nat} {xs : List Int} (h : Cells w b o xs) (k : Wr b o' n' w w') (hb : o + xs.length ≤ o' ∨ o' + n' ≤ o) : Cells w' b o xs := fun i hi =>
  (k.cell (o + i) (by omega)).trans (h i hi)
theorem Cells.set {w : World} {b o : Nat} {xs : List Int} (h : Cells w b o xs) (k : Nat) (hk : k < xs.length) (v : Int) : Cells (w.setCell ⟨b, o + k, none⟩ (.int .u64 v)) b o (xs.set k v) := by
  intro i hi
  rw [List.length_set] at hi
  by_cases e : k = i
  · subst e; rw [nth_set_same _ _ _ hk]; exact World.cell?_setCell_same _ _ _ (h k hk)
  · rw [nth_set_other _ _ _ _ e, World.cell?_setCell_other _ _ _ _ (by simp)]; exact h i hi
theorem Cells.drop {w : World} {b o : Nat} {xs : List Int} (h : Cells w b o xs) (k : Nat) : Cells w b (o + k) (xs.drop k) := by
  intro i hi
  rw [List.length_drop] at hi
  rw [nth_drop, Nat.add_assoc]; exact h (k + i) (by omega)
theorem Cells.take {w : World} {b o : Nat} {xs : List Int} (h : Cells w b o xs) (k : Nat) : Cells w b o (xs.take k) := by
  intro i hi
  rw [List.length_take] at hi
  rw [nth_take _ _ _ (by omega)]; exact h i (by omega)
theorem Cells.append {w : World} {b o : Nat} {xs ys : List Int} (h : Cells w b o xs) (k : Cells w b (o + xs.length) ys) : Cells w b o (xs ++ ys) := by
  intro i hi
  rw [List.length_append] at hi
  by_cases e : i < xs.length
  · have : nth (xs ++ ys) i = nth xs i := by simp [nth, List.getD_eq_getElem?_getD, List.getElem?_append_left e]
    rw [this]; exact h i e
  · have : nth (xs ++ ys) i = nth ys (i - xs.length) := by simp [nth, List.getD_eq_getElem?_getD, List.getElem?_append_right (Nat.le_of_not_lt e)]
    rw [this]; have := k (i - xs.length) (by omega); rwa [Nat.add_assoc, Nat.add_sub_cancel' (Nat.le_of_not_lt e)] at this
theorem Free.drop {w : World} {b o n : Nat} (h : Free w b o n) (k : Nat) : Free w b (o + k) (n - k) := fun i hi => by rw [Nat.add_assoc]; exact h (k + i) (by omega)
theorem Free.mono {w : World} {b o n m : Nat} (h : Free w b o n) (k : m ≤ n) : Free w b o m := fun i hi => h i (by omega)
theorem Free.wr {w w' : World} {b o n b' o' n' : Nat} (h : Free w b o n) (k : Wr b' o' n' w w') (hb : b < w.heap.size) : Free w' b o n := fun i hi => by
  by_cases e : b = b'
  · subst e; exact (k.froz (o + i)).trans (h i hi)
  · exact (World.frozen?_of_block (a := ⟨b, o + i, none⟩) (k.block b hb e)).trans (h i hi)
theorem Free.grow {w w' : World} {b o n : Nat} (h : Free w b o n) (k : Below w.heap.size w w') (hb : b < w.heap.size) : Free w' b o n := fun i hi => (k.frozen (p := ⟨b, o + i, none⟩) hb).trans (h i hi)

/-- What lay in W is read in w1 as it was. -/
theorem bcell {W w1 : World} (hb : Below W.heap.size W w1) : (∀ b o, b < W.heap.size → w1.cell? ⟨b, o, none⟩ = W.cell? ⟨b, o, none⟩) ∧ (∀ b o, b < W.heap.size → w1.frozen? ⟨b, o, none⟩ = W.frozen? ⟨b, o, none⟩) :=
  ⟨fun b o h => hb.cell (p := ⟨b, o, none⟩) h, fun b o h => hb.frozen (p := ⟨b, o, none⟩) h⟩
theorem wcell {g o n : Nat} {W w1 : World} (hb : Wr g o n W w1) (hg : g < W.heap.size) : (∀ b i, b < g → w1.cell? ⟨b, i, none⟩ = W.cell? ⟨b, i, none⟩) ∧ (∀ b i, b < g → w1.frozen? ⟨b, i, none⟩ = W.frozen? ⟨b, i, none⟩) :=
  ⟨fun b i h => World.cell?_of_block (a := ⟨b, i, none⟩) (hb.block b (by omega) (by omega)), fun b i h => World.frozen?_of_block (a := ⟨b, i, none⟩) (hb.block b (by omega) (by omega))⟩
/-- A variable of one cell, in a block of its own. -/
structure Bx (w : World) (n : Nat) (v : Value) : Prop where
  cell : w.cell? ⟨n, 0, none⟩ = some v
  free : w.frozen? ⟨n, 0, none⟩ = false
  blk : ∃ t, w.heap[n]? = some (.cells #[v] t (0, 0))
theorem Bx.lt {w : World} {n : Nat} {v : Value} (h : Bx w n v) : n < w.heap.size := lt_of_cell h.1
theorem Bx.below {W w1 : World} {n : Nat} {v : Value} (h : Bx W n v) (k : Below W.heap.size W w1) : Bx w1 n v := ⟨(k.cell (p := ⟨n, 0, none⟩) h.lt).trans h.1, (k.frozen (p := ⟨n, 0, none⟩) h.lt).trans h.2, by obtain ⟨t, e⟩ := h.3; exact ⟨t, (k.block n h.lt).trans e⟩⟩
theorem Bx.wr {W w1 : World} {n g o m : Nat} {v : Value} (h : Bx W n v) (k : Wr g o m W w1) (hn : n ≠ g) : Bx w1 n v :=
  ⟨(World.cell?_of_block (a := ⟨n, 0, none⟩) (k.block n h.lt hn)).trans h.1, (World.frozen?_of_block (a := ⟨n, 0, none⟩) (k.block n h.lt hn)).trans h.2, by obtain ⟨t, e⟩ := h.3; exact ⟨t, (k.block n h.lt hn).trans e⟩⟩
theorem Bx.new (w : World) (v : Value) (t : TypeId) : Bx (w.alloc (.cells #[v] t)) w.heap.size v := ⟨by simp, by simp, t, heap_alloc_new _ _⟩
theorem Bx.alloc {w : World} {n : Nat} {v : Value} (h : Bx w n v) (o : Obj) : Bx (w.alloc o) n v := h.below ((Below.refl _ _).alloc (Nat.le_refl _) o)
/-- The last step: the result goes into its cell. -/
theorem below_put {B n : Nat} {w w' : World} (h : Below B w w') (hn : B ≤ n) (v : Value) : Below B w (w'.setCell ⟨n, 0, none⟩ v) := h.setCell (p := ⟨n, 0, none⟩) hn v
theorem below_alloc1 {w w1 : World} {o0 : Obj} (k : Below (w.heap.size + 1) (w.alloc o0) w1) : Below w.heap.size w w1 := by
  refine Below.trans ?_ (k.mono (by omega))
  repeat (first | exact Below.refl _ _ | (refine Below.alloc ?_ (by first | exact Nat.le_refl _ | (simp only [World.size_alloc]; omega)) _))
theorem below_alloc2 {w w1 : World} {o0 o1 : Obj} (k : Below (w.heap.size + 1 + 1) ((w.alloc o0).alloc o1) w1) : Below w.heap.size w w1 := by
  refine Below.trans ?_ (k.mono (by omega))
  repeat (first | exact Below.refl _ _ | (refine Below.alloc ?_ (by first | exact Nat.le_refl _ | (simp only [World.size_alloc]; omega)) _))
theorem below_alloc3 {w w1 : World} {o0 o1 o2 : Obj} (k : Below (w.heap.size + 1 + 1 + 1) (((w.alloc o0).alloc o1).alloc o2) w1) : Below w.heap.size w w1 := by
  refine Below.trans ?_ (k.mono (by omega))
  repeat (first | exact Below.refl _ _ | (refine Below.alloc ?_ (by first | exact Nat.le_refl _ | (simp only [World.size_alloc]; omega)) _))
theorem below_alloc4 {w w1 : World} {o0 o1 o2 o3 : Obj} (k : Below (w.heap.size + 1 + 1 + 1 + 1) ((((w.alloc o0).alloc o1).alloc o2).alloc o3) w1) : Below w.heap.size w w1 := by
  refine Below.trans ?_ (k.mono (by omega))
  repeat (first | exact Below.refl _ _ | (refine Below.alloc ?_ (by first | exact Nat.le_refl _ | (simp only [World.size_alloc]; omega)) _))
theorem below_alloc5 {w w1 : World} {o0 o1 o2 o3 o4 : Obj} (k : Below (w.heap.size + 1 + 1 + 1 + 1 + 1) (((((w.alloc o0).alloc o1).alloc o2).alloc o3).alloc o4) w1) : Below w.heap.size w w1 := by
  refine Below.trans ?_ (k.mono (by omega))
  repeat (first | exact Below.refl _ _ | (refine Below.alloc ?_ (by first | exact Nat.le_refl _ | (simp only [World.size_alloc]; omega)) _))
theorem below_alloc6 {w w1 : World} {o0 o1 o2 o3 o4 o5 : Obj} (k : Below (w.heap.size + 1 + 1 + 1 + 1 + 1 + 1) ((((((w.alloc o0).alloc o1).alloc o2).alloc o3).alloc o4).alloc o5) w1) : Below w.heap.size w w1 := by
  refine Below.trans ?_ (k.mono (by omega))
  repeat (first | exact Below.refl _ _ | (refine Below.alloc ?_ (by first | exact Nat.le_refl _ | (simp only [World.size_alloc]; omega)) _))

/-- Block b is one of words' rows that nothing has frozen. -/
def Own (w : World) (b : Nat) : Prop := ∃ c t, w.heap[b]? = some (.cells c t (0, 0))
theorem Own.free {w : World} {b : Nat} (h : Own w b) (o n : Nat) : Free w b o n := by
  obtain ⟨c, t, e⟩ := h
  intro i _
  simp [World.frozen?, e]
theorem Own.lt {w : World} {b : Nat} (h : Own w b) : b < w.heap.size := by
  obtain ⟨c, t, e⟩ := h
  by_cases hb : b < w.heap.size
  · exact hb
  · rw [Array.getElem?_eq_none (Nat.le_of_not_lt hb)] at e; simp at e
theorem Own.wr {w w' : World} {b b' o n : Nat} (h : Own w b) (k : Wr b' o n w w') : Own w' b := by
  have hb := h.lt
  obtain ⟨c, t, e⟩ := h
  by_cases e' : b = b'
  · subst e'; obtain ⟨c', e1, _⟩ := k.own c t _ e; exact ⟨c', t, e1⟩
  · exact ⟨c, t, (k.block b hb e').trans e⟩
theorem Own.grow {w w' : World} {b : Nat} (h : Own w b) (k : Below w.heap.size w w') : Own w' b := by
  have hb := h.lt
  obtain ⟨c, t, e⟩ := h
  exact ⟨c, t, (k.block b hb).trans e⟩

/-- The slice value v reads as the words xs. -/
def Rd (w : World) (v : Value) (xs : List Int) : Prop :=
  Wd xs ∧ ∃ a cap, v = .slice a xs.length cap ∧ xs.length ≤ cap ∧ cap ≤ maxLen ∧ (0 < xs.length → ∃ b o, a = some ⟨b, o, none⟩ ∧ Cells w b o xs)
theorem Rd.grow {w w' : World} {v : Value} {xs : List Int} (h : Rd w v xs) (k : Below w.heap.size w w') : Rd w' v xs := by
  obtain ⟨h1, a, cap, h2, h3, h4, h5⟩ := h
  exact ⟨h1, a, cap, h2, h3, h4, fun l => by obtain ⟨b, o, e, c⟩ := h5 l; exact ⟨b, o, e, c.grow k⟩⟩
theorem Rd.nil (w : World) : Rd w (.slice none 0 0) [] := ⟨Wd.nil, none, 0, rfl, Nat.le_refl _, by decide, fun h => by simp at h⟩
theorem Rd.put {w : World} {n : Nat} {v u : Value} {xs : List Int} (h : Rd w v xs) (hn : ∀ b o l c, v = .slice (some ⟨b, o, none⟩) l c → b ≠ n) : Rd (w.setCell ⟨n, 0, none⟩ u) v xs := by
  obtain ⟨h1, a, cap, h2, h3, h4, h5⟩ := h
  refine ⟨h1, a, cap, h2, h3, h4, fun l => ?_⟩
  obtain ⟨b, o, e, c⟩ := h5 l
  refine ⟨b, o, e, fun i hi => ?_⟩
  rw [World.cell?_setCell_other _ _ _ _ (by have := hn b o _ _ (by rw [h2, e]); simp; try omega)]
  exact c i hi
/-- A variable that holds a slice lies apart from all words: its cell may be written. -/
theorem Rd.box {w : World} {n : Nat} {v u : Value} {xs : List Int} {a : Option Addr} {l c : Nat} (h : Rd w v xs) (hb : Bx w n (.slice a l c)) : Rd (w.setCell ⟨n, 0, none⟩ u) v xs := by
  obtain ⟨h1, a, cap, h2, h3, h4, h5⟩ := h
  refine ⟨h1, a, cap, h2, h3, h4, fun l => ?_⟩
  obtain ⟨b, o, e, hc⟩ := h5 l
  refine ⟨b, o, e, fun i hi => ?_⟩
  have hne : b ≠ n := by
    rintro rfl
    obtain ⟨t, hb⟩ := hb.3
    have := hc 0 (by omega)
    simp only [World.cell?, hb] at this
    by_cases h0 : o = 0
    · subst h0; simp at this
    · simp [h0] at this
  rw [World.cell?_setCell_other _ _ _ _ (by simp; try omega)]
  exact hc i hi
theorem Cells.drew {w : World} {b o : Nat} {xs : List Int} (h : Cells w b o xs) : Cells w.drew b o xs := h
theorem Free.drew {w : World} {b o n : Nat} (h : Free w b o n) : Free w.drew b o n := h
theorem Own.drew {w : World} {b : Nat} (h : Own w b) : Own w.drew b := h
theorem Bx.drew {w : World} {n : Nat} {v : Value} (h : Bx w n v) : Bx w.drew n v := ⟨h.1, h.2, h.3⟩
theorem Wr.undrew {b o n : Nat} {x y : World} (h : Wr b o n x.drew y) : Wr b o n x y := ⟨h.os, h.tape, h.output, h.size, h.block, h.cell, h.froz, h.own⟩
theorem below_undrew {B : Nat} {x y : World} (h : Below B x.drew y) : Below B x y := ⟨h.os, h.tape, h.output, h.size, h.block⟩
theorem Rd.drew {w : World} {v : Value} {xs : List Int} (h : Rd w v xs) : Rd w.drew v xs := h.grow ((Below.refl _ _).drew)
end Go.Proofs.Ytlngkonmalallaa

namespace Go.Proofs.Ytlngkonmalallaa
open Go.RowKit Tn

/-- A block as it lies. -/
def Blk (w : World) (n : Nat) (c : Array Value) (t : TypeId) : Prop := w.heap[n]? = some (.cells c t (0, 0))
theorem Blk.lt {w : World} {n : Nat} {c : Array Value} {t : TypeId} (h : Blk w n c t) : n < w.heap.size := Own.lt ⟨c, t, h⟩
theorem Blk.below {B : Nat} {w w' : World} {n : Nat} {c : Array Value} {t : TypeId} (h : Blk w n c t) (k : Below B w w') (hn : n < B) : Blk w' n c t := (k.block n hn).trans h
theorem Blk.wr {w w' : World} {n g o m : Nat} {c : Array Value} {t : TypeId} (h : Blk w n c t) (k : Wr g o m w w') (hn : n ≠ g) : Blk w' n c t := (k.block n h.lt hn).trans h
theorem Blk.at {w : World} {n : Nat} {c : Array Value} {t : TypeId} (h : Blk w n c t) (i : Nat) : w.cell? ⟨n, i, none⟩ = c[i]? := by
  have h' : w.heap[n]? = some (.cells c t (0, 0)) := h
  simp [World.cell?, h']
theorem Blk.new (w : World) (c : Array Value) (t : TypeId) : Blk (w.alloc (.cells c t)) w.heap.size c t := heap_alloc_new _ _
theorem Blk.alloc {w : World} {n : Nat} {c : Array Value} {t : TypeId} (h : Blk w n c t) (o : Obj) : Blk (w.alloc o) n c t := h.below ((Below.refl _ _).alloc (Nat.le_refl _) o) h.lt
theorem Blk.free {w : World} {n : Nat} {c : Array Value} {t : TypeId} (h : Blk w n c t) (i : Nat) : w.frozen? ⟨n, i, none⟩ = false := by
  have h' : w.heap[n]? = some (.cells c t (0, 0)) := h
  simp [World.frozen?, h']
end Go.Proofs.Ytlngkonmalallaa
