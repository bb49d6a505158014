import Derived.Test.YtebilgnmnambnaaGreatDoorPart08
import Derived.Deep.DeepCutAuto
import Derived.Deep.CutBlock
import Derived.Test.YtebilgnmnambnaaGreatDoorPart07
import Derived.Deep.RegionHeld3
import Derived.Test.YtebilgnmnambnaaGreatDoorPart05
import Derived.WalkLawsBesides

namespace Go.Proofs.YtebilgnmnambnaaGreatDoor.L
open Go.RowKit Tl
theorem le_less {G x T : Int} (h : G * x ≤ T) (x0 : 0 ≤ x) : (G - 1) * x ≤ T := by
  have : (G - 1) * x = G * x - x := by grind
  omega
theorem drewN_two (w : World) (m n : Nat) : (w.drewN m).drewN n = w.drewN (m + n) := by simp [World.drewN, Nat.add_assoc]
theorem down_one {G : Int} (h : 1 ≤ G) : (intOf (.int .i64 (G - 1))).toNat < (intOf (.int .i64 G)).toNat := by simp [intOf]; omega
theorem sb_neg {y c g v x Z : Int} (y0 : 0 ≤ y) (y1 : y < 1073741824) (c0 : 0 ≤ c) (c1 : c ≤ 1073741824) (g1 : g ≤ 1073741823) (v0 : 0 ≤ v) (v1 : v < 1073741824) (hx : y - c - g * v = x) (hZ : -x + 1073741824 - 1 = Z) (hn : x < 0) :
    (0 ≤ Z / 1073741824 ∧ Z / 1073741824 ≤ 1073741824 ∧ 0 ≤ x + Z / 1073741824 * 1073741824 ∧ x + Z / 1073741824 * 1073741824 < 1073741824 ∧ x + Z / 1073741824 * 1073741824 = y - c - g * v + Z / 1073741824 * 1073741824) ∧
    0 ≤ Z ∧ Z < 1152921506754330624 ∧ IntKind.i64.wrap (-x) = -x ∧ IntKind.i64.wrap (-x + 1073741824) = -x + 1073741824 ∧ IntKind.i64.wrap (-x + 1073741824 - 1) = Z ∧ IntKind.i64.wrap (Z / 1073741824 * 1073741824) = Z / 1073741824 * 1073741824 ∧ IntKind.i64.wrap (x + Z / 1073741824 * 1073741824) = x + Z / 1073741824 * 1073741824 := by
  have a := Int.mul_le_mul_of_nonneg_right g1 v0
  have b : 1073741823 * v ≤ 1073741823 * 1073741823 := Int.mul_le_mul_of_nonneg_left (by omega) (by decide)
  refine ⟨⟨by omega, by omega, by omega, by omega, by omega⟩, by omega, by omega, wrap_self _ (by omega) (by omega), wrap_self _ (by omega) (by omega), ?_, wrap_self _ (by omega) (by omega), wrap_self _ (by omega) (by omega)⟩
  rw [hZ]; exact wrap_self _ (by omega) (by omega)
theorem sb_bd {y c g v : Int} (y0 : 0 ≤ y) (y1 : y < 1073741824) (c0 : 0 ≤ c) (c1 : c ≤ 1073741824) (g0 : 0 ≤ g) (g1 : g ≤ 1073741823) (v0 : 0 ≤ v) (v1 : v < 1073741824) :
    IntKind.i64.wrap (y - c) = y - c ∧ IntKind.i64.wrap (g * v) = g * v ∧ IntKind.i64.wrap (y - c - g * v) = y - c - g * v ∧ -1152921504606846976 - 2147483648 < y - c - g * v ∧ y - c - g * v < 1073741824 := by
  have a := Int.mul_le_mul_of_nonneg_right g1 v0
  have b : 1073741823 * v ≤ 1073741823 * 1073741823 := Int.mul_le_mul_of_nonneg_left (by omega) (by decide)
  have d := Int.mul_nonneg g0 v0
  exact ⟨wrap_self _ (by omega) (by omega), wrap_self _ (by omega) (by omega), wrap_self _ (by omega) (by omega), by omega, by omega⟩
theorem up_one {n i : Nat} (h : i < n) : n - (intOf (.int .i64 ((i : Int) + 1))).toNat < n - (intOf (.int .i64 (i : Int))).toNat := by simp [intOf]; omega
theorem nm_len {zs xs : List Int} (hz : Wd zs) (nz : Nm zs) (hx : Wd xs) (h : val zs = val xs) : zs.length ≤ xs.length := by
  by_cases c : zs.length ≤ xs.length
  · exact c
  · have ne : zs ≠ [] := by intro h2; rw [h2] at c; simp at c
    have a := val_low hz nz ne
    have b := val_lt hx
    have d := pw_mono (show xs.length ≤ zs.length - 1 by omega)
    omega
def lenOfS : Value → Nat
  | .slice _ n _ => n
  | _ => 0
theorem shl_pos {xs A : List Int} {s : Nat} (h : 0 < xs.length) (n : Nm xs) (hx : Wd xs) (e : val A = val xs * 2 ^ s) : 0 < A.length := by
  by_cases c : 0 < A.length
  · exact c
  · have e0 : A = [] := List.eq_nil_of_length_eq_zero (by omega)
    rw [e0] at e
    have ne : xs ≠ [] := by intro h2; rw [h2] at h; simp at h
    have lo := val_low hx n ne
    have p := pw_pos (xs.length - 1)
    have := Int.mul_pos (show 0 < val xs by omega) (show (0 : Int) < 2 ^ s from Int.pow_pos (by decide))
    simp [val] at e
    omega
set_option maxHeartbeats 4000000 in
set_option maxRecDepth 100000 in
theorem dm_long (v1 : Value) (b2 o2 c2 : Nat) (xs ys : List Int) (w : World) (h1 : Rd w v1 xs) (h2 : Rd w (.slice (some ⟨b2, o2, none⟩) ys.length c2) ys) (n1 : Nm xs) (n2 : Nm ys) (l1 : xs.length ≤ 274877906944) (hle : val ys ≤ val xs) (hl : 2 ≤ ys.length) (hll : ys.length ≤ xs.length) (cs2 : Cells w b2 o2 ys) :
    Calls Tryz.prog 142 #[v1, .slice (some ⟨b2, o2, none⟩) ys.length c2] w fun e w' => ∃ q r zs rs, e = .returned (.tuple #[q, r]) ∧ Rd w' q zs ∧ Nm zs ∧ Rd w' r rs ∧ Nm rs ∧ val xs = val zs * val ys + val rs ∧ 0 ≤ val rs ∧ val rs < val ys ∧ Below w.heap.size w w' := by
  have hc : ¬ cmp3 (val xs) (val ys) < 0 := by unfold cmp3; rw [if_neg (by omega)]; split <;> omega
  have hne1 : ((ys.length : Int) == 1) = false := by rw [beq_eq_false_iff_ne]; omega
  have ly1 : Hid (1 ≤ ys.length) := show 1 ≤ ys.length by omega
  have hR2 : Hid (∀ w', Below w.heap.size w w' → Rd w' (.slice (some ⟨b2, o2, none⟩) ys.length c2) ys) := fun w' k => h2.grow k
  have hR1 : Hid (∀ w', Below w.heap.size w w' → Rd w' v1 xs) := fun w' k => h1.grow k
  have hC2 : Hid (∀ w', Below w.heap.size w w' → Cells w' b2 o2 ys) := fun w' k => cs2.grow k
  have W1 : Hid (Wd xs) := h1.1
  have W2 : Hid (Wd ys) := h2.1
  have E1 : ∃ a1 c1, v1 = .slice a1 xs.length c1 := by obtain ⟨_, a1, c1, e, _⟩ := h1; exact ⟨a1, c1, e⟩
  obtain ⟨a1, c1, rfl⟩ := E1
  obtain ⟨t, ht⟩ : ∃ t, nth ys (ys.length - 1) = t := ⟨_, rfl⟩
  have tb : 0 < t ∧ t < 1073741824 := by
    have := nth_bd W2.out (ys.length - 1)
    rcases n2 with h | h
    · rw [h] at hl; simp at hl
    · unfold nth at ht this; omega
  have HT : Hid (nth ys (ys.length - 1) = t) := ht
  clear ht
  go_enter Tryz.func142, Tryz.ntmps142
  go_wp2_with (first
    | (go_at_call 98; refine (Cmp_any _ _ xs ys _ h1 h2 n1 n2 (by omega)).mono ?_; rintro e w1 ⟨rfl, hb⟩; have k1 := (hC2.out _ hb).at (i := ys.length - 1) (by omega); rw [HT.out] at k1)
    | fail)
  go_loop [8] (fun s => ∃ k : Nat, k ≤ 29 ∧ s = .int .i64 k ∧ t * 2 ^ k < 1073741824) (fun s => 29 - (intOf s).toNat)
  case atStart => exact ⟨0, by omega, rfl, by simp; omega⟩
  case round =>
    obtain ⟨s, hs, rfl, hts⟩ := hrel
    obtain ⟨P, hP⟩ : ∃ P, t * 2 ^ s = P := ⟨_, rfl⟩
    rw [hP] at hts
    have p0 : 0 ≤ P := by rw [← hP]; exact Int.mul_nonneg (by omega) (Int.le_of_lt (two_le hs).1)
    have pw1 : IntKind.i64.wrap (t * 2 ^ s) = P := by rw [hP]; exact wrap_self _ (by omega) (by omega)
    have HP : Hid (t * 2 ^ s = P) := hP
    clear hP
    by_cases hlt : P < 536870912
    · have s1 : s + 1 ≤ 29 := by
        by_cases c : s ≤ 28
        · omega
        · have : s = 29 := by omega
          have e := HP.out
          rw [this] at e
          have : (2 : Int) ^ 29 = 536870912 := by decide
          rw [this] at e
          omega
      have s2 : Hid (t * 2 ^ (s + 1) < 1073741824) := by have e := HP.out; show t * 2 ^ (s + 1) < 1073741824; rw [Int.pow_succ, ← Int.mul_assoc, e]; omega
      go_wp2
      go_round
      case rel => exact ⟨s + 1, s1, by go_num, s2.out⟩
      case measure => simp [intOf]; omega
    · have HTS : Hid (nth ys (ys.length - 1) * 2 ^ s < 1073741824) := by show _ < _; rw [HT.out, HP.out]; exact hts
      clear HP hts
      go_wp2_with (first
        | (go_at_call 184; (with_reducible refine (Shl_any (.slice (some ⟨b2, o2, none⟩) ys.length c2) ys s _ (hR2.out _ hb) (by omega) (by omega)).mono ?_); (rintro e w2 ⟨vV, V, rfl, hrV, hnV, hvV, hb2⟩; have HVV : Hid (val V = val ys * 2 ^ s) := hvV; have lV : Hid (V.length = ys.length) := shift_len W2.out n2 (by omega) hrV.1 hnV hs HTS.out hvV; obtain ⟨wV, aV, cV, rfl, lc1, lc2, gV⟩ := hrV; obtain ⟨bv, ov, rfl, hcV⟩ := gV (by rw [lV.out]; omega); clear gV hvV; have bV := hcV.lt (by rw [lV.out]; omega); have hbw := hb.trans (hb2.mono hb.size); have hbA := hbw.alloc hbw.size (Obj.cells #[] 3)))
        | (go_at_call 184; (with_reducible refine (Shl_any (.slice a1 xs.length c1) xs s _ (hR1.out _ hbA) (by omega) (by omega)).mono ?_); (rintro e w3 ⟨vA, A, rfl, hrA, hnA, hvA, hb3⟩; have lA : A.length ≤ xs.length + 1 := shl_len W1.out hrA.1 hnA hs hvA; have pA : 0 < A.length := shl_pos (by omega) n1 W1.out hvA; have HVA : Hid (val A = val xs * 2 ^ s) := hvA; obtain ⟨wA, aA, cA, rfl, lc3, lc4, gA⟩ := hrA; obtain ⟨bA, oA, rfl, hcA⟩ := gA pA; clear gA hvA))
        | (at_builtin; refine wpList_append_nat rfl _ _ rfl w2.heap.size w2.heap.size #[] rfl ((hb3.block _ (by simp)).trans (heap_alloc_new _ _)) rfl (Nat.le_refl _) bA oA A.length cA A rfl rfl hcA (by omega) (by have := hb3.size; simp at this; omega) ?_; (intro g cap w4 hown hg ho hcap2 hlc hcs hb4; have hb24 := ((Below.refl w2.heap.size w2).alloc (Nat.le_refl _) (Obj.cells #[] 3)).trans ((hb3.mono (by simp)).trans hb4); clear hg ho hlc hcs))
        | fail)
      go_loopw [10] (fun l wr => ∃ (U : List Int) (g cap : Nat), l = .slice (some ⟨g, 0, none⟩) U.length cap ∧ wr.ownsRow w2.heap.size 3 1 l U.length (U.map (Value.int .i64)) ∧ Wd U ∧ val U = val xs * 2 ^ s ∧ U.length ≤ xs.length + 1 ∧ 0 < U.length ∧ Below w2.heap.size w2 wr) (fun l _ => xs.length + 1 - lenOfS l)
      case atStart => exact ⟨A, g, cap, rfl, hown, wA, HVA.out, lA, pA, hb24⟩
      case round =>
        clear hown hb24 hb4 hcap2 hb3 wA HVA lA pA
        obtain ⟨U, g', cap', rfl, hown, wU, hvU, lU, pU, hb24⟩ := hrel
        have HVU : Hid (val U = val xs * 2 ^ s) := hvU
        clear hvU
        by_cases hlt3 : U.length < xs.length + 1
        · have hsz := hb24.size
          go_wp2_with (first
            | (at_builtin; (refine wpList_push rfl _ _ rfl _ U rfl w2.heap.size (own_grow hown ((Below.refl _ _).alloc (Nat.le_refl _) _)) (by omega) _ _ 0 rfl (by simp) (by simp; omega) ?_; intro l' w5 hown2 hb5; have hb6 := (hb24.alloc hsz _).trans hb5; obtain ⟨g2, cap2, rfl, _⟩ := own_parts hown2 (by simp)))
            | fail)
          go_roundw
          case rel =>
            have eL : (U ++ [0]).length = U.length + 1 := by simp
            exact ⟨U ++ [0], g2, cap2, by rw [eL], by rw [← eL]; exact hown2, wU.append (Wd.cons (by omega) (by omega) Wd.nil), by rw [val_append]; simp [val, HVU.out], by simp; omega, by simp, hb6⟩
          case measure => simp [lenOfS]; omega
        · obtain ⟨gU, capU, eU, hgU, oU, lc5, lc6, hcU⟩ := own_parts hown pU
          obtain ⟨rfl, rfl⟩ : gU = g' ∧ capU = cap' := by simp at eU; exact ⟨eU.1.symm, eU.2.symm⟩
          clear eU hown
          have hcV4 := hcV.below hb24 bV
          have hbw4 := hbw.trans (hb24.mono hbw.size)
          have szU := oU.lt
          have hN : Hid (U.length = xs.length + 1) := show U.length = xs.length + 1 by omega
          have lV2 : V.length ≤ xs.length := by rw [lV.out]; exact hll
          obtain ⟨M, hM⟩ : ∃ M, U.length = M + V.length := ⟨U.length - V.length, by omega⟩
          have HM : Hid (xs.length + 1 = M + ys.length) := by show _ = _; have := hN.out; have := lV.out; omega
          have hM0 : U.length - V.length = M := by omega
          have hM1 : (U.length : Int) - V.length = M := by omega
          have mb : M ≤ 274877906945 := by omega
          go_wp2_with (first
            | (at_make; refine wpList_make_words rfl _ _ rfl M _ _ rfl rfl (by omega) (by omega) (by omega) ?_; intro w5 k1 k2 k3 k4)
            | fail)
          have hLay : Lay w w5 bv ov gU wr.heap.size V U (List.replicate M 0) := ⟨by omega, szU, by have := hbw.size; omega, hbw4.trans (k3.mono hbw4.size), hcV4.below k3 (by omega), hcU.below k3 szU, k1, oU.grow k3, k2⟩
          have hA0 : Hid (val U < pw M * val V) := start_lt W1.out W2.out n2 (by omega) HVU.out HVV.out hs HM.out
          clear k1 k2 k3 k4 hcU hcV4 oU szU hgU hb24 hbw4 hcA lc3 lc4 hbA hb hb2 HT tb pw1 p0 hlt h1 h2 cs2 hC2 hR1 hR2 bV hcV hbw hnA
          generalize wr.heap.size = gQ at hLay ⊢
          clear wr
          have hV0 : Hid (0 < val V) := by show 0 < val V; have := val_low wV hnV (by intro h; rw [h] at lV; have := lV.out; simp at this; omega); have := pw_pos (V.length - 1); omega
          obtain ⟨n, hn⟩ : ∃ n, V.length = n + 2 := ⟨V.length - 2, by have := lV.out; omega⟩
          have Hn : Hid (V.length = n + 2) := hn
          have hn1 : V.length ≤ n + 2 := by omega
          have hn2 : n + 2 ≤ V.length := by omega
          have HMV : Hid (U.length = M + V.length) := hM
          have K1 : Hid (xs.length ≤ 274877906944 ∧ 2 ≤ ys.length ∧ ys.length ≤ xs.length ∧ s ≤ 29 ∧ U.length ≤ capU ∧ capU ≤ 9223372036854775807) := ⟨l1, hl, hll, hs, lc5, lc6⟩
          have vb : V.length ≤ 274877906945 := by omega
          clear hn hM hM0 hM1 l1 hl hll hs lc5 lc6 hle lc1 lc2 lU pU hlt3 lV2 hne1 hc ly1 hN
          go_loopw [13] (fun j wr => ∃ (J : Nat) (X Q : List Int), J ≤ M ∧ j = .int .i64 ((J : Int) - 1) ∧ X.length = U.length ∧ Q.length = M ∧ Wd X ∧ Wd Q ∧ (∀ i, i < J → nth Q i = 0) ∧ val Q * val V + val X = val U ∧ val X < pw J * val V ∧ Lay w wr bv ov gU gQ V X Q) (fun j _ => (intOf j + 1).toNat)
          case atStart => exact ⟨M, U, List.replicate M 0, Nat.le_refl _, by go_num, rfl, by simp, wU, wd_zero M, fun i _ => nth_replicate M i, by rw [val_zeros]; simp, hA0.out, hLay⟩
          case round =>
            clear hLay hA0
            obtain ⟨J, X, Q, hJ, rfl, lX, lQ, wX, wQ, hQ0, hval, hlt4, hLay⟩ := hrel
            have HVal : Hid (val Q * val V + val X = val U) := hval
            have HQ0 : Hid (∀ i, i < J → nth Q i = 0) := hQ0
            have HLt : Hid (val X < pw J * val V) := hlt4
            have LX : Hid (X.length = M + V.length) := lX.trans HMV.out
            have LQ : Hid (Q.length = M) := lQ
            clear hval hQ0 hlt4 lX lQ
            obtain ⟨wo, rfl⟩ : ∃ wo : World, wo = wr := ⟨_, rfl⟩
            by_cases hJ0 : 0 < J
            · obtain ⟨k, rfl⟩ : ∃ k, J = k + 1 := ⟨J - 1, by omega⟩
              rw [show (((k + 1 : Nat) : Int) - 1) = (k : Int) from by omega]
              have i1 : ((k : Int) + 1 - 1) = k := by omega
              have i2 : (0 : Int) ≤ (k : Int) + V.length - 1 := by omega
              have i3 : ((k : Int) + V.length - 1).toNat = k + (n + 1) := by omega
              have i4 : (0 : Int) ≤ (k : Int) + V.length - 2 := by omega
              have i5 : ((k : Int) + V.length - 2).toNat = k + n := by omega
              have i6 : (0 : Int) ≤ (V.length : Int) - 1 := by omega
              have i7 : ((V.length : Int) - 1).toNat = n + 1 := by omega
              have i8 : (0 : Int) ≤ (V.length : Int) - 2 := by omega
              have i9 : ((V.length : Int) - 2).toNat = n := by omega
              have j1 : (0 : Int) ≤ (k : Int) + V.length := by omega
              have j2 : ((k : Int) + V.length).toNat = k + V.length := by omega
              have cU2 := hLay.atU (k := k + V.length) (by rw [LX.out]; omega)
              have cU1 := hLay.atU (k := k + (n + 1)) (by rw [LX.out]; omega)
              have cU0 := hLay.atU (k := k + n) (by rw [LX.out]; omega)
              have cV1 := hLay.cv.at (i := n + 1) (by omega)
              have cV0 := hLay.cv.at (i := n) (by omega)
              have bU2 := nth_bd wX (k + V.length)
              have bU1 := nth_bd wX (k + (n + 1))
              have bU0 := nth_bd wX (k + n)
              have bV1 := nth_bd wV (n + 1)
              have bV0 := nth_bd wV n
              have bV1' : 0 < nth V (n + 1) := by
                rcases hnV with h | h
                · have := Hn.out; rw [h] at this; simp at this
                · rw [show V.length - 1 = n + 1 from by omega] at h; unfold nth at bV1 ⊢; omega
              have HU2 : Hid (nth X (k + V.length) = nth X (k + (n + 2))) := by rw [Hn.out]; rfl
              obtain ⟨y2, hy2⟩ : ∃ y, nth X (k + V.length) = y := ⟨_, rfl⟩
              obtain ⟨y1, hy1⟩ : ∃ y, nth X (k + (n + 1)) = y := ⟨_, rfl⟩
              obtain ⟨y0, hy0⟩ : ∃ y, nth X (k + n) = y := ⟨_, rfl⟩
              obtain ⟨x1, hx1⟩ : ∃ y, nth V (n + 1) = y := ⟨_, rfl⟩
              obtain ⟨x0, hx0⟩ : ∃ y, nth V n = y := ⟨_, rfl⟩
              obtain ⟨T, hT⟩ : ∃ T, y2 * 1073741824 + y1 = T := ⟨_, rfl⟩
              rw [hy2] at cU2 bU2
              rw [hy1] at cU1 bU1
              rw [hy0] at cU0 bU0
              rw [hx1] at cV1 bV1 bV1'
              rw [hx0] at cV0 bV0
              have DS : Hid (dig X V k ≤ T / x1) := by
                have h := dig_start (T := T) wX wV Hn.out (by rw [LX.out]; omega) (by rw [hx1]; exact bV1') hV0.out HLt.out (by rw [← HU2.out, hy2, hy1]; exact hT)
                rwa [hx1] at h
              have DD : Hid (∀ g : Int, (T - g * x1) * 1073741824 + y0 < g * x0 → dig X V k ≤ g - 1) := by
                intro g hc
                exact dig_down (T := T) wX wV Hn.out (by rw [LX.out]; omega) (by rw [hx1]; exact bV1') hV0.out HLt.out (by rw [← HU2.out, hy2, hy1]; exact hT) (by rw [hx1, hy0, hx0]; exact hc)
              have DB : Hid (0 ≤ dig X V k ∧ dig X V k < 1073741824) := by have h := dig_bd wX hV0.out HLt.out; exact ⟨h.1, h.2.1⟩
              have w1' : IntKind.i64.wrap (y2 * 1073741824) = y2 * 1073741824 := wrap_self _ (by omega) (by omega)
              have w2' : IntKind.i64.wrap (y2 * 1073741824 + y1) = T := by rw [hT]; exact wrap_self _ (by omega) (by omega)
              have t0 : 0 ≤ T := by omega
              have t1 : T < 1152921504606846976 := by omega
              have HU2' : Hid (nth X (k + V.length) = y2) := hy2
              clear hy2 hy1 hy0 hx1 hx0 hT HU2
              have u1 : T.tdiv x1 = T / x1 := Int.tdiv_eq_ediv_of_nonneg t0
              have u3 : IntKind.i64.wrap (T / x1) = T / x1 := wrap_self _ (by have := Int.ediv_nonneg t0 bV1.1; omega) (by have := Int.ediv_le_self x1 t0; omega)
              have nz : (x1 == 0) = false := by rw [beq_eq_false_iff_ne]; omega
              have nz2 : ¬ x1 = 0 := by omega
              obtain ⟨G0, hG0⟩ : ∃ G0 : Int, (if 1073741823 < T / x1 then 1073741823 else T / x1) = G0 := ⟨_, rfl⟩
              have GS : Hid (dig X V k ≤ G0 ∧ 0 ≤ G0 ∧ G0 ≤ 1073741823 ∧ G0 * x1 ≤ T) := by
                have e1 : T / x1 * x1 ≤ T := Int.ediv_mul_le T nz2
                have e0 : 0 ≤ T / x1 := Int.ediv_nonneg t0 bV1.1
                have a := DS.out
                have b := DB.out
                have hg : G0 ≤ T / x1 ∧ dig X V k ≤ G0 ∧ 0 ≤ G0 ∧ G0 ≤ 1073741823 := by rw [← hG0]; split <;> omega
                have := Int.mul_le_mul_of_nonneg_right hg.1 bV1.1
                exact ⟨hg.2.1, hg.2.2.1, hg.2.2.2, by omega⟩
              go_wp2_with fail
              go_quiet (fail)
              go_upto_block 6 with fail
              go_cut [15] (fun g wc => ∃ (G : Int) (m : Nat), g = .int .i64 G ∧ dig X V k ≤ G ∧ 0 ≤ G ∧ G ≤ 1073741823 ∧ wc = wo.drewN m)
              case first =>
                go_wp2_with fail
                go_loopw [15] (fun g wr => ∃ (G : Int) (m : Nat), g = .int .i64 G ∧ dig X V k ≤ G ∧ 0 ≤ G ∧ G ≤ 1073741823 ∧ G * x1 ≤ T ∧ wr = wo.drewN m) (fun g _ => (intOf g).toNat)
                case atStart => exact ⟨_, _, rfl, GS.out.1, GS.out.2.1, GS.out.2.2.1, GS.out.2.2.2, rfl⟩
                case round =>
                  obtain ⟨G, m, rfl, g1, g2, g3, g4, rfl⟩ := hrel
                  have G1 : Hid (dig X V k ≤ G) := g1
                  clear g1
                  obtain ⟨D, hD⟩ : ∃ D, T - G * x1 = D := ⟨_, rfl⟩
                  have gp := Int.mul_nonneg g2 bV1.1
                  have d1 : IntKind.i64.wrap (G * x1) = G * x1 := wrap_self _ (by omega) (by omega)
                  have d2 : IntKind.i64.wrap (T - G * x1) = D := by rw [hD]; exact wrap_self _ (by omega) (by omega)
                  have d3 : 0 ≤ D := by omega
                  by_cases hDl : D < 1073741824
                  · have hd : decide (D < 1073741824) = true := by simp [hDl]
                    have gp0 := Int.mul_nonneg g2 bV0.1
                    have gp1 := Int.mul_le_mul_of_nonneg_right g3 bV0.1
                    obtain ⟨E, hE⟩ : ∃ E, G * x0 = E := ⟨_, rfl⟩
                    obtain ⟨F, hF⟩ : ∃ F, D * 1073741824 + y0 = F := ⟨_, rfl⟩
                    have d4 : IntKind.i64.wrap (G * x0) = E := by rw [hE]; exact wrap_self _ (by omega) (by omega)
                    have d5 : IntKind.i64.wrap (D * 1073741824) = D * 1073741824 := wrap_self _ (by omega) (by omega)
                    have d6 : IntKind.i64.wrap (D * 1073741824 + y0) = F := by rw [hF]; exact wrap_self _ (by omega) (by omega)
                    by_cases hEF : F < E
                    ·
                      have he : decide (F < E) = true := by simp [hEF]
                      have DN : Hid (dig X V k ≤ G - 1) := DD.out G (by rw [hD, hF, hE]; exact hEF)
                      have GN : Hid ((G - 1) * x1 ≤ T) := le_less g4 bV1.1
                      have G1' : 1 ≤ G := by have := DN.out; have := DB.out; omega
                      have GN2 : Hid (0 ≤ G - 1 ∧ G - 1 ≤ 1073741823) := ⟨by omega, by omega⟩
                      clear hD hE hF
                      go_wp2_with fail
                      go_quiet (fail)
                      go_wp2
                      go_roundw
                      case rel => exact ⟨G - 1, _, rfl, DN.out, GN2.out.1, GN2.out.2, GN.out, rfl⟩
                      case measure => exact down_one G1'
                    ·
                      have he : decide (F < E) = false := by simp; omega
                      clear hD hE hF
                      go_wp2_with fail
                      go_quiet (fail)
                      go_wp2
                      go_meet
                      case rel => exact ⟨G, _, rfl, G1.out, g2, g3, drewN_two _ _ _⟩
                  ·
                    have hd : decide (D < 1073741824) = false := by simp; omega
                    clear hD
                    go_wp2_with fail
                    go_quiet (fail)
                    go_wp2
                    go_meet
                    case rel => exact ⟨G, _, rfl, G1.out, g2, g3, drewN_two _ _ _⟩
              case rest =>
                obtain ⟨G, m, rfl, g1, g2, g3, rfl⟩ := hcut
                have G1 : Hid (dig X V k ≤ G) := g1
                have hLay1 : Hid (Lay w (wo.drewN m) bv ov gU gQ V X Q) := hLay.drewN m
                clear g1 hLay cU2 cU1 cU0 cV1 cV0 bU2 bU1 bU0 bV1 bV0 bV1' DS DD w1' w2' t0 t1 u1 u3 nz nz2 GS hG0 HU2'
                clear i2 i3 i4 i5 i6 i7 i8 i9
                go_wp2_with fail
                go_loopw [16, 17] (fun c i wr => ∃ (i' : Nat) (cy : Int) (Y : List Int), i' ≤ V.length ∧ c = .int .i64 cy ∧ i = .int .i64 i' ∧ Sb X V k G i' cy Y ∧ Lay w wr bv ov gU gQ V Y Q) (fun _ i _ => V.length - (intOf i).toNat)
                case atStart => exact ⟨0, 0, X, Nat.zero_le _, rfl, rfl, Sb.start wX, hLay1.out⟩
                case round =>
                  clear hLay1
                  obtain ⟨i, cy, Y, hi, rfl, rfl, hSb, hLay⟩ := hrel
                  have lY : Hid (Y.length = M + V.length) := hSb.len.trans LX.out
                  by_cases hlt6 : i < V.length
                  · have q1 := hLay.atU (k := i + k) (by rw [lY.out]; omega)
                    have q2 := hLay.cv.at (i := i) hlt6
                    have q3 := hLay.freeU (i + k)
                    have b1 := nth_bd hSb.wd (i + k)
                    have b2 := nth_bd wV i
                    have z1 : (0 : Int) ≤ (i : Int) + k := by omega
                    have z2 : ((i : Int) + k).toNat = i + k := by omega
                    obtain ⟨y, hy⟩ : ∃ y, nth Y (i + k) = y := ⟨_, rfl⟩
                    obtain ⟨v, hv⟩ : ∃ v, nth V i = v := ⟨_, rfl⟩
                    rw [hy] at q1 b1
                    rw [hv] at q2 b2
                    have bd := sb_bd b1.1 b1.2 hSb.c0 hSb.c1 g2 g3 b2.1 b2.2
                    obtain ⟨x, hx⟩ : ∃ x, y - cy - G * v = x := ⟨_, rfl⟩
                    have e1 := bd.1
                    have e2 := bd.2.1
                    have e3 : IntKind.i64.wrap (y - cy - G * v) = x := bd.2.2.1.trans hx
                    have e4 := bd.2.2.2
                    rw [hx] at e4
                    clear bd
                    have i6 : Hid (i + 1 ≤ V.length) := hlt6
                    have i7 : Hid (i + k < Y.length) := by show i + k < Y.length; rw [lY.out]; omega
                    have i8 : Hid (k + V.length < X.length) := by show k + V.length < X.length; rw [LX.out]; omega
                    by_cases hxn : x < 0
                    · 
                      obtain ⟨Z, hZ⟩ : ∃ Z, -x + 1073741824 - 1 = Z := ⟨_, rfl⟩
                      have R := sb_neg b1.1 b1.2 hSb.c0 hSb.c1 g3 b2.1 b2.2 hx hZ hxn
                      have NX : Hid (Sb X V k G (i + 1) (Z / 1073741824) (Y.set (i + k) (x + Z / 1073741824 * 1073741824))) := by
                        have := hSb.next (x' := x + Z / 1073741824 * 1073741824) (c' := Z / 1073741824) i8.out hlt6 R.1.2.2.1 R.1.2.2.2.1 R.1.1 R.1.2.1 (by rw [Nat.add_comm k i, hy, hv]; exact R.1.2.2.2.2)
                        rwa [Nat.add_comm k i] at this
                      have LN : Hid (∀ m, Lay w ((wr.drewN m).setCell ⟨gU, i + k, none⟩ (.int .i64 (x + Z / 1073741824 * 1073741824))) bv ov gU gQ V (Y.set (i + k) (x + Z / 1073741824 * 1073741824)) Q) := fun m => (hLay.drewN m).setU (i + k) i7.out _
                      obtain ⟨R1, f4, f8, f1, f2, f3, f5, f6⟩ := R
                      clear R1
                      have f7 : Z.tdiv 1073741824 = Z / 1073741824 := Int.tdiv_eq_ediv_of_nonneg f4
                      clear hx hy hv hZ b1 b2
                      go_wp2_with fail
                      go_quiet (fail)
                      go_wp2
                      go_roundw
                      case rel => exact ⟨i + 1, _, _, i6.out, rfl, rfl, NX.out, LN.out _⟩
                      case measure => exact up_one hlt6
                    ·
                      have x0 : 0 ≤ x := by omega
                      have NX : Hid (Sb X V k G (i + 1) 0 (Y.set (i + k) x)) := by
                        have := hSb.next (x' := x) (c' := 0) i8.out hlt6 x0 e4.2 (Int.le_refl 0) (by decide) (by rw [Nat.add_comm k i, hy, hv, hx]; simp)
                        rwa [Nat.add_comm k i] at this
                      have LN : Hid (∀ m, Lay w ((wr.drewN m).setCell ⟨gU, i + k, none⟩ (.int .i64 x)) bv ov gU gQ V (Y.set (i + k) x) Q) := fun m => (hLay.drewN m).setU (i + k) i7.out _
                      clear hx hy hv b1 b2
                      go_wp2_with fail
                      go_quiet (fail)
                      go_wp2
                      go_roundw
                      case rel => exact ⟨i + 1, _, _, i6.out, rfl, rfl, NX.out, LN.out _⟩
                      case measure => exact up_one hlt6
                  · have ei : Hid (i = V.length) := show i = V.length by omega
                    have hSb2 : Hid (Sb X V k G V.length cy Y) := by have := hSb; rw [ei.out] at this; exact this
                    have hl8 : k + V.length < X.length := by rw [LX.out]; omega
                    have hM8 : Hid _ := hSb2.out.mid hl8
                    have q1 := hLay.atU (k := k + V.length) (by rw [lY.out]; omega)
                    have q3 := hLay.freeU (k + V.length)
                    have b1 := nth_bd hSb.wd (k + V.length)
                    obtain ⟨y, hy⟩ : ∃ y, nth Y (k + V.length) = y := ⟨_, rfl⟩
                    rw [hy] at q1 b1 hM8
                    have e1 : IntKind.i64.wrap (y - cy) = y - cy := wrap_self _ (by have := hSb.c0; have := hSb.c1; omega) (by have := hSb.c0; have := hSb.c1; omega)
                    have LN : Hid (Lay w (wr.setCell ⟨gU, k + V.length, none⟩ (.int .i64 (y - cy))) bv ov gU gQ V (Y.set (k + V.length) (y - cy)) Q) := hLay.setU (k + V.length) (by rw [lY.out]; omega) _
                    have b3 : Hid (-1073741824 ≤ y - cy ∧ y - cy < 1073741824) := ⟨hM8.out.2.1, hM8.out.2.2⟩
                    have NT : Hid (nth (Y.set (k + V.length) (y - cy)) (k + V.length) = y - cy) := nth_set_same _ _ _ (by rw [lY.out]; omega)
                    clear hSb hSb2 ei lY hy b1 hi
                    go_wp2_with fail
                    clear q1 q3 e1 hLay
                    go_loopw [15] (fun g wr => ∃ (G' : Int) (Y' : List Int), g = .int .i64 G' ∧ dig X V k ≤ G' ∧ G' ≤ 1073741823 ∧ Mid X V k G' Y' ∧ -1073741824 ≤ nth Y' (k + V.length) ∧ nth Y' (k + V.length) < 1073741824 ∧ Lay w wr bv ov gU gQ V Y' Q) (fun g _ => (intOf g).toNat)
                    case atStart => exact ⟨G, _, rfl, G1.out, g3, hM8.out.1, by rw [NT.out]; exact b3.out.1, by rw [NT.out]; exact b3.out.2, LN.out⟩
                    case round =>
                      clear hM8 b3 NT LN G1 g2 g3
                      obtain ⟨G', Y', rfl, g1, g3, hMid, t0, t1, hLay⟩ := hrel
                      have G1 : Hid (dig X V k ≤ G') := g1
                      have g2 : 0 ≤ G' := by have := DB.out; omega
                      have lY : Hid (Y'.length = M + V.length) := hMid.len.trans LX.out
                      have q1 := hLay.atU (k := k + V.length) (by rw [lY.out]; omega)
                      clear g1
                      obtain ⟨t', ht'⟩ : ∃ y, nth Y' (k + V.length) = y := ⟨_, rfl⟩
                      rw [ht'] at q1 t0 t1
                      have HT' : Hid (nth Y' (k + V.length) = t') := ht'
                      clear ht'
                      obtain ⟨wm, rfl⟩ : ∃ wm : World, wm = wr := ⟨_, rfl⟩
                      by_cases htn : t' < 0
                      · have DN : Hid (dig X V k ≤ G' - 1) := hMid.neg wX wV hl8 hV0.out HLt.out (by rw [HT'.out]; exact htn)
                        have G1' : 1 ≤ G' := by have := DN.out; have := DB.out; omega
                        have GN2 : Hid (G' - 1 ≤ 1073741823) := show G' - 1 ≤ 1073741823 by omega
                        go_wp2_with fail
                        go_loopw [16, 19] (fun c i wr => ∃ (i' : Nat) (cy : Int) (Z : List Int), i' ≤ V.length ∧ c = .int .i64 cy ∧ i = .int .i64 i' ∧ Ad Y' V k i' cy Z ∧ Lay w wr bv ov gU gQ V Z Q) (fun _ i _ => V.length - (intOf i).toNat)
                        case atStart => exact ⟨0, 0, Y', Nat.zero_le _, rfl, rfl, Ad.start hMid.wd, hLay⟩
                        case round =>
                          obtain ⟨i, cy, Z, hi, rfl, rfl, hAd, hLay2⟩ := hrel
                          have lZ : Hid (Z.length = M + V.length) := hAd.len.trans lY.out
                          by_cases hlt6 : i < V.length
                          ·
                            have q4 := hLay2.atU (k := i + k) (by rw [lZ.out]; omega)
                            have q2 := hLay2.cv.at (i := i) hlt6
                            have q3 := hLay2.freeU (i + k)
                            have b1 := bd_of_set hAd.wd (i := i + k) (by omega)
                            have b2 := nth_bd wV i
                            have z1 : (0 : Int) ≤ (i : Int) + k := by omega
                            have z2 : ((i : Int) + k).toNat = i + k := by omega
                            obtain ⟨y, hy⟩ : ∃ y, nth Z (i + k) = y := ⟨_, rfl⟩
                            obtain ⟨v, hv⟩ : ∃ v, nth V i = v := ⟨_, rfl⟩
                            rw [hy] at q4 b1
                            rw [hv] at q2 b2
                            obtain ⟨S, hS⟩ : ∃ S, cy + (y + v) = S := ⟨_, rfl⟩
                            have c0 := hAd.c0
                            have c1 := hAd.c1
                            have e1 : IntKind.i64.wrap (y + v) = y + v := wrap_self _ (by omega) (by omega)
                            have e2 : IntKind.i64.wrap (cy + (y + v)) = S := by rw [hS]; exact wrap_self _ (by omega) (by omega)
                            have s0 : 0 ≤ S := by omega
                            have s1 : S < 4294967296 := by omega
                            have i6 : Hid (i + 1 ≤ V.length) := hlt6
                            have i7 : Hid (i + k < Z.length) := by show i + k < Z.length; rw [lZ.out]; omega
                            have i9 : Hid (k + V.length < Y'.length) := by show k + V.length < Y'.length; rw [lY.out]; omega
                            have NX : Hid (Ad Y' V k (i + 1) (S / 1073741824) (Z.set (i + k) (S % 1073741824))) := by
                              have := hAd.next (S := S) wV i9.out hlt6 (by rw [Nat.add_comm k i, hy, hv]; exact hS.symm)
                              rwa [Nat.add_comm k i] at this
                            have LN : Hid (∀ m, Lay w ((wr.drewN m).setCell ⟨gU, i + k, none⟩ (.int .i64 (S % 1073741824))) bv ov gU gQ V (Z.set (i + k) (S % 1073741824)) Q) := fun m => (hLay2.drewN m).setU (i + k) i7.out _
                            clear hS hy hv b1 b2 c0 c1
                            go_wp2_with fail
                            go_quiet (fail)
                            go_wp2
                            go_roundw
                            case rel => exact ⟨i + 1, _, _, i6.out, rfl, rfl, NX.out, LN.out _⟩
                            case measure => exact up_one hlt6
                          ·
                            have hAd2 : Hid (Ad Y' V k V.length cy Z) := by
                              have ei : i = V.length := by omega
                              have := hAd; rw [ei] at this; exact this
                            have hM8 : Hid _ := hAd2.out.mid hMid hl8
                            have q4 := hLay2.atU (k := k + V.length) (by rw [lZ.out]; omega)
                            have q3 := hLay2.freeU (k + V.length)
                            rw [hM8.out.2, HT'.out] at q4
                            have c0 := hAd.c0
                            have c1 := hAd.c1
                            have e1 : IntKind.i64.wrap (t' + cy) = t' + cy := wrap_self _ (by omega) (by omega)
                            have LN : Hid (Lay w (wr.setCell ⟨gU, k + V.length, none⟩ (.int .i64 (t' + cy))) bv ov gU gQ V (Z.set (k + V.length) (t' + cy)) Q) := hLay2.setU (k + V.length) (by rw [lZ.out]; omega) _
                            have NT : Hid (nth (Z.set (k + V.length) (t' + cy)) (k + V.length) = t' + cy) := nth_set_same _ _ _ (by rw [lZ.out]; omega)
                            have NM : Hid (Mid X V k (G' - 1) (Z.set (k + V.length) (t' + cy))) := by have := hM8.out.1; rw [hM8.out.2, HT'.out] at this; exact this
                            have b3 : Hid (-1073741824 ≤ t' + cy ∧ t' + cy < 1073741824) := ⟨by omega, by omega⟩
                            clear c0 c1 hAd hAd2 hM8
                            go_wp2
                            go_roundw
                            case rel => exact ⟨G' - 1, _, rfl, DN.out, GN2.out, NM.out, by rw [NT.out]; exact b3.out.1, by rw [NT.out]; exact b3.out.2, LN.out⟩
                            case measure => exact down_one G1'
                      ·
                        have R : Hid _ := hMid.done wX wV hl8 hV0.out HLt.out G1.out (by rw [HT'.out]; exact htn)
                        have q3 := hLay.freeQ k
                        have q2 := hLay.cq.at (i := k) (by rw [LQ.out]; omega)
                        rw [Nat.zero_add] at q2
                        have LN : Hid (Lay w (wm.setCell ⟨gQ, k, none⟩ (.int .i64 G')) bv ov gU gQ V Y' (Q.set k G')) := hLay.setQ k (by rw [LQ.out]; omega) _
                        have VN : Hid (val (Q.set k G') * val V + val Y' = val U) := quo_set (by rw [LQ.out]; omega) (HQ0.out k (by omega)) HVal.out hMid.eq
                        have WN : Hid (Wd (Q.set k G')) := wQ.set k g2 (by omega)
                        have ZN : Hid (∀ i, i < k → nth (Q.set k G') i = 0) := fun i hi => by rw [nth_set_other _ _ _ _ (by omega)]; exact HQ0.out i (by omega)
                        have LY2 : Hid (Y'.length = U.length) := lY.out.trans HMV.out.symm
                        have LQ2 : Hid ((Q.set k G').length = M) := by show (Q.set k G').length = M; rw [List.length_set]; exact LQ.out
                        have kM : Hid (k ≤ M) := show k ≤ M by omega
                        go_wp2
                        go_roundw
                        case rel => exact ⟨k, Y', _, kM.out, rfl, LY2.out, LQ2.out, R.out.2.1, WN.out, ZN.out, VN.out, R.out.2.2, LN.out⟩
                        case measure => simp [intOf]
            ·
              have ej : Hid (J = 0) := show J = 0 by omega
              have RV : Hid (val Q * (val ys * 2 ^ s) + val X = val xs * 2 ^ s) := by have := HVal.out; rw [HVV.out, HVU.out] at this; exact this
              have RL : Hid (val X < val ys * 2 ^ s) := by show val X < val ys * 2 ^ s; have h := HLt.out; rw [ej.out, HVV.out] at h; simpa [pw] using h
              have ub3 : M + V.length ≤ 274877906945 := by have := HM.out; have := lV.out; have := K1.out; omega
              have ub : M + V.length ≤ capU := by have := HMV.out; have := K1.out; omega
              have ub2 : capU ≤ 9223372036854775807 := K1.out.2.2.2.2.2
              have hs : s ≤ 29 := K1.out.2.2.2.1
              have hbw := hLay.below
              have SB : Hid _ := shift_back (two_le hs).1 (show 0 < val ys by have := val_low W2.out n2 (by intro h; have := K1.out.2.1; rw [h] at this; simp at this); have := pw_pos (ys.length - 1); omega) RV.out (val_nonneg wX) RL.out
              go_wp2_with (first
                | (go_at_call 141; (with_reducible refine (norm_rd (some ⟨gQ, 0, none⟩) M M Q _ LQ.out.symm wQ (by rw [LQ.out]; omega) (by omega) (fun _ => ⟨_, _, rfl, hLay.cq⟩)).mono ?_); rintro e w' ⟨nq2, zs, rfl, hrd, hnm, hvz, rfl⟩; have hvz' : Hid _ := hvz; clear hvz)
                | (go_at_call 141; (with_reducible refine (norm_rd (some ⟨gU, 0, none⟩) (M + V.length) capU X _ LX.out.symm wX (by rw [LX.out]; omega) (by omega) (fun _ => ⟨_, _, rfl, hLay.cu⟩)).mono ?_); rintro e w' ⟨nq3, rs, rfl, hrd2, hnm2, hvr, rfl⟩; have hvr' : Hid _ := hvr; clear hvr)
                | fail)
              have h8 := nm_len hrd2.1 hnm2 wX hvr'.out
              rw [LX.out] at h8
              refine (Shr_any _ rs s _ hrd2 (by omega) (by omega)).mono ?_
              rintro e w6 ⟨vr, r2, rfl, hrd3, hnm3, hvr3, hb6⟩
              have hvr3' : Hid _ := hvr3
              clear hvr3
              go_wp2
              have hq := hrd.grow hb6
              have hb7 := hbw.trans (hb6.mono hbw.size)
              have hsb := SB.out
              rw [← hvz'.out, ← hvr'.out, ← hvr3'.out] at hsb
              exact bodyPost_ret (v := .tuple #[.slice (some ⟨gQ, 0, none⟩) nq2 M, vr]) (by simp [results, Tryz.results142, go_sem]) rfl ⟨_, _, zs, r2, rfl, hq, hnm, hrd3, hnm3, hsb.1, hsb.2.1, hsb.2.2, hb7⟩
theorem DivMod_any (v1 v2 : Value) (xs ys : List Int) (w : World) (h1 : Rd w v1 xs) (h2 : Rd w v2 ys) (n1 : Nm xs) (n2 : Nm ys) (l1 : xs.length ≤ 274877906944) (hne : 0 < val ys) :
    Calls Tryz.prog 142 #[v1, v2] w fun e w' => ∃ q r zs rs, e = .returned (.tuple #[q, r]) ∧ Rd w' q zs ∧ Nm zs ∧ Rd w' r rs ∧ Nm rs ∧ val xs = val zs * val ys + val rs ∧ 0 ≤ val rs ∧ val rs < val ys ∧ Below w.heap.size w w' := by
  have ly : 0 < ys.length := by
    by_cases c : 0 < ys.length
    · exact c
    · have e0 : ys = [] := List.eq_nil_of_length_eq_zero (by omega)
      rw [e0] at hne; simp [val] at hne
  by_cases hlt : val xs < val ys
  · refine (dm_less v1 v2 xs ys w h1 h2 n1 n2 l1 hlt).mono ?_
    rintro e w' ⟨rfl, hb⟩
    exact ⟨_, _, [], xs, rfl, rd_nil _, Or.inl rfl, h1.grow hb, n1, by simp [val], val_nonneg h1.1, hlt, hb⟩
  · by_cases hone : ys.length = 1
    · exact dm_one v1 v2 xs ys w h1 h2 n1 n2 l1 (by omega) hone
    · have hll : ys.length ≤ xs.length := by
        by_cases c : ys.length ≤ xs.length
        · exact c
        · have := val_lt_of_length h1.1 h2.1 n2 (by omega); omega
      have h2' := h2
      obtain ⟨_, a2, c2, rfl, _, _, g2⟩ := h2'
      obtain ⟨b2, o2, rfl, cs2⟩ := g2 ly
      exact dm_long v1 b2 o2 c2 xs ys w h1 h2 n1 n2 l1 (by omega) (by omega) hll cs2
end Go.Proofs.YtebilgnmnambnaaGreatDoor.L

namespace Go.Proofs.YtebilgnmnambnaaGreatDoor.L
open Go.RowKit Tl
theorem len_mono {A B : List Int} (hA : Wd A) (hB : Wd B) (nB : Nm B) (h : val B ≤ val A) : B.length ≤ A.length := by
  by_cases c : B.length ≤ A.length
  · exact c
  · have := val_lt_of_length hA hB nB (by omega); omega
theorem len_of_lt {xs : List Int} {K : Nat} (h : Wd xs) (n : Nm xs) (hv : val xs < pw K) : xs.length ≤ K := by
  by_cases c : xs.length ≤ K
  · exact c
  · have h1 := val_low h n (by intro e; rw [e] at c; simp at c)
    have h2 := pw_mono (show K ≤ xs.length - 1 by omega)
    omega
end Go.Proofs.YtebilgnmnambnaaGreatDoor.L

namespace Go.Proofs.YtebilgnmnambnaaGreatDoor.L
open Go.RowKit Tl
def cellNum (w : World) (p : Addr) : Int := match w.cell? p with | some (.int _ x) => x | _ => 0
def rowNum (w : World) : Value → Nat
  | .slice (some p) l _ => (val ((List.range l).map fun i => cellNum w ⟨p.block, p.off + i, none⟩)).toNat
  | _ => 0
theorem rowNum_rd {w : World} {v : Value} {xs : List Int} (h : Rd w v xs) : rowNum w v = (val xs).toNat := by
  obtain ⟨_, a, c, rfl, _, _, g⟩ := h
  by_cases h0 : xs = []
  · subst h0; cases a <;> simp [rowNum, val]
  · obtain ⟨b, o, rfl, hc⟩ := g (List.length_pos_iff.2 h0)
    simp only [rowNum]
    congr 2
    apply List.ext_getElem?
    intro i
    by_cases hi : i < xs.length
    · have := hc i hi
      simp [List.getElem?_map, List.getElem?_range hi, cellNum, this, nth, List.getD_eq_getElem?_getD, List.getElem?_eq_getElem hi]
    · rw [List.getElem?_eq_none (by simp; omega), List.getElem?_eq_none (by omega)]
theorem gcd_of_div {a b z r : Int} (h : a = z * b + r) : Int.gcd b r = Int.gcd a b := by
  have e : r = a - z * b := by omega
  rw [e, Int.gcd_comm a b, Int.mul_comm, Int.gcd_sub_mul_left_right]
theorem gcd_nought {a : Int} (h : 0 ≤ a) : a = (Int.gcd a 0 : Int) := by
  rw [Int.gcd_zero_right]; omega
theorem nm_pos {xs : List Int} (h : Wd xs) (n : Nm xs) (l : 0 < xs.length) : 0 < val xs := by
  have := val_low h n (by intro e; rw [e] at l; simp at l)
  have := pw_pos (xs.length - 1)
  omega
theorem nm_nil {xs : List Int} (l : ¬ 0 < xs.length) : xs = [] := List.eq_nil_of_length_eq_zero (by omega)
set_option maxHeartbeats 1600000 in
set_option maxRecDepth 100000 in
theorem Gcd_any (v1 v2 : Value) (xs ys : List Int) (L : Nat) (w : World) (h1 : Rd w v1 xs) (h2 : Rd w v2 ys) (n1 : Nm xs) (n2 : Nm ys) (l1 : xs.length ≤ L) (l2 : ys.length ≤ L) (hL : L ≤ 274877906944) :
    Calls Tryz.prog 112 #[v1, v2] w fun e w' => ∃ r zs, e = .returned r ∧ Rd w' r zs ∧ Nm zs ∧ val zs = (Int.gcd (val xs) (val ys) : Int) ∧ zs.length ≤ L ∧ Below w.heap.size w w' := by
  obtain ⟨G, hG⟩ : ∃ G, Int.gcd (val xs) (val ys) = G := ⟨_, rfl⟩
  rw [hG]
  go_enter Tryz.func112, Tryz.ntmps112
  go_wp2_with fail
  go_loopw [0, 1] (fun a b wr => ∃ A B, Rd wr a A ∧ Nm A ∧ Rd wr b B ∧ Nm B ∧ Int.gcd (val A) (val B) = G ∧ A.length ≤ L ∧ B.length ≤ L ∧ Below w.heap.size w wr) (fun _ b wr => rowNum wr b)
  case atStart => exact ⟨xs, ys, h1, n1, h2, n2, hG, l1, l2, Below.refl _ _⟩
  case round =>
    obtain ⟨A, B, hA, nA, hB, nB, hg, lA, lB, hb⟩ := hrel
    have HG : Hid (Int.gcd (val A) (val B) = G) := hg
    have hB' : Hid (Rd wr u1 B) := hB
    obtain ⟨wB, a2, c2, rfl, _, _, _⟩ := hB
    clear hg hG
    by_cases hlt : 0 < B.length
    · have MB : Hid _ := rowNum_rd hB'.out
      have vB := nm_pos wB nB hlt
      go_wp2_with (first
        | (go_at_call 142; (refine (DivMod_any _ _ A B _ hA hB'.out nA nB (by omega) vB).mono ?_); rintro e w2 ⟨q, r, zs, rs, rfl, hq, nq, hr, nr, hv, r0, r1, hb2⟩)
        | fail)
      go_roundw
      case rel => exact ⟨B, rs, hB'.out.grow hb2, nB, hr, nr, (gcd_of_div hv).trans HG.out, lB, Nat.le_trans (len_mono wB hr.1 nr (by omega)) lB, hb.trans (hb2.mono hb.size)⟩
      case measure =>
        show rowNum w2 r < rowNum wr _
        rw [MB.out, rowNum_rd hr]; omega
    · have e0 : Hid (B = []) := nm_nil hlt
      have RG : Hid (val A = (G : Int)) := by
        have := HG.out
        rw [e0.out] at this
        show val A = (G : Int)
        rw [← this]
        exact gcd_nought (val_nonneg hA.1)
      go_wp2
      go_ret
      exact ⟨_, A, rfl, hA, nA, RG.out, lA, hb⟩
end Go.Proofs.YtebilgnmnambnaaGreatDoor.L

namespace Go.Proofs.YtebilgnmnambnaaGreatDoor.L
open Go.RowKit Tl
theorem rd_one {w : World} {n c : Nat} (h : w.cell? ⟨n, 0, none⟩ = some (.int .i64 1)) (h1 : 1 ≤ c) (h2 : c ≤ 9223372036854775807) : Rd w (.slice (some ⟨n, 0, none⟩) 1 c) [1] := by
  refine ⟨Wd.cons (by decide) (by decide) Wd.nil, _, c, rfl, h1, h2, fun _ => ⟨n, 0, rfl, ?_⟩⟩
  intro i hi
  have : i = 0 := by simp at hi; omega
  subst this
  simpa [nth] using h
theorem nm_one : Nm [1] := Or.inr (by simp)
theorem val_one : val [1] = 1 := by simp [val]
theorem put3 {w1 : World} {b : Nat} {u0 u1 u2 : Value} (x y z : Value) (g0 : w1.cell? ⟨b, 0, none⟩ = some u0) (g1 : w1.cell? ⟨b, 1, none⟩ = some u1) (g2 : w1.cell? ⟨b, 2, none⟩ = some u2) :
    (((w1.setCell ⟨b, 0, none⟩ x).setCell ⟨b, 1, none⟩ y).setCell ⟨b, 2, none⟩ z).cell? ⟨b, 0, none⟩ = some x ∧ (((w1.setCell ⟨b, 0, none⟩ x).setCell ⟨b, 1, none⟩ y).setCell ⟨b, 2, none⟩ z).cell? ⟨b, 1, none⟩ = some y ∧ (((w1.setCell ⟨b, 0, none⟩ x).setCell ⟨b, 1, none⟩ y).setCell ⟨b, 2, none⟩ z).cell? ⟨b, 2, none⟩ = some z ∧ (∀ B w, B ≤ b → Below B w w1 → Below B w (((w1.setCell ⟨b, 0, none⟩ x).setCell ⟨b, 1, none⟩ y).setCell ⟨b, 2, none⟩ z)) := by
  have h1 : (w1.setCell ⟨b, 0, none⟩ x).cell? ⟨b, 1, none⟩ = some u1 := (World.cell?_setCell_other _ _ _ _ (by simp)).trans g1
  have h2 : ((w1.setCell ⟨b, 0, none⟩ x).setCell ⟨b, 1, none⟩ y).cell? ⟨b, 2, none⟩ = some u2 := (World.cell?_setCell_other _ _ _ _ (by simp)).trans ((World.cell?_setCell_other _ _ _ _ (by simp)).trans g2)
  refine ⟨?_, ?_, World.cell?_setCell_same _ _ _ h2, fun B w hB h => ((h.setCell (p := ⟨b, 0, none⟩) hB x).setCell (p := ⟨b, 1, none⟩) hB y).setCell (p := ⟨b, 2, none⟩) hB z⟩
  · rw [World.cell?_setCell_other _ _ _ _ (by simp), World.cell?_setCell_other _ _ _ _ (by simp), World.cell?_setCell_same _ _ _ g0]
  · rw [World.cell?_setCell_other _ _ _ _ (by simp), World.cell?_setCell_same _ _ _ h1]
theorem Rd.putQ {w1 : World} {b : Nat} {v x y z : Value} {xs : List Int} {g : Bool} {a1 a2 : Option Addr} {n1 c1 n2 c2 : Nat} {t : TypeId} (h : Rd w1 v xs) (K : Blk w1 b #[.bool g, .slice a1 n1 c1, .slice a2 n2 c2] t) : Rd (((w1.setCell ⟨b, 0, none⟩ x).setCell ⟨b, 1, none⟩ y).setCell ⟨b, 2, none⟩ z) v xs := by
  obtain ⟨hx, a, c, rfl, h2, h3, g⟩ := h
  refine ⟨hx, a, c, rfl, h2, h3, fun l => ?_⟩
  obtain ⟨b', o, rfl, hc⟩ := g l
  have hne : b' ≠ b := by
    intro e
    subst e
    have h0 := hc 0 l
    rw [K.at] at h0
    match o, h0 with
    | 0, h0 => simp at h0
    | 1, h0 => simp at h0
    | 2, h0 => simp at h0
    | o + 3, h0 => simp at h0
  have hw : Wr b 0 3 w1 (((w1.setCell ⟨b, 0, none⟩ x).setCell ⟨b, 1, none⟩ y).setCell ⟨b, 2, none⟩ z) := (((Wr.refl _ _ _ _).setCell 0 (by omega) x).setCell 1 (by omega) y).setCell 2 (by omega) z
  exact ⟨b', o, rfl, hc.other hw hne⟩
theorem gcd_rest {x g q r : Int} (hd : g ∣ x) (h : x = q * g + r) (r0 : 0 ≤ r) (r1 : r < g) : q * g = x := by
  have h1 : g ∣ r := by
    obtain ⟨k, hk⟩ := hd
    exact ⟨k - q, by rw [Int.mul_sub, ← hk, h]; rw [Int.mul_comm g q]; omega⟩
  obtain ⟨k, hk⟩ := h1
  by_cases c : k = 0
  · rw [c] at hk; simp at hk; omega
  · rcases Int.lt_or_gt_of_ne c with c | c
    · have := Int.mul_le_mul_of_nonneg_left (show k ≤ -1 by omega) (show 0 ≤ g by omega); omega
    · have := Int.mul_le_mul_of_nonneg_left (show 1 ≤ k by omega) (show 0 ≤ g by omega); omega
set_option maxHeartbeats 1600000 in
set_option maxRecDepth 100000 in
theorem make_one (neg : Bool) (v1 v2 : Value) (xs ys : List Int) (L : Nat) (w : World) (h1 : Rd w v1 xs) (h2 : Rd w v2 ys) (n1 : Nm xs) (n2 : Nm ys) (l1 : xs.length ≤ L) (l2 : ys.length ≤ L) (hL : L ≤ 274877906944) (p1 : 0 < xs.length) (hg : Int.gcd (val xs) (val ys) = 1) :
    Calls Tryz.prog 80 #[.bool neg, v1, v2] w fun e w' => e = .returned (.agg #[.bool neg, v1, v2]) ∧ Below w.heap.size w w' := by
  have hz : ((xs.length : Int) == 0) = false := by rw [beq_eq_false_iff_ne]; omega
  have HG : Hid (Int.gcd (val xs) (val ys) = 1) := hg
  clear hg
  obtain ⟨a1, c1, rfl⟩ : ∃ a1 c1, v1 = .slice a1 xs.length c1 := by obtain ⟨_, a1, c1, e, _⟩ := h1; exact ⟨a1, c1, e⟩
  obtain ⟨a2, c2, rfl⟩ : ∃ a1 c1, v2 = .slice a1 ys.length c1 := by obtain ⟨_, a1, c1, e, _⟩ := h2; exact ⟨a1, c1, e⟩
  have hR1 : Hid (∀ w', Below w.heap.size w w' → Rd w' (.slice a1 xs.length c1) xs) := fun w' k => h1.grow k
  have hR2 : Hid (∀ w', Below w.heap.size w w' → Rd w' (.slice a2 ys.length c2) ys) := fun w' k => h2.grow k
  have K0 := Blk.new w #[.bool false, .slice none 0 0, .slice none 0 0] 56
  have pr : Below w.heap.size w (w.alloc (.cells #[.bool false, .slice none 0 0, .slice none 0 0] 56)) := (Below.refl _ _).alloc (Nat.le_refl _) _
  go_enter Tryz.func80, Tryz.ntmps80
  go_wp2_with (first
    | (go_at_call 112; (refine (Gcd_any _ _ xs ys L _ (hR1.out _ pr) (hR2.out _ pr) n1 n2 l1 l2 hL).mono ?_; rintro e w1 ⟨r, gs, rfl, hr, hn, hv, lg, hb⟩; have hv1 : val gs = 1 := (by rw [hv, HG.out]; rfl); clear hv; replace K0 := K0.below hb K0.lt; replace pr := pr.trans (hb.mono pr.size)))
    | (go_at_call 98; (refine (Cmp_any _ _ gs [1] _ (hr.grow ((Below.refl _ _).alloc (Nat.le_refl _) _)) (rd_one (by simp) (by decide) (by decide)) hn nm_one (by omega)).mono ?_; rintro e w2 ⟨rfl, hb2⟩; rw [cmp3_eq (hv1.trans val_one.symm)]; replace K0 := (K0.alloc (.cells #[.int .i64 1] 3)).below hb2 (K0.alloc (.cells #[.int .i64 1] 3)).lt; replace pr := (pr.alloc pr.size (.cells #[.int .i64 1] 3)).trans (hb2.mono (pr.alloc pr.size (.cells #[.int .i64 1] 3)).size); have e0 : w2.cell? ⟨w.heap.size, 0, none⟩ = some (.bool false) := K0.at 0; have e1 : w2.cell? ⟨w.heap.size, 1, none⟩ = some (.slice none 0 0) := K0.at 1; have e2 : w2.cell? ⟨w.heap.size, 2, none⟩ = some (.slice none 0 0) := K0.at 2; have z0 := K0.free 0; have z1 := K0.free 1; have z2 := K0.free 2))
    | fail)
  obtain ⟨F0, F1, F2, FB⟩ := put3 (.bool neg) (.slice a1 xs.length c1) (.slice a2 ys.length c2) e0 e1 e2
  exact bodyPost_ret (v := .agg #[.bool neg, .slice a1 xs.length c1, .slice a2 ys.length c2]) (by simp [results, Tryz.results80, go_sem, F0, F1, F2]) rfl ⟨rfl, FB _ _ (Nat.le_refl _) pr⟩
set_option maxHeartbeats 1600000 in
set_option maxRecDepth 100000 in
theorem make_more (neg : Bool) (v1 v2 : Value) (xs ys : List Int) (L : Nat) (w : World) (h1 : Rd w v1 xs) (h2 : Rd w v2 ys) (n1 : Nm xs) (n2 : Nm ys) (l1 : xs.length ≤ L) (l2 : ys.length ≤ L) (hL : L ≤ 274877906944) (p1 : 0 < xs.length) (G : Int) (hg : (Int.gcd (val xs) (val ys) : Int) = G) (hg1 : G ≠ 1) :
    Calls Tryz.prog 80 #[.bool neg, v1, v2] w fun e w' => ∃ u1 u2 ns ds, e = .returned (.agg #[.bool neg, u1, u2]) ∧ Rd w' u1 ns ∧ Nm ns ∧ Rd w' u2 ds ∧ Nm ds ∧ val ns * G = val xs ∧ val ds * G = val ys ∧ Below w.heap.size w w' := by
  have hz : ((xs.length : Int) == 0) = false := by rw [beq_eq_false_iff_ne]; omega
  have px := nm_pos h1.1 n1 p1
  have HG : Hid ((Int.gcd (val xs) (val ys) : Int) = G) := hg
  have G0 : 0 < G := by
    have : 0 < Int.gcd (val xs) (val ys) := Int.gcd_pos_of_ne_zero_left _ (by omega)
    omega
  have D1 : Hid (G ∣ val xs) := by show G ∣ val xs; rw [← HG.out]; exact Int.gcd_dvd_left ..
  have D2 : Hid (G ∣ val ys) := by show G ∣ val ys; rw [← HG.out]; exact Int.gcd_dvd_right ..
  clear hg
  obtain ⟨a1, c1, rfl⟩ : ∃ a1 c1, v1 = .slice a1 xs.length c1 := by obtain ⟨_, a1, c1, e, _⟩ := h1; exact ⟨a1, c1, e⟩
  obtain ⟨a2, c2, rfl⟩ : ∃ a1 c1, v2 = .slice a1 ys.length c1 := by obtain ⟨_, a1, c1, e, _⟩ := h2; exact ⟨a1, c1, e⟩
  have hR1 : Hid (∀ w', Below w.heap.size w w' → Rd w' (.slice a1 xs.length c1) xs) := fun w' k => h1.grow k
  have hR2 : Hid (∀ w', Below w.heap.size w w' → Rd w' (.slice a2 ys.length c2) ys) := fun w' k => h2.grow k
  have K0 := Blk.new w #[.bool false, .slice none 0 0, .slice none 0 0] 56
  have pr : Below w.heap.size w (w.alloc (.cells #[.bool false, .slice none 0 0, .slice none 0 0] 56)) := (Below.refl _ _).alloc (Nat.le_refl _) _
  go_enter Tryz.func80, Tryz.ntmps80
  go_wp2_with (first
    | (go_at_call 112; (refine (Gcd_any _ _ xs ys L _ (hR1.out _ pr) (hR2.out _ pr) n1 n2 l1 l2 hL).mono ?_; rintro e w1 ⟨r, gs, rfl, hr, hn, hv, lg, hb⟩; have hv1 : Hid (val gs = G) := hv.trans HG.out; clear hv; replace K0 := K0.below hb K0.lt; replace pr := pr.trans (hb.mono pr.size)))
    | (go_at_call 98; (refine (Cmp_any _ _ gs [1] _ (hr.grow ((Below.refl _ _).alloc (Nat.le_refl _) _)) (rd_one (by simp) (by decide) (by decide)) hn nm_one (by omega)).mono ?_; rintro e w2 ⟨rfl, hb2⟩; have hc : cmp3 (val gs) (val [1]) ≠ 0 := (by rw [hv1.out, val_one]; unfold cmp3; split; decide; split; decide; omega); have hc2 : (cmp3 (val gs) (val [1]) == 0) = false := beq_eq_false_iff_ne.2 hc; replace K0 := (K0.alloc (.cells #[.int .i64 1] 3)).below hb2 (K0.alloc (.cells #[.int .i64 1] 3)).lt; have hr2 := (hr.grow ((Below.refl _ _).alloc (Nat.le_refl _) (.cells #[.int .i64 1] 3))).grow hb2; replace pr := (pr.alloc pr.size (.cells #[.int .i64 1] 3)).trans (hb2.mono (pr.alloc pr.size (.cells #[.int .i64 1] 3)).size)))
    | (go_at_call 142; (with_reducible refine (DivMod_any (.slice a1 xs.length c1) r xs gs w2 (hR1.out _ pr) hr2 n1 hn (by omega) (by rw [hv1.out]; exact G0)).mono ?_); (rintro e w3 ⟨q1, r1, ns, rs1, rfl, hq1, nn, _, _, e1, r10, r11, hb3⟩; have E1 : Hid (val ns * G = val xs) := (by rw [hv1.out] at e1 r11; exact gcd_rest D1.out e1 r10 r11); clear e1 r10 r11; replace K0 := K0.below hb3 K0.lt; replace pr := pr.trans (hb3.mono pr.size); have hr3 := hr2.grow hb3))
    | (go_at_call 142; (with_reducible refine (DivMod_any (.slice a2 ys.length c2) r ys gs w3 (hR2.out _ pr) hr3 n2 hn (by omega) (by rw [hv1.out]; exact G0)).mono ?_); (rintro e w4 ⟨q2, r2, ds, rs2, rfl, hq2, nd, _, _, e2, r20, r21, hb4⟩; have E2 : Hid (val ds * G = val ys) := (by rw [hv1.out] at e2 r21; exact gcd_rest D2.out e2 r20 r21); clear e2 r20 r21; replace K0 := K0.below hb4 K0.lt; replace pr := pr.trans (hb4.mono pr.size); replace hq1 := hq1.grow hb4; have e0 : w4.cell? ⟨w.heap.size, 0, none⟩ = some (.bool false) := K0.at 0; have e1 : w4.cell? ⟨w.heap.size, 1, none⟩ = some (.slice none 0 0) := K0.at 1; have e2 : w4.cell? ⟨w.heap.size, 2, none⟩ = some (.slice none 0 0) := K0.at 2; have z0 := K0.free 0; have z1 := K0.free 1; have z2 := K0.free 2; obtain ⟨b1, d1, rfl⟩ : ∃ a1 c1, q1 = .slice a1 ns.length c1 := (by obtain ⟨_, a1, c1, e, _⟩ := hq1; exact ⟨a1, c1, e⟩); obtain ⟨b2, d2, rfl⟩ : ∃ a1 c1, q2 = .slice a1 ds.length c1 := (by obtain ⟨_, a1, c1, e, _⟩ := hq2; exact ⟨a1, c1, e⟩)))
    | fail)
  obtain ⟨F0, F1, F2, FB⟩ := put3 (.bool neg) (.slice b1 ns.length d1) (.slice b2 ds.length d2) e0 e1 e2
  exact bodyPost_ret (v := .agg #[.bool neg, .slice b1 ns.length d1, .slice b2 ds.length d2]) (by simp [results, Tryz.results80, go_sem, F0, F1, F2]) rfl ⟨_, _, ns, ds, rfl, hq1.putQ K0, nn, hq2.putQ K0, nd, E1.out, E2.out, FB _ _ (Nat.le_refl _) pr⟩
theorem Make_any (neg : Bool) (v1 v2 : Value) (xs ys : List Int) (L : Nat) (w : World) (h1 : Rd w v1 xs) (h2 : Rd w v2 ys) (n1 : Nm xs) (n2 : Nm ys) (l1 : xs.length ≤ L) (l2 : ys.length ≤ L) (hL : L ≤ 274877906944) (p1 : 0 < xs.length) :
    Calls Tryz.prog 80 #[.bool neg, v1, v2] w fun e w' => ∃ u1 u2 ns ds, e = .returned (.agg #[.bool neg, u1, u2]) ∧ Rd w' u1 ns ∧ Nm ns ∧ Rd w' u2 ds ∧ Nm ds ∧ val ns * (Int.gcd (val xs) (val ys) : Int) = val xs ∧ val ds * (Int.gcd (val xs) (val ys) : Int) = val ys ∧ Below w.heap.size w w' := by
  by_cases hg : Int.gcd (val xs) (val ys) = 1
  · refine (make_one neg v1 v2 xs ys L w h1 h2 n1 n2 l1 l2 hL p1 hg).mono ?_
    rintro e w' ⟨rfl, hb⟩
    exact ⟨v1, v2, xs, ys, rfl, h1.grow hb, n1, h2.grow hb, n2, by rw [hg]; simp, by rw [hg]; simp, hb⟩
  · exact make_more neg v1 v2 xs ys L w h1 h2 n1 n2 l1 l2 hL p1 _ rfl (by omega)
end Go.Proofs.YtebilgnmnambnaaGreatDoor.L

namespace Go.Proofs.YtebilgnmnambnaaGreatDoor.L
open Go.RowKit Tl
theorem bel {w W w1 : World} (pr : Below w.heap.size w W) (b1 : Below W.heap.size W w1) : Below w.heap.size w w1 := pr.trans (b1.mono pr.size)
theorem cell_at {w : World} {n : Nat} {v : Value} {t : TypeId} (h : n = w.heap.size) : (w.alloc (.cells #[v] t)).cell? ⟨n, 0, none⟩ = some v := by subst h; simp
end Go.Proofs.YtebilgnmnambnaaGreatDoor.L
