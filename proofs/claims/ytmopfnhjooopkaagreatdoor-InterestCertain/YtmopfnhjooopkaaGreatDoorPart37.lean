import Derived.Test.YtmopfnhjooopkaaGreatDoorPart36
import Derived.Test.YtmopfnhjooopkaaGreatDoorPart32
import Derived.Test.YtmopfnhjooopkaaGreatDoorPart06
import Derived.Deep.DeepCutAuto
import Derived.Test.YtmopfnhjooopkaaGreatDoorPart11
import Derived.Test.YtmopfnhjooopkaaGreatDoorPart31
import Derived.Test.YtmopfnhjooopkaaGreatDoorPart33
import Derived.Laws.MakeOwn
import Derived.Deep.RegionHeld3

namespace Go.Proofs.YtmopfnhjooopkaaGreatDoor.Mo
open Go.RowKit Fu Tn Go.Lib Wt

/-- The exponent's high bits. -/
def eb (n L k : Nat) : Nat := n / 2 ^ (L - k)
theorem eb_zero {n L : Nat} (h : n < 2 ^ L) : eb n L 0 = 0 := Nat.div_eq_of_lt h
theorem eb_full (n L : Nat) : eb n L L = n := by unfold eb; rw [Nat.sub_self, Nat.pow_zero, Nat.div_one]
theorem eb_half {n L k : Nat} (h : k < L) : eb n L k = eb n L (k + 1) / 2 := by
  unfold eb
  rw [Nat.div_div_eq_div_mul, ← Nat.pow_succ, show (L - (k + 1)).succ = L - k by omega]
theorem eb_le (n L k : Nat) : eb n L k ≤ n := Nat.div_le_self _ _
theorem pow_bd {A n e : Nat} {m : Nat} (hp : ((A ^ n : Nat) : Int) < pw m) (hm : 1 < pw m) (h : e ≤ n) : ((A ^ e : Nat) : Int) < pw m := by
  by_cases z : A = 0
  · subst z
    have : (0 : Nat) ^ e ≤ 1 := by
      cases e with
      | zero => simp
      | succ e => simp
    omega
  · have := Nat.pow_le_pow_right (show 1 ≤ A by omega) h
    omega
theorem bl_lt (n : Nat) (h : n < 9223372036854775808) : n < 2 ^ Lib.bitLen n ∧ Lib.bitLen n ≤ 64 := by
  by_cases z : n = 0
  · subst z; decide
  · have := bitLen_bd (n : Int) (by omega) (by omega)
    rw [Int.toNat_natCast] at this
    refine ⟨?_, this.2.1⟩
    have h := this.2.2.2
    have e : ((2 ^ Lib.bitLen n : Nat) : Int) = (2 : Int) ^ Lib.bitLen n := by simp
    omega
theorem and_one (a : Nat) (h : a < 9223372036854775808) : bits .and .i64 (a : Int) 1 = ((a % 2 : Nat) : Int) := by
  have a1 : (BitVec.ofInt 64 ((a : Nat) : Int)).toNat = a := by
    rw [BitVec.ofInt_natCast, BitVec.toNat_ofNat]; exact Nat.mod_eq_of_lt (by omega)
  have a2 : (BitVec.ofInt 64 1).toNat = 2 ^ 1 - 1 := by decide
  show IntKind.i64.wrap ((BitVec.ofInt 64 ((a : Nat) : Int) &&& BitVec.ofInt 64 1).toNat : Int) = _
  rw [BitVec.toNat_and, a1, a2, Nat.and_two_pow_sub_one_eq_mod]
  exact wrapI _ (by omega) (by omega)
set_option maxRecDepth 100000 in
set_option maxHeartbeats 1600000 in
theorem Pow_n (p : Option Addr) (l c A n : Nat) (w : World) (hA : Nn w p l c (A : Int)) (hn : n < 9223372036854775808) {K : Nat} (hK0 : 1 < pw K) (hK : K ≤ 400000) (hp : ((A ^ n : Nat) : Int) < pw K) :
    Calls Tryz.prog 55 #[.agg #[.slice p l c], .int .i64 n] w fun e w' => ∃ a l c, e = .returned (.agg #[.slice a l c]) ∧ Nn w' a l c ((A ^ n : Nat) : Int) ∧ Below w.heap.size w w' := by
  have OF := Of_any 1
  have BL := Tryz.bits_Len (n : Int)
  have x0 : IntKind.u64.wrap (n : Int) = n := wrapU _ (by omega) (by omega)
  have B0 := Bx.new w (.slice p l c) 55
  have B1 := B0.alloc (.cells #[.slice none 0 0] 55)
  have B2 := Bx.new (w.alloc (.cells #[.slice p l c] 55)) (.slice none 0 0) 55
  rw [show (w.alloc (.cells #[.slice p l c] 55)).heap.size = w.heap.size + 1 by simp] at B2
  have al := ((Below.refl w.heap.size w).alloc (Nat.le_refl _) (.cells #[.slice p l c] 55)).alloc (by simp) (.cells #[.slice none 0 0] 55)
  go_enter Tryz.func55, Tryz.ntmps55
  go_wp2_with (first
    | (go_at_call 54; go_must (refine (OF _ (by decide) (by decide)).mono ?_; rintro e w1 ⟨r, zs, rfl, q1, n1, v1, b1⟩; obtain ⟨a1, l1, c1, rfl⟩ := q1.shape))
    | (go_at_call 115; go_must (refine (BL _ (by omega) (by omega)).mono ?_; rintro e w2 ⟨rfl, rfl⟩))
    | fail)
  have al1 := (Below.refl w1.heap.size w1).alloc (Nat.le_refl _) (.cells #[.slice a1 l1 c1] 55)
  have b2 := bel' al b1
  have b3 := bel' b2 al1
  have P1 := (B1.below b1).below al1
  have P2 := (B2.below b1).below al1
  have P3 := Bx.new w1 (.slice a1 l1 c1) 55
  have hs : w.heap.size + 2 ≤ w1.heap.size := by have := b1.size; simp at this; omega
  obtain ⟨g, hg⟩ : ∃ g, w1.heap.size = g := ⟨_, rfl⟩
  obtain ⟨L, hL⟩ : ∃ L, Lib.bitLen n = L := ⟨_, rfl⟩
  have l0 := bl_lt n hn
  rw [hL] at l0
  have nP : Nn (w1.alloc (.cells #[.slice a1 l1 c1] 55)) a1 l1 c1 ((A ^ eb n L 0 : Nat) : Int) := Nn.grow ⟨zs, q1, n1, by rw [v1, eb_zero l0.1]; simp⟩ al1
  have nA := hA.grow b3
  rw [Int.toNat_natCast, hL] at BL
  rw [hg] at P3 hs ⊢
  rw [hL]
  generalize w1.alloc (.cells #[.slice a1 l1 c1] 55) = W at *
  clear OF q1 n1 v1 b1 b2 al al1 B0 B1 B2 hg hL
  go_loopw [11] (fun v wr => ∃ (k : Nat) (a : Option Addr) (l' c' : Nat), v = .int .i64 k ∧ k ≤ L ∧ Nn wr a l' c' ((A ^ eb n L k : Nat) : Int) ∧ Nn wr p l c (A : Int) ∧ Bx wr g (.slice a l' c') ∧ Bx wr w.heap.size (.slice p l c) ∧ Bx wr (w.heap.size + 1) (.slice none 0 0) ∧ Below w.heap.size w wr) (fun v _ => L - (RowKit.intOf v).toNat)
  case atStart => exact ⟨0, a1, l1, c1, rfl, Nat.zero_le _, nP, nA, P3, P1, P2, b3⟩
  case round =>
    clear nP nA P1 P2 P3 b3
    obtain ⟨k, a, l', c', rfl, hk, nP, nA, P3, P1, P2, b3⟩ := hrel
    by_cases lt : k < L
    · have k3 := P3.1
      have k1 := P1.1
      have f3 := P3.2
      have E1 : Hid (eb n L k = eb n L (k + 1) / 2) := eb_half lt
      obtain ⟨j, hj⟩ : ∃ j, L = j + 1 := ⟨L - 1, by omega⟩
      have x1 : IntKind.i64.wrap ((L : Int) - 1) = (j : Int) := by rw [show (L : Int) - 1 = (j : Int) by omega]; exact wrapI _ (by omega) (by omega)
      obtain ⟨m, hm⟩ : ∃ m, j = m + k := ⟨j - k, by omega⟩
      have x2 : IntKind.i64.wrap ((j : Int) - (k : Int)) = (m : Int) := by rw [show (j : Int) - (k : Int) = (m : Int) by omega]; exact wrapI _ (by omega) (by omega)
      have HJ : Hid (L = j + 1) := hj
      have HM : Hid (j = m + k) := hm
      clear hj hm
      have ha1 : bits .and .i64 ((n : Int) / 2 ^ min m 64) 1 = ((eb n L (k + 1) % 2 : Nat) : Int) := by
        rw [← and_one _ (Nat.lt_of_le_of_lt (eb_le n L (k + 1)) hn)]
        unfold eb
        rw [show L - (k + 1) = m by have := HM.out; have := HJ.out; omega, Nat.min_eq_left (by have := HM.out; have := HJ.out; omega)]
        simp
      have z1 : ((A ^ eb n L k : Nat) : Int) < pw K := pow_bd hp hK0 (eb_le n L k)
      have z2 : ((A ^ (2 * eb n L k) : Nat) : Int) < pw K := pow_bd hp hK0 (by have := E1.out; have := eb_le n L (k + 1); omega)
      obtain ⟨e, he⟩ : ∃ e, eb n L (k + 1) = e := ⟨_, rfl⟩
      obtain ⟨e0, he0⟩ : ∃ e, eb n L k = e := ⟨_, rfl⟩
      have HE : Hid (eb n L (k + 1) = e) := he
      rw [he, he0] at E1
      rw [he] at ha1
      rw [he0] at nP z1 z2
      have M1 := Mul_n nP nP z1 z1 (by unfold MulOK; omega)
      rw [show ((A ^ e0 : Nat) : Int) * ((A ^ e0 : Nat) : Int) = ((A ^ (2 * e0) : Nat) : Int) by rw [Nat.two_mul, Nat.pow_add, Int.natCast_mul]] at M1
      have BL2 := fun x => BL x (by omega) (by omega)
      have zA : 1 ≤ n → ((A : Nat) : Int) < pw K := fun h => by have := pow_bd (e := 1) hp hK0 h; rwa [Nat.pow_one] at this
      have HS : Hid (w.heap.size + 2 ≤ g) := hs
      clear BL hp hA he he0 hs
      by_cases q : e % 2 = 1
      · have en : 1 ≤ n := by have := eb_le n L (k + 1); rw [HE.out] at this; omega
        have zB := zA en
        have EN : Hid (e = 2 * e0 + 1) := by have := E1.out; show _ = _; omega
        rw [q] at ha1
        have MA := fun (x : World) (a : Option Addr) (l' c' : Nat) (h : Nn x a l' c' ((A ^ (2 * e0) : Nat) : Int)) (h2 : Nn x p l c (A : Int)) => Mul_n h h2 z2 zB (by unfold MulOK; omega)
        rw [show ((A ^ (2 * e0) : Nat) : Int) * (A : Int) = ((A ^ e : Nat) : Int) by rw [EN.out, Nat.pow_succ, Int.natCast_mul]] at MA
        have d1 : w.heap.size ≠ g := by have := HS.out; omega
        have d2 : w.heap.size + 1 ≠ g := by have := HS.out; omega
        have l64 := l0.2
        clear hn l0 zA z1 z2 zB q en
        go_wp2_with (first
          | (go_at_call 53; (with_reducible refine M1.mono ?_); rintro _ w2 ⟨ma, ml, mc, rfl, nM, b4⟩; (have K3 := P3.below b4); (have m1 := K3.1); (have m2 := K3.2))
          | (go_at_call 115; (with_reducible refine (BL2 _).mono ?_); rintro _ w3 ⟨rfl, rfl⟩; (have J3 := K3.set (.slice ma ml mc)); (have J1 := bxskip (P1.below b4) d1 (.slice ma ml mc)); (have j1 := J3.1); (have j2 := J1.1))
          | fail)
        clear M1 BL2
        have J2 := bxskip (P2.below b4) d2 (.slice ma ml mc)
        have NM := nM.box (u := .slice ma ml mc) K3
        have NA := (nA.grow b4).box (u := .slice ma ml mc) K3
        have b5 := below_put (bel' b3 b4) (show w.heap.size ≤ g by have := HS.out; omega) (.slice ma ml mc)
        have f2 := J3.2
        generalize w2.setCell ⟨g, 0, none⟩ (.slice ma ml mc) = V at *
        refine (MA V ma ml mc NM NA).mono ?_
        rintro _ w3 ⟨pa, pl, pc, rfl, nQ, b6⟩
        have I3 := J3.below b6
        have i1 := I3.1
        have i2 := I3.2
        have I1 := bxskip (J1.below b6) d1 (.slice pa pl pc)
        have I2 := bxskip (J2.below b6) d2 (.slice pa pl pc)
        have NQ := nQ.box (u := .slice pa pl pc) I3
        have NB := (NA.grow b6).box (u := .slice pa pl pc) I3
        have b7 := below_put (bel' b5 b6) (show w.heap.size ≤ g by have := HS.out; omega) (.slice pa pl pc)
        have I4 := I3.set (.slice pa pl pc)
        clear MA ha1 x1 x2
        have lk : k < 64 := by have := HM.out; have := HJ.out; omega
        go_wp2_with fail
        go_roundw
        case rel => exact ⟨k + 1, pa, pl, pc, by go_num, by omega, by rw [HE.out]; exact NQ, NB, I4, I1, I2, b7⟩
        case measure => simp [RowKit.intOf]; omega
      · have EN : Hid (e = 2 * e0) := by have := E1.out; show _ = _; omega
        rw [show e % 2 = 0 by omega] at ha1
        have d1 : w.heap.size ≠ g := by have := HS.out; omega
        have d2 : w.heap.size + 1 ≠ g := by have := HS.out; omega
        have lk : k < 64 := by have := HM.out; have := HJ.out; omega
        clear hn l0 zA z1 z2 q
        go_wp2_with (first
          | (go_at_call 53; (with_reducible refine M1.mono ?_); rintro _ w2 ⟨ma, ml, mc, rfl, nM, b4⟩; (have K3 := P3.below b4); (have m1 := K3.1); (have m2 := K3.2))
          | (go_at_call 115; (with_reducible refine (BL2 _).mono ?_); rintro _ w3 ⟨rfl, rfl⟩)
          | fail)
        go_roundw
        case rel =>
          exact ⟨k + 1, ma, ml, mc, by go_num, by omega, by rw [HE.out, EN.out]; exact nM.box K3, (nA.grow b4).box K3, K3.set _, bxskip (P1.below b4) d1 _, bxskip (P2.below b4) d2 _, below_put (bel' b3 b4) (show w.heap.size ≤ g by have := HS.out; omega) _⟩
        case measure => simp [RowKit.intOf]; omega
    · obtain rfl : k = L := by omega
      rw [eb_full] at nP
      have nE := nP.box (u := .slice a l' c') P2
      have bE := below_put b3 (show w.heap.size ≤ w.heap.size + 1 by omega) (.slice a l' c')
      clear hp x0 BL
      have c1 := P2.1
      have c2 := P3.1
      have c3 := P2.2
      go_wp2
      have v1 := (P2.set (.slice a l' c')).1
      exact bodyPost_ret (v := .agg #[.slice a l' c']) (by simp [results, Tryz.results55, go_sem, v1]) rfl ⟨a, l', c', rfl, nE, bE⟩
end Go.Proofs.YtmopfnhjooopkaaGreatDoor.Mo

namespace Go.Proofs.YtmopfnhjooopkaaGreatDoor.Mo
open Go.RowKit Fu Tn Go.Lib Dc

theorem Rb.ofB {x : World} {n : Nat} {a b c : Value} {t : TypeId} (K : Blk x n #[a, b, c] t) : Rb x n a b c := ⟨by have := K.at 0; simpa using this, by have := K.at 1; simpa using this, by have := K.at 2; simpa using this, K.free 0, K.free 1, K.free 2, t, K⟩
theorem Rb.sets {W : World} {n : Nat} {a b c : Value} (h : Rb W n a b c) (x y z : Value) : Rb (((W.setCell ⟨n, 0, none⟩ x).setCell ⟨n, 1, none⟩ y).setCell ⟨n, 2, none⟩ z) n x y z := by
  obtain ⟨t, K⟩ := h.bk
  have := bput (bput (bput K 0 x) 1 y) 2 z
  exact Rb.ofB (t := t) (by simpa using this)
theorem Rb.skip3 {W : World} {n m : Nat} {a b c : Value} (h : Rb W n a b c) (ne : n ≠ m) (x y z : Value) : Rb (((W.setCell ⟨m, 0, none⟩ x).setCell ⟨m, 1, none⟩ y).setCell ⟨m, 2, none⟩ z) n a b c := by
  have k : Wr m 0 3 W (((W.setCell ⟨m, 0, none⟩ x).setCell ⟨m, 1, none⟩ y).setCell ⟨m, 2, none⟩ z) := (((Wr.refl m 0 3 W).setCell 0 (by omega) x).setCell 1 (by omega) y).setCell 2 (by omega) z
  obtain ⟨t, K⟩ := h.bk
  have K2 := K.wr k ne
  exact ⟨K2.at 0, K2.at 1, K2.at 2, K2.free 0, K2.free 1, K2.free 2, t, K2⟩
end Go.Proofs.YtmopfnhjooopkaaGreatDoor.Mo

namespace Go.Proofs.YtmopfnhjooopkaaGreatDoor.Mo
open Go.RowKit Fu Tn Go.Lib Wt

structure IP2 (W x : World) (V0 V1 V2 V6 V7 V8 V9 V11 V12 V13 : Value) (N10 N14 : Int) (y0 y1 y2 y3 y4 y5 y6 y7 y8 y9 y10 y11 y12 y13 y14 : Bool) (t11 t12 t13 t14 t15 t16 t17 t18 t19 t20 t21 t22 t23 t24 t25 : Value) : Prop where
  bel : Below W.heap.size W x
  o0 : y0 = true → t11 = V0
  o1 : y1 = true → t12 = V1
  o2 : y2 = true → t13 = V2
  o6 : y6 = true → t17 = V6
  o7 : y7 = true → t18 = V7
  o8 : y8 = true → t19 = V8
  o9 : y9 = true → t20 = V9
  o11 : y11 = true → t22 = V11
  o12 : y12 = true → t23 = V12
  o13 : y13 = true → t24 = V13
  o10 : y10 = true → NV N10 t21 x
  o14 : y14 = true → NV N14 t25 x
  o3 : y3 = true → t14 = undef
  o4 : y4 = true → t15 = undef
  o5 : y5 = true → t16 = undef
  d1_0 : y1 = true → y0 = true
  d2_1 : y2 = true → y1 = true
  d4_3 : y4 = true → y3 = true
  d5_4 : y5 = true → y4 = true
  d6_2 : y6 = true → y2 = true
  d6_5 : y6 = true → y5 = true
  d8_7 : y8 = true → y7 = true
  d10_8 : y10 = true → y8 = true
  d10_9 : y10 = true → y9 = true
  d12_11 : y12 = true → y11 = true
  d14_12 : y14 = true → y12 = true
  d14_13 : y14 = true → y13 = true
theorem IP2.grow {W x x' : World} {V0 V1 V2 V6 V7 V8 V9 V11 V12 V13 : Value} {N10 N14 : Int} {y0 y1 y2 y3 y4 y5 y6 y7 y8 y9 y10 y11 y12 y13 y14 : Bool} {t11 t12 t13 t14 t15 t16 t17 t18 t19 t20 t21 t22 t23 t24 t25 : Value} (h : IP2 W x V0 V1 V2 V6 V7 V8 V9 V11 V12 V13 N10 N14 y0 y1 y2 y3 y4 y5 y6 y7 y8 y9 y10 y11 y12 y13 y14 t11 t12 t13 t14 t15 t16 t17 t18 t19 t20 t21 t22 t23 t24 t25) (b : Below x.heap.size x x') : IP2 W x' V0 V1 V2 V6 V7 V8 V9 V11 V12 V13 N10 N14 y0 y1 y2 y3 y4 y5 y6 y7 y8 y9 y10 y11 y12 y13 y14 t11 t12 t13 t14 t15 t16 t17 t18 t19 t20 t21 t22 t23 t24 t25 where
  bel := bel' h.bel b
  o0 := h.o0
  o1 := h.o1
  o2 := h.o2
  o6 := h.o6
  o7 := h.o7
  o8 := h.o8
  o9 := h.o9
  o11 := h.o11
  o12 := h.o12
  o13 := h.o13
  o3 := h.o3
  o4 := h.o4
  o5 := h.o5
  o10 := fun u => (h.o10 u).grow b
  o14 := fun u => (h.o14 u).grow b
  d1_0 := h.d1_0
  d2_1 := h.d2_1
  d4_3 := h.d4_3
  d5_4 := h.d5_4
  d6_2 := h.d6_2
  d6_5 := h.d6_5
  d8_7 := h.d8_7
  d10_8 := h.d10_8
  d10_9 := h.d10_9
  d12_11 := h.d12_11
  d14_12 := h.d14_12
  d14_13 := h.d14_13
set_option maxHeartbeats 3200000 in
set_option maxRecDepth 100000 in
theorem Power_raw (B1 B2 A1 A2 : Option Addr) (J1 D1 J2 D2 M1 C1 M2 C2 : Nat) (n m P Q : Int) (w : World)
    (hc : (¬ n < 0 ∧ n = m ∧ (B1 = A1 ∧ J1 = M1 ∧ D1 = C1) ∧ B2 = A2 ∧ J2 = M2 ∧ D2 = C2) ∨ (n < 0 ∧ IntKind.i64.wrap (-n) = m ∧ (B1 = A2 ∧ J1 = M2 ∧ D1 = C2) ∧ B2 = A1 ∧ J2 = M1 ∧ D2 = C1))
    (U1 : ∀ x, Below w.heap.size w x → Calls Tryz.prog 55 #[.agg #[.slice A1 M1 C1], .int .i64 m] x fun e w' => ∃ a l c, e = .returned (.agg #[.slice a l c]) ∧ Nn w' a l c P ∧ Below x.heap.size x w') (U2 : ∀ x, Below w.heap.size w x → Calls Tryz.prog 55 #[.agg #[.slice A2 M2 C2], .int .i64 m] x fun e w' => ∃ a l c, e = .returned (.agg #[.slice a l c]) ∧ Nn w' a l c Q ∧ Below x.heap.size x w') :
    Calls Tryz.prog 38 #[.agg #[.bool false, .slice B1 J1 D1, .slice B2 J2 D2], .int .i64 n] w fun e w' => ∃ a l c a' l' c', e = .returned (.agg #[.bool false, .slice a l c, .slice a' l' c']) ∧ Nn w' a l c P ∧ Nn w' a' l' c' Q ∧ Below w.heap.size w w' := by
  have K0 := (Rb.new w (.bool false) (.slice B1 J1 D1) (.slice B2 J2 D2) 57).alloc (.cells #[.bool false, .slice none 0 0, .slice none 0 0] 57)
  have K1 := Rb.new (w.alloc (.cells #[.bool false, .slice B1 J1 D1, .slice B2 J2 D2] 57)) (.bool false) (.slice none 0 0) (.slice none 0 0) 57
  have pr : Below w.heap.size w ((w.alloc (.cells #[.bool false, .slice B1 J1 D1, .slice B2 J2 D2] 57)).alloc (.cells #[.bool false, .slice none 0 0, .slice none 0 0] 57)) := ((Below.refl _ _).alloc (Nat.le_refl _) _).alloc (by simp) _
  simp only [World.size_alloc] at K1
  have V := fun x => Inverse_any false B1 B2 J1 D1 J2 D2 x
  go_enter Tryz.func38, Tryz.ntmps38
  go_upto_if 6 with fail
  generalize (w.alloc (.cells #[.bool false, .slice B1 J1 D1, .slice B2 J2 D2] 57)).alloc (.cells #[.bool false, .slice none 0 0, .slice none 0 0] 57) = W at *
  go_cut [1] from 5 to 10 (fun v wc => v = .int .i64 m ∧ Rb wc w.heap.size (.bool false) (.slice A1 M1 C1) (.slice A2 M2 C2) ∧ Rb wc (w.heap.size + 1) (.bool false) (.slice none 0 0) (.slice none 0 0) ∧ Below w.heap.size w wc)
  case first =>
    rcases hc with ⟨h0, rfl, ⟨rfl, rfl, rfl⟩, rfl, rfl, rfl⟩ | ⟨h0, hm, ⟨rfl, rfl, rfl⟩, rfl, rfl, rfl⟩
    · go_wp2_with fail
      go_meet
      case rel => exact ⟨rfl, K0, K1, pr⟩
    · have k0 := K0.c0
      have k1 := K0.c1
      have k2 := K0.c2
      go_wp2_with (first
        | (go_at_call 31; refine (V _).mono ?_; rintro e w1 ⟨rfl, bb⟩; have u0 := (K0.grow bb).c0; have u1 := (K0.grow bb).c1; have u2 := (K0.grow bb).c2; have g0 := (K0.grow bb).f0; have g1 := (K0.grow bb).f1; have g2 := (K0.grow bb).f2)
        | fail)
      go_meet
      case rel => exact ⟨rfl, (K0.grow bb).sets _ _ _, (K1.grow bb).skip3 (by omega) _ _ _, bset3 (bel' pr bb) (Nat.le_refl _)⟩
  case rest =>
    clear K0 K1 pr V hc
    obtain ⟨rfl, K0, K1, pr⟩ := hcut
    replace U1 := fun x b => U1 x (bel' pr b)
    replace U2 := fun x b => U2 x (bel' pr b)
    go_wp2_with fail
    go_cut [] from 11 to 26 (fun wd => ∃ x0 a1 l1 c1 a2 l2 c2, wd = ((x0.setCell ⟨w.heap.size + 1, 0, none⟩ (.bool false)).setCell ⟨w.heap.size + 1, 1, none⟩ (.slice a1 l1 c1)).setCell ⟨w.heap.size + 1, 2, none⟩ (.slice a2 l2 c2) ∧ Nn x0 a1 l1 c1 P ∧ Nn x0 a2 l2 c2 Q ∧ Below wc.heap.size wc x0)
    case first =>
      rename_i hm hJ
      refine wp_region_held (S := fun _ => True) (by kernel_rfl) (any_inv (fun listed a x => ∃ (y0 y1 y2 y3 y4 y5 y6 y7 y8 y9 y10 y11 y12 y13 y14 : Bool) (t11 t12 t13 t14 t15 t16 t17 t18 t19 t20 t21 t22 t23 t24 t25 : Value) (z26 : Value), a = ⟨#[.agg #[.bool false, .slice B1 J1 D1, .slice B2 J2 D2], .int .i64 m, .pointer (some ⟨w.heap.size, 0, none⟩), undef, .pointer (some ⟨w.heap.size + 1, 0, none⟩), u5, u6, u7, u8, u9, u10, t11, t12, t13, t14, t15, t16, t17, t18, t19, t20, t21, t22, t23, t24, t25, z26], []⟩ ∧ ((listed = #[y0, y1, y2, y3, y4, y5, y6, y7, y8, y9, y10, y11, y12, y13, y14, false, false] ∧ IP2 wc x (.pointer (some ⟨w.heap.size, 0, none⟩)) (.bool false) (.bool false) (.bool false) (.pointer (some ⟨w.heap.size, 1, none⟩)) (.agg #[.slice A1 M1 C1]) (.int .i64 m) (.pointer (some ⟨w.heap.size, 2, none⟩)) (.agg #[.slice A2 M2 C2]) (.int .i64 m) (P) (Q) y0 y1 y2 y3 y4 y5 y6 y7 y8 y9 y10 y11 y12 y13 y14 t11 t12 t13 t14 t15 t16 t17 t18 t19 t20 t21 t22 t23 t24 t25 ∧ z26 = undef) ∨ (listed = #[true, true, true, true, true, true, true, true, true, true, true, true, true, true, true, true, false] ∧ ∃ a1 l1 c1 a2 l2 c2, z26 = .agg #[.bool false, .slice a1 l1 c1, .slice a2 l2 c2] ∧ Nn x a1 l1 c1 P ∧ Nn x a2 l2 c2 Q ∧ Below wc.heap.size wc x) ∨ (listed = #[true, true, true, true, true, true, true, true, true, true, true, true, true, true, true, true, true] ∧ ∃ x0 a1 l1 c1 a2 l2 c2, x = ((x0.setCell ⟨w.heap.size + 1, 0, none⟩ (.bool false)).setCell ⟨w.heap.size + 1, 1, none⟩ (.slice a1 l1 c1)).setCell ⟨w.heap.size + 1, 2, none⟩ (.slice a2 l2 c2) ∧ Nn x0 a1 l1 c1 P ∧ Nn x0 a2 l2 c2 Q ∧ Below wc.heap.size wc x0))) ?_ ?_ _ _ _ _ (by decide) ?_)
      · rintro listed a x i ⟨y0, y1, y2, y3, y4, y5, y6, y7, y8, y9, y10, y11, y12, y13, y14, t11, t12, t13, t14, t15, t16, t17, t18, t19, t20, t21, t22, t23, t24, t25, z26, rfl, h⟩ hi
        have hr : i < 17 := List.mem_range.1 (List.mem_filter.1 hi).1
        have hc := (List.mem_filter.1 hi).2
        rcases h with ⟨rfl, h⟩ | ⟨rfl, h⟩ | ⟨rfl, h⟩
        · rcases (show i = 0 ∨ i = 1 ∨ i = 2 ∨ i = 3 ∨ i = 4 ∨ i = 5 ∨ i = 6 ∨ i = 7 ∨ i = 8 ∨ i = 9 ∨ i = 10 ∨ i = 11 ∨ i = 12 ∨ i = 13 ∨ i = 14 ∨ i = 15 ∨ i = 16 by omega) with rfl | rfl | rfl | rfl | rfl | rfl | rfl | rfl | rfl | rfl | rfl | rfl | rfl | rfl | rfl | rfl | rfl
          · obtain ⟨h, rfl⟩ := h
            clear hc hi
            refine wpOp_go rfl rfl (fun K hK => ?_)
            go_wp2_with fail
            exact hK.out _ _ ⟨true,_,_,_,_,_,_,_,_,_,_,_,_,_,_,.pointer (some ⟨w.heap.size, 0, none⟩),_,_,_,_,_,_,_,_,_,_,_,_,_,_,undef,rfl,Or.inl ⟨rfl, ⟨{ h with o0 := fun _ => rfl, d1_0 := fun _ => rfl }, rfl⟩⟩⟩
          · obtain ⟨h, rfl⟩ := h
            have e0 : y0 = true := by revert hc; cases y0 <;> simp [Region.binds]
            have r0 := h.o0 e0; subst r0
            clear hc hi
            have kd := (K0.grow h.bel).c0
            refine wpOp_go rfl rfl (fun K hK => ?_)
            go_wp2_with fail
            exact hK.out _ _ ⟨_,true,_,_,_,_,_,_,_,_,_,_,_,_,_,_,.bool false,_,_,_,_,_,_,_,_,_,_,_,_,_,undef,rfl,Or.inl ⟨rfl, ⟨{ h with o1 := fun _ => rfl, d1_0 := fun _ => e0, d2_1 := fun _ => rfl }, rfl⟩⟩⟩
          · obtain ⟨h, rfl⟩ := h
            have e1 : y1 = true := by revert hc; cases y1 <;> simp [Region.binds]
            have r1 := h.o1 e1; subst r1
            clear hc hi
            refine wpOp_go rfl rfl (fun K hK => ?_)
            go_wp2_with fail
            exact hK.out _ _ ⟨_,_,true,_,_,_,_,_,_,_,_,_,_,_,_,_,_,.bool false,_,_,_,_,_,_,_,_,_,_,_,_,undef,rfl,Or.inl ⟨rfl, ⟨{ h with o2 := fun _ => rfl, d2_1 := fun _ => e1, d6_2 := fun _ => rfl }, rfl⟩⟩⟩
          · obtain ⟨h, rfl⟩ := h
            have e2 : y2 = true := by revert hc; cases y2 <;> simp [Region.binds]
            have r2 := h.o2 e2; subst r2
            clear hc hi
            exact wpOp_skip rfl rfl ⟨y0, y1, y2, true, y4, y5, y6, y7, y8, y9, y10, y11, y12, y13, y14, t11, t12, _, _, t15, t16, t17, t18, t19, t20, t21, t22, t23, t24, t25, undef, rfl, Or.inl ⟨rfl, ⟨{ h with o3 := fun _ => rfl, d4_3 := fun _ => rfl }, rfl⟩⟩⟩
          · obtain ⟨h, rfl⟩ := h
            have e3 : y3 = true := by revert hc; cases y3 <;> simp [Region.binds]
            have e2 : y2 = true := by revert hc; cases y2 <;> simp [Region.binds]
            have r2 := h.o2 e2; subst r2
            clear hc hi
            exact wpOp_skip rfl rfl ⟨y0, y1, y2, y3, true, y5, y6, y7, y8, y9, y10, y11, y12, y13, y14, t11, t12, _, t14, _, t16, t17, t18, t19, t20, t21, t22, t23, t24, t25, undef, rfl, Or.inl ⟨rfl, ⟨{ h with o4 := fun _ => rfl, d4_3 := fun _ => e3, d5_4 := fun _ => rfl }, rfl⟩⟩⟩
          · obtain ⟨h, rfl⟩ := h
            have e4 : y4 = true := by revert hc; cases y4 <;> simp [Region.binds]
            have e2 : y2 = true := by revert hc; cases y2 <;> simp [Region.binds]
            have r2 := h.o2 e2; subst r2
            clear hc hi
            exact wpOp_skip rfl rfl ⟨y0, y1, y2, y3, y4, true, y6, y7, y8, y9, y10, y11, y12, y13, y14, t11, t12, _, t14, t15, _, t17, t18, t19, t20, t21, t22, t23, t24, t25, undef, rfl, Or.inl ⟨rfl, ⟨{ h with o5 := fun _ => rfl, d5_4 := fun _ => e4, d6_5 := fun _ => rfl }, rfl⟩⟩⟩
          · obtain ⟨h, rfl⟩ := h
            have e2 : y2 = true := by revert hc; cases y2 <;> simp [Region.binds]
            have e5 : y5 = true := by revert hc; cases y5 <;> simp [Region.binds]
            have r2 := h.o2 e2; subst r2
            have r5 := h.o5 e5; subst r5
            clear hc hi
            refine wpOp_go rfl rfl (fun K hK => ?_)
            go_wp2_with fail
            exact hK.out _ _ ⟨_,_,_,_,_,_,true,_,_,_,_,_,_,_,_,_,_,_,_,_,_,.bool false,_,_,_,_,_,_,_,_,undef,rfl,Or.inl ⟨rfl, ⟨{ h with o6 := fun _ => rfl, d6_2 := fun _ => e2, d6_5 := fun _ => e5 }, rfl⟩⟩⟩
          · obtain ⟨h, rfl⟩ := h
            clear hc hi
            refine wpOp_go rfl rfl (fun K hK => ?_)
            go_wp2_with fail
            exact hK.out _ _ ⟨_,_,_,_,_,_,_,true,_,_,_,_,_,_,_,_,_,_,_,_,_,_,.pointer (some ⟨w.heap.size, 1, none⟩),_,_,_,_,_,_,_,undef,rfl,Or.inl ⟨rfl, ⟨{ h with o7 := fun _ => rfl, d8_7 := fun _ => rfl }, rfl⟩⟩⟩
          · obtain ⟨h, rfl⟩ := h
            have e7 : y7 = true := by revert hc; cases y7 <;> simp [Region.binds]
            have r7 := h.o7 e7; subst r7
            clear hc hi
            have kd := (K0.grow h.bel).c1
            refine wpOp_go rfl rfl (fun K hK => ?_)
            go_wp2_with fail
            exact hK.out _ _ ⟨_,_,_,_,_,_,_,_,true,_,_,_,_,_,_,_,_,_,_,_,_,_,_,.agg #[.slice A1 M1 C1],_,_,_,_,_,_,undef,rfl,Or.inl ⟨rfl, ⟨{ h with o8 := fun _ => rfl, d8_7 := fun _ => e7, d10_8 := fun _ => rfl }, rfl⟩⟩⟩
          · obtain ⟨h, rfl⟩ := h
            clear hc hi
            refine wpOp_go rfl rfl (fun K hK => ?_)
            go_wp2_with fail
            exact hK.out _ _ ⟨_,_,_,_,_,_,_,_,_,true,_,_,_,_,_,_,_,_,_,_,_,_,_,_,.int .i64 m,_,_,_,_,_,undef,rfl,Or.inl ⟨rfl, ⟨{ h with o9 := fun _ => rfl, d10_9 := fun _ => rfl }, rfl⟩⟩⟩
          · obtain ⟨h, rfl⟩ := h
            have e8 : y8 = true := by revert hc; cases y8 <;> simp [Region.binds]
            have e9 : y9 = true := by revert hc; cases y9 <;> simp [Region.binds]
            have r8 := h.o8 e8; subst r8
            have r9 := h.o9 e9; subst r9
            clear hc hi
            refine wpOp_go rfl rfl (fun K hK => ?_)
            go_wp2_with (first | (go_at_call 55; go_must (refine (U1 x h.bel).mono ?_; rintro e x2 ⟨a9, l9, c9, rfl, H9, bb⟩)) | fail)
            exact hK.out _ _ ⟨_,_,_,_,_,_,_,_,_,_,true,_,_,_,_,_,_,_,_,_,_,_,_,_,_,_,_,_,_,_,undef,rfl,Or.inl ⟨rfl, ⟨{ h.grow bb with o10 := fun _ => ⟨a9, l9, c9, rfl, H9⟩, d10_8 := fun _ => e8, d10_9 := fun _ => e9 }, rfl⟩⟩⟩
          · obtain ⟨h, rfl⟩ := h
            clear hc hi
            refine wpOp_go rfl rfl (fun K hK => ?_)
            go_wp2_with fail
            exact hK.out _ _ ⟨_,_,_,_,_,_,_,_,_,_,_,true,_,_,_,_,_,_,_,_,_,_,_,_,_,_,.pointer (some ⟨w.heap.size, 2, none⟩),_,_,_,undef,rfl,Or.inl ⟨rfl, ⟨{ h with o11 := fun _ => rfl, d12_11 := fun _ => rfl }, rfl⟩⟩⟩
          · obtain ⟨h, rfl⟩ := h
            have e11 : y11 = true := by revert hc; cases y11 <;> simp [Region.binds]
            have r11 := h.o11 e11; subst r11
            clear hc hi
            have kd := (K0.grow h.bel).c2
            refine wpOp_go rfl rfl (fun K hK => ?_)
            go_wp2_with fail
            exact hK.out _ _ ⟨_,_,_,_,_,_,_,_,_,_,_,_,true,_,_,_,_,_,_,_,_,_,_,_,_,_,_,.agg #[.slice A2 M2 C2],_,_,undef,rfl,Or.inl ⟨rfl, ⟨{ h with o12 := fun _ => rfl, d12_11 := fun _ => e11, d14_12 := fun _ => rfl }, rfl⟩⟩⟩
          · obtain ⟨h, rfl⟩ := h
            clear hc hi
            refine wpOp_go rfl rfl (fun K hK => ?_)
            go_wp2_with fail
            exact hK.out _ _ ⟨_,_,_,_,_,_,_,_,_,_,_,_,_,true,_,_,_,_,_,_,_,_,_,_,_,_,_,_,.int .i64 m,_,undef,rfl,Or.inl ⟨rfl, ⟨{ h with o13 := fun _ => rfl, d14_13 := fun _ => rfl }, rfl⟩⟩⟩
          · obtain ⟨h, rfl⟩ := h
            have e12 : y12 = true := by revert hc; cases y12 <;> simp [Region.binds]
            have e13 : y13 = true := by revert hc; cases y13 <;> simp [Region.binds]
            have r12 := h.o12 e12; subst r12
            have r13 := h.o13 e13; subst r13
            clear hc hi
            refine wpOp_go rfl rfl (fun K hK => ?_)
            go_wp2_with (first | (go_at_call 55; go_must (refine (U2 x h.bel).mono ?_; rintro e x2 ⟨a9, l9, c9, rfl, H9, bb⟩)) | fail)
            exact hK.out _ _ ⟨_,_,_,_,_,_,_,_,_,_,_,_,_,_,true,_,_,_,_,_,_,_,_,_,_,_,_,_,_,_,undef,rfl,Or.inl ⟨rfl, ⟨{ h.grow bb with o14 := fun _ => ⟨a9, l9, c9, rfl, H9⟩, d14_12 := fun _ => e12, d14_13 := fun _ => e13 }, rfl⟩⟩⟩
          · obtain ⟨h, rfl⟩ := h
            have e6 : y6 = true := by revert hc; cases y6 <;> simp [Region.binds]
            have e10 : y10 = true := by revert hc; cases y10 <;> simp [Region.binds]
            have e14 : y14 = true := by revert hc; cases y14 <;> simp [Region.binds]
            have e2 := h.d6_2 e6
            have e5 := h.d6_5 e6
            have e8 := h.d10_8 e10
            have e9 := h.d10_9 e10
            have e12 := h.d14_12 e14
            have e13 := h.d14_13 e14
            have e1 := h.d2_1 e2
            have e4 := h.d5_4 e5
            have e7 := h.d8_7 e8
            have e11 := h.d12_11 e12
            have e0 := h.d1_0 e1
            have e3 := h.d4_3 e4
            have r6 := h.o6 e6; subst r6
            obtain ⟨a10, l10, c10, rfl, H10⟩ := h.o10 e10
            obtain ⟨a14, l14, c14, rfl, H14⟩ := h.o14 e14
            clear hc hi
            subst e0 e1 e2 e3 e4 e5 e6 e7 e8 e9 e10 e11 e12 e13 e14
            have bl := h.bel
            clear h
            refine wpOp_go rfl rfl (fun K hK => ?_)
            go_wp2_with fail
            exact hK.out _ _ ⟨true,true,true,true,true,true,true,true,true,true,true,true,true,true,true,_,_,_,_,_,_,_,_,_,_,_,_,_,_,_,_,rfl,Or.inr (Or.inl ⟨rfl, a10, l10, c10, a14, l14, c14, rfl, H10, H14, bl⟩)⟩
          · simp [Region.binds] at hc
        · rcases (show i = 0 ∨ i = 1 ∨ i = 2 ∨ i = 3 ∨ i = 4 ∨ i = 5 ∨ i = 6 ∨ i = 7 ∨ i = 8 ∨ i = 9 ∨ i = 10 ∨ i = 11 ∨ i = 12 ∨ i = 13 ∨ i = 14 ∨ i = 15 ∨ i = 16 by omega) with rfl | rfl | rfl | rfl | rfl | rfl | rfl | rfl | rfl | rfl | rfl | rfl | rfl | rfl | rfl | rfl | rfl
          · simp at hc
          · simp at hc
          · simp at hc
          · simp at hc
          · simp at hc
          · simp at hc
          · simp at hc
          · simp at hc
          · simp at hc
          · simp at hc
          · simp at hc
          · simp at hc
          · simp at hc
          · simp at hc
          · simp at hc
          · simp at hc
          · clear hc hi
            obtain ⟨a1, l1, c1, a2, l2, c2, rfl, H1, H2, bl⟩ := h
            have kr := K1.grow bl
            have kr0 := kr.c0
            have kr1 := kr.c1
            have kr2 := kr.c2
            have kf0 := kr.f0
            have kf1 := kr.f1
            have kf2 := kr.f2
            clear kr
            refine wpOp_go rfl rfl (fun K hK => ?_)
            go_wp2_with fail
            exact hK.out _ _ ⟨true,true,true,true,true,true,true,true,true,true,true,true,true,true,true,_,_,_,_,_,_,_,_,_,_,_,_,_,_,_,_,rfl,Or.inr (Or.inr (⟨rfl, x, a1, l1, c1, a2, l2, c2, rfl, H1, H2, bl⟩))⟩
        · rcases (show i = 0 ∨ i = 1 ∨ i = 2 ∨ i = 3 ∨ i = 4 ∨ i = 5 ∨ i = 6 ∨ i = 7 ∨ i = 8 ∨ i = 9 ∨ i = 10 ∨ i = 11 ∨ i = 12 ∨ i = 13 ∨ i = 14 ∨ i = 15 ∨ i = 16 by omega) with rfl | rfl | rfl | rfl | rfl | rfl | rfl | rfl | rfl | rfl | rfl | rfl | rfl | rfl | rfl | rfl | rfl <;> simp at hc
      · rintro listed a x ⟨y0, y1, y2, y3, y4, y5, y6, y7, y8, y9, y10, y11, y12, y13, y14, t11, t12, t13, t14, t15, t16, t17, t18, t19, t20, t21, t22, t23, t24, t25, z26, rfl, h⟩ hn
        have al := all_listed (by decide +kernel) hn
        rcases h with ⟨rfl, h⟩ | ⟨rfl, h⟩ | ⟨rfl, h⟩
        · have z := al 15 (by decide)
          simp at z
        · have z := al 16 (by decide)
          simp at z
        · obtain ⟨x0, a1, l1, c1, a2, l2, c2, rfl, H1, H2, bl⟩ := h
          refine hJ _ _ ?_
          go_meet
          case rel => exact ⟨x0, a1, l1, c1, a2, l2, c2, rfl, H1, H2, bl⟩
      · exact ⟨false, false, false, false, false, false, false, false, false, false, false, false, false, false, false, undef, undef, undef, undef, undef, undef, undef, undef, undef, undef, undef, undef, undef, undef, undef, undef, rfl, Or.inl ⟨rfl, ⟨{ bel := (Below.refl _ _).drew, o0 := (by intro q; cases q), o1 := (by intro q; cases q), o2 := (by intro q; cases q), o3 := (by intro q; cases q), o4 := (by intro q; cases q), o5 := (by intro q; cases q), o6 := (by intro q; cases q), o7 := (by intro q; cases q), o8 := (by intro q; cases q), o9 := (by intro q; cases q), o10 := (by intro q; cases q), o11 := (by intro q; cases q), o12 := (by intro q; cases q), o13 := (by intro q; cases q), o14 := (by intro q; cases q), d1_0 := (by intro q; cases q), d2_1 := (by intro q; cases q), d4_3 := (by intro q; cases q), d5_4 := (by intro q; cases q), d6_2 := (by intro q; cases q), d6_5 := (by intro q; cases q), d8_7 := (by intro q; cases q), d10_8 := (by intro q; cases q), d10_9 := (by intro q; cases q), d12_11 := (by intro q; cases q), d14_12 := (by intro q; cases q), d14_13 := (by intro q; cases q) }, rfl⟩⟩⟩
    case rest =>
      obtain ⟨x0, a1, l1, c1, a2, l2, c2, rfl, H1, H2, bl⟩ := hcut
      have kr := K1.grow bl
      have q7 := H1.putF (x := .bool false) (y := .slice a1 l1 c1) (z := .slice a2 l2 c2) kr
      have q8 := H2.putF (x := .bool false) (y := .slice a1 l1 c1) (z := .slice a2 l2 c2) kr
      obtain ⟨z0, z1, z2⟩ := kr.put (.bool false) (.slice a1 l1 c1) (.slice a2 l2 c2)
      have bE := bset3 (n := w.heap.size + 1) (x := .bool false) (y := .slice a1 l1 c1) (z := .slice a2 l2 c2) (bel' pr bl) (by omega)
      go_wp2_with fail
      generalize ((x0.setCell ⟨w.heap.size + 1, 0, none⟩ (.bool false)).setCell ⟨w.heap.size + 1, 1, none⟩ (.slice a1 l1 c1)).setCell ⟨w.heap.size + 1, 2, none⟩ (.slice a2 l2 c2) = WE at *
      exact bodyPost_ret (v := .agg #[.bool false, .slice a1 l1 c1, .slice a2 l2 c2]) (by simp [results, Tryz.results38, go_sem, z0, z1, z2]) rfl ⟨a1, l1, c1, a2, l2, c2, rfl, q7, q8, bE⟩
end Go.Proofs.YtmopfnhjooopkaaGreatDoor.Mo

namespace Go.Proofs.YtmopfnhjooopkaaGreatDoor.Mo
open Go.RowKit Fu Tn Go.Lib Ip

theorem Bd.ps {r : Rat} {B K : Nat} (h : Bd r B) (hB : B ≤ 64 * K) : PS r K := ⟨lt_64 h.1 hB, lt_64 h.2 hB⟩
theorem Bd.qs {r : Rat} {B K : Nat} (h : Bd r B) (hB : B ≤ 30 * K) : L.QS r K := ⟨lt_30 h.1 hB, lt_30 h.2 hB⟩
theorem two_ten : (2 : Nat) ^ 13606 ≤ 10 ^ 4096 := by decide +kernel
theorem dig_le {N B k n : Nat} (h : N < 2 ^ B) (hB : B ≤ k) (h2 : 2 ^ k ≤ 10 ^ n) (hn : 0 < n) : (decDigits N).length ≤ n := by
  rw [decDigits_length]
  exact _root_.Dc.nDigits_le hn (Nat.lt_of_lt_of_le h (Nat.le_trans (Nat.pow_le_pow_right (by decide) hB) h2))
theorem dig_short {N B : Nat} (h : N < 2 ^ B) (hB : B ≤ 13606) : (decDigits N).length ≤ 4096 := dig_le h hB two_ten (by decide)
theorem Ratio_s (v : Value) (r : Rat) (B : Nat) (w : World) (h : PF w v r) (hB : Bd r B) (h13 : B ≤ 13606) (G : Gw w) :
    Calls Tryz.prog 32 #[v] w fun e w' => e = .returned (.tuple #[wrt r, .int .i64 0]) ∧ Below w.heap.size w w' := by
  have := Ratio_any v r w h (Bd.ps hB (by omega)) G
  rw [wrA_short (dig_short hB.1 h13) (dig_short hB.2 h13)] at this
  exact this
theorem Out_s (v : Value) (r : Rat) (B : Nat) (w : World) (h : L.IsQ w v r) (hB : Bd r B) (h13 : B ≤ 13606) :
    Calls Tryz.prog 34 #[v] w fun e w' => e = .returned (.tuple #[wrt r, .int .i64 0]) ∧ Below w.heap.size w w' :=
  L.Out_q v r 1000 w h (Bd.qs hB (by omega)) (by decide) (dig_short hB.1 h13) (dig_short hB.2 h13)
end Go.Proofs.YtmopfnhjooopkaaGreatDoor.Mo

namespace Go.Proofs.YtmopfnhjooopkaaGreatDoor.Mo
open Go.RowKit Fu Tn Go.Lib Ip

theorem PF.putF {w : World} {n : Nat} {v : Value} {r : Rat} {x y z : Value} {g : Bool} {a1 a2 : Option Addr} {n1 c1 n2 c2 : Nat} (h : PF w v r) (R : Rb w n (.bool g) (.slice a1 n1 c1) (.slice a2 n2 c2)) : PF (((w.setCell ⟨n, 0, none⟩ x).setCell ⟨n, 1, none⟩ y).setCell ⟨n, 2, none⟩ z) v r := by
  obtain ⟨a, l, c, a', l', c', e, h1, h2⟩ := h
  exact ⟨a, l, c, a', l', c', e, h1.putF R, h2.putF R⟩
/-- Is it a rate of interest? -/
def okR (k : Int) : Bool := decide (-10000000 < k) && decide (k ≤ 100000000)
set_option maxRecDepth 100000 in
theorem isRate_any (k : Int) (w : World) : Calls Tryz.prog 141 #[.int .i64 k] w fun e w' => e = .returned (.bool (okR k)) ∧ w' = w := by
  unfold okR
  by_cases h1 : -10000000 < k <;> by_cases h2 : k ≤ 100000000
  all_goals
    go_enter Tryz.func141, Tryz.ntmps141
    go_wp2
    go_ret
    exact ⟨by simp [h1, h2], rfl⟩
/-- Is it a number of years? -/
def okY (k : Int) : Bool := decide (0 ≤ k) && decide (k ≤ 130)
set_option maxRecDepth 100000 in
theorem isYears_any (k : Int) (w : World) : Calls Tryz.prog 142 #[.int .i64 k] w fun e w' => e = .returned (.bool (okY k)) ∧ w' = w := by
  unfold okY
  by_cases h1 : 0 ≤ k <;> by_cases h2 : k ≤ 130
  all_goals
    go_enter Tryz.func142, Tryz.ntmps142
    go_wp2
    go_ret
    exact ⟨by simp [h1, h2], rfl⟩
set_option maxRecDepth 100000 in
set_option maxHeartbeats 1600000 in
theorem quotient_r (p q : Int) (rp rq ri rr : Rat) (w : World) (O1 : ∀ x, Calls Tryz.prog 29 #[.int .i64 p] x (Fa rp x)) (O2 : ∀ x, Calls Tryz.prog 29 #[.int .i64 q] x (Fa rq x)) (V : ∀ x v, PF x v rq → Calls Tryz.prog 31 #[v] x (Fa ri x)) (T : ∀ x v1 v2, PF x v1 rp → PF x v2 ri → Calls Tryz.prog 30 #[v1, v2] x (Fa rr x)) :
    Calls Tryz.prog 206 #[.int .i64 p, .int .i64 q] w (Fa (rr) w) := by
  have KR := Blk.new w #[.bool false, .slice none 0 0, .slice none 0 0] 57
  have pr : Below w.heap.size w (w.alloc (.cells #[.bool false, .slice none 0 0, .slice none 0 0] 57)) := (Below.refl _ _).alloc (Nat.le_refl _) _
  go_enter Tryz.func206, Tryz.ntmps206
  go_wp2_with (first
    | (go_at_call 30; (have z4 := p3); (refine (T _ _ _ t1_3 t3).mono ?_); (rintro e w4 ⟨g4, a4, l4, c4, a4', l4', c4', rfl, t4, b4⟩); (have p4 := Mo.bel' p3 b4); (have t1_4 := t1_3.grow b4); (have t2_4 := t2_3.grow b4); (have t3_4 := t3.grow b4); (have KR_4 := KR_3.below b4 KR_3.lt); (have q0 := KR_4.at 0); (have q1 := KR_4.at 1); (have q2 := KR_4.at 2); (have y0 := KR_4.free 0); (have y1 := KR_4.free 1); (have y2 := KR_4.free 2); (simp at q0 q1 q2))
    | (go_at_call 31; (have z3 := p2); (refine (V _ _ t2).mono ?_); (rintro e w3 ⟨g3, a3, l3, c3, a3', l3', c3', rfl, t3, b3⟩); (have p3 := Mo.bel' p2 b3); (have t1_3 := t1_2.grow b3); (have t2_3 := t2.grow b3); (have KR_3 := KR_2.below b3 KR_2.lt))
    | (go_at_call 29; (have z2 := p1); (refine (O2 _).mono ?_); (rintro e w2 ⟨g2, a2, l2, c2, a2', l2', c2', rfl, t2, b2⟩); (have p2 := Mo.bel' p1 b2); (have t1_2 := t1.grow b2); (have KR_2 := KR_1.below b2 KR_1.lt))
    | (go_at_call 29; (refine (O1 _).mono ?_); (rintro e w1 ⟨g1, a1, l1, c1, a1', l1', c1', rfl, t1, b1⟩); (have p1 := Mo.bel' pr b1); (have KR_1 := KR.below b1 KR.lt))
    | fail)
  have R := Rb.ofB KR_4
  obtain ⟨F0, F1, F2⟩ := R.put (.bool g4) (.slice a4 l4 c4) (.slice a4' l4' c4')
  exact bodyPost_ret (v := .agg #[.bool g4, .slice a4 l4 c4, .slice a4' l4' c4']) (by simp [results, Tryz.results206, go_sem, F0, F1, F2]) rfl ⟨g4, a4, l4, c4, a4', l4', c4', rfl, t4.putF R, bset3 p4 (Nat.le_refl _)⟩
theorem quotient_p (p q : Int) (w : World) (hp0 : -9223372036854775807 ≤ p) (hp1 : p ≤ 9223372036854775807) (hq0 : 0 < q) (hq1 : q ≤ 9223372036854775807) :
    Calls Tryz.prog 206 #[.int .i64 p, .int .i64 q] w (Fa ((p : Rat) * (q : Rat)⁻¹) w) := by
  have q0 : (q : Rat) ≠ 0 := by simpa using show q ≠ 0 by omega
  have b1 : Bd (p : Rat) 63 := Bd.int (by omega) (by decide)
  have b2 : Bd (q : Rat) 63 := Bd.int (by omega) (by decide)
  exact quotient_r p q _ _ _ _ w (fun x => fa_of (OfInt_p p x hp0 hp1)) (fun x => fa_of (OfInt_p q x (by omega) hq1)) (fun x v h => fa_of (Inverse_p v _ x h q0))
    (fun x v1 v2 h1 h2 => fa_of (Times_p v1 v2 _ _ 1 1 x h1 h2 (Bd.ps b1 (by decide)) (Bd.ps (b2.inv q0) (by decide)) (by unfold MulOK; omega)))
set_option maxRecDepth 100000 in
set_option maxHeartbeats 1600000 in
theorem growth_r (k S : Int) (rr : Rat) (w : World) (hS : IntKind.i64.wrap (10000000 + k) = S) (Q : ∀ x, Calls Tryz.prog 206 #[.int .i64 S, .int .i64 10000000] x (Fa rr x)) :
    Calls Tryz.prog 182 #[.int .i64 k] w (Fa (rr) w) := by
  have KR := Blk.new w #[.bool false, .slice none 0 0, .slice none 0 0] 57
  have pr : Below w.heap.size w (w.alloc (.cells #[.bool false, .slice none 0 0, .slice none 0 0] 57)) := (Below.refl _ _).alloc (Nat.le_refl _) _
  go_enter Tryz.func182, Tryz.ntmps182
  go_wp2_with (first
    | (go_at_call 206; (refine (Q _).mono ?_); (rintro e w1 ⟨g1, a1, l1, c1, a1', l1', c1', rfl, t1, b1⟩); (have p1 := Mo.bel' pr b1); (have KR_1 := KR.below b1 KR.lt); (have q0 := KR_1.at 0); (have q1 := KR_1.at 1); (have q2 := KR_1.at 2); (have y0 := KR_1.free 0); (have y1 := KR_1.free 1); (have y2 := KR_1.free 2); (simp at q0 q1 q2))
    | fail)
  have R := Rb.ofB KR_1
  obtain ⟨F0, F1, F2⟩ := R.put (.bool g1) (.slice a1 l1 c1) (.slice a1' l1' c1')
  exact bodyPost_ret (v := .agg #[.bool g1, .slice a1 l1 c1, .slice a1' l1' c1']) (by simp [results, Tryz.results182, go_sem, F0, F1, F2]) rfl ⟨g1, a1, l1, c1, a1', l1', c1', rfl, t1.putF R, bset3 p1 (Nat.le_refl _)⟩
theorem growth_p (k : Int) (w : World) (h : okR k = true) : Calls Tryz.prog 182 #[.int .i64 k] w (Fa (gr k) w) := by
  have h' : -10000000 < k ∧ k ≤ 100000000 := by simpa [okR] using h
  exact growth_r k (10000000 + k) _ w (Wt.wrapI _ (by omega) (by omega)) (fun x => quotient_p (10000000 + k) 10000000 x (by omega) (by omega) (by decide) (by decide))
end Go.Proofs.YtmopfnhjooopkaaGreatDoor.Mo

namespace Go.Proofs.YtmopfnhjooopkaaGreatDoor.Mo
open Go.RowKit Fu Tn Go.Lib Ip

theorem one_lt64 {K : Nat} (h : 1 ≤ K) : 1 < Tn.pw K := by
  rw [pw_64]
  have := Nat.pow_le_pow_right (show 0 < 2 by decide) (show 1 ≤ 64 * K by omega)
  omega
/-- A power, of either sign. -/
def gp (r : Rat) (n : Int) : Rat := if 0 ≤ n then r ^ n.toNat else r⁻¹ ^ (-n).toNat
theorem gp_up (r : Rat) (m : Nat) : gp r (m : Int) = r ^ m := by unfold gp; rw [if_pos (by omega), Int.toNat_natCast]
theorem gp_down (r : Rat) {n : Int} {m : Nat} (h : n < 0) (e : -n = (m : Int)) : gp r n = r⁻¹ ^ m := by unfold gp; rw [if_neg (by omega), e, Int.toNat_natCast]
theorem Bd.gp {r : Rat} {B : Nat} (h : Bd r B) (h0 : r ≠ 0) (n : Int) {M : Nat} (hn : n.natAbs ≤ M) : Bd (gp r n) (B * M + 1) := by
  have q := Nat.mul_le_mul_left B hn
  by_cases c : 0 ≤ n
  · obtain ⟨m, rfl⟩ : ∃ m : Nat, n = m := ⟨n.toNat, by omega⟩
    rw [gp_up]
    exact (h.pow m).mono (by simp at q; omega)
  · obtain ⟨m, hm⟩ : ∃ m : Nat, -n = (m : Int) := ⟨(-n).toNat, by omega⟩
    rw [gp_down r (by omega) hm]
    have e : n.natAbs = m := by omega
    rw [e] at q
    exact ((h.inv h0).pow m).mono (by omega)
theorem pos_ne {r : Rat} (h : 0 < r) : r ≠ 0 := fun e => Rat.lt_irrefl (e ▸ h)
/-- Power of a number above nought. -/
theorem Power_p (v : Value) (r : Rat) (n : Int) (B : Nat) (w : World) (h : PF w v r) (h0 : 0 < r) (hB : Bd r B) (hb : B ≤ 64) (n0 : -400 ≤ n) (n1 : n ≤ 400) :
    Calls Tryz.prog 38 #[v, .int .i64 n] w (Fa (gp r n) w) := by
  obtain ⟨a, l, c, a', l', c', rfl, k1, k2⟩ := h
  rw [num_neg h0]
  have C : ∀ (a : Option Addr) (l c N : Nat), Nn w a l c (N : Int) → N < 2 ^ B → ∀ m : Nat, m ≤ 400 → ∀ x, Below w.heap.size w x → Calls Tryz.prog 55 #[.agg #[.slice a l c], .int .i64 (m : Int)] x fun e w' => ∃ a l c, e = .returned (.agg #[.slice a l c]) ∧ Nn w' a l c ((N ^ m : Nat) : Int) ∧ Below x.heap.size x w' := by
    intro a l c N k hN m hm x b
    have := Nat.mul_le_mul hb hm
    exact Pow_n a l c N m x (k.grow b) (by omega) (one_lt64 (K := 401) (by decide)) (by decide) (lt_64 (lt_pow2 hN m) (by omega))
  by_cases c0 : 0 ≤ n
  · obtain ⟨m, rfl⟩ : ∃ m : Nat, n = m := ⟨n.toNat, by omega⟩
    rw [gp_up]
    refine (Power_raw a a' a a' l c l' c' l c l' c' m m _ _ w (Or.inl ⟨by omega, rfl, ⟨rfl, rfl, rfl⟩, rfl, rfl, rfl⟩) (C a l c _ k1 hB.1 m (by omega)) (C a' l' c' _ k2 hB.2 m (by omega))).mono ?_
    rintro e w' ⟨a, l, c, a', l', c', rfl, q1, q2, b⟩
    have e0 : decide ((r ^ m).num < 0) = false := by
      rw [Rat.num_pow]
      have := pow_nn (x := r.num) (by have := of_decide_eq_false (num_neg h0); omega) m
      exact decide_eq_false (by omega)
    exact ⟨false, a, l, c, a', l', c', rfl, ⟨a, l, c, a', l', c', by rw [e0], by rw [Rat.num_pow, Int.natAbs_pow]; exact q1, by rw [Rat.den_pow]; exact q2⟩, b⟩
  · obtain ⟨m, hm⟩ : ∃ m : Nat, -n = (m : Int) := ⟨(-n).toNat, by omega⟩
    rw [gp_down r (by omega) hm]
    refine (Power_raw a a' a' a l c l' c' l' c' l c n m _ _ w (Or.inr ⟨by omega, by rw [hm]; exact Wt.wrapI _ (by omega) (by omega), ⟨rfl, rfl, rfl⟩, rfl, rfl, rfl⟩) (C a' l' c' _ k2 hB.2 m (by omega)) (C a l c _ k1 hB.1 m (by omega))).mono ?_
    rintro e w' ⟨a, l, c, a', l', c', rfl, q1, q2, b⟩
    obtain ⟨i1, i2, i3⟩ := inv_num r (pos_ne h0)
    have e0 : decide ((r⁻¹ ^ m).num < 0) = false := by
      rw [Rat.num_pow]
      have := pow_nn (x := (r⁻¹).num) (by have := of_decide_eq_false (i1.trans (num_neg h0)); omega) m
      exact decide_eq_false (by omega)
    exact ⟨false, a, l, c, a', l', c', rfl, ⟨a, l, c, a', l', c', by rw [e0], by rw [Rat.num_pow, Int.natAbs_pow, i2]; exact q1, by rw [Rat.den_pow, i3]; exact q2⟩, b⟩
/-- What is told: an exact number, or that something is out of its range. -/
def gA (b : Bool) (r : Rat) : Value := if b then .tuple #[wrt r, .int .i64 0] else .tuple #[.agg #[.string ⟨#[]⟩, .string ⟨#[]⟩], .int .i64 1]
theorem gA_form (b : Bool) (r : Rat) : ∃ s t e, gA b r = .tuple #[.agg #[.string s, .string t], .int .i64 e] := by
  cases b
  · exact ⟨_, _, _, rfl⟩
  · exact ⟨_, _, _, rfl⟩
theorem gr_bd {k : Int} (h : okR k = true) : Bd (gr k) 27 ∧ 0 < gr k := by
  have h' : -10000000 < k ∧ k ≤ 100000000 := by simpa [okR] using h
  exact ⟨Bd.quo (by omega) (by decide) (by decide), gr_pos h'.1⟩
theorem okY_iff {n : Int} (h : okY n = true) : 0 ≤ n ∧ n ≤ 130 := by simpa [okY] using h
/-- What a nominal rate comes to in a part of the year. -/
def ea (k n : Int) : Rat := ((n * 10000000 + k : Int) : Rat) * ((n * 10000000 : Int) : Rat)⁻¹
end Go.Proofs.YtmopfnhjooopkaaGreatDoor.Mo

namespace Go.Proofs.YtmopfnhjooopkaaGreatDoor.Mo
open Go.RowKit Ip

theorem wrapIc (x : Int) (h0 : -9223372036854775808 ≤ x) (h1 : x < 9223372036854775808) : IntKind.i64.wrap x = x := by
  simp [IntKind.wrap, IntKind.bits, IntKind.signed]; omega
/-- What is paid in the year k: one, or k, or as many as there are years from k on. -/
def pay (kind years k : Int) : Int := if kind = 2 then k else if kind = 3 then years + 1 - k else 1
theorem pay_bd {kind years k : Int} (h1 : 1 ≤ k) (h2 : k ≤ years) (h3 : years ≤ 130) : 1 ≤ pay kind years k ∧ pay kind years k ≤ 130 := by
  unfold pay
  split
  · omega
  · split <;> omega
/-- The value at 0 of n payments, the first one at the time 1 less off. -/
def vs (am : Nat → Int) (g : Rat) (off : Int) : Nat → Rat
  | 0 => ((0 : Int) : Rat)
  | n + 1 => vs am g off n + (am (n + 1) : Rat) * gp g (-((n : Int) + 1 - off))
/-- The same at the time of the last one, in whole numbers over q to the n - 1. -/
def wn (am : Nat → Int) (p q : Int) : Nat → Int
  | 0 => 0
  | n + 1 => wn am p q n * p + am (n + 1) * q ^ n
theorem gp_neg (g : Rat) (hg : g ≠ 0) (n : Int) : gp g (-n) * gp g n = 1 := by
  have hi : g⁻¹ * g = 1 := Rat.inv_mul_cancel g hg
  have pw : ∀ m : Nat, g⁻¹ ^ m * g ^ m = 1 := fun m => by
    induction m with
    | zero => simp
    | succ m ih =>
      rw [Rat.pow_succ, Rat.pow_succ]
      have : g⁻¹ ^ m * g⁻¹ * (g ^ m * g) = (g⁻¹ ^ m * g ^ m) * (g⁻¹ * g) := by grind
      rw [this, ih, hi, Rat.mul_one]
  by_cases h : n < 0
  · obtain ⟨m, hm⟩ : ∃ m : Nat, -n = (m : Int) := ⟨(-n).toNat, by omega⟩
    rw [gp_down g h hm, hm, gp_up, Rat.mul_comm]
    exact pw m
  · by_cases z : n = 0
    · subst z
      have e : gp g 0 = 1 := by
        have := gp_up g 0
        rw [Rat.pow_zero] at this
        exact this
      rw [show (-0 : Int) = 0 by decide, e, Rat.mul_one]
    · obtain ⟨m, hm⟩ : ∃ m : Nat, n = (m : Int) := ⟨n.toNat, by omega⟩
      subst hm
      rw [gp_up, gp_down g (m := m) (by omega) (by omega)]
      exact pw m
theorem gp_next (g : Rat) (n : Int) (h : 0 ≤ n) : gp g (n + 1) = gp g n * g := by
  obtain ⟨m, hm⟩ : ∃ m : Nat, n = (m : Int) := ⟨n.toNat, by omega⟩
  subst hm
  rw [show (m : Int) + 1 = ((m + 1 : Nat) : Int) by omega, gp_up, gp_up, Rat.pow_succ]
theorem wn_vs (am : Nat → Int) (p q : Int) (g : Rat) (off : Int) (h0 : 0 ≤ off) (h1 : off ≤ 1) (hg : g ≠ 0) (hp : g * (q : Rat) = (p : Rat)) : ∀ n : Nat, (wn am p q (n + 1) : Rat) = vs am g off (n + 1) * gp g ((n : Int) + 1 - off) * (q : Rat) ^ n
  | 0 => by
    have k := gp_neg g hg (1 - off)
    have e : vs am g off 1 = ((0 : Int) : Rat) + (am 1 : Rat) * gp g (-(((0 : Nat) : Int) + 1 - off)) := rfl
    rw [show wn am p q (0 + 1) = am 1 by simp [wn], e]
    rw [show ((0 : Nat) : Int) + 1 - off = 1 - off by omega]
    generalize gp g (-(1 - off)) = x at *
    generalize gp g (1 - off) = y at *
    rw [Rat.pow_zero]
    simp
    grind
  | n + 1 => by
    have ih := wn_vs am p q g off h0 h1 hg hp n
    have k := gp_neg g hg ((n : Int) + 1 + 1 - off)
    have s := gp_next g ((n : Int) + 1 - off) (by omega)
    rw [show (n : Int) + 1 - off + 1 = (n : Int) + 1 + 1 - off by omega] at s
    have e : vs am g off (n + 1 + 1) = vs am g off (n + 1) + (am (n + 1 + 1) : Rat) * gp g (-(((n + 1 : Nat) : Int) + 1 - off)) := rfl
    have e2 : wn am p q (n + 1 + 1) = wn am p q (n + 1) * p + am (n + 1 + 1) * q ^ (n + 1) := rfl
    rw [e, e2, show ((n + 1 : Nat) : Int) + 1 - off = (n : Int) + 1 + 1 - off by omega]
    generalize vs am g off (n + 1) = V at *
    generalize wn am p q (n + 1) = N at *
    generalize am (n + 1 + 1) = A at *
    rw [Rat.intCast_add, Rat.intCast_mul, Rat.intCast_mul, Rat.intCast_pow, ih, Rat.pow_succ]
    generalize gp g (-((n : Int) + 1 + 1 - off)) = x at *
    rw [s] at k ⊢
    generalize gp g ((n : Int) + 1 - off) = y at *
    generalize (q : Rat) ^ n = T at *
    rw [← hp]
    have : (A : Rat) * (T * (q : Rat)) = (A : Rat) * (x * (y * g)) * (T * (q : Rat)) := by rw [k]; simp
    rw [this]
    grind
end Go.Proofs.YtmopfnhjooopkaaGreatDoor.Mo

namespace Go.Proofs.YtmopfnhjooopkaaGreatDoor.Mo
open Go.RowKit Tn

/-- How many of Unit to the k live k years. -/
def al (q : Nat → Int) : Nat → Int
  | 0 => 1
  | k + 1 => al q k * (10000000 - q k)
/-- A row of numbers of one's own: those up to k are the survivors. -/
def Sv (x : World) (g n k : Nat) (q : Nat → Int) : Prop := ∃ cs : Array Value, Blk x g cs 55 ∧ cs.size = n ∧ (∀ (i : Nat) z v, cs[i]? ≠ some (.int z v)) ∧ ∀ i, i ≤ k → ∃ a l c, cs[i]? = some (.slice a l c) ∧ Nn x a l c (al q i)
theorem Sv.grow {x x' : World} {g n k : Nat} {q : Nat → Int} (h : Sv x g n k q) (b : Below x.heap.size x x') : Sv x' g n k q := by
  obtain ⟨cs, K, e, ni, f⟩ := h
  refine ⟨cs, K.below b K.lt, e, ni, fun i hi => ?_⟩
  obtain ⟨a, l, c, e, h⟩ := f i hi
  exact ⟨a, l, c, e, h.grow b⟩
theorem Sv.push {x : World} {g n k : Nat} {q : Nat → Int} {a : Option Addr} {l c : Nat} (h : Sv x g n k q) (m : Nn x a l c (al q (k + 1))) (hk : k + 1 < n) : Sv (x.setCell ⟨g, k + 1, none⟩ (.slice a l c)) g n (k + 1) q := by
  obtain ⟨cs, K, e, ni, f⟩ := h
  refine ⟨_, bput K (k + 1) _, by simp [e], fun i z v => ?_, fun i hi => ?_⟩
  · rw [Array.getElem?_setIfInBounds]
    split
    · split
      · simp
      · simp
    · exact ni i z v
  · by_cases c0 : i = k + 1
    · subst c0
      refine ⟨a, l, c, ?_, m.set (m.off K ni) _ _⟩
      rw [Array.getElem?_setIfInBounds, if_pos rfl, if_pos (by omega)]
    · obtain ⟨a', l', c', e', h'⟩ := f i (by omega)
      refine ⟨a', l', c', ?_, h'.set (h'.off K ni) _ _⟩
      rw [Array.getElem?_setIfInBounds, if_neg (by omega)]
      exact e'
theorem Of_n (V : Int) (w : World) (h0 : 0 ≤ V) (h1 : V < 18446744073709551616) : Calls Tryz.prog 54 #[.int .u64 V] w fun e w' => ∃ a l c, e = .returned (.agg #[.slice a l c]) ∧ Nn w' a l c V ∧ Below w.heap.size w w' := by
  refine (Of_any V w h0 h1).mono ?_
  rintro e w' ⟨r, zs, rfl, q1, n1, v1, b1⟩
  obtain ⟨a1, l1, c1, rfl⟩ := q1.shape
  exact ⟨a1, l1, c1, rfl, ⟨zs, q1, n1, v1⟩, b1⟩
end Go.Proofs.YtmopfnhjooopkaaGreatDoor.Mo
