import Derived.Test.YtebilgnmnambnaaGreatDoorPart38
import Derived.Test.YtebilgnmnambnaaGreatDoorPart33

namespace Go.Proofs.YtebilgnmnambnaaGreatDoor.Mo
open Go.RowKit Fu Tn Go.Lib Wt

/-- The exponent's high bits. -/
def eb (n L k : Nat) : Nat := n / 2 ^ (L - k)
theorem eb_zero {n L : Nat} (h : n < 2 ^ L) : eb n L 0 = 0 := Nat.div_eq_of_lt h
theorem eb_full (n L : Nat) : eb n L L = n := by unfold eb; rw [Nat.sub_self, Nat.pow_zero, Nat.div_one]
theorem eb_half {n L k : Nat} (h : k < L) : eb n L k = eb n L (k + 1) / 2 := by
  unfold eb
  rw [Nat.div_div_eq_div_mul, ← Nat.pow_succ, show (L - (k + 1)).succ = L - k by omega]
theorem eb_le (n L k : Nat) : eb n L k ≤ n := Nat.div_le_self _ _
theorem pow_bd {A n e : Nat} {m : Nat} (hp : ((A ^ n : Nat) : Int) < pw m) (hm : 1 < pw m) (h : e ≤ n) : ((A ^ e : Nat) : Int) < pw m := by
  by_cases z : A = 0
  · subst z
    have : (0 : Nat) ^ e ≤ 1 := by
      cases e with
      | zero => simp
      | succ e => simp
    omega
  · have := Nat.pow_le_pow_right (show 1 ≤ A by omega) h
    omega
theorem bl_lt (n : Nat) (h : n < 9223372036854775808) : n < 2 ^ Lib.bitLen n ∧ Lib.bitLen n ≤ 64 := by
  by_cases z : n = 0
  · subst z; decide
  · have := bitLen_bd (n : Int) (by omega) (by omega)
    rw [Int.toNat_natCast] at this
    refine ⟨?_, this.2.1⟩
    have h := this.2.2.2
    have e : ((2 ^ Lib.bitLen n : Nat) : Int) = (2 : Int) ^ Lib.bitLen n := by simp
    omega
theorem and_one (a : Nat) (h : a < 9223372036854775808) : bits .and .i64 (a : Int) 1 = ((a % 2 : Nat) : Int) := by
  have a1 : (BitVec.ofInt 64 ((a : Nat) : Int)).toNat = a := by
    rw [BitVec.ofInt_natCast, BitVec.toNat_ofNat]; exact Nat.mod_eq_of_lt (by omega)
  have a2 : (BitVec.ofInt 64 1).toNat = 2 ^ 1 - 1 := by decide
  show IntKind.i64.wrap ((BitVec.ofInt 64 ((a : Nat) : Int) &&& BitVec.ofInt 64 1).toNat : Int) = _
  rw [BitVec.toNat_and, a1, a2, Nat.and_two_pow_sub_one_eq_mod]
  exact wrapI _ (by omega) (by omega)
set_option maxRecDepth 100000 in
set_option maxHeartbeats 1600000 in
theorem Pow_n (p : Option Addr) (l c A n : Nat) (w : World) (hA : Nn w p l c (A : Int)) (hn : n < 9223372036854775808) {K : Nat} (hK0 : 1 < pw K) (hK : K ≤ 400000) (hp : ((A ^ n : Nat) : Int) < pw K) :
    Calls Tryz.prog 66 #[.agg #[.slice p l c], .int .i64 n] w fun e w' => ∃ a l c, e = .returned (.agg #[.slice a l c]) ∧ Nn w' a l c ((A ^ n : Nat) : Int) ∧ Below w.heap.size w w' := by
  have OF := Of_any 1
  have BL := Tryz.bits_Len (n : Int)
  have x0 : IntKind.u64.wrap (n : Int) = n := wrapU _ (by omega) (by omega)
  have B0 := Bx.new w (.slice p l c) 65
  have B1 := B0.alloc (.cells #[.slice none 0 0] 65)
  have B2 := Bx.new (w.alloc (.cells #[.slice p l c] 65)) (.slice none 0 0) 65
  rw [show (w.alloc (.cells #[.slice p l c] 65)).heap.size = w.heap.size + 1 by simp] at B2
  have al := ((Below.refl w.heap.size w).alloc (Nat.le_refl _) (.cells #[.slice p l c] 65)).alloc (by simp) (.cells #[.slice none 0 0] 65)
  go_enter Tryz.func66, Tryz.ntmps66
  go_wp2_with (first
    | (go_at_call 65; go_must (refine (OF _ (by decide) (by decide)).mono ?_; rintro e w1 ⟨r, zs, rfl, q1, n1, v1, b1⟩; obtain ⟨a1, l1, c1, rfl⟩ := q1.shape))
    | (go_at_call 124; go_must (refine (BL _ (by omega) (by omega)).mono ?_; rintro e w2 ⟨rfl, rfl⟩))
    | fail)
  have al1 := (Below.refl w1.heap.size w1).alloc (Nat.le_refl _) (.cells #[.slice a1 l1 c1] 65)
  have b2 := bel' al b1
  have b3 := bel' b2 al1
  have P1 := (B1.below b1).below al1
  have P2 := (B2.below b1).below al1
  have P3 := Bx.new w1 (.slice a1 l1 c1) 65
  have hs : w.heap.size + 2 ≤ w1.heap.size := by have := b1.size; simp at this; omega
  obtain ⟨g, hg⟩ : ∃ g, w1.heap.size = g := ⟨_, rfl⟩
  obtain ⟨L, hL⟩ : ∃ L, Lib.bitLen n = L := ⟨_, rfl⟩
  have l0 := bl_lt n hn
  rw [hL] at l0
  have nP : Nn (w1.alloc (.cells #[.slice a1 l1 c1] 65)) a1 l1 c1 ((A ^ eb n L 0 : Nat) : Int) := Nn.grow ⟨zs, q1, n1, by rw [v1, eb_zero l0.1]; simp⟩ al1
  have nA := hA.grow b3
  rw [Int.toNat_natCast, hL] at BL
  rw [hg] at P3 hs ⊢
  rw [hL]
  generalize w1.alloc (.cells #[.slice a1 l1 c1] 65) = W at *
  clear OF q1 n1 v1 b1 b2 al al1 B0 B1 B2 hg hL
  go_loopw [11] (fun v wr => ∃ (k : Nat) (a : Option Addr) (l' c' : Nat), v = .int .i64 k ∧ k ≤ L ∧ Nn wr a l' c' ((A ^ eb n L k : Nat) : Int) ∧ Nn wr p l c (A : Int) ∧ Bx wr g (.slice a l' c') ∧ Bx wr w.heap.size (.slice p l c) ∧ Bx wr (w.heap.size + 1) (.slice none 0 0) ∧ Below w.heap.size w wr) (fun v _ => L - (RowKit.intOf v).toNat)
  case atStart => exact ⟨0, a1, l1, c1, rfl, Nat.zero_le _, nP, nA, P3, P1, P2, b3⟩
  case round =>
    clear nP nA P1 P2 P3 b3
    obtain ⟨k, a, l', c', rfl, hk, nP, nA, P3, P1, P2, b3⟩ := hrel
    by_cases lt : k < L
    · have k3 := P3.1
      have k1 := P1.1
      have f3 := P3.2
      have E1 : Hid (eb n L k = eb n L (k + 1) / 2) := eb_half lt
      obtain ⟨j, hj⟩ : ∃ j, L = j + 1 := ⟨L - 1, by omega⟩
      have x1 : IntKind.i64.wrap ((L : Int) - 1) = (j : Int) := by rw [show (L : Int) - 1 = (j : Int) by omega]; exact wrapI _ (by omega) (by omega)
      obtain ⟨m, hm⟩ : ∃ m, j = m + k := ⟨j - k, by omega⟩
      have x2 : IntKind.i64.wrap ((j : Int) - (k : Int)) = (m : Int) := by rw [show (j : Int) - (k : Int) = (m : Int) by omega]; exact wrapI _ (by omega) (by omega)
      have HJ : Hid (L = j + 1) := hj
      have HM : Hid (j = m + k) := hm
      clear hj hm
      have ha1 : bits .and .i64 ((n : Int) / 2 ^ min m 64) 1 = ((eb n L (k + 1) % 2 : Nat) : Int) := by
        rw [← and_one _ (Nat.lt_of_le_of_lt (eb_le n L (k + 1)) hn)]
        unfold eb
        rw [show L - (k + 1) = m by have := HM.out; have := HJ.out; omega, Nat.min_eq_left (by have := HM.out; have := HJ.out; omega)]
        simp
      have z1 : ((A ^ eb n L k : Nat) : Int) < pw K := pow_bd hp hK0 (eb_le n L k)
      have z2 : ((A ^ (2 * eb n L k) : Nat) : Int) < pw K := pow_bd hp hK0 (by have := E1.out; have := eb_le n L (k + 1); omega)
      obtain ⟨e, he⟩ : ∃ e, eb n L (k + 1) = e := ⟨_, rfl⟩
      obtain ⟨e0, he0⟩ : ∃ e, eb n L k = e := ⟨_, rfl⟩
      have HE : Hid (eb n L (k + 1) = e) := he
      rw [he, he0] at E1
      rw [he] at ha1
      rw [he0] at nP z1 z2
      have M1 := Mul_n nP nP z1 z1 (by unfold MulOK; omega)
      rw [show ((A ^ e0 : Nat) : Int) * ((A ^ e0 : Nat) : Int) = ((A ^ (2 * e0) : Nat) : Int) by rw [Nat.two_mul, Nat.pow_add, Int.natCast_mul]] at M1
      have BL2 := fun x => BL x (by omega) (by omega)
      have zA : 1 ≤ n → ((A : Nat) : Int) < pw K := fun h => by have := pow_bd (e := 1) hp hK0 h; rwa [Nat.pow_one] at this
      have HS : Hid (w.heap.size + 2 ≤ g) := hs
      clear BL hp hA he he0 hs
      by_cases q : e % 2 = 1
      · have en : 1 ≤ n := by have := eb_le n L (k + 1); rw [HE.out] at this; omega
        have zB := zA en
        have EN : Hid (e = 2 * e0 + 1) := by have := E1.out; show _ = _; omega
        rw [q] at ha1
        have MA := fun (x : World) (a : Option Addr) (l' c' : Nat) (h : Nn x a l' c' ((A ^ (2 * e0) : Nat) : Int)) (h2 : Nn x p l c (A : Int)) => Mul_n h h2 z2 zB (by unfold MulOK; omega)
        rw [show ((A ^ (2 * e0) : Nat) : Int) * (A : Int) = ((A ^ e : Nat) : Int) by rw [EN.out, Nat.pow_succ, Int.natCast_mul]] at MA
        have d1 : w.heap.size ≠ g := by have := HS.out; omega
        have d2 : w.heap.size + 1 ≠ g := by have := HS.out; omega
        have l64 := l0.2
        clear hn l0 zA z1 z2 zB q en
        go_wp2_with (first
          | (go_at_call 64; (with_reducible refine M1.mono ?_); rintro _ w2 ⟨ma, ml, mc, rfl, nM, b4⟩; (have K3 := P3.below b4); (have m1 := K3.1); (have m2 := K3.2))
          | (go_at_call 124; (with_reducible refine (BL2 _).mono ?_); rintro _ w3 ⟨rfl, rfl⟩; (have J3 := K3.set (.slice ma ml mc)); (have J1 := bxskip (P1.below b4) d1 (.slice ma ml mc)); (have j1 := J3.1); (have j2 := J1.1))
          | fail)
        clear M1 BL2
        have J2 := bxskip (P2.below b4) d2 (.slice ma ml mc)
        have NM := nM.box (u := .slice ma ml mc) K3
        have NA := (nA.grow b4).box (u := .slice ma ml mc) K3
        have b5 := below_put (bel' b3 b4) (show w.heap.size ≤ g by have := HS.out; omega) (.slice ma ml mc)
        have f2 := J3.2
        generalize w2.setCell ⟨g, 0, none⟩ (.slice ma ml mc) = V at *
        refine (MA V ma ml mc NM NA).mono ?_
        rintro _ w3 ⟨pa, pl, pc, rfl, nQ, b6⟩
        have I3 := J3.below b6
        have i1 := I3.1
        have i2 := I3.2
        have I1 := bxskip (J1.below b6) d1 (.slice pa pl pc)
        have I2 := bxskip (J2.below b6) d2 (.slice pa pl pc)
        have NQ := nQ.box (u := .slice pa pl pc) I3
        have NB := (NA.grow b6).box (u := .slice pa pl pc) I3
        have b7 := below_put (bel' b5 b6) (show w.heap.size ≤ g by have := HS.out; omega) (.slice pa pl pc)
        have I4 := I3.set (.slice pa pl pc)
        clear MA ha1 x1 x2
        have lk : k < 64 := by have := HM.out; have := HJ.out; omega
        go_wp2_with fail
        go_roundw
        case rel => exact ⟨k + 1, pa, pl, pc, by go_num, by omega, by rw [HE.out]; exact NQ, NB, I4, I1, I2, b7⟩
        case measure => simp [RowKit.intOf]; omega
      · have EN : Hid (e = 2 * e0) := by have := E1.out; show _ = _; omega
        rw [show e % 2 = 0 by omega] at ha1
        have d1 : w.heap.size ≠ g := by have := HS.out; omega
        have d2 : w.heap.size + 1 ≠ g := by have := HS.out; omega
        have lk : k < 64 := by have := HM.out; have := HJ.out; omega
        clear hn l0 zA z1 z2 q
        go_wp2_with (first
          | (go_at_call 64; (with_reducible refine M1.mono ?_); rintro _ w2 ⟨ma, ml, mc, rfl, nM, b4⟩; (have K3 := P3.below b4); (have m1 := K3.1); (have m2 := K3.2))
          | (go_at_call 124; (with_reducible refine (BL2 _).mono ?_); rintro _ w3 ⟨rfl, rfl⟩)
          | fail)
        go_roundw
        case rel =>
          exact ⟨k + 1, ma, ml, mc, by go_num, by omega, by rw [HE.out, EN.out]; exact nM.box K3, (nA.grow b4).box K3, K3.set _, bxskip (P1.below b4) d1 _, bxskip (P2.below b4) d2 _, below_put (bel' b3 b4) (show w.heap.size ≤ g by have := HS.out; omega) _⟩
        case measure => simp [RowKit.intOf]; omega
    · obtain rfl : k = L := by omega
      rw [eb_full] at nP
      have nE := nP.box (u := .slice a l' c') P2
      have bE := below_put b3 (show w.heap.size ≤ w.heap.size + 1 by omega) (.slice a l' c')
      clear hp x0 BL
      have c1 := P2.1
      have c2 := P3.1
      have c3 := P2.2
      go_wp2
      have v1 := (P2.set (.slice a l' c')).1
      exact bodyPost_ret (v := .agg #[.slice a l' c']) (by simp [results, Tryz.results66, go_sem, v1]) rfl ⟨a, l', c', rfl, nE, bE⟩
end Go.Proofs.YtebilgnmnambnaaGreatDoor.Mo

namespace Go.Proofs.YtebilgnmnambnaaGreatDoor.Mo
open Go.RowKit Fu Tn Go.Lib Dc

theorem Rb.ofB {x : World} {n : Nat} {a b c : Value} {t : TypeId} (K : Blk x n #[a, b, c] t) : Rb x n a b c := ⟨by have := K.at 0; simpa using this, by have := K.at 1; simpa using this, by have := K.at 2; simpa using this, K.free 0, K.free 1, K.free 2, t, K⟩
theorem Rb.sets {W : World} {n : Nat} {a b c : Value} (h : Rb W n a b c) (x y z : Value) : Rb (((W.setCell ⟨n, 0, none⟩ x).setCell ⟨n, 1, none⟩ y).setCell ⟨n, 2, none⟩ z) n x y z := by
  obtain ⟨t, K⟩ := h.bk
  have := bput (bput (bput K 0 x) 1 y) 2 z
  exact Rb.ofB (t := t) (by simpa using this)
theorem Rb.skip3 {W : World} {n m : Nat} {a b c : Value} (h : Rb W n a b c) (ne : n ≠ m) (x y z : Value) : Rb (((W.setCell ⟨m, 0, none⟩ x).setCell ⟨m, 1, none⟩ y).setCell ⟨m, 2, none⟩ z) n a b c := by
  have k : Wr m 0 3 W (((W.setCell ⟨m, 0, none⟩ x).setCell ⟨m, 1, none⟩ y).setCell ⟨m, 2, none⟩ z) := (((Wr.refl m 0 3 W).setCell 0 (by omega) x).setCell 1 (by omega) y).setCell 2 (by omega) z
  obtain ⟨t, K⟩ := h.bk
  have K2 := K.wr k ne
  exact ⟨K2.at 0, K2.at 1, K2.at 2, K2.free 0, K2.free 1, K2.free 2, t, K2⟩
end Go.Proofs.YtebilgnmnambnaaGreatDoor.Mo
