import Derived.Test.YtapdhadpdbmkcaaGreatDoorPart37
import Derived.Test.YtapdhadpdbmkcaaGreatDoorPart38
import Derived.Test.YtapdhadpdbmkcaaGreatDoorPart45
import Derived.Test.YtapdhadpdbmkcaaGreatDoorPart17
import Derived.Deep.DeepCutAuto

namespace Go.Proofs.YtapdhadpdbmkcaaGreatDoor.Mo
open Go.RowKit Fu Tn Go.Lib Wt

/-- The exponent's high bits. -/
def eb (n L k : Nat) : Nat := n / 2 ^ (L - k)
theorem eb_zero {n L : Nat} (h : n < 2 ^ L) : eb n L 0 = 0 := Nat.div_eq_of_lt h
theorem eb_full (n L : Nat) : eb n L L = n := by unfold eb; rw [Nat.sub_self, Nat.pow_zero, Nat.div_one]
theorem eb_half {n L k : Nat} (h : k < L) : eb n L k = eb n L (k + 1) / 2 := by
 unfold eb
 rw [Nat.div_div_eq_div_mul, ← Nat.pow_succ, show (L - (k + 1)).succ = L - k by omega]
theorem eb_le (n L k : Nat) : eb n L k ≤ n := Nat.div_le_self _ _
theorem pow_bd {A n e : Nat} {m : Nat} (hp : ((A ^ n : Nat) : Int) < pw m) (hm : 1 < pw m) (h : e ≤ n) : ((A ^ e : Nat) : Int) < pw m := by
 by_cases z : A = 0
 ·subst z
  have : (0 : Nat) ^ e ≤ 1 := by
   cases e with
   | zero => simp
   | succ e => simp
  omega
 ·have := Nat.pow_le_pow_right (show 1 ≤ A by omega) h
  omega
theorem bl_lt (n : Nat) (h : n < 9223372036854775808) : n < 2 ^ Lib.bitLen n ∧ Lib.bitLen n ≤ 64 := by
 by_cases z : n = 0
 ·subst z; decide
 ·have := bitLen_bd (n : Int) (by omega) (by omega)
  rw [Int.toNat_natCast] at this
  refine ⟨?_, this.2.1⟩
  have h := this.2.2.2
  have e : ((2 ^ Lib.bitLen n : Nat) : Int) = (2 : Int) ^ Lib.bitLen n := by simp
  omega
theorem and_one (a : Nat) (h : a < 9223372036854775808) : bits .and .i64 (a : Int) 1 = ((a % 2 : Nat) : Int) := by
 have a1 : (BitVec.ofInt 64 ((a : Nat) : Int)).toNat = a := by
  rw [BitVec.ofInt_natCast, BitVec.toNat_ofNat]; exact Nat.mod_eq_of_lt (by omega)
 have a2 : (BitVec.ofInt 64 1).toNat = 2 ^ 1 - 1 := by decide
 show IntKind.i64.wrap ((BitVec.ofInt 64 ((a : Nat) : Int) &&& BitVec.ofInt 64 1).toNat : Int) = _
 rw [BitVec.toNat_and, a1, a2, Nat.and_two_pow_sub_one_eq_mod]
 exact wrapI _ (by omega) (by omega)
theorem shr_i64 (n m : Nat) (h : m < 64) : Op.shift .shr .i64 (n : Int) .i64 (m : Int) = pure (.int .i64 ((n / 2 ^ m : Nat) : Int)) := by
 rw [shift_shr_any _ _ _ _ (by omega), Int.toNat_natCast, show min m IntKind.i64.bits = m from Nat.min_eq_left (by show m ≤ 64; omega)]
 simp
set_option maxRecDepth 100000 in
set_option maxHeartbeats 1600000 in
theorem Pow_n (p : Option Addr) (l c A n : Nat) (w : World) (hA : Nn w p l c (A : Int)) (hn : n < 9223372036854775808) (hp : ((A ^ n : Nat) : Int) < pw 79) :
  Calls Tryz.prog 32 #[.agg #[.slice p l c], .int .i64 n] w fun e w' => ∃ a l c, e = .returned (.agg #[.slice a l c]) ∧ Nn w' a l c ((A ^ n : Nat) : Int) ∧ Below w.heap.size w w' := by
 have OF := Of_any 1
 have BL := Tryz.bits_Len (n : Int)
 have x0 : IntKind.u64.wrap (n : Int) = n := wrapU _ (by omega) (by omega)
 have B0 := Bx.new w (.slice p l c) 42
 have B1 := B0.alloc (.cells #[.slice none 0 0] 42)
 have B2 := Bx.new (w.alloc (.cells #[.slice p l c] 42)) (.slice none 0 0) 42
 rw [show (w.alloc (.cells #[.slice p l c] 42)).heap.size = w.heap.size + 1 by simp] at B2
 have al := ((Below.refl w.heap.size w).alloc (Nat.le_refl _) (.cells #[.slice p l c] 42)).alloc (by simp) (.cells #[.slice none 0 0] 42)
 go_enter Tryz.func32, Tryz.ntmps32
 go_wp2_with (first
  | (go_at_call 19; go_must (refine (OF _ (by decide) (by decide)).mono ?_; rintro e w1 ⟨r, zs, rfl, q1, n1, v1, b1⟩; obtain ⟨a1, l1, c1, rfl⟩ := q1.shape))
  | (go_at_call 61; go_must (refine (BL _ (by omega) (by omega)).mono ?_; rintro e w2 ⟨rfl, rfl⟩))
  | fail)
 have al1 := (Below.refl w1.heap.size w1).alloc (Nat.le_refl _) (.cells #[.slice a1 l1 c1] 42)
 have b2 := bel' al b1
 have b3 := bel' b2 al1
 have P1 := (B1.below b1).below al1
 have P2 := (B2.below b1).below al1
 have P3 := Bx.new w1 (.slice a1 l1 c1) 42
 have hs : w.heap.size + 2 ≤ w1.heap.size := by have := b1.size; simp at this; omega
 obtain ⟨g, hg⟩ : ∃ g, w1.heap.size = g := ⟨_, rfl⟩
 obtain ⟨L, hL⟩ : ∃ L, Lib.bitLen n = L := ⟨_, rfl⟩
 have l0 := bl_lt n hn
 rw [hL] at l0
 have nP : Nn (w1.alloc (.cells #[.slice a1 l1 c1] 42)) a1 l1 c1 ((A ^ eb n L 0 : Nat) : Int) := Nn.grow ⟨zs, q1, n1, by rw [v1, eb_zero l0.1]; simp⟩ al1
 have nA := hA.grow b3
 rw [Int.toNat_natCast, hL] at BL
 rw [hg] at P3 hs ⊢
 rw [hL]
 generalize w1.alloc (.cells #[.slice a1 l1 c1] 42) = W at *
 clear OF q1 n1 v1 b1 b2 al al1 B0 B1 B2 hg hL
 go_loopw [11] (fun v wr => ∃ (k : Nat) (a : Option Addr) (l' c' : Nat), v = .int .i64 k ∧ k ≤ L ∧ Nn wr a l' c' ((A ^ eb n L k : Nat) : Int) ∧ Nn wr p l c (A : Int) ∧ Bx wr g (.slice a l' c') ∧ Bx wr w.heap.size (.slice p l c) ∧ Bx wr (w.heap.size + 1) (.slice none 0 0) ∧ Below w.heap.size w wr) (fun v _ => L - (RowKit.intOf v).toNat)
 case atStart => exact ⟨0, a1, l1, c1, rfl, Nat.zero_le _, nP, nA, P3, P1, P2, b3⟩
 case round =>
  clear nP nA P1 P2 P3 b3
  obtain ⟨k, a, l', c', rfl, hk, nP, nA, P3, P1, P2, b3⟩ := hrel
  by_cases lt : k < L
  ·have k3 := P3.1
   have k1 := P1.1
   have f3 := P3.2
   have E1 : Hid (eb n L k = eb n L (k + 1) / 2) := eb_half lt
   obtain ⟨j, hj⟩ : ∃ j, L = j + 1 := ⟨L - 1, by omega⟩
   have x1 : IntKind.i64.wrap ((L : Int) - 1) = (j : Int) := by rw [show (L : Int) - 1 = (j : Int) by omega]; exact wrapI _ (by omega) (by omega)
   obtain ⟨m, hm⟩ : ∃ m, j = m + k := ⟨j - k, by omega⟩
   have x2 : IntKind.i64.wrap ((j : Int) - (k : Int)) = (m : Int) := by rw [show (j : Int) - (k : Int) = (m : Int) by omega]; exact wrapI _ (by omega) (by omega)
   have HJ : Hid (L = j + 1) := hj
   have HM : Hid (j = m + k) := hm
   clear hj hm
   have ha1 : bits .and .i64 ((n : Int) / 2 ^ min m 64) 1 = ((eb n L (k + 1) % 2 : Nat) : Int) := by
    rw [← and_one _ (Nat.lt_of_le_of_lt (eb_le n L (k + 1)) hn)]
    unfold eb
    rw [show L - (k + 1) = m by have := HM.out; have := HJ.out; omega, Nat.min_eq_left (by have := HM.out; have := HJ.out; omega)]
    simp
   have z1 : ((A ^ eb n L k : Nat) : Int) < pw 79 := pow_bd hp (by decide) (eb_le n L k)
   have z2 : ((A ^ (2 * eb n L k) : Nat) : Int) < pw 79 := pow_bd hp (by decide) (by have := E1.out; have := eb_le n L (k + 1); omega)
   obtain ⟨e, he⟩ : ∃ e, eb n L (k + 1) = e := ⟨_, rfl⟩
   obtain ⟨e0, he0⟩ : ∃ e, eb n L k = e := ⟨_, rfl⟩
   have HE : Hid (eb n L (k + 1) = e) := he
   rw [he, he0] at E1
   rw [he] at ha1
   rw [he0] at nP z1 z2
   have M1 := Mul_n nP nP z1 z1 (by unfold MulOK; omega)
   rw [show ((A ^ e0 : Nat) : Int) * ((A ^ e0 : Nat) : Int) = ((A ^ (2 * e0) : Nat) : Int) by rw [Nat.two_mul, Nat.pow_add, Int.natCast_mul]] at M1
   have BL2 := fun x => BL x (by omega) (by omega)
   have zA : 1 ≤ n → ((A : Nat) : Int) < pw 79 := fun h => by have := pow_bd (e := 1) hp (by decide) h; rwa [Nat.pow_one] at this
   have HS : Hid (w.heap.size + 2 ≤ g) := hs
   clear BL hp hA he he0 hs
   by_cases q : e % 2 = 1
   ·have en : 1 ≤ n := by have := eb_le n L (k + 1); rw [HE.out] at this; omega
    have zB := zA en
    have EN : Hid (e = 2 * e0 + 1) := by have := E1.out; show _ = _; omega
    rw [q] at ha1
    have MA := fun (x : World) (a : Option Addr) (l' c' : Nat) (h : Nn x a l' c' ((A ^ (2 * e0) : Nat) : Int)) (h2 : Nn x p l c (A : Int)) => Mul_n h h2 z2 zB (by unfold MulOK; omega)
    rw [show ((A ^ (2 * e0) : Nat) : Int) * (A : Int) = ((A ^ e : Nat) : Int) by rw [EN.out, Nat.pow_succ, Int.natCast_mul]] at MA
    have d1 : w.heap.size ≠ g := by have := HS.out; omega
    have d2 : w.heap.size + 1 ≠ g := by have := HS.out; omega
    have l64 := l0.2
    clear hn l0 zA z1 z2 zB q en
    go_wp2_with (first
     | (go_at_call 31; (with_reducible refine M1.mono ?_); rintro _ w2 ⟨ma, ml, mc, rfl, nM, b4⟩; (have K3 := P3.below b4); (have m1 := K3.1); (have m2 := K3.2))
     | (go_at_call 61; (with_reducible refine (BL2 _).mono ?_); rintro _ w3 ⟨rfl, rfl⟩; (have J3 := K3.set (.slice ma ml mc)); (have J1 := bxskip (P1.below b4) d1 (.slice ma ml mc)); (have j1 := J3.1); (have j2 := J1.1))
     | fail)
    clear M1 BL2
    have J2 := bxskip (P2.below b4) d2 (.slice ma ml mc)
    have NM := nM.box (u := .slice ma ml mc) K3
    have NA := (nA.grow b4).box (u := .slice ma ml mc) K3
    have b5 := below_put (bel' b3 b4) (show w.heap.size ≤ g by have := HS.out; omega) (.slice ma ml mc)
    have f2 := J3.2
    generalize w2.setCell ⟨g, 0, none⟩ (.slice ma ml mc) = V at *
    refine (MA V ma ml mc NM NA).mono ?_
    rintro _ w3 ⟨pa, pl, pc, rfl, nQ, b6⟩
    have I3 := J3.below b6
    have i1 := I3.1
    have i2 := I3.2
    have I1 := bxskip (J1.below b6) d1 (.slice pa pl pc)
    have I2 := bxskip (J2.below b6) d2 (.slice pa pl pc)
    have NQ := nQ.box (u := .slice pa pl pc) I3
    have NB := (NA.grow b6).box (u := .slice pa pl pc) I3
    have b7 := below_put (bel' b5 b6) (show w.heap.size ≤ g by have := HS.out; omega) (.slice pa pl pc)
    have I4 := I3.set (.slice pa pl pc)
    clear MA ha1 x1 x2
    have lk : k < 64 := by have := HM.out; have := HJ.out; omega
    go_wp2_with fail
    go_roundw
    case rel => exact ⟨k + 1, pa, pl, pc, by go_num, by omega, by rw [HE.out]; exact NQ, NB, I4, I1, I2, b7⟩
    case measure => simp [RowKit.intOf]; omega
   ·have EN : Hid (e = 2 * e0) := by have := E1.out; show _ = _; omega
    rw [show e % 2 = 0 by omega] at ha1
    have d1 : w.heap.size ≠ g := by have := HS.out; omega
    have d2 : w.heap.size + 1 ≠ g := by have := HS.out; omega
    have lk : k < 64 := by have := HM.out; have := HJ.out; omega
    clear hn l0 zA z1 z2 q
    go_wp2_with (first
     | (go_at_call 31; (with_reducible refine M1.mono ?_); rintro _ w2 ⟨ma, ml, mc, rfl, nM, b4⟩; (have K3 := P3.below b4); (have m1 := K3.1); (have m2 := K3.2))
     | (go_at_call 61; (with_reducible refine (BL2 _).mono ?_); rintro _ w3 ⟨rfl, rfl⟩)
     | fail)
    go_roundw
    case rel =>
     exact ⟨k + 1, ma, ml, mc, by go_num, by omega, by rw [HE.out, EN.out]; exact nM.box K3, (nA.grow b4).box K3, K3.set _, bxskip (P1.below b4) d1 _, bxskip (P2.below b4) d2 _, below_put (bel' b3 b4) (show w.heap.size ≤ g by have := HS.out; omega) _⟩
    case measure => simp [RowKit.intOf]; omega
  ·obtain rfl : k = L := by omega
   rw [eb_full] at nP
   have nE := nP.box (u := .slice a l' c') P2
   have bE := below_put b3 (show w.heap.size ≤ w.heap.size + 1 by omega) (.slice a l' c')
   clear hp x0 BL
   have c1 := P2.1
   have c2 := P3.1
   have c3 := P2.2
   go_wp2
   have v1 := (P2.set (.slice a l' c')).1
   exact bodyPost_ret (v := .agg #[.slice a l' c']) (by simp [results, Tryz.results32, go_sem, v1]) rfl ⟨a, l', c', rfl, nE, bE⟩
end Go.Proofs.YtapdhadpdbmkcaaGreatDoor.Mo

namespace Go.Proofs.YtapdhadpdbmkcaaGreatDoor.Mo
open Go.RowKit Fu Tn Go.Lib Dc

set_option maxHeartbeats 6400000 in
set_option maxRecDepth 100000 in
theorem Decimal_way (s1 t1 D H E S F R : ByteArray) (g1 g2 : Bool) (O1 D1 T Q Z p k : Int) (w : World) (G : Gw w)
  (p0 : 0 < p) (p1 : p ≤ 1024) (hd0 : IntKind.i64.wrap (p + 1) = p + 1) (hd1 : IntKind.i64.wrap (p + 1 - (D.size : Int)) = p + 1 - (D.size : Int)) (hl : ¬ p + 1 - (D.size : Int) > 0) (hl2 : ¬ (D.size : Int) > 4096) (hd2 : IntKind.i64.wrap ((D.size : Int) - p) = (D.size : Int) - p)
  (pt : Nat) (hpt : (D.size : Int) - p = (pt : Int)) (hle : pt ≤ D.size) (hH : D.extract 0 pt = H) (hE : D.extract pt D.size = E)
  (hF : (⟨#[46]⟩ : ByteArray) ++ E = F) (hR : S ++ F = R) (zE : E.size ≤ 4096) (zF : F.size ≤ 4097) (zS : S.size ≤ 4097)
  (CR' : ∀ x, Below w.heap.size w x → Calls Tryz.prog 16 #[.agg #[.string s1, .string t1]] x fun e w' => ∃ (a : Option Addr × Option Addr) (l c : Nat × Nat), e = .returned (.tuple #[.agg #[.bool g1, .slice a.1 l.1 c.1, .slice a.2 l.2 c.2], .int .i64 0]) ∧ (Nn w' a.1 l.1 c.1 O1 ∧ Nn w' a.2 l.2 c.2 D1) ∧ Below x.heap.size x w')
  (CW : ∀ x, Calls Tryz.prog 30 #[.int .i64 k] x fun e w' => e = .returned (.bool true) ∧ w' = x)
  (CO : ∀ x, Calls Tryz.prog 19 #[.int .u64 10] x fun e w' => ∃ a l c, e = .returned (.agg #[.slice a l c]) ∧ Nn w' a l c 10 ∧ Below x.heap.size x w')
  (CP : ∀ x a l c, Nn x a l c 10 → Calls Tryz.prog 32 #[.agg #[.slice a l c], .int .i64 p] x fun e w' => ∃ a l c, e = .returned (.agg #[.slice a l c]) ∧ Nn w' a l c T ∧ Below x.heap.size x w')
  (CM : ∀ x a l c a' l' c', Nn x a l c O1 → Nn x a' l' c' T → Calls Tryz.prog 31 #[.agg #[.slice a l c], .agg #[.slice a' l' c']] x fun e w' => ∃ a l c, e = .returned (.agg #[.slice a l c]) ∧ Nn w' a l c Q ∧ Below x.heap.size x w')
  (CD : ∀ x a l c a' l' c', Nn x a l c Q → Nn x a' l' c' D1 → Calls Tryz.prog 33 #[.agg #[.bool g1, .slice a l c, .slice a' l' c'], .int .i64 k] x fun e w' => ∃ (a : Option Addr × Option Addr) (l c : Nat × Nat), e = .returned (.agg #[.bool g2, .slice a.1 l.1 c.1, .slice a.2 l.2 c.2]) ∧ Nn w' a.1 l.1 c.1 Z ∧ Below x.heap.size x w')
  (CX : ∀ x a l c, Nn x a l c Z → Gw x → Calls Tryz.prog 34 #[.agg #[.slice a l c]] x fun e w' => e = .returned (.string D) ∧ Below x.heap.size x w')
  (CS : ∀ x, Calls Tryz.prog 36 #[.bool g2, .string H] x fun e w' => e = .returned (.string S) ∧ w' = x) :
  Calls Tryz.prog 13 #[.agg #[.string s1, .string t1], .int .i64 p, .int .i64 k] w fun e w' => e = .returned (.tuple #[.string R, .int .i64 0]) ∧ Below w.heap.size w w' := by
 have KA := Blk.new w #[.string s1, .string t1] 23
 have pr : Below w.heap.size w (w.alloc (.cells #[.string s1, .string t1] 23)) := (Below.refl _ _).alloc (Nat.le_refl _) _
 have q0 : ¬ p < 0 := by omega
 have q1 : ¬ p > 1024 := by omega
 go_enter Tryz.func13, Tryz.ntmps13
 go_wp2_with fail
 have ka0 := KA.at 0
 have ka1 := KA.at 1
 simp at ka0 ka1
 generalize (w.alloc (.cells #[.string s1, .string t1] 23)) = W at *
 go_wp2_with (first
  | (go_at_call 16; go_must (refine (CR' _ pr).mono ?_; rintro e w1 ⟨p_, q_, r_, rfl, H', b1⟩; (have al := ((Below.refl w1.heap.size w1).alloc (Nat.le_refl _) (.cells #[.bool g1, .slice p_.1 q_.1 r_.1, .slice p_.2 q_.2 r_.2] 44))); (have b2 := bel' b1 al); (have pB := bel' pr b2); (have n1 := (⟨H'.1.grow al, H'.2.grow al⟩ : _ ∧ _)); (have KF := Rb.new w1 (.bool g1) (.slice p_.1 q_.1 r_.1) (.slice p_.2 q_.2 r_.2) 44); (have kf0 := KF.c0); (have kf1 := KF.c1); (have kf2 := KF.c2)))
  | (go_at_call 30; refine (CW _).mono ?_; rintro e x1 ⟨rfl, rfl⟩)
  | fail)
 generalize w1.alloc (.cells #[.bool g1, .slice p_.1 q_.1 r_.1, .slice p_.2 q_.2 r_.2] 44) = WA at *
 have hXl : w.heap.size < w1.heap.size := by have := KA.lt; have := b1.size; omega
 generalize w1.heap.size = X at *
 clear CR' CW KA ka0 ka1 H' al b2 kf0 kf1 kf2
 have kf0 := KF.c0
 have kf1 := KF.c1
 have kf2 := KF.c2
 go_cut [] (fun wc => ∃ a l c, Nn wc a l c Q ∧ Nn wc p_.2 q_.2 r_.2 D1 ∧ Rb wc X (.bool g1) (.slice a l c) (.slice p_.2 q_.2 r_.2) ∧ Below w.heap.size w wc)
 case first =>
  go_region_with (first
   | (go_at_call 19; refine (CO _).mono ?_; rintro e y1 ⟨oa, ol, oc, rfl, o1, d1⟩; have d1 := undrew d1; have e1 := (KF.grow d1).c1)
   | (go_at_call 32; refine (CP _ _ _ _ o1).mono ?_; rintro e y2 ⟨ta, tl, tc, rfl, o2, d2⟩; have d2 := bel' d1 d2; have e2 := (KF.grow d2).c1)
   | (go_at_call 31; refine (CM _ _ _ _ _ _ _ (n1.1.grow d2) o2).mono ?_; rintro e y3 ⟨ma, ml, mc, rfl, o3, d3⟩; have d3 := bel' d2 d3; have K3 := KF.grow d3; have e3 := K3.c1; have e4 := K3.f1)
   | fail)
  all_goals
   go_wp2_with fail
   go_meet
   case rel =>
    have B3 := K3.bk.choose_spec
    have f1 := o3.off B3 fr3
    have n2 := n1.2.grow d3
    have f2 := n2.off B3 fr3
    exact ⟨ma, ml, mc, o3.set f1 1 _, n2.set f2 1 _, Rb.ofB (by simpa using bput B3 1 (.slice ma ml mc)), (bel' pB d3).setCell (p := ⟨X, 1, none⟩) (show w.heap.size ≤ X by omega) _⟩
 case rest =>
  rename World => wB
  obtain ⟨ma, ml, mc, m1, m2, KB, pC⟩ := hcut
  clear KF kf0 kf1 kf2 n1 pB CO CP CM
  have kb0 := KB.c0
  have kb1 := KB.c1
  have kb2 := KB.c2
  go_wp2_with (first
   | (go_at_call 33; refine (CD _ _ _ _ _ _ _ m1 m2).mono ?_; rintro e w2 ⟨ra, rl, rc, rfl, z1, d1⟩; have al := (Below.refl w2.heap.size w2).alloc (Nat.le_refl _) (.cells #[.bool g2, .slice ra.1 rl.1 rc.1, .slice ra.2 rl.2 rc.2] 44); have d2 := bel' d1 al; have KY := Rb.new w2 (.bool g2) (.slice ra.1 rl.1 rc.1) (.slice ra.2 rl.2 rc.2) 44; have z2 := z1.grow al; have ky1 := KY.c1)
   | (go_at_call 34; refine (CX _ _ _ _ z2 (G.grow (bel' pC d2))).mono ?_; rintro e w3 ⟨rfl, d3⟩; have d4 := bel' d2 d3; have KZ := KY.grow d3; have kz := KZ.c0)
   | fail)
  go_region_held3 (fun x => x.cell? ⟨w2.heap.size, 0, none⟩ = some (.bool g2)) (go_keep) (first
   | (go_at_call 36; refine (CS _).mono ?_; rintro e w5 ⟨rfl, rfl⟩; have kz5 := kz)
   | fail)
  go_wp2
  exact bodyPost_ret (v := .tuple #[.string R, .int .i64 0]) (by simp [results, Tryz.results13, go_sem]) rfl ⟨rfl, (bel' pC d4).drew⟩
end Go.Proofs.YtapdhadpdbmkcaaGreatDoor.Mo
