import Derived.Test.YtiaeoknmgidehaaGreatDoorPart40
import Derived.Test.YtiaeoknmgidehaaGreatDoorPart36
import Derived.Test.YtiaeoknmgidehaaGreatDoorPart35
import Derived.Test.YtiaeoknmgidehaaGreatDoorPart12
import Derived.Test.YtiaeoknmgidehaaGreatDoorPart14
import Derived.Test.YtiaeoknmgidehaaGreatDoorPart08
import Derived.Test.YtiaeoknmgidehaaGreatDoorPart03
import Derived.Deep.RegionHeld3
import Derived.Deep.DeepCutAuto

namespace Go.Proofs.YtiaeoknmgidehaaGreatDoor.Mo
open Go.RowKit Fu Tn Go.Lib Wt

/-- The exponent's high bits. -/
def eb (n L k : Nat) : Nat := n / 2 ^ (L - k)
theorem eb_zero {n L : Nat} (h : n < 2 ^ L) : eb n L 0 = 0 := Nat.div_eq_of_lt h
theorem eb_full (n L : Nat) : eb n L L = n := by unfold eb; rw [Nat.sub_self, Nat.pow_zero, Nat.div_one]
theorem eb_half {n L k : Nat} (h : k < L) : eb n L k = eb n L (k + 1) / 2 := by
  unfold eb
  rw [Nat.div_div_eq_div_mul, ← Nat.pow_succ, show (L - (k + 1)).succ = L - k by omega]
theorem eb_le (n L k : Nat) : eb n L k ≤ n := Nat.div_le_self _ _
theorem pow_bd {A n e : Nat} {m : Nat} (hp : ((A ^ n : Nat) : Int) < pw m) (hm : 1 < pw m) (h : e ≤ n) : ((A ^ e : Nat) : Int) < pw m := by
  by_cases z : A = 0
  · subst z
    have : (0 : Nat) ^ e ≤ 1 := by
      cases e with
      | zero => simp
      | succ e => simp
    omega
  · have := Nat.pow_le_pow_right (show 1 ≤ A by omega) h
    omega
theorem bl_lt (n : Nat) (h : n < 9223372036854775808) : n < 2 ^ Lib.bitLen n ∧ Lib.bitLen n ≤ 64 := by
  by_cases z : n = 0
  · subst z; decide
  · have := bitLen_bd (n : Int) (by omega) (by omega)
    rw [Int.toNat_natCast] at this
    refine ⟨?_, this.2.1⟩
    have h := this.2.2.2
    have e : ((2 ^ Lib.bitLen n : Nat) : Int) = (2 : Int) ^ Lib.bitLen n := by simp
    omega
theorem and_one (a : Nat) (h : a < 9223372036854775808) : bits .and .i64 (a : Int) 1 = ((a % 2 : Nat) : Int) := by
  have a1 : (BitVec.ofInt 64 ((a : Nat) : Int)).toNat = a := by
    rw [BitVec.ofInt_natCast, BitVec.toNat_ofNat]; exact Nat.mod_eq_of_lt (by omega)
  have a2 : (BitVec.ofInt 64 1).toNat = 2 ^ 1 - 1 := by decide
  show IntKind.i64.wrap ((BitVec.ofInt 64 ((a : Nat) : Int) &&& BitVec.ofInt 64 1).toNat : Int) = _
  rw [BitVec.toNat_and, a1, a2, Nat.and_two_pow_sub_one_eq_mod]
  exact wrapI _ (by omega) (by omega)
set_option maxRecDepth 100000 in
set_option maxHeartbeats 1600000 in
theorem Pow_n (p : Option Addr) (l c A n : Nat) (w : World) (hA : Nn w p l c (A : Int)) (hn : n < 9223372036854775808) {K : Nat} (hK0 : 1 < pw K) (hK : K ≤ 400000) (hp : ((A ^ n : Nat) : Int) < pw K) :
    Calls Tryz.prog 61 #[.agg #[.slice p l c], .int .i64 n] w fun e w' => ∃ a l c, e = .returned (.agg #[.slice a l c]) ∧ Nn w' a l c ((A ^ n : Nat) : Int) ∧ Below w.heap.size w w' := by
  have OF := Of_any 1
  have BL := Tryz.bits_Len (n : Int)
  have x0 : IntKind.u64.wrap (n : Int) = n := wrapU _ (by omega) (by omega)
  have B0 := Bx.new w (.slice p l c) 57
  have B1 := B0.alloc (.cells #[.slice none 0 0] 57)
  have B2 := Bx.new (w.alloc (.cells #[.slice p l c] 57)) (.slice none 0 0) 57
  rw [show (w.alloc (.cells #[.slice p l c] 57)).heap.size = w.heap.size + 1 by simp] at B2
  have al := ((Below.refl w.heap.size w).alloc (Nat.le_refl _) (.cells #[.slice p l c] 57)).alloc (by simp) (.cells #[.slice none 0 0] 57)
  go_enter Tryz.func61, Tryz.ntmps61
  go_wp2_with (first
    | (go_at_call 71; go_must (refine (OF _ (by decide) (by decide)).mono ?_; rintro e w1 ⟨r, zs, rfl, q1, n1, v1, b1⟩; obtain ⟨a1, l1, c1, rfl⟩ := q1.shape))
    | (go_at_call 92; go_must (refine (BL _ (by omega) (by omega)).mono ?_; rintro e w2 ⟨rfl, rfl⟩))
    | fail)
  have al1 := (Below.refl w1.heap.size w1).alloc (Nat.le_refl _) (.cells #[.slice a1 l1 c1] 57)
  have b2 := bel' al b1
  have b3 := bel' b2 al1
  have P1 := (B1.below b1).below al1
  have P2 := (B2.below b1).below al1
  have P3 := Bx.new w1 (.slice a1 l1 c1) 57
  have hs : w.heap.size + 2 ≤ w1.heap.size := by have := b1.size; simp at this; omega
  obtain ⟨g, hg⟩ : ∃ g, w1.heap.size = g := ⟨_, rfl⟩
  obtain ⟨L, hL⟩ : ∃ L, Lib.bitLen n = L := ⟨_, rfl⟩
  have l0 := bl_lt n hn
  rw [hL] at l0
  have nP : Nn (w1.alloc (.cells #[.slice a1 l1 c1] 57)) a1 l1 c1 ((A ^ eb n L 0 : Nat) : Int) := Nn.grow ⟨zs, q1, n1, by rw [v1, eb_zero l0.1]; simp⟩ al1
  have nA := hA.grow b3
  rw [Int.toNat_natCast, hL] at BL
  rw [hg] at P3 hs ⊢
  rw [hL]
  generalize w1.alloc (.cells #[.slice a1 l1 c1] 57) = W at *
  clear OF q1 n1 v1 b1 b2 al al1 B0 B1 B2 hg hL
  go_loopw [11] (fun v wr => ∃ (k : Nat) (a : Option Addr) (l' c' : Nat), v = .int .i64 k ∧ k ≤ L ∧ Nn wr a l' c' ((A ^ eb n L k : Nat) : Int) ∧ Nn wr p l c (A : Int) ∧ Bx wr g (.slice a l' c') ∧ Bx wr w.heap.size (.slice p l c) ∧ Bx wr (w.heap.size + 1) (.slice none 0 0) ∧ Below w.heap.size w wr) (fun v _ => L - (RowKit.intOf v).toNat)
  case atStart => exact ⟨0, a1, l1, c1, rfl, Nat.zero_le _, nP, nA, P3, P1, P2, b3⟩
  case round =>
    clear nP nA P1 P2 P3 b3
    obtain ⟨k, a, l', c', rfl, hk, nP, nA, P3, P1, P2, b3⟩ := hrel
    by_cases lt : k < L
    · have k3 := P3.1
      have k1 := P1.1
      have f3 := P3.2
      have E1 : Hid (eb n L k = eb n L (k + 1) / 2) := eb_half lt
      obtain ⟨j, hj⟩ : ∃ j, L = j + 1 := ⟨L - 1, by omega⟩
      have x1 : IntKind.i64.wrap ((L : Int) - 1) = (j : Int) := by rw [show (L : Int) - 1 = (j : Int) by omega]; exact wrapI _ (by omega) (by omega)
      obtain ⟨m, hm⟩ : ∃ m, j = m + k := ⟨j - k, by omega⟩
      have x2 : IntKind.i64.wrap ((j : Int) - (k : Int)) = (m : Int) := by rw [show (j : Int) - (k : Int) = (m : Int) by omega]; exact wrapI _ (by omega) (by omega)
      have HJ : Hid (L = j + 1) := hj
      have HM : Hid (j = m + k) := hm
      clear hj hm
      have ha1 : bits .and .i64 ((n : Int) / 2 ^ min m 64) 1 = ((eb n L (k + 1) % 2 : Nat) : Int) := by
        rw [← and_one _ (Nat.lt_of_le_of_lt (eb_le n L (k + 1)) hn)]
        unfold eb
        rw [show L - (k + 1) = m by have := HM.out; have := HJ.out; omega, Nat.min_eq_left (by have := HM.out; have := HJ.out; omega)]
        simp
      have z1 : ((A ^ eb n L k : Nat) : Int) < pw K := pow_bd hp hK0 (eb_le n L k)
      have z2 : ((A ^ (2 * eb n L k) : Nat) : Int) < pw K := pow_bd hp hK0 (by have := E1.out; have := eb_le n L (k + 1); omega)
      obtain ⟨e, he⟩ : ∃ e, eb n L (k + 1) = e := ⟨_, rfl⟩
      obtain ⟨e0, he0⟩ : ∃ e, eb n L k = e := ⟨_, rfl⟩
      have HE : Hid (eb n L (k + 1) = e) := he
      rw [he, he0] at E1
      rw [he] at ha1
      rw [he0] at nP z1 z2
      have M1 := Mul_n nP nP z1 z1 (by unfold MulOK; omega)
      rw [show ((A ^ e0 : Nat) : Int) * ((A ^ e0 : Nat) : Int) = ((A ^ (2 * e0) : Nat) : Int) by rw [Nat.two_mul, Nat.pow_add, Int.natCast_mul]] at M1
      have BL2 := fun x => BL x (by omega) (by omega)
      have zA : 1 ≤ n → ((A : Nat) : Int) < pw K := fun h => by have := pow_bd (e := 1) hp hK0 h; rwa [Nat.pow_one] at this
      have HS : Hid (w.heap.size + 2 ≤ g) := hs
      clear BL hp hA he he0 hs
      by_cases q : e % 2 = 1
      · have en : 1 ≤ n := by have := eb_le n L (k + 1); rw [HE.out] at this; omega
        have zB := zA en
        have EN : Hid (e = 2 * e0 + 1) := by have := E1.out; show _ = _; omega
        rw [q] at ha1
        have MA := fun (x : World) (a : Option Addr) (l' c' : Nat) (h : Nn x a l' c' ((A ^ (2 * e0) : Nat) : Int)) (h2 : Nn x p l c (A : Int)) => Mul_n h h2 z2 zB (by unfold MulOK; omega)
        rw [show ((A ^ (2 * e0) : Nat) : Int) * (A : Int) = ((A ^ e : Nat) : Int) by rw [EN.out, Nat.pow_succ, Int.natCast_mul]] at MA
        have d1 : w.heap.size ≠ g := by have := HS.out; omega
        have d2 : w.heap.size + 1 ≠ g := by have := HS.out; omega
        have l64 := l0.2
        clear hn l0 zA z1 z2 zB q en
        go_wp2_with (first
          | (go_at_call 69; (with_reducible refine M1.mono ?_); rintro _ w2 ⟨ma, ml, mc, rfl, nM, b4⟩; (have K3 := P3.below b4); (have m1 := K3.1); (have m2 := K3.2))
          | (go_at_call 92; (with_reducible refine (BL2 _).mono ?_); rintro _ w3 ⟨rfl, rfl⟩; (have J3 := K3.set (.slice ma ml mc)); (have J1 := bxskip (P1.below b4) d1 (.slice ma ml mc)); (have j1 := J3.1); (have j2 := J1.1))
          | fail)
        clear M1 BL2
        have J2 := bxskip (P2.below b4) d2 (.slice ma ml mc)
        have NM := nM.box (u := .slice ma ml mc) K3
        have NA := (nA.grow b4).box (u := .slice ma ml mc) K3
        have b5 := below_put (bel' b3 b4) (show w.heap.size ≤ g by have := HS.out; omega) (.slice ma ml mc)
        have f2 := J3.2
        generalize w2.setCell ⟨g, 0, none⟩ (.slice ma ml mc) = V at *
        refine (MA V ma ml mc NM NA).mono ?_
        rintro _ w3 ⟨pa, pl, pc, rfl, nQ, b6⟩
        have I3 := J3.below b6
        have i1 := I3.1
        have i2 := I3.2
        have I1 := bxskip (J1.below b6) d1 (.slice pa pl pc)
        have I2 := bxskip (J2.below b6) d2 (.slice pa pl pc)
        have NQ := nQ.box (u := .slice pa pl pc) I3
        have NB := (NA.grow b6).box (u := .slice pa pl pc) I3
        have b7 := below_put (bel' b5 b6) (show w.heap.size ≤ g by have := HS.out; omega) (.slice pa pl pc)
        have I4 := I3.set (.slice pa pl pc)
        clear MA ha1 x1 x2
        have lk : k < 64 := by have := HM.out; have := HJ.out; omega
        go_wp2_with fail
        go_roundw
        case rel => exact ⟨k + 1, pa, pl, pc, by go_num, by omega, by rw [HE.out]; exact NQ, NB, I4, I1, I2, b7⟩
        case measure => simp [RowKit.intOf]; omega
      · have EN : Hid (e = 2 * e0) := by have := E1.out; show _ = _; omega
        rw [show e % 2 = 0 by omega] at ha1
        have d1 : w.heap.size ≠ g := by have := HS.out; omega
        have d2 : w.heap.size + 1 ≠ g := by have := HS.out; omega
        have lk : k < 64 := by have := HM.out; have := HJ.out; omega
        clear hn l0 zA z1 z2 q
        go_wp2_with (first
          | (go_at_call 69; (with_reducible refine M1.mono ?_); rintro _ w2 ⟨ma, ml, mc, rfl, nM, b4⟩; (have K3 := P3.below b4); (have m1 := K3.1); (have m2 := K3.2))
          | (go_at_call 92; (with_reducible refine (BL2 _).mono ?_); rintro _ w3 ⟨rfl, rfl⟩)
          | fail)
        go_roundw
        case rel =>
          exact ⟨k + 1, ma, ml, mc, by go_num, by omega, by rw [HE.out, EN.out]; exact nM.box K3, (nA.grow b4).box K3, K3.set _, bxskip (P1.below b4) d1 _, bxskip (P2.below b4) d2 _, below_put (bel' b3 b4) (show w.heap.size ≤ g by have := HS.out; omega) _⟩
        case measure => simp [RowKit.intOf]; omega
    · obtain rfl : k = L := by omega
      rw [eb_full] at nP
      have nE := nP.box (u := .slice a l' c') P2
      have bE := below_put b3 (show w.heap.size ≤ w.heap.size + 1 by omega) (.slice a l' c')
      clear hp x0 BL
      have c1 := P2.1
      have c2 := P3.1
      have c3 := P2.2
      go_wp2
      have v1 := (P2.set (.slice a l' c')).1
      exact bodyPost_ret (v := .agg #[.slice a l' c']) (by simp [results, Tryz.results61, go_sem, v1]) rfl ⟨a, l', c', rfl, nE, bE⟩
end Go.Proofs.YtiaeoknmgidehaaGreatDoor.Mo

namespace Go.Proofs.YtiaeoknmgidehaaGreatDoor.Mo
open Go.RowKit Fu Tn Go.Lib Dc

theorem Rb.ofB {x : World} {n : Nat} {a b c : Value} {t : TypeId} (K : Blk x n #[a, b, c] t) : Rb x n a b c := ⟨by have := K.at 0; simpa using this, by have := K.at 1; simpa using this, by have := K.at 2; simpa using this, K.free 0, K.free 1, K.free 2, t, K⟩
end Go.Proofs.YtiaeoknmgidehaaGreatDoor.Mo

namespace Go.Proofs.YtiaeoknmgidehaaGreatDoor.Mo
open Go.RowKit Tn Ip

theorem elemI : Tryz.prog.elem 41 = 3 := by kernel_rfl
theorem slice_hi (g o len cap : Nat) (h : Int) (n : Nat) (eh : h = n) (h2 : n ≤ cap) (w : World) :
    (Instr.slice 41 (.slice (some ⟨g, o, none⟩) len cap) none (some (.int .i64 h)) none).run Tryz.prog w = .ok (.slice (some ⟨g, o, none⟩) n cap) w := by
  subst eh
  rw [run_slice_h w 41 _ len cap (by rw [elemI]; exact Tryz.underlying41) .i64 _ (by omega) (by omega), elemI]
  simp [Tryz.sizeOf3, Result.andThen, sliced, Addr.add]
set_option maxRecDepth 100000 in
theorem unit_n (w : World) : Calls Tryz.prog 90 #[] w fun e w' => ∃ a l c, e = .returned (.agg #[.slice a l c]) ∧ Nn w' a l c 10000000 ∧ Below w.heap.size w w' := by
  have O := fun x => Of_n 10000000 x (by decide) (by decide)
  have K0 := Bx.new w (.slice none 0 0) 57
  have pr : Below w.heap.size w (w.alloc (.cells #[.slice none 0 0] 57)) := (Below.refl _ _).alloc (Nat.le_refl _) _
  go_enter Tryz.func90, Tryz.ntmps90
  go_wp2_with (first
    | (go_at_call 71; refine (O _).mono ?_; rintro e w1 ⟨a1, l1, c1, rfl, n1, b1⟩; have K1 := K0.below b1; have z0 := K1.1; have z1 := K1.2)
    | fail)
  have v1 := (K1.set (.slice a1 l1 c1)).1
  exact bodyPost_ret (v := .agg #[.slice a1 l1 c1]) (by simp [results, Tryz.results90, go_sem, v1]) rfl ⟨a1, l1, c1, rfl, n1.box K1, below_put (bel' pr b1) (Nat.le_refl _) _⟩
theorem pfput {w : World} {n : Nat} {v : Value} {r : Rat} {x y z : Value} {g : Bool} {a1 a2 : Option Addr} {n1 c1 n2 c2 : Nat} (h : PF w v r) (R : Rb w n (.bool g) (.slice a1 n1 c1) (.slice a2 n2 c2)) : PF (((w.setCell ⟨n, 0, none⟩ x).setCell ⟨n, 1, none⟩ y).setCell ⟨n, 2, none⟩ z) v r := by
  obtain ⟨a, l, c, a', l', c', e, h1, h2⟩ := h
  exact ⟨a, l, c, a', l', c', e, h1.putF R, h2.putF R⟩
/-- The chance to live k years. -/
def sv (q : Nat → Int) (k : Nat) : Rat := mkRat (al q k) (10000000 ^ k)
set_option maxRecDepth 100000 in
set_option maxHeartbeats 3200000 in
theorem survival_r (b o L cap m : Nat) (n A D : Int) (T : Rat) (w : World) (hn : min n (L : Int) = (m : Int)) (hmc : m ≤ cap)
    (S1 : ∀ x, Below w.heap.size w x → Calls Tryz.prog 89 #[.slice (some ⟨b, o, none⟩) m cap] x fun e w' => ∃ g a l c, e = .returned (.slice (some ⟨g, 0, none⟩) (m + 1) (m + 1)) ∧ w'.cell? ⟨g, m, none⟩ = some (.slice a l c) ∧ Nn w' a l c A ∧ Below x.heap.size x w')
    (U : ∀ x, Calls Tryz.prog 90 #[] x fun e w' => ∃ a l c, e = .returned (.agg #[.slice a l c]) ∧ Nn w' a l c 10000000 ∧ Below x.heap.size x w')
    (P : ∀ x a l c, Nn x a l c 10000000 → Calls Tryz.prog 61 #[.agg #[.slice a l c], .int .i64 m] x fun e w' => ∃ a l c, e = .returned (.agg #[.slice a l c]) ∧ Nn w' a l c D ∧ Below x.heap.size x w')
    (LO : ∀ x a l c a' l' c', Nn x a l c A → Nn x a' l' c' D → Calls Tryz.prog 88 #[.bool false, .agg #[.slice a l c], .agg #[.slice a' l' c']] x (Fa T x)) :
    Calls Tryz.prog 57 #[.slice (some ⟨b, o, none⟩) L cap, .int .i64 n] w (Fa T w) := by
  have KR := Rb.new w (.bool false) (.slice none 0 0) (.slice none 0 0) 59
  have pr : Below w.heap.size w (w.alloc (.cells #[.bool false, .slice none 0 0, .slice none 0 0] 59)) := (Below.refl _ _).alloc (Nat.le_refl _) _
  have sl := fun x => slice_hi b o L cap (m : Int) m rfl hmc x
  have i1 : (0 : Int) ≤ (m : Int) := by omega
  have i2 : ((m : Int)).toNat = m := by omega
  have i3 : (m : Int) < ((m + 1 : Nat) : Int) := by omega
  replace S1 := fun x b => S1 x (bel' pr b)
  go_enter Tryz.func57, Tryz.ntmps57
  go_wp2_with fail

  clear hn
  generalize w.alloc (.cells #[.bool false, .slice none 0 0, .slice none 0 0] 59) = W at *
  go_region_with (first
    | (go_at_call 88; (have z := d3); (refine (LO _ _ _ _ _ _ _ (n1.grow (bel' b2 b3)) n3).mono ?_); (rintro e w4 ⟨g4, a4, l4, c4, a4', l4', c4', rfl, t4, b4⟩); (have d4 := bel' d3 b4); (have R := KR.grow d4); (have r0 := R.c0); (have r1 := R.c1); (have r2 := R.c2); (have f0 := R.f0); (have f1 := R.f1); (have f2 := R.f2))
    | (go_at_call 61; (have z := d2); (refine (P _ _ _ _ n2).mono ?_); (rintro e w3 ⟨a3, l3, c3, rfl, n3, b3⟩); (have d3 := bel' d2 b3); (have x3 := keepc b3 x2))
    | (go_at_call 90; (have z := d1); (refine (U _).mono ?_); (rintro e w2 ⟨a2, l2, c2, rfl, n2, b2⟩); (have d2 := bel' d1 b2); (have x2 := keepc b2 x1))
    | (go_at_call 89; (refine (S1 _ ((Below.refl _ _).drew)).mono ?_); (rintro e w1 ⟨g, a1, l1, c1, rfl, x1, n1, b1⟩); (have d1 := undrew b1))
    | fail)
  all_goals
    obtain ⟨F0, F1, F2⟩ := R.put (.bool g4) (.slice a4 l4 c4) (.slice a4' l4' c4')
    go_wp2_with fail
    exact bodyPost_ret (v := .agg #[.bool g4, .slice a4 l4 c4, .slice a4' l4' c4']) (by simp [results, Tryz.results57, go_sem, F0, F1, F2]) rfl ⟨g4, a4, l4, c4, a4', l4', c4', rfl, pfput t4 R, bset3 (bel' pr d4) (Nat.le_refl _)⟩
/-- The chance to live n years. -/
theorem survival_p (b o L cap : Nat) (q : Nat → Int) (n : Nat) (w : World) (hc : ∀ k, k < L → w.cell? ⟨b, o + k, none⟩ = some (.int .i64 (q k))) (hq : ∀ k, k < L → 0 ≤ q k ∧ q k ≤ 10000000) (hL : L ≤ 140) (hcap : L ≤ cap) :
    Calls Tryz.prog 57 #[.slice (some ⟨b, o, none⟩) L cap, .int .i64 n] w (Fa (sv q (min n L)) w) := by
  obtain ⟨m, hm⟩ : ∃ m, min n L = m := ⟨_, rfl⟩
  rw [hm]
  have ml : m ≤ L := by omega
  have a0 := (al_bd hq m ml).1
  have ap := al_pw hq ml hL
  have dp : ((10000000 ^ m : Nat) : Int) < pw 60 := lt_64 (lt_pow2 (m := 24) (by decide) m) (by omega)
  have ea : ((al q m).toNat : Int) = al q m := Int.toNat_of_nonneg a0
  refine survival_r b o L cap m n (al q m) ((10000000 ^ m : Nat) : Int) _ w (by omega) (by omega) (fun x bl => ?_) (fun x => unit_n x) (fun x a l c h => Pow_n a l c 10000000 m x h (by omega) (K := 60) (by rw [pw_64]; have := Nat.pow_lt_pow_right (show 1 < 2 by decide) (show 0 < 64 * 60 by decide); omega) (by decide) dp) (fun x a l c a' l' c' h h' => ?_)
  · refine (survivors_n (some ⟨b, o, none⟩) m cap q x (fun _ => ⟨b, o, rfl, fun k hk => keepc bl (hc k (by omega))⟩) (fun k hk => hq k (by omega)) (by omega)).mono ?_
    rintro e w' ⟨g, rfl, _, S, bb⟩
    obtain ⟨cs, K, hs, hi, hf⟩ := S
    obtain ⟨a, l, c, e, nn⟩ := hf m (Nat.le_refl _)
    exact ⟨g, a, l, c, rfl, (K.at m).trans e, nn, bb⟩
  · have := Lowest_p a a' l c l' c' (al q m).toNat (10000000 ^ m) 60 x (by rw [ea]; exact h) h' (by have := Nat.pow_pos (n := m) (show 0 < 10000000 by decide); omega) (by rw [ea]; exact ap) dp (by decide)
    rw [ea] at this
    exact fa_of this
end Go.Proofs.YtiaeoknmgidehaaGreatDoor.Mo

namespace Go.Proofs.YtiaeoknmgidehaaGreatDoor.L
open Go.RowKit Tl

/-- What the reference's Pow keeps: out times a to the m is the power. -/
structure Pk (N A O : Int) (m : Nat) : Prop where
  eq : O * A ^ m = N
  alt : (A = 0 ∧ 0 ≤ O ∧ O ≤ 1) ∨ (1 ≤ A ∧ 1 ≤ O)
theorem one_le_pow {A : Int} (h : 1 ≤ A) : ∀ m : Nat, 1 ≤ A ^ m
  | 0 => by simp
  | m + 1 => by
    rw [Int.pow_succ]
    have := one_le_pow h m
    have := Int.mul_le_mul this h (by decide) (by omega)
    omega
theorem le_pow {A : Int} (h : 1 ≤ A) {m : Nat} (hm : 1 ≤ m) : A ≤ A ^ m := by
  obtain ⟨k, rfl⟩ : ∃ k, m = k + 1 := ⟨m - 1, by omega⟩
  rw [Int.pow_succ]
  have := one_le_pow h k
  have := Int.mul_le_mul_of_nonneg_right this (show 0 ≤ A by omega)
  omega
theorem Pk.o {N A O : Int} {m : Nat} (h : Pk N A O m) {B : Int} (b : N < B) (b1 : 1 < B) : O < B := by
  rcases h.alt with ⟨_, _, a⟩ | ⟨a, o⟩
  · omega
  · have := one_le_pow a m
    have := Int.mul_le_mul_of_nonneg_left this (show 0 ≤ O by omega)
    have := h.eq
    omega
theorem Pk.a {N A O : Int} {m : Nat} (h : Pk N A O m) (hm : 1 ≤ m) {B : Int} (b : N < B) (b1 : 1 < B) : A < B := by
  rcases h.alt with ⟨a, _, _⟩ | ⟨a, o⟩
  · omega
  · have p1 := le_pow a hm
    have := Int.mul_le_mul_of_nonneg_right o (show 0 ≤ A ^ m by omega)
    have := h.eq
    omega
theorem Pk.sq {N A O : Int} {m : Nat} (h : Pk N A O (2 * m)) : Pk N (A * A) O m := by
  refine ⟨by rw [← h.eq, Int.pow_mul]; congr 2; rw [Int.pow_succ, Int.pow_succ, Int.pow_zero, Int.one_mul], ?_⟩
  rcases h.alt with ⟨a, b⟩ | ⟨a, o⟩
  · subst a; exact Or.inl ⟨rfl, b⟩
  · have := Int.mul_le_mul a a (by decide) (by omega)
    exact Or.inr ⟨by omega, o⟩
theorem len_of {xs : List Int} {n : Nat} (h : Wd xs) (k : Nm xs) (v : val xs < pw n) : xs.length ≤ n := by
  by_cases e : xs = []
  · subst e; simp
  · have := val_low h k e
    by_cases c : xs.length ≤ n
    · exact c
    · have := pw_mono (show n ≤ xs.length - 1 by omega)
      omega
end Go.Proofs.YtiaeoknmgidehaaGreatDoor.L

namespace Go.Proofs.YtiaeoknmgidehaaGreatDoor.Mo
open Go.RowKit Ip

/-- The slice is the whole number N of the reference's. -/
def Nl (x : World) (a : Option Addr) (l c : Nat) (N : Int) : Prop := ∃ xs : List Int, L.Rd x (.slice a l c) xs ∧ Tl.Nm xs ∧ Tl.val xs = N
theorem Nl.grow {x x' : World} {a : Option Addr} {l c : Nat} {N : Int} (h : Nl x a l c N) (b : Below x.heap.size x x') : Nl x' a l c N := by
  obtain ⟨xs, r, n, v⟩ := h
  exact ⟨xs, r.grow b, n, v⟩
theorem Nl.putF {w : World} {n : Nat} {a : Option Addr} {l c : Nat} {N : Int} {x y z : Value} {g : Bool} {a1 a2 : Option Addr} {n1 c1 n2 c2 : Nat} (h : Nl w a l c N) (R : Rb w n (.bool g) (.slice a1 n1 c1) (.slice a2 n2 c2)) : Nl (((w.setCell ⟨n, 0, none⟩ x).setCell ⟨n, 1, none⟩ y).setCell ⟨n, 2, none⟩ z) a l c N := by
  obtain ⟨t, K⟩ := R.bk
  obtain ⟨xs, r, n, v⟩ := h
  exact ⟨xs, r.putQ K, n, v⟩
theorem isq_nl {x : World} {r : Rat} {a a' : Option Addr} {l c l' c' : Nat} (h1 : Nl x a l c (r.num.natAbs : Int)) (h2 : Nl x a' l' c' (r.den : Int)) : L.IsQ x (.agg #[.bool (decide (r.num < 0)), .slice a l c, .slice a' l' c']) r := by
  obtain ⟨xs, r1, n1, v1⟩ := h1
  obtain ⟨ys, r2, n2, v2⟩ := h2
  have e1 : l = xs.length := by obtain ⟨_, _, _, e, _⟩ := r1; cases e; rfl
  have e2 : l' = ys.length := by obtain ⟨_, _, _, e, _⟩ := r2; cases e; rfl
  subst e1 e2
  exact ⟨xs, ys, a, a', c, c', rfl, r1, n1, v1, r2, n2, v2⟩
theorem nl_isq {x : World} {v : Value} {r : Rat} (h : L.IsQ x v r) : ∃ a l c a' l' c', v = .agg #[.bool (decide (r.num < 0)), .slice a l c, .slice a' l' c'] ∧ Nl x a l c (r.num.natAbs : Int) ∧ Nl x a' l' c' (r.den : Int) ∧ (l = 0 ↔ r.num = 0) := by
  obtain ⟨ns, ds, a1, a2, c1, c2, e, h1, n1, v1, h2, n2, v2⟩ := h
  refine ⟨a1, _, c1, a2, _, c2, e, ⟨ns, h1, n1, v1⟩, ⟨ds, h2, n2, v2⟩, ?_⟩
  constructor
  · intro z
    have : ns = [] := List.length_eq_zero_iff.1 z
    subst this
    simp [Tl.val] at v1
    omega
  · intro z
    rw [z] at v1
    by_cases e : ns = []
    · subst e; rfl
    · have := Tl.val_low h1.1 n1 e
      have := Tl.pw_pos (ns.length - 1)
      simp at v1
      omega
theorem qput {w : World} {n : Nat} {v : Value} {r : Rat} {x y z : Value} {g : Bool} {a1 a2 : Option Addr} {n1 c1 n2 c2 : Nat} (h : L.IsQ w v r) (R : Rb w n (.bool g) (.slice a1 n1 c1) (.slice a2 n2 c2)) : L.IsQ (((w.setCell ⟨n, 0, none⟩ x).setCell ⟨n, 1, none⟩ y).setCell ⟨n, 2, none⟩ z) v r := by
  obtain ⟨t, K⟩ := R.bk
  obtain ⟨ns, ds, a1, a2, c1, c2, e, h1, m1, v1, h2, m2, v2⟩ := h
  exact ⟨ns, ds, a1, a2, c1, c2, e, h1.putQ K, m1, v1, h2.putQ K, m2, v2⟩
def NLV (N : Int) (t : Value) (x : World) : Prop := ∃ a l c, t = .slice a l c ∧ Nl x a l c N
theorem NLV.grow {x x' : World} {N : Int} {t : Value} (h : NLV N t x) (b : Below x.heap.size x x') : NLV N t x' := by
  obtain ⟨a, l, c, e, h⟩ := h
  exact ⟨a, l, c, e, h.grow b⟩
structure IPQ (W x : World) (V0 V1 V2 V6 V7 V8 V9 V11 V12 V13 : Value) (N10 N14 : Int) (y0 y1 y2 y3 y4 y5 y6 y7 y8 y9 y10 y11 y12 y13 y14 : Bool) (t5 t6 t7 t8 t9 t10 t11 t12 t13 t14 t15 t16 t17 t18 t19 : Value) : Prop where
  bel : Below W.heap.size W x
  o0 : y0 = true → t5 = V0
  o1 : y1 = true → t6 = V1
  o2 : y2 = true → t7 = V2
  o6 : y6 = true → t11 = V6
  o7 : y7 = true → t12 = V7
  o8 : y8 = true → t13 = V8
  o9 : y9 = true → t14 = V9
  o11 : y11 = true → t16 = V11
  o12 : y12 = true → t17 = V12
  o13 : y13 = true → t18 = V13
  o10 : y10 = true → NLV N10 t15 x
  o14 : y14 = true → NLV N14 t19 x
  o3 : y3 = true → t8 = undef
  o4 : y4 = true → t9 = undef
  o5 : y5 = true → t10 = undef
  d1_0 : y1 = true → y0 = true
  d2_1 : y2 = true → y1 = true
  d4_3 : y4 = true → y3 = true
  d5_4 : y5 = true → y4 = true
  d6_2 : y6 = true → y2 = true
  d6_5 : y6 = true → y5 = true
  d8_7 : y8 = true → y7 = true
  d10_8 : y10 = true → y8 = true
  d10_9 : y10 = true → y9 = true
  d12_11 : y12 = true → y11 = true
  d14_12 : y14 = true → y12 = true
  d14_13 : y14 = true → y13 = true
theorem IPQ.grow {W x x' : World} {V0 V1 V2 V6 V7 V8 V9 V11 V12 V13 : Value} {N10 N14 : Int} {y0 y1 y2 y3 y4 y5 y6 y7 y8 y9 y10 y11 y12 y13 y14 : Bool} {t5 t6 t7 t8 t9 t10 t11 t12 t13 t14 t15 t16 t17 t18 t19 : Value} (h : IPQ W x V0 V1 V2 V6 V7 V8 V9 V11 V12 V13 N10 N14 y0 y1 y2 y3 y4 y5 y6 y7 y8 y9 y10 y11 y12 y13 y14 t5 t6 t7 t8 t9 t10 t11 t12 t13 t14 t15 t16 t17 t18 t19) (b : Below x.heap.size x x') : IPQ W x' V0 V1 V2 V6 V7 V8 V9 V11 V12 V13 N10 N14 y0 y1 y2 y3 y4 y5 y6 y7 y8 y9 y10 y11 y12 y13 y14 t5 t6 t7 t8 t9 t10 t11 t12 t13 t14 t15 t16 t17 t18 t19 where
  bel := bel' h.bel b
  o0 := h.o0
  o1 := h.o1
  o2 := h.o2
  o6 := h.o6
  o7 := h.o7
  o8 := h.o8
  o9 := h.o9
  o11 := h.o11
  o12 := h.o12
  o13 := h.o13
  o3 := h.o3
  o4 := h.o4
  o5 := h.o5
  o10 := fun u => (h.o10 u).grow b
  o14 := fun u => (h.o14 u).grow b
  d1_0 := h.d1_0
  d2_1 := h.d2_1
  d4_3 := h.d4_3
  d5_4 := h.d5_4
  d6_2 := h.d6_2
  d6_5 := h.d6_5
  d8_7 := h.d8_7
  d10_8 := h.d10_8
  d10_9 := h.d10_9
  d12_11 := h.d12_11
  d14_12 := h.d14_12
  d14_13 := h.d14_13
set_option maxHeartbeats 3200000 in
set_option maxRecDepth 100000 in
theorem Minus_r (g : Bool) (a a' : Option Addr) (l c l' c' : Nat) (w : World) :
    Calls Tryz.prog 80 #[.agg #[.bool g, .slice a l c, .slice a' l' c']] w fun e w' => e = .returned (.agg #[.bool (if l = 0 then g else !g), .slice a l c, .slice a' l' c']) ∧ Below w.heap.size w w' := by
  by_cases z : l = 0
  · subst z
    rw [if_pos rfl]
    go_enter Tryz.func80, Tryz.ntmps80
    go_wp2
    exact bodyPost_ret (v := .agg #[.bool g, .slice a 0 c, .slice a' l' c']) (by simp [results, Tryz.results80, go_sem]) rfl ⟨rfl, ((Below.refl _ _).alloc (Nat.le_refl _) _).alloc (by simp) _⟩
  · rw [if_neg z]
    have zz : (l : Int) > 0 := by omega
    clear z
    go_enter Tryz.func80, Tryz.ntmps80
    go_wp2
    exact bodyPost_ret (v := .agg #[.bool !g, .slice a l c, .slice a' l' c']) (by simp [results, Tryz.results80, go_sem]) rfl ⟨rfl, ((Below.refl _ _).alloc (Nat.le_refl _) _).alloc (by simp) _⟩
theorem Minus_q (v : Value) (r : Rat) (w : World) (h : L.IsQ w v r) : Calls Tryz.prog 80 #[v] w (Qf (-r) w) := by
  obtain ⟨a, l, c, a', l', c', rfl, n1, n2, z⟩ := nl_isq h
  refine (Minus_r _ a a' l c l' c' w).mono ?_
  rintro e w' ⟨rfl, b⟩
  have e0 : (if l = 0 then decide (r.num < 0) else !decide (r.num < 0)) = decide ((-r).num < 0) := by
    rw [Rat.neg_num]
    by_cases c : l = 0
    · rw [if_pos c, z.1 c]; simp
    · rw [if_neg c]
      have := fun e => c (z.2 e)
      by_cases d : r.num < 0
      · simp [d]; omega
      · simp [d]; omega
  refine ⟨_, a, l, c, a', l', c', rfl, ?_, b⟩
  rw [e0]
  exact isq_nl (by rw [Rat.neg_num, Int.natAbs_neg]; exact n1.grow b) (by rw [Rat.neg_den]; exact n2.grow b)
set_option maxHeartbeats 3200000 in
set_option maxRecDepth 100000 in
theorem Sub_r (g g1 : Bool) (a a' a1 a1' : Option Addr) (l c l' c' l1 c1 l1' c1' : Nat) (r s t u : Rat) (w : World) (hr : L.IsQ w (.agg #[.bool g, .slice a l c, .slice a' l' c']) r) (hs : L.IsQ w (.agg #[.bool g1, .slice a1 l1 c1, .slice a1' l1' c1']) s)
    (M : ∀ x v, L.IsQ x v s → Calls Tryz.prog 80 #[v] x (Qf t x)) (AD : ∀ x v1 v2, L.IsQ x v1 r → L.IsQ x v2 t → Calls Tryz.prog 42 #[v1, v2] x (Qf u x)) :
    Calls Tryz.prog 44 #[.agg #[.bool g, .slice a l c, .slice a' l' c'], .agg #[.bool g1, .slice a1 l1 c1, .slice a1' l1' c1']] w (Qf u w) := by
  have K0 := ((Rb.new w (.bool g) (.slice a l c) (.slice a' l' c') 64).alloc (.cells #[.bool g1, .slice a1 l1 c1, .slice a1' l1' c1'] 64)).alloc (.cells #[.bool false, .slice none 0 0, .slice none 0 0] 64)
  have K1 := (Rb.new (w.alloc (.cells #[.bool g, .slice a l c, .slice a' l' c'] 64)) (.bool g1) (.slice a1 l1 c1) (.slice a1' l1' c1') 64).alloc (.cells #[.bool false, .slice none 0 0, .slice none 0 0] 64)
  have K2 := Rb.new ((w.alloc (.cells #[.bool g, .slice a l c, .slice a' l' c'] 64)).alloc (.cells #[.bool g1, .slice a1 l1 c1, .slice a1' l1' c1'] 64)) (.bool false) (.slice none 0 0) (.slice none 0 0) 64
  have pr : Below w.heap.size w (((w.alloc (.cells #[.bool g, .slice a l c, .slice a' l' c'] 64)).alloc (.cells #[.bool g1, .slice a1 l1 c1, .slice a1' l1' c1'] 64)).alloc (.cells #[.bool false, .slice none 0 0, .slice none 0 0] 64)) := (((Below.refl _ _).alloc (Nat.le_refl _) _).alloc (by simp) _).alloc (by simp; omega) _
  simp only [World.size_alloc] at K1 K2
  replace hr := hr.grow pr
  replace hs := hs.grow pr
  go_enter Tryz.func44, Tryz.ntmps44
  go_wp2_with fail
  generalize ((w.alloc (.cells #[.bool g, .slice a l c, .slice a' l' c'] 64)).alloc (.cells #[.bool g1, .slice a1 l1 c1, .slice a1' l1' c1'] 64)).alloc (.cells #[.bool false, .slice none 0 0, .slice none 0 0] 64) = W at *
  have k0 := K0.c0
  have k1 := K0.c1
  have k2 := K0.c2
  have j0 := K1.c0
  have j1 := K1.c1
  have j2 := K1.c2
  obtain ⟨q, hq⟩ : ∃ q, w.heap.size + 1 + 1 = q := ⟨_, rfl⟩
  have HQ : Hid (w.heap.size ≤ q) := by show _ ≤ _; omega
  have o1 : w.heap.size ≠ q := by omega
  have o2 : q ≠ w.heap.size := by omega
  have o3 : w.heap.size + 1 ≠ q := by omega
  have o4 : q ≠ w.heap.size + 1 := by omega
  rw [hq] at K2 ⊢
  clear hq
  go_region_held3 (fun x => x.cell? ⟨w.heap.size, 0, none⟩ = some (.bool g) ∧ x.cell? ⟨w.heap.size, 1, none⟩ = some (.slice a l c) ∧ x.cell? ⟨w.heap.size, 2, none⟩ = some (.slice a' l' c') ∧ x.cell? ⟨w.heap.size + 1, 0, none⟩ = some (.bool g1) ∧ x.cell? ⟨w.heap.size + 1, 1, none⟩ = some (.slice a1 l1 c1) ∧ x.cell? ⟨w.heap.size + 1, 2, none⟩ = some (.slice a1' l1' c1')) (go_keep) (first
    | (go_at_call 42; (have z := d1); refine (AD _ _ _ (hr.grow d1) t1).mono ?_; rintro e w3 ⟨g3, a3, l3, c3, a3', l3', c3', rfl, t3, b3⟩; have d3 := bel' d1 b3; have x0 := (K0.grow d3).c0; have x1 := (K0.grow d3).c1; have x2 := (K0.grow d3).c2; have x3 := (K1.grow d3).c0; have x4 := (K1.grow d3).c1; have x5 := (K1.grow d3).c2; have R := K2.grow d3; have q0 := R.c0; have q1 := R.c1; have q2 := R.c2; have s0 := R.f0; have s1 := R.f1; have s2 := R.f2)
    | (go_at_call 80; refine (M _ _ (hs.grow ((Below.refl _ _).drew))).mono ?_; rintro e w2 ⟨g2, a2, l2, c2, a2', l2', c2', rfl, t1, b1⟩; have d1 := undrew b1; have y0 := (K0.grow d1).c0; have y1 := (K0.grow d1).c1; have y2 := (K0.grow d1).c2; have y3 := (K1.grow d1).c0; have y4 := (K1.grow d1).c1; have y5 := (K1.grow d1).c2)
    | fail)
  obtain ⟨F0, F1, F2⟩ := R.put (.bool g3) (.slice a3 l3 c3) (.slice a3' l3' c3')
  go_wp2
  exact bodyPost_ret (v := .agg #[.bool g3, .slice a3 l3 c3, .slice a3' l3' c3']) (by simp [results, Tryz.results44, go_sem, F0, F1, F2]) rfl ⟨g3, a3, l3, c3, a3', l3', c3', rfl, qput t3 R, bset3 (bel' pr d3) HQ.out⟩
/-- Q's Sub of the reference. -/
theorem QSub_q (v1 v2 : Value) (r s : Rat) (K : Nat) (w : World) (hr : L.IsQ w v1 r) (hs : L.IsQ w v2 s) (q1 : L.QS r K) (q2 : L.QS s K) (hK : K ≤ 1000000000) : Calls Tryz.prog 44 #[v1, v2] w (Qf (r - s) w) := by
  obtain ⟨a, l, c, a', l', c', rfl, _⟩ := nl_isq hr
  obtain ⟨a1, l1, c1, a1', l1', c1', rfl, _⟩ := nl_isq hs
  rw [Rat.sub_eq_add_neg]
  exact Sub_r _ _ a a' a1 a1' l c l' c' l1 c1 l1' c1' r s (-s) (r + -s) w hr hs (fun x v h => Minus_q v s x h) (fun x v1 v2 h1 h2 => qf_of (L.QAdd_any v1 v2 r (-s) K x h1 h2 q1 ⟨by rw [Rat.neg_num, Int.natAbs_neg]; exact q2.1, by rw [Rat.neg_den]; exact q2.2⟩ hK))
end Go.Proofs.YtiaeoknmgidehaaGreatDoor.Mo

namespace Go.Proofs.YtiaeoknmgidehaaGreatDoor.Ta
open Go.RowKit
open Go.Proofs.YtiaeoknmgidehaaGreatDoor.Mo (Qf qf_of qput Rb al sv al_bd)

theorem le_big {n : Nat} (h : n ≤ 1) : n ≤ 274877906944 := by omega
theorem al_30 {q : Nat → Int} {M : Nat} (hq : ∀ k, k < M → 0 ≤ q k ∧ q k ≤ 10000000) {k : Nat} (h : k ≤ M) (hL : M ≤ 140) : al q k < Tl.pw 120 := by
  have a := (al_bd hq k h).2
  rw [Ip.pw_30]
  have := Nat.pow_lt_pow_right (show 1 < 2 by decide) (show 24 * k < 30 * 120 by omega)
  omega
theorem ten_30 {k : Nat} (h : k ≤ 140) : ((10000000 ^ k : Nat) : Int) < Tl.pw 120 := Ip.lt_30 (Ip.lt_pow2 (m := 24) (by decide) k) (by omega)
set_option maxRecDepth 100000 in
set_option maxHeartbeats 3200000 in
theorem S_none (s : ByteArray) (f en ys : Int) (ar : Option Addr) (rl cr : Nat) (vs : Value) (N : Nat) (w : World) (n : Int) (hn : n > (N : Int)) (LE : ∀ x, Below w.heap.size w x → Calls Tryz.prog 91 #[.agg #[.string s, .int .i64 f, .slice ar rl cr, vs], .agg #[.int .i64 en, .int .i64 ys]] x fun e w' => e = .returned (.int .i64 (N : Int)) ∧ Below x.heap.size x w') : Calls Tryz.prog 58 #[.agg #[.string s, .int .i64 f, .slice ar rl cr, vs], .agg #[.int .i64 en, .int .i64 ys], .int .i64 n] w (Qf ((0 : Int) : Rat) w) := by
  have KT := ((Blk.new w #[.string s, .int .i64 f, .slice ar rl cr, vs] 44).alloc (.cells #[.int .i64 en, .int .i64 ys] 46)).alloc (.cells #[.bool false, .slice none 0 0, .slice none 0 0] 64)
  have KL := (Blk.new (w.alloc (.cells #[.string s, .int .i64 f, .slice ar rl cr, vs] 44)) #[.int .i64 en, .int .i64 ys] 46).alloc (.cells #[.bool false, .slice none 0 0, .slice none 0 0] 64)
  have KR := Blk.new ((w.alloc (.cells #[.string s, .int .i64 f, .slice ar rl cr, vs] 44)).alloc (.cells #[.int .i64 en, .int .i64 ys] 46)) #[.bool false, .slice none 0 0, .slice none 0 0] 64
  have pr : Below w.heap.size w (((w.alloc (.cells #[.string s, .int .i64 f, .slice ar rl cr, vs] 44)).alloc (.cells #[.int .i64 en, .int .i64 ys] 46)).alloc (.cells #[.bool false, .slice none 0 0, .slice none 0 0] 64)) := (((Below.refl _ _).alloc (Nat.le_refl _) _).alloc (by simp) _).alloc (by simp; omega) _
  simp only [World.size_alloc] at KL KR
  have k0 := KT.at 0
  have k1 := KT.at 1
  have k2 := KT.at 2
  have k3 := KT.at 3
  have m0 := KL.at 0
  have m1 := KL.at 1
  simp at k0 k1 k2 k3 m0 m1
  have O := fun x => qf_of (L.Of_q 0 x (by decide) (by decide))
  go_enter Tryz.func58, Tryz.ntmps58
  go_wp2_with (first
    | (go_at_call 91; refine (LE _ pr).mono ?_; rintro e w1 ⟨rfl, b1⟩; (have p1 := Mo.bel' pr b1); (have KR1 := KR.below b1 KR.lt))
    | (go_at_call 41; refine (O _).mono ?_; rintro e w2 ⟨g2, a2, l2, c2, a2', l2', c2', rfl, t2, b2⟩; (have p2 := Mo.bel' p1 b2); (have R := Mo.Rb.ofB (KR1.below b2 KR1.lt)); (have q0 := R.c0); (have q1 := R.c1); (have q2 := R.c2); (have y0 := R.f0); (have y1 := R.f1); (have y2 := R.f2))
    | fail)
  obtain ⟨F0, F1, F2⟩ := R.put (.bool g2) (.slice a2 l2 c2) (.slice a2' l2' c2')
  exact bodyPost_ret (v := .agg #[.bool g2, .slice a2 l2 c2, .slice a2' l2' c2']) (by simp [results, Tryz.results58, go_sem, F0, F1, F2]) rfl ⟨g2, a2, l2, c2, a2', l2', c2', rfl, qput t2 R, Mo.bset3 p2 (by omega)⟩
set_option maxRecDepth 100000 in
set_option maxHeartbeats 3200000 in
theorem S_some (s : ByteArray) (f en ys : Int) (ar : Option Addr) (rl cr : Nat) (vs : Value) (N : Nat) (q : Nat → Int) (w : World) (n : Nat) (hn : n ≤ N) (hN : N ≤ 140) (hq : ∀ k, k < N → 0 ≤ q k ∧ q k ≤ 10000000) (LE : ∀ x, Below w.heap.size w x → Calls Tryz.prog 91 #[.agg #[.string s, .int .i64 f, .slice ar rl cr, vs], .agg #[.int .i64 en, .int .i64 ys]] x fun e w' => e = .returned (.int .i64 (N : Int)) ∧ Below x.heap.size x w') (RI : ∀ x (k : Nat), k < N → Below w.heap.size w x → Calls Tryz.prog 56 #[.agg #[.string s, .int .i64 f, .slice ar rl cr, vs], .agg #[.int .i64 en, .int .i64 ys], .int .i64 (k : Int)] x fun e w' => e = .returned (.tuple #[.int .i64 (q k), .bool true]) ∧ Below x.heap.size x w') : Calls Tryz.prog 58 #[.agg #[.string s, .int .i64 f, .slice ar rl cr, vs], .agg #[.int .i64 en, .int .i64 ys], .int .i64 (n : Int)] w (Qf (sv q n) w) := by
  have KT := ((Blk.new w #[.string s, .int .i64 f, .slice ar rl cr, vs] 44).alloc (.cells #[.int .i64 en, .int .i64 ys] 46)).alloc (.cells #[.bool false, .slice none 0 0, .slice none 0 0] 64)
  have KL := (Blk.new (w.alloc (.cells #[.string s, .int .i64 f, .slice ar rl cr, vs] 44)) #[.int .i64 en, .int .i64 ys] 46).alloc (.cells #[.bool false, .slice none 0 0, .slice none 0 0] 64)
  have KR := Blk.new ((w.alloc (.cells #[.string s, .int .i64 f, .slice ar rl cr, vs] 44)).alloc (.cells #[.int .i64 en, .int .i64 ys] 46)) #[.bool false, .slice none 0 0, .slice none 0 0] 64
  have pr : Below w.heap.size w (((w.alloc (.cells #[.string s, .int .i64 f, .slice ar rl cr, vs] 44)).alloc (.cells #[.int .i64 en, .int .i64 ys] 46)).alloc (.cells #[.bool false, .slice none 0 0, .slice none 0 0] 64)) := (((Below.refl _ _).alloc (Nat.le_refl _) _).alloc (by simp) _).alloc (by simp; omega) _
  simp only [World.size_alloc] at KL KR
  have k0 := KT.at 0
  have k1 := KT.at 1
  have k2 := KT.at 2
  have k3 := KT.at 3
  have m0 := KL.at 0
  have m1 := KL.at 1
  simp at k0 k1 k2 k3 m0 m1
  have h1 : ¬ (n : Int) > (N : Int) := by omega
  go_enter Tryz.func58, Tryz.ntmps58
  go_wp2_with (first
    | (go_at_call 91; refine (LE _ pr).mono ?_; rintro e w1 ⟨rfl, b1⟩; (have p1 := Mo.bel' pr b1))
    | fail)
  have al1 := (Below.refl w1.heap.size w1).alloc (Nat.le_refl _) (.cells #[.int .i64 1] 3)
  have al2 := (Below.refl (w1.alloc (.cells #[.int .i64 1] 3)).heap.size (w1.alloc (.cells #[.int .i64 1] 3))).alloc (Nat.le_refl _) (.cells #[.int .i64 1] 3)
  have r1 : L.Rd (w1.alloc (.cells #[.int .i64 1] 3)) (.slice (some ⟨w1.heap.size, 0, none⟩) 1 1) [1] := L.rd_one (by simp) (by decide) (by decide)
  have r2 : L.Rd ((w1.alloc (.cells #[.int .i64 1] 3)).alloc (.cells #[.int .i64 1] 3)) (.slice (some ⟨w1.heap.size + 1, 0, none⟩) 1 1) [1] := L.rd_one (by simp) (by decide) (by decide)
  have bb := Mo.bel' (Mo.bel' b1 al1) al2
  have r1' := r1.grow al2
  have KT1 := KT.below bb KT.lt
  have KL1 := KL.below bb KL.lt
  have KR1 := KR.below bb KR.lt
  have p2 := Mo.bel' pr bb
  generalize w1.heap.size = G at *
  generalize (w1.alloc (.cells #[.int .i64 1] 3)).alloc (.cells #[.int .i64 1] 3) = W at *
  have HN : Hid (n ≤ N) := hn
  simp only [show decide (N < n) = false from decide_eq_false (by omega)]
  clear KT KL KR pr k0 k1 k2 k3 m0 m1 b1 p1 al1 al2 bb r1 LE h1 hn
  go_loopw [7, 8, 9, 10, 11] (fun u d i _ _ wr => ∃ (k : Nat) (xs zs : List Int), i = .int .i64 k ∧ k ≤ n ∧ (L.Rd wr u xs ∧ Tl.Nm xs ∧ Tl.val xs = al q k) ∧ (L.Rd wr d zs ∧ Tl.Nm zs ∧ Tl.val zs = ((10000000 ^ k : Nat) : Int)) ∧ Blk wr w.heap.size #[.string s, .int .i64 f, .slice ar rl cr, vs] 44 ∧ Blk wr (w.heap.size + 1) #[.int .i64 en, .int .i64 ys] 46 ∧ Blk wr (w.heap.size + 1 + 1) #[.bool false, .slice none 0 0, .slice none 0 0] 64 ∧ Below w.heap.size w wr) (fun _ _ i _ _ _ => n - (RowKit.intOf i).toNat)
  case atStart => exact ⟨0, [1], [1], rfl, Nat.zero_le _, ⟨r1', L.nm_one, rfl⟩, ⟨r2, L.nm_one, rfl⟩, KT1, KL1, KR1, p2⟩
  case round =>
    clear r1' r2 KT1 KL1 KR1 p2
    obtain ⟨k, xs, zs, rfl, hk, ⟨ru, nu, vu⟩, ⟨rd, nd, vd⟩, KT, KL, KR, p⟩ := hrel
    have hn := HN.out
    have lu : xs.length ≤ 120 := L.len_of_lt ru.1 nu (by rw [vu]; exact al_30 hq (by omega) hN)
    have ld : zs.length ≤ 120 := L.len_of_lt rd.1 nd (by rw [vd]; exact ten_30 (by omega))
    by_cases lt : k < n
    · have RK := fun x b => RI x k (by omega) b
      have q1 := hq k (by omega)
      obtain ⟨v, hv⟩ : ∃ v, q k = v := ⟨_, rfl⟩
      rw [hv] at q1
      have eu : al q k * (10000000 - v) = al q (k + 1) := by rw [← hv]; rfl
      have ed : ((10000000 ^ k : Nat) : Int) * 10000000 = ((10000000 ^ (k + 1) : Nat) : Int) := by rw [Nat.pow_succ, Int.natCast_mul]; rfl
      simp only [hv] at RK
      have y1 : IntKind.i64.wrap (10000000 - v) = 10000000 - v := Mo.wrapI _ (by omega) (by omega)
      have y9 : IntKind.i64.wrap ((k : Int) + 1) = ((k + 1 : Nat) : Int) := by rw [show (k : Int) + 1 = ((k + 1 : Nat) : Int) by omega]; exact Mo.wrapI _ (by omega) (by omega)
      have N1 := fun x => L.NatOf_any (10000000 - v) x (by omega) (by omega)
      have N2 := fun x => L.NatOf_any 10000000 x (by decide) (by decide)
      have HK : Hid (k + 1 ≤ n) := lt
      have HV : Hid (10000000 - v < 1073741824) := (show 10000000 - v < 1073741824 by omega)
      have lt' : (k : Int) < (n : Int) := by omega
      have t0 := KT.at 0
      have t1 := KT.at 1
      have t2 := KT.at 2
      have t3 := KT.at 3
      have m0 := KL.at 0
      have m1 := KL.at 1
      simp at t0 t1 t2 t3 m0 m1
      obtain ⟨ua, uc, rfl, _⟩ := ru.2
      obtain ⟨da, dc, rfl, _⟩ := rd.2
      clear hk hq hN hn RI q1 hv
      go_wp2_with (first
        | (go_at_call 73; (have z := d4); (with_reducible refine (L.Mul_any _ _ zs bs _ (rd.grow d4) rb (by omega) (le_big lb)).mono ?_); (rintro e w6 ⟨v6, ds, rfl, r6, n6, v6', b6⟩); (have d6 := Mo.bel' d4 b6))
        | (go_at_call 75; (have z := d3); (with_reducible refine (N2 _).mono ?_); (rintro e w5 ⟨v5, bs, rfl, rb, nb, vb, b5⟩); (have d4 := Mo.bel' d3 b5); (have lb := L.len_of_lt (K := 1) rb.1 nb (by rw [vb]; decide)))
        | (go_at_call 73; (have z := d2); (with_reducible refine (L.Mul_any _ _ xs us _ (ru.grow d2) ra (by omega) (le_big la)).mono ?_); (rintro e w4 ⟨v4, cs, rfl, r4, n4, v4', b4⟩); (have d3 := Mo.bel' d2 b4))
        | (go_at_call 75; (have z := d1); (with_reducible refine (N1 _).mono ?_); (rintro e w3 ⟨v3, us, rfl, ra, na, va, b3⟩); (have d2 := Mo.bel' d1 b3); (have la := L.len_of_lt (K := 1) ra.1 na (by rw [va]; exact HV.out)))
        | (go_at_call 56; (refine (RK _ p).mono ?_); (rintro e w2 ⟨rfl, d1⟩))
        | fail)
      go_roundw
      case rel => exact ⟨k + 1, cs, ds, by go_num, HK.out, ⟨r4.grow (Mo.bel' b5 b6), n4, by rw [v4', vu, va]; exact eu⟩, ⟨r6, n6, by rw [v6', vd, vb]; exact ed⟩, KT.below d6 KT.lt, KL.below d6 KL.lt, KR.below d6 KR.lt, Mo.bel' p d6⟩
      case measure => have := HK.out; simp [RowKit.intOf]; omega
    · obtain rfl : k = n := by omega
      have MK := fun x b => qf_of (L.Make_q false _ _ xs zs 120 x (ru.grow b) (rd.grow b) nu nd lu ld (by decide) (by rw [vd]; have := Nat.pow_pos (n := k) (show 0 < 10000000 by decide); omega))
      rw [vu, vd, Int.toNat_natCast] at MK
      clear lu ld hq hN hn RI
      go_wp2_with (first
        | (go_at_call 72; (refine (MK _ (Below.refl _ _)).mono ?_); (rintro e w2 ⟨g2, a2, l2, c2, a2', l2', c2', rfl, t2, b2⟩); (have R := Mo.Rb.ofB (KR.below b2 KR.lt)); (have q0 := R.c0); (have q1 := R.c1); (have q2 := R.c2); (have y0 := R.f0); (have y1 := R.f1); (have y2 := R.f2))
        | fail)
      obtain ⟨F0, F1, F2⟩ := R.put (.bool g2) (.slice a2 l2 c2) (.slice a2' l2' c2')
      exact bodyPost_ret (v := .agg #[.bool g2, .slice a2 l2 c2, .slice a2' l2' c2']) (by simp [results, Tryz.results58, go_sem, F0, F1, F2]) rfl ⟨g2, a2, l2, c2, a2', l2', c2', rfl, qput t2 R, Mo.bset3 (Mo.bel' p b2) (by omega)⟩
end Go.Proofs.YtiaeoknmgidehaaGreatDoor.Ta
