import Derived.Test.YtfalncbcomlelaaGreatDoorPart44
import Derived.Test.YtfalncbcomlelaaGreatDoorPart40
import Derived.Test.YtfalncbcomlelaaGreatDoorPart35
import Derived.Test.YtfalncbcomlelaaGreatDoorPart16

namespace Go.Proofs.YtfalncbcomlelaaGreatDoor.Mo
open Go.RowKit Fu Tn Go.Lib Wt

/-- The exponent's high bits. -/
def eb (n L k : Nat) : Nat := n / 2 ^ (L - k)
theorem eb_zero {n L : Nat} (h : n < 2 ^ L) : eb n L 0 = 0 := Nat.div_eq_of_lt h
theorem eb_full (n L : Nat) : eb n L L = n := by unfold eb; rw [Nat.sub_self, Nat.pow_zero, Nat.div_one]
theorem eb_half {n L k : Nat} (h : k < L) : eb n L k = eb n L (k + 1) / 2 := by
  unfold eb
  rw [Nat.div_div_eq_div_mul, ← Nat.pow_succ, show (L - (k + 1)).succ = L - k by omega]
theorem eb_le (n L k : Nat) : eb n L k ≤ n := Nat.div_le_self _ _
theorem pow_bd {A n e : Nat} {m : Nat} (hp : ((A ^ n : Nat) : Int) < pw m) (hm : 1 < pw m) (h : e ≤ n) : ((A ^ e : Nat) : Int) < pw m := by
  by_cases z : A = 0
  · subst z
    have : (0 : Nat) ^ e ≤ 1 := by
      cases e with
      | zero => simp
      | succ e => simp
    omega
  · have := Nat.pow_le_pow_right (show 1 ≤ A by omega) h
    omega
theorem bl_lt (n : Nat) (h : n < 9223372036854775808) : n < 2 ^ Lib.bitLen n ∧ Lib.bitLen n ≤ 64 := by
  by_cases z : n = 0
  · subst z; decide
  · have := bitLen_bd (n : Int) (by omega) (by omega)
    rw [Int.toNat_natCast] at this
    refine ⟨?_, this.2.1⟩
    have h := this.2.2.2
    have e : ((2 ^ Lib.bitLen n : Nat) : Int) = (2 : Int) ^ Lib.bitLen n := by simp
    omega
theorem and_one (a : Nat) (h : a < 9223372036854775808) : bits .and .i64 (a : Int) 1 = ((a % 2 : Nat) : Int) := by
  have a1 : (BitVec.ofInt 64 ((a : Nat) : Int)).toNat = a := by
    rw [BitVec.ofInt_natCast, BitVec.toNat_ofNat]; exact Nat.mod_eq_of_lt (by omega)
  have a2 : (BitVec.ofInt 64 1).toNat = 2 ^ 1 - 1 := by decide
  show IntKind.i64.wrap ((BitVec.ofInt 64 ((a : Nat) : Int) &&& BitVec.ofInt 64 1).toNat : Int) = _
  rw [BitVec.toNat_and, a1, a2, Nat.and_two_pow_sub_one_eq_mod]
  exact wrapI _ (by omega) (by omega)
set_option maxRecDepth 100000 in
set_option maxHeartbeats 1600000 in
theorem Pow_n (p : Option Addr) (l c A n : Nat) (w : World) (hA : Nn w p l c (A : Int)) (hn : n < 9223372036854775808) {K : Nat} (hK0 : 1 < pw K) (hK : K ≤ 400000) (hp : ((A ^ n : Nat) : Int) < pw K) :
    Calls Tryz.prog 54 #[.agg #[.slice p l c], .int .i64 n] w fun e w' => ∃ a l c, e = .returned (.agg #[.slice a l c]) ∧ Nn w' a l c ((A ^ n : Nat) : Int) ∧ Below w.heap.size w w' := by
  have OF := Of_any 1
  have BL := Tryz.bits_Len (n : Int)
  have x0 : IntKind.u64.wrap (n : Int) = n := wrapU _ (by omega) (by omega)
  have B0 := Bx.new w (.slice p l c) 56
  have B1 := B0.alloc (.cells #[.slice none 0 0] 56)
  have B2 := Bx.new (w.alloc (.cells #[.slice p l c] 56)) (.slice none 0 0) 56
  rw [show (w.alloc (.cells #[.slice p l c] 56)).heap.size = w.heap.size + 1 by simp] at B2
  have al := ((Below.refl w.heap.size w).alloc (Nat.le_refl _) (.cells #[.slice p l c] 56)).alloc (by simp) (.cells #[.slice none 0 0] 56)
  go_enter Tryz.func54, Tryz.ntmps54
  go_wp2_with (first
    | (go_at_call 59; go_must (refine (OF _ (by decide) (by decide)).mono ?_; rintro e w1 ⟨r, zs, rfl, q1, n1, v1, b1⟩; obtain ⟨a1, l1, c1, rfl⟩ := q1.shape))
    | (go_at_call 86; go_must (refine (BL _ (by omega) (by omega)).mono ?_; rintro e w2 ⟨rfl, rfl⟩))
    | fail)
  have al1 := (Below.refl w1.heap.size w1).alloc (Nat.le_refl _) (.cells #[.slice a1 l1 c1] 56)
  have b2 := bel' al b1
  have b3 := bel' b2 al1
  have P1 := (B1.below b1).below al1
  have P2 := (B2.below b1).below al1
  have P3 := Bx.new w1 (.slice a1 l1 c1) 56
  have hs : w.heap.size + 2 ≤ w1.heap.size := by have := b1.size; simp at this; omega
  obtain ⟨g, hg⟩ : ∃ g, w1.heap.size = g := ⟨_, rfl⟩
  obtain ⟨L, hL⟩ : ∃ L, Lib.bitLen n = L := ⟨_, rfl⟩
  have l0 := bl_lt n hn
  rw [hL] at l0
  have nP : Nn (w1.alloc (.cells #[.slice a1 l1 c1] 56)) a1 l1 c1 ((A ^ eb n L 0 : Nat) : Int) := Nn.grow ⟨zs, q1, n1, by rw [v1, eb_zero l0.1]; simp⟩ al1
  have nA := hA.grow b3
  rw [Int.toNat_natCast, hL] at BL
  rw [hg] at P3 hs ⊢
  rw [hL]
  generalize w1.alloc (.cells #[.slice a1 l1 c1] 56) = W at *
  clear OF q1 n1 v1 b1 b2 al al1 B0 B1 B2 hg hL
  go_loopw [11] (fun v wr => ∃ (k : Nat) (a : Option Addr) (l' c' : Nat), v = .int .i64 k ∧ k ≤ L ∧ Nn wr a l' c' ((A ^ eb n L k : Nat) : Int) ∧ Nn wr p l c (A : Int) ∧ Bx wr g (.slice a l' c') ∧ Bx wr w.heap.size (.slice p l c) ∧ Bx wr (w.heap.size + 1) (.slice none 0 0) ∧ Below w.heap.size w wr) (fun v _ => L - (RowKit.intOf v).toNat)
  case atStart => exact ⟨0, a1, l1, c1, rfl, Nat.zero_le _, nP, nA, P3, P1, P2, b3⟩
  case round =>
    clear nP nA P1 P2 P3 b3
    obtain ⟨k, a, l', c', rfl, hk, nP, nA, P3, P1, P2, b3⟩ := hrel
    by_cases lt : k < L
    · have k3 := P3.1
      have k1 := P1.1
      have f3 := P3.2
      have E1 : Hid (eb n L k = eb n L (k + 1) / 2) := eb_half lt
      obtain ⟨j, hj⟩ : ∃ j, L = j + 1 := ⟨L - 1, by omega⟩
      have x1 : IntKind.i64.wrap ((L : Int) - 1) = (j : Int) := by rw [show (L : Int) - 1 = (j : Int) by omega]; exact wrapI _ (by omega) (by omega)
      obtain ⟨m, hm⟩ : ∃ m, j = m + k := ⟨j - k, by omega⟩
      have x2 : IntKind.i64.wrap ((j : Int) - (k : Int)) = (m : Int) := by rw [show (j : Int) - (k : Int) = (m : Int) by omega]; exact wrapI _ (by omega) (by omega)
      have HJ : Hid (L = j + 1) := hj
      have HM : Hid (j = m + k) := hm
      clear hj hm
      have ha1 : bits .and .i64 ((n : Int) / 2 ^ min m 64) 1 = ((eb n L (k + 1) % 2 : Nat) : Int) := by
        rw [← and_one _ (Nat.lt_of_le_of_lt (eb_le n L (k + 1)) hn)]
        unfold eb
        rw [show L - (k + 1) = m by have := HM.out; have := HJ.out; omega, Nat.min_eq_left (by have := HM.out; have := HJ.out; omega)]
        simp
      have z1 : ((A ^ eb n L k : Nat) : Int) < pw K := pow_bd hp hK0 (eb_le n L k)
      have z2 : ((A ^ (2 * eb n L k) : Nat) : Int) < pw K := pow_bd hp hK0 (by have := E1.out; have := eb_le n L (k + 1); omega)
      obtain ⟨e, he⟩ : ∃ e, eb n L (k + 1) = e := ⟨_, rfl⟩
      obtain ⟨e0, he0⟩ : ∃ e, eb n L k = e := ⟨_, rfl⟩
      have HE : Hid (eb n L (k + 1) = e) := he
      rw [he, he0] at E1
      rw [he] at ha1
      rw [he0] at nP z1 z2
      have M1 := Mul_n nP nP z1 z1 (by unfold MulOK; omega)
      rw [show ((A ^ e0 : Nat) : Int) * ((A ^ e0 : Nat) : Int) = ((A ^ (2 * e0) : Nat) : Int) by rw [Nat.two_mul, Nat.pow_add, Int.natCast_mul]] at M1
      have BL2 := fun x => BL x (by omega) (by omega)
      have zA : 1 ≤ n → ((A : Nat) : Int) < pw K := fun h => by have := pow_bd (e := 1) hp hK0 h; rwa [Nat.pow_one] at this
      have HS : Hid (w.heap.size + 2 ≤ g) := hs
      clear BL hp hA he he0 hs
      by_cases q : e % 2 = 1
      · have en : 1 ≤ n := by have := eb_le n L (k + 1); rw [HE.out] at this; omega
        have zB := zA en
        have EN : Hid (e = 2 * e0 + 1) := by have := E1.out; show _ = _; omega
        rw [q] at ha1
        have MA := fun (x : World) (a : Option Addr) (l' c' : Nat) (h : Nn x a l' c' ((A ^ (2 * e0) : Nat) : Int)) (h2 : Nn x p l c (A : Int)) => Mul_n h h2 z2 zB (by unfold MulOK; omega)
        rw [show ((A ^ (2 * e0) : Nat) : Int) * (A : Int) = ((A ^ e : Nat) : Int) by rw [EN.out, Nat.pow_succ, Int.natCast_mul]] at MA
        have d1 : w.heap.size ≠ g := by have := HS.out; omega
        have d2 : w.heap.size + 1 ≠ g := by have := HS.out; omega
        have l64 := l0.2
        clear hn l0 zA z1 z2 zB q en
        go_wp2_with (first
          | (go_at_call 50; (with_reducible refine M1.mono ?_); rintro _ w2 ⟨ma, ml, mc, rfl, nM, b4⟩; (have K3 := P3.below b4); (have m1 := K3.1); (have m2 := K3.2))
          | (go_at_call 86; (with_reducible refine (BL2 _).mono ?_); rintro _ w3 ⟨rfl, rfl⟩; (have J3 := K3.set (.slice ma ml mc)); (have J1 := bxskip (P1.below b4) d1 (.slice ma ml mc)); (have j1 := J3.1); (have j2 := J1.1))
          | fail)
        clear M1 BL2
        have J2 := bxskip (P2.below b4) d2 (.slice ma ml mc)
        have NM := nM.box (u := .slice ma ml mc) K3
        have NA := (nA.grow b4).box (u := .slice ma ml mc) K3
        have b5 := below_put (bel' b3 b4) (show w.heap.size ≤ g by have := HS.out; omega) (.slice ma ml mc)
        have f2 := J3.2
        generalize w2.setCell ⟨g, 0, none⟩ (.slice ma ml mc) = V at *
        refine (MA V ma ml mc NM NA).mono ?_
        rintro _ w3 ⟨pa, pl, pc, rfl, nQ, b6⟩
        have I3 := J3.below b6
        have i1 := I3.1
        have i2 := I3.2
        have I1 := bxskip (J1.below b6) d1 (.slice pa pl pc)
        have I2 := bxskip (J2.below b6) d2 (.slice pa pl pc)
        have NQ := nQ.box (u := .slice pa pl pc) I3
        have NB := (NA.grow b6).box (u := .slice pa pl pc) I3
        have b7 := below_put (bel' b5 b6) (show w.heap.size ≤ g by have := HS.out; omega) (.slice pa pl pc)
        have I4 := I3.set (.slice pa pl pc)
        clear MA ha1 x1 x2
        have lk : k < 64 := by have := HM.out; have := HJ.out; omega
        go_wp2_with fail
        go_roundw
        case rel => exact ⟨k + 1, pa, pl, pc, by go_num, by omega, by rw [HE.out]; exact NQ, NB, I4, I1, I2, b7⟩
        case measure => simp [RowKit.intOf]; omega
      · have EN : Hid (e = 2 * e0) := by have := E1.out; show _ = _; omega
        rw [show e % 2 = 0 by omega] at ha1
        have d1 : w.heap.size ≠ g := by have := HS.out; omega
        have d2 : w.heap.size + 1 ≠ g := by have := HS.out; omega
        have lk : k < 64 := by have := HM.out; have := HJ.out; omega
        clear hn l0 zA z1 z2 q
        go_wp2_with (first
          | (go_at_call 50; (with_reducible refine M1.mono ?_); rintro _ w2 ⟨ma, ml, mc, rfl, nM, b4⟩; (have K3 := P3.below b4); (have m1 := K3.1); (have m2 := K3.2))
          | (go_at_call 86; (with_reducible refine (BL2 _).mono ?_); rintro _ w3 ⟨rfl, rfl⟩)
          | fail)
        go_roundw
        case rel =>
          exact ⟨k + 1, ma, ml, mc, by go_num, by omega, by rw [HE.out, EN.out]; exact nM.box K3, (nA.grow b4).box K3, K3.set _, bxskip (P1.below b4) d1 _, bxskip (P2.below b4) d2 _, below_put (bel' b3 b4) (show w.heap.size ≤ g by have := HS.out; omega) _⟩
        case measure => simp [RowKit.intOf]; omega
    · obtain rfl : k = L := by omega
      rw [eb_full] at nP
      have nE := nP.box (u := .slice a l' c') P2
      have bE := below_put b3 (show w.heap.size ≤ w.heap.size + 1 by omega) (.slice a l' c')
      clear hp x0 BL
      have c1 := P2.1
      have c2 := P3.1
      have c3 := P2.2
      go_wp2
      have v1 := (P2.set (.slice a l' c')).1
      exact bodyPost_ret (v := .agg #[.slice a l' c']) (by simp [results, Tryz.results54, go_sem, v1]) rfl ⟨a, l', c', rfl, nE, bE⟩
end Go.Proofs.YtfalncbcomlelaaGreatDoor.Mo

namespace Go.Proofs.YtfalncbcomlelaaGreatDoor.Mo
open Go.RowKit Fu Tn Go.Lib Dc

theorem Rb.ofB {x : World} {n : Nat} {a b c : Value} {t : TypeId} (K : Blk x n #[a, b, c] t) : Rb x n a b c := ⟨by have := K.at 0; simpa using this, by have := K.at 1; simpa using this, by have := K.at 2; simpa using this, K.free 0, K.free 1, K.free 2, t, K⟩
theorem Rb.sets {W : World} {n : Nat} {a b c : Value} (h : Rb W n a b c) (x y z : Value) : Rb (((W.setCell ⟨n, 0, none⟩ x).setCell ⟨n, 1, none⟩ y).setCell ⟨n, 2, none⟩ z) n x y z := by
  obtain ⟨t, K⟩ := h.bk
  have := bput (bput (bput K 0 x) 1 y) 2 z
  exact Rb.ofB (t := t) (by simpa using this)
end Go.Proofs.YtfalncbcomlelaaGreatDoor.Mo

namespace Go.Proofs.YtfalncbcomlelaaGreatDoor.Mo
open Go.RowKit Tn Ip

theorem elemI : Tryz.prog.elem 43 = 3 := by kernel_rfl
theorem slice_hi (g o len cap : Nat) (h : Int) (n : Nat) (eh : h = n) (h2 : n ≤ cap) (w : World) :
    (Instr.slice 43 (.slice (some ⟨g, o, none⟩) len cap) none (some (.int .i64 h)) none).run Tryz.prog w = .ok (.slice (some ⟨g, o, none⟩) n cap) w := by
  subst eh
  rw [run_slice_h w 43 _ len cap (by rw [elemI]; exact Tryz.underlying43) .i64 _ (by omega) (by omega), elemI]
  simp [Tryz.sizeOf3, Result.andThen, sliced, Addr.add]
set_option maxRecDepth 100000 in
theorem unit_n (w : World) : Calls Tryz.prog 51 #[] w fun e w' => ∃ a l c, e = .returned (.agg #[.slice a l c]) ∧ Nn w' a l c 10000000 ∧ Below w.heap.size w w' := by
  have O := fun x => Of_n 10000000 x (by decide) (by decide)
  have K0 := Bx.new w (.slice none 0 0) 56
  have pr : Below w.heap.size w (w.alloc (.cells #[.slice none 0 0] 56)) := (Below.refl _ _).alloc (Nat.le_refl _) _
  go_enter Tryz.func51, Tryz.ntmps51
  go_wp2_with (first
    | (go_at_call 59; refine (O _).mono ?_; rintro e w1 ⟨a1, l1, c1, rfl, n1, b1⟩; have K1 := K0.below b1; have z0 := K1.1; have z1 := K1.2)
    | fail)
  have v1 := (K1.set (.slice a1 l1 c1)).1
  exact bodyPost_ret (v := .agg #[.slice a1 l1 c1]) (by simp [results, Tryz.results51, go_sem, v1]) rfl ⟨a1, l1, c1, rfl, n1.box K1, below_put (bel' pr b1) (Nat.le_refl _) _⟩
/-- The chance to live k years. -/
def sv (q : Nat → Int) (k : Nat) : Rat := mkRat (al q k) (10000000 ^ k)
end Go.Proofs.YtfalncbcomlelaaGreatDoor.Mo

namespace Go.Proofs.YtfalncbcomlelaaGreatDoor.Ta
open Go.RowKit Go.Proofs.YtfalncbcomlelaaGreatDoor.Mo Ip

/-- Of Unit to the k: the sum of those who live so many years, from the year behind f on. -/
def es (q : Nat → Int) (f : Nat) : Nat → Int
  | 0 => 0
  | k + 1 => es q f k * 10000000 + (if f < k + 1 then al q (k + 1) else 0)
/-- The same as a rational number. -/
def er (q : Nat → Int) (f k : Nat) : Rat := mkRat (es q f k) (10000000 ^ k)
theorem es_0 {q : Nat → Int} {f : Nat} : ∀ {k : Nat}, k ≤ f → es q f k = 0
  | 0, _ => rfl
  | k + 1, h => by
    show es q f k * 10000000 + (if f < k + 1 then al q (k + 1) else 0) = 0
    rw [es_0 (by omega), if_neg (by omega)]
    rfl
theorem er_0 {q : Nat → Int} {f k : Nat} (h : k ≤ f) : er q f k = ((0 : Int) : Rat) := by
  unfold er
  rw [es_0 h]
  simp
theorem er_succ {q : Nat → Int} {f k : Nat} (h : f ≤ k) : er q f (k + 1) = er q f k + sv q (k + 1) := by
  have d : (10000000 : Nat) ^ k ≠ 0 := by have := Nat.pow_pos (n := k) (show 0 < 10000000 by decide); omega
  have d2 : (10000000 : Nat) ^ (k + 1) ≠ 0 := by have := Nat.pow_pos (n := k + 1) (show 0 < 10000000 by decide); omega
  show mkRat (es q f k * 10000000 + (if f < k + 1 then al q (k + 1) else 0)) _ = mkRat (es q f k) _ + mkRat (al q (k + 1)) _
  rw [if_pos (by omega), Rat.mkRat_add_mkRat _ _ d d2, Rat.mkRat_eq_iff d2 (Nat.mul_ne_zero d d2), Nat.pow_succ]
  generalize al q (k + 1) = A
  generalize es q f k = E
  generalize (10000000 : Nat) ^ k = D
  simp only [Int.natCast_mul]
  grind
theorem es_bd {q : Nat → Int} {L f : Nat} (hq : ∀ k, k < L → 0 ≤ q k ∧ q k ≤ 10000000) : ∀ k, k ≤ L → 0 ≤ es q f k ∧ es q f k ≤ (k : Int) * ((2 ^ (24 * k) : Nat) : Int)
  | 0, _ => by simp [es]
  | k + 1, h => by
    obtain ⟨a, b⟩ := es_bd (f := f) hq k (by omega)
    obtain ⟨c, d⟩ := al_bd hq (k + 1) h
    have e : 2 ^ (24 * (k + 1)) = 2 ^ (24 * k) * 16777216 := by rw [Nat.mul_succ, Nat.pow_add]
    rw [e] at d ⊢
    have z : (0 : Int) ≤ ((2 ^ (24 * k) : Nat) : Int) := Int.natCast_nonneg _
    rw [Int.natCast_mul] at d ⊢
    show 0 ≤ es q f k * 10000000 + (if f < k + 1 then al q (k + 1) else 0) ∧ es q f k * 10000000 + (if f < k + 1 then al q (k + 1) else 0) ≤ _
    generalize ((2 ^ (24 * k) : Nat) : Int) = Z at *
    generalize es q f k = E at *
    have n1 : (k : Int) * (Z * 16777216) = (k : Int) * Z * 16777216 := by rw [Int.mul_assoc]
    have n2 : ((k + 1 : Nat) : Int) * (Z * ((16777216 : Nat) : Int)) = (k : Int) * Z * 16777216 + Z * 16777216 := by
      rw [show ((k + 1 : Nat) : Int) = (k : Int) + 1 by omega, Int.add_mul, ← Int.mul_assoc]; simp
    rw [n2]
    generalize (k : Int) * Z = Y at *
    split <;> omega
theorem es_lt {q : Nat → Int} {L f B : Nat} (hq : ∀ k, k < L → 0 ≤ q k ∧ q k ≤ 10000000) (hL : L ≤ 131) {k : Nat} (h : k ≤ L) (hB : 3160 ≤ B) : (es q f k).natAbs < 2 ^ B := by
  obtain ⟨a, b⟩ := es_bd (f := f) hq k h
  have p := Nat.pow_le_pow_right (show 0 < 2 by decide) (show 24 * k + 8 ≤ B by omega)
  rw [Nat.pow_add] at p
  have p2 := Nat.pow_pos (n := 24 * k) (show 0 < 2 by decide)
  have m : (k : Int) * ((2 ^ (24 * k) : Nat) : Int) ≤ 131 * ((2 ^ (24 * k) : Nat) : Int) := Int.mul_le_mul_of_nonneg_right (by omega) (Int.natCast_nonneg _)
  generalize (2 : Nat) ^ (24 * k) = Y at *
  generalize (2 : Nat) ^ B = X at *
  generalize (k : Int) * (Y : Int) = V at *
  omega
theorem er_bd' {q : Nat → Int} {L f B : Nat} (hq : ∀ k, k < L → 0 ≤ q k ∧ q k ≤ 10000000) (hL : L ≤ 131) {k : Nat} (h : k ≤ L) (hB : 3160 ≤ B) : Bd (er q f k) B := by
  have d := lt_pow2 (a := 10000000) (m := 24) (by decide) k
  have p2 := Nat.pow_le_pow_right (show 0 < 2 by decide) (show 24 * k + 1 ≤ B by omega)
  exact Bd.mk (es_lt hq hL h hB) (Nat.lt_of_lt_of_le d p2) (by have := Nat.pow_pos (n := k) (show 0 < 10000000 by decide); omega)
theorem er_bd {q : Nat → Int} {L f : Nat} (hq : ∀ k, k < L → 0 ≤ q k ∧ q k ≤ 10000000) (hL : L ≤ 131) {k : Nat} (h : k ≤ L) : Bd (er q f k) 3200 := er_bd' hq hL h (by decide)
theorem es_pw' {q : Nat → Int} {L f B K : Nat} (hq : ∀ k, k < L → 0 ≤ q k ∧ q k ≤ 10000000) (hL : L ≤ 131) {k : Nat} (h : k ≤ L) (hB : 3160 ≤ B) (hK : B ≤ 64 * K) : es q f k < Tn.pw K := by
  obtain ⟨a, _⟩ := es_bd (f := f) hq k h
  have := lt_64 (K := K) (es_lt (f := f) hq hL h hB) hK
  omega
theorem es_pw {q : Nat → Int} {L f : Nat} (hq : ∀ k, k < L → 0 ≤ q k ∧ q k ≤ 10000000) (hL : L ≤ 131) {k : Nat} (h : k ≤ L) : es q f k < Tn.pw 60 := es_pw' (B := 3200) hq hL h (by decide) (by decide)
end Go.Proofs.YtfalncbcomlelaaGreatDoor.Ta

namespace Go.Proofs.YtfalncbcomlelaaGreatDoor.Ta
open Go.RowKit Go.Proofs.YtfalncbcomlelaaGreatDoor.Mo

theorem tYears_any (k : Int) (w : World) : Calls Tryz.prog 48 #[.int .i64 k] w fun e w' => e = .returned (.bool (decide (0 ≤ k) && decide (k ≤ 130))) ∧ w' = w := by
  by_cases h1 : 0 ≤ k <;> by_cases h2 : k ≤ 130
  all_goals
    go_enter Tryz.func48, Tryz.ntmps48
    go_wp2
    go_ret
    exact ⟨by simp [h1, h2], rfl⟩
theorem Rc.grow {x x' : World} {g n k : Nat} {q : Nat → Int} (h : Rc x g n k q) (b : Below x.heap.size x x') : Rc x' g n k q := by
  obtain ⟨cs, K, e, f⟩ := h
  exact ⟨cs, K.below b K.lt, e, f⟩
end Go.Proofs.YtfalncbcomlelaaGreatDoor.Ta
