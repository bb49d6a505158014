import Derived.Test.YtiaeoknmgidehaaGreatDoorPart32
import Derived.Test.YtiaeoknmgidehaaGreatDoorPart40
import Derived.Test.YtiaeoknmgidehaaGreatDoorPart37

namespace Go.Proofs.YtiaeoknmgidehaaGreatDoor.Mo
open Go.RowKit Fu Tn Go.Lib Wt

theorem two_le {N n : Nat} (h : n < nb N) : 2 ^ n ≤ N := by
  rcases (nb_spec N).2 with s | s
  · omega
  · exact Nat.le_trans (Nat.pow_le_pow_right (by decide) (by omega)) s
theorem no_less {N k m n : Nat} (h1 : 2 ^ n ≤ N) (h3 : 10 ^ m ≤ 2 ^ n) (h2 : N < 10 ^ k) : m < k := by
  by_cases c : m < k
  · exact c
  · exact absurd (Nat.lt_of_lt_of_le h2 (Nat.le_trans (Nat.pow_le_pow_right (by decide) (by omega)) (Nat.le_trans h3 h1))) (Nat.lt_irrefl _)
theorem ten_two : (10 : Nat) ^ 4096 ≤ 2 ^ 13654 := by decide +kernel
/-- A number that has so many bits has too many digits. -/
theorem long_bits {N : Nat} (h : 13654 < nb N) : 4096 < (decDigits N).length := by
  have h1 := two_le h
  have h2 : N < 10 ^ (decDigits N).length := by
    have := Dc.num_lt (decDigits N) (dec_dg N)
    rwa [dec_num] at this
  exact no_less h1 ten_two h2
theorem Text_any (a : Option Addr) (l c V : Nat) (w : World) (h : Nn w a l c (V : Int)) (hb : nb V ≤ 16000) (G : Gw w) :
    Calls Tryz.prog 94 #[.agg #[.slice a l c]] w fun e w' => e = .returned (.string ⟨(decDigits V).toArray⟩) ∧ Below w.heap.size w w' := by
  by_cases q : V < 18446744073709551616
  · exact Text_one a l c V w h q G
  · exact Text_many a l c V w h hb (by omega)
/-- What is written of a fraction, and its error. -/
def wA (g : Bool) (N D : Nat) : (ByteArray × ByteArray) × Int := if (decDigits N).length ≤ 4096 ∧ (decDigits D).length ≤ 4096 then ((sB (sg g (decDigits N)), sB (decDigits D)), 0) else ((⟨#[]⟩, ⟨#[]⟩), 3)
theorem Write_any (g : Bool) (a a' : Option Addr) (l c l' c' N D : Nat) (w : World) (h1 : Nn w a l c (N : Int)) (h2 : Nn w a' l' c' (D : Int)) (b1 : (N : Int) < pw 1000000) (b2 : (D : Int) < pw 1000000) (G : Gw w) :
    Calls Tryz.prog 62 #[.bool g, .agg #[.slice a l c], .agg #[.slice a' l' c']] w fun e w' => e = .returned (.tuple #[.agg #[.string (wA g N D).1.1, .string (wA g N D).1.2], .int .i64 (wA g N D).2]) ∧ Below w.heap.size w w' := by
  have B1 : ∀ x, Below w.heap.size w x → Calls Tryz.prog 93 #[.agg #[.slice a l c]] x fun e w' => e = .returned (.int .i64 (nb N)) ∧ Below x.heap.size x w' := fun x b => BitLen_n (h1.grow b) b1 (Nat.le_refl _)
  have B2 : ∀ x, Below w.heap.size w x → Calls Tryz.prog 93 #[.agg #[.slice a' l' c']] x fun e w' => e = .returned (.int .i64 (nb D)) ∧ Below x.heap.size x w' := fun x b => BitLen_n (h2.grow b) b2 (Nat.le_refl _)
  have LO : ∀ (P : Prop), ¬ ((decDigits N).length ≤ 4096 ∧ (decDigits D).length ≤ 4096) → (wA g N D = ((⟨#[]⟩, ⟨#[]⟩), 3) → P) → P := fun P h q => q (by unfold wA; rw [if_neg h])
  by_cases q1 : 13654 < nb N
  · refine LO _ (fun h => by have := long_bits q1; omega) (fun e => ?_)
    rw [e]
    exact Write_big1 g a a' l c l' c' _ w (by omega) B1
  · by_cases q2 : 13654 < nb D
    · refine LO _ (fun h => by have := long_bits q2; omega) (fun e => ?_)
      rw [e]
      exact Write_big2 g a a' l c l' c' _ _ w (by omega) (by omega) B1 B2
    · have T1 := fun x (b : Below w.heap.size w x) => Text_any a l c N x (h1.grow b) (by omega) (G.grow b)
      have T2 := fun x (b : Below w.heap.size w x) => Text_any a' l' c' D x (h2.grow b) (by omega) (G.grow b)
      have z1 : ByteArray.size ⟨(decDigits N).toArray⟩ = (decDigits N).length := sB_size _
      have z2 : ByteArray.size ⟨(decDigits D).toArray⟩ = (decDigits D).length := sB_size _
      by_cases q3 : 4096 < (decDigits N).length
      · refine LO _ (fun h => by omega) (fun e => ?_)
        rw [e]
        exact Write_many1 g a a' l c l' c' _ _ _ _ w (by omega) (by omega) (by rw [z1]; exact q3) T1 T2 B1 B2
      · by_cases q4 : 4096 < (decDigits D).length
        · refine LO _ (fun h => by omega) (fun e => ?_)
          rw [e]
          exact Write_many2 g a a' l c l' c' _ _ _ _ w (by omega) (by omega) (by rw [z1]; omega) (by rw [z2]; exact q4) T1 T2 B1 B2
        · have e : wA g N D = ((sB (sg g (decDigits N)), sB (decDigits D)), 0) := by unfold wA; rw [if_pos ⟨by omega, by omega⟩]
          rw [e]
          exact Write_walk g a a' l c l' c' _ _ _ _ _ w (by omega) (by omega) (by show ByteArray.size ⟨(decDigits N).toArray⟩ ≤ 4096; rw [z1]; omega) (by show ByteArray.size ⟨(decDigits D).toArray⟩ ≤ 4096; rw [z2]; omega) T1 T2 B1 B2 (fun y => WSign_any _ _ y (by omega))
set_option maxRecDepth 100000 in
set_option maxHeartbeats 800000 in
theorem Ratio_walk (g : Bool) (a a' : Option Addr) (l c l' c' : Nat) (s t : ByteArray) (er : Int) (w : World)
    (WR : ∀ x, Below w.heap.size w x → Calls Tryz.prog 62 #[.bool g, .agg #[.slice a l c], .agg #[.slice a' l' c']] x fun e w' => e = .returned (.tuple #[.agg #[.string s, .string t], .int .i64 er]) ∧ Below x.heap.size x w') :
    Calls Tryz.prog 30 #[.agg #[.bool g, .slice a l c, .slice a' l' c']] w fun e w' => e = .returned (.tuple #[.agg #[.string s, .string t], .int .i64 er]) ∧ Below w.heap.size w w' := by
  have K0 := (Rb.new w (.bool g) (.slice a l c) (.slice a' l' c') 59).alloc (.cells #[.string ⟨#[]⟩, .string ⟨#[]⟩] 26)
  have KR := Blk.new (w.alloc (.cells #[.bool g, .slice a l c, .slice a' l' c'] 59)) #[.string ⟨#[]⟩, .string ⟨#[]⟩] 26
  simp only [World.size_alloc] at KR
  have pr : Below w.heap.size w ((w.alloc (.cells #[.bool g, .slice a l c, .slice a' l' c'] 59)).alloc (.cells #[.string ⟨#[]⟩, .string ⟨#[]⟩] 26)) := ((Below.refl _ _).alloc (Nat.le_refl _) _).alloc (by simp) _
  have c0 := K0.c0
  have c1 := K0.c1
  have c2 := K0.c2
  go_enter Tryz.func30, Tryz.ntmps30
  go_wp2_with (first
    | (go_at_call 62; refine (WR _ pr).mono ?_; rintro e w1 ⟨rfl, b1⟩; have p1 := bel' pr b1; have KR1 := KR.below b1 KR.lt; have kr0 := KR1.at 0; have kr1 := KR1.at 1; have kf0 := KR1.free 0; have kf1 := KR1.free 1; simp at kr0 kr1)
    | fail)
  have KE := bput (bput KR1 0 (.string s)) 1 (.string t)
  have bE := (p1.setCell (p := ⟨w.heap.size + 1, 0, none⟩) (show w.heap.size ≤ w.heap.size + 1 by omega) (.string s)).setCell (p := ⟨w.heap.size + 1, 1, none⟩) (show w.heap.size ≤ w.heap.size + 1 by omega) (.string t)
  generalize (w1.setCell ⟨w.heap.size + 1, 0, none⟩ (.string s)).setCell ⟨w.heap.size + 1, 1, none⟩ (.string t) = WE at *
  have z0 := KE.at 0
  have z1 := KE.at 1
  simp at z0 z1
  exact bodyPost_ret (v := .tuple #[.agg #[.string s, .string t], .int .i64 er]) (by simp [results, Tryz.results30, go_sem, z0, z1]) rfl ⟨rfl, bE⟩
/-- What is told of an exact number: as it is written, or that it is too long. -/
def wrA (r : Rat) : Value × Int := (.agg #[.string (wA (decide (r.num < 0)) r.num.natAbs r.den).1.1, .string (wA (decide (r.num < 0)) r.num.natAbs r.den).1.2], (wA (decide (r.num < 0)) r.num.natAbs r.den).2)
theorem wrA_short {r : Rat} (h1 : (decDigits r.num.natAbs).length ≤ 4096) (h2 : (decDigits r.den).length ≤ 4096) : wrA r = (wrt r, 0) := by
  unfold wrA wA wrt
  rw [if_pos ⟨h1, h2⟩]
theorem wrA_long {r : Rat} (h : ¬ ((decDigits r.num.natAbs).length ≤ 4096 ∧ (decDigits r.den).length ≤ 4096)) : wrA r = (.agg #[.string ⟨#[]⟩, .string ⟨#[]⟩], 3) := by
  unfold wrA wA
  rw [if_neg h]
/-- Ratio of any fraction of at most a million words. -/
theorem Ratio_any (v : Value) (r : Rat) (w : World) (h : PF w v r) (hs : PS r 1000000) (G : Gw w) :
    Calls Tryz.prog 30 #[v] w fun e w' => e = .returned (.tuple #[(wrA r).1, .int .i64 (wrA r).2]) ∧ Below w.heap.size w w' := by
  obtain ⟨a, l, c, a', l', c', rfl, k1, k2⟩ := h
  exact Ratio_walk _ a a' l c l' c' _ _ _ w (fun x b => Write_any _ a a' l c l' c' _ _ x (k1.grow b) (k2.grow b) hs.1 hs.2 (G.grow b))
end Go.Proofs.YtiaeoknmgidehaaGreatDoor.Mo

namespace Go.Proofs.YtiaeoknmgidehaaGreatDoor.Mo
open Go.RowKit Fu Tn Go.Lib Wt

/-- The exponent's high bits. -/
def eb (n L k : Nat) : Nat := n / 2 ^ (L - k)
theorem eb_zero {n L : Nat} (h : n < 2 ^ L) : eb n L 0 = 0 := Nat.div_eq_of_lt h
theorem eb_full (n L : Nat) : eb n L L = n := by unfold eb; rw [Nat.sub_self, Nat.pow_zero, Nat.div_one]
theorem eb_half {n L k : Nat} (h : k < L) : eb n L k = eb n L (k + 1) / 2 := by
  unfold eb
  rw [Nat.div_div_eq_div_mul, ← Nat.pow_succ, show (L - (k + 1)).succ = L - k by omega]
theorem eb_le (n L k : Nat) : eb n L k ≤ n := Nat.div_le_self _ _
theorem pow_bd {A n e : Nat} {m : Nat} (hp : ((A ^ n : Nat) : Int) < pw m) (hm : 1 < pw m) (h : e ≤ n) : ((A ^ e : Nat) : Int) < pw m := by
  by_cases z : A = 0
  · subst z
    have : (0 : Nat) ^ e ≤ 1 := by
      cases e with
      | zero => simp
      | succ e => simp
    omega
  · have := Nat.pow_le_pow_right (show 1 ≤ A by omega) h
    omega
theorem bl_lt (n : Nat) (h : n < 9223372036854775808) : n < 2 ^ Lib.bitLen n ∧ Lib.bitLen n ≤ 64 := by
  by_cases z : n = 0
  · subst z; decide
  · have := bitLen_bd (n : Int) (by omega) (by omega)
    rw [Int.toNat_natCast] at this
    refine ⟨?_, this.2.1⟩
    have h := this.2.2.2
    have e : ((2 ^ Lib.bitLen n : Nat) : Int) = (2 : Int) ^ Lib.bitLen n := by simp
    omega
theorem and_one (a : Nat) (h : a < 9223372036854775808) : bits .and .i64 (a : Int) 1 = ((a % 2 : Nat) : Int) := by
  have a1 : (BitVec.ofInt 64 ((a : Nat) : Int)).toNat = a := by
    rw [BitVec.ofInt_natCast, BitVec.toNat_ofNat]; exact Nat.mod_eq_of_lt (by omega)
  have a2 : (BitVec.ofInt 64 1).toNat = 2 ^ 1 - 1 := by decide
  show IntKind.i64.wrap ((BitVec.ofInt 64 ((a : Nat) : Int) &&& BitVec.ofInt 64 1).toNat : Int) = _
  rw [BitVec.toNat_and, a1, a2, Nat.and_two_pow_sub_one_eq_mod]
  exact wrapI _ (by omega) (by omega)
theorem shr_i64 (n m : Nat) (h : m < 64) : Op.shift .shr .i64 (n : Int) .i64 (m : Int) = pure (.int .i64 ((n / 2 ^ m : Nat) : Int)) := by
  rw [shift_shr_any _ _ _ _ (by omega), Int.toNat_natCast, show min m IntKind.i64.bits = m from Nat.min_eq_left (by show m ≤ 64; omega)]
  simp
set_option maxRecDepth 100000 in
set_option maxHeartbeats 1600000 in
theorem Pow_n (p : Option Addr) (l c A n : Nat) (w : World) (hA : Nn w p l c (A : Int)) (hn : n < 9223372036854775808) {K : Nat} (hK0 : 1 < pw K) (hK : K ≤ 400000) (hp : ((A ^ n : Nat) : Int) < pw K) :
    Calls Tryz.prog 61 #[.agg #[.slice p l c], .int .i64 n] w fun e w' => ∃ a l c, e = .returned (.agg #[.slice a l c]) ∧ Nn w' a l c ((A ^ n : Nat) : Int) ∧ Below w.heap.size w w' := by
  have OF := Of_any 1
  have BL := Tryz.bits_Len (n : Int)
  have x0 : IntKind.u64.wrap (n : Int) = n := wrapU _ (by omega) (by omega)
  have B0 := Bx.new w (.slice p l c) 57
  have B1 := B0.alloc (.cells #[.slice none 0 0] 57)
  have B2 := Bx.new (w.alloc (.cells #[.slice p l c] 57)) (.slice none 0 0) 57
  rw [show (w.alloc (.cells #[.slice p l c] 57)).heap.size = w.heap.size + 1 by simp] at B2
  have al := ((Below.refl w.heap.size w).alloc (Nat.le_refl _) (.cells #[.slice p l c] 57)).alloc (by simp) (.cells #[.slice none 0 0] 57)
  go_enter Tryz.func61, Tryz.ntmps61
  go_wp2_with (first
    | (go_at_call 71; go_must (refine (OF _ (by decide) (by decide)).mono ?_; rintro e w1 ⟨r, zs, rfl, q1, n1, v1, b1⟩; obtain ⟨a1, l1, c1, rfl⟩ := q1.shape))
    | (go_at_call 92; go_must (refine (BL _ (by omega) (by omega)).mono ?_; rintro e w2 ⟨rfl, rfl⟩))
    | fail)
  have al1 := (Below.refl w1.heap.size w1).alloc (Nat.le_refl _) (.cells #[.slice a1 l1 c1] 57)
  have b2 := bel' al b1
  have b3 := bel' b2 al1
  have P1 := (B1.below b1).below al1
  have P2 := (B2.below b1).below al1
  have P3 := Bx.new w1 (.slice a1 l1 c1) 57
  have hs : w.heap.size + 2 ≤ w1.heap.size := by have := b1.size; simp at this; omega
  obtain ⟨g, hg⟩ : ∃ g, w1.heap.size = g := ⟨_, rfl⟩
  obtain ⟨L, hL⟩ : ∃ L, Lib.bitLen n = L := ⟨_, rfl⟩
  have l0 := bl_lt n hn
  rw [hL] at l0
  have nP : Nn (w1.alloc (.cells #[.slice a1 l1 c1] 57)) a1 l1 c1 ((A ^ eb n L 0 : Nat) : Int) := Nn.grow ⟨zs, q1, n1, by rw [v1, eb_zero l0.1]; simp⟩ al1
  have nA := hA.grow b3
  rw [Int.toNat_natCast, hL] at BL
  rw [hg] at P3 hs ⊢
  rw [hL]
  generalize w1.alloc (.cells #[.slice a1 l1 c1] 57) = W at *
  clear OF q1 n1 v1 b1 b2 al al1 B0 B1 B2 hg hL
  go_loopw [11] (fun v wr => ∃ (k : Nat) (a : Option Addr) (l' c' : Nat), v = .int .i64 k ∧ k ≤ L ∧ Nn wr a l' c' ((A ^ eb n L k : Nat) : Int) ∧ Nn wr p l c (A : Int) ∧ Bx wr g (.slice a l' c') ∧ Bx wr w.heap.size (.slice p l c) ∧ Bx wr (w.heap.size + 1) (.slice none 0 0) ∧ Below w.heap.size w wr) (fun v _ => L - (RowKit.intOf v).toNat)
  case atStart => exact ⟨0, a1, l1, c1, rfl, Nat.zero_le _, nP, nA, P3, P1, P2, b3⟩
  case round =>
    clear nP nA P1 P2 P3 b3
    obtain ⟨k, a, l', c', rfl, hk, nP, nA, P3, P1, P2, b3⟩ := hrel
    by_cases lt : k < L
    · have k3 := P3.1
      have k1 := P1.1
      have f3 := P3.2
      have E1 : Hid (eb n L k = eb n L (k + 1) / 2) := eb_half lt
      obtain ⟨j, hj⟩ : ∃ j, L = j + 1 := ⟨L - 1, by omega⟩
      have x1 : IntKind.i64.wrap ((L : Int) - 1) = (j : Int) := by rw [show (L : Int) - 1 = (j : Int) by omega]; exact wrapI _ (by omega) (by omega)
      obtain ⟨m, hm⟩ : ∃ m, j = m + k := ⟨j - k, by omega⟩
      have x2 : IntKind.i64.wrap ((j : Int) - (k : Int)) = (m : Int) := by rw [show (j : Int) - (k : Int) = (m : Int) by omega]; exact wrapI _ (by omega) (by omega)
      have HJ : Hid (L = j + 1) := hj
      have HM : Hid (j = m + k) := hm
      clear hj hm
      have ha1 : bits .and .i64 ((n : Int) / 2 ^ min m 64) 1 = ((eb n L (k + 1) % 2 : Nat) : Int) := by
        rw [← and_one _ (Nat.lt_of_le_of_lt (eb_le n L (k + 1)) hn)]
        unfold eb
        rw [show L - (k + 1) = m by have := HM.out; have := HJ.out; omega, Nat.min_eq_left (by have := HM.out; have := HJ.out; omega)]
        simp
      have z1 : ((A ^ eb n L k : Nat) : Int) < pw K := pow_bd hp hK0 (eb_le n L k)
      have z2 : ((A ^ (2 * eb n L k) : Nat) : Int) < pw K := pow_bd hp hK0 (by have := E1.out; have := eb_le n L (k + 1); omega)
      obtain ⟨e, he⟩ : ∃ e, eb n L (k + 1) = e := ⟨_, rfl⟩
      obtain ⟨e0, he0⟩ : ∃ e, eb n L k = e := ⟨_, rfl⟩
      have HE : Hid (eb n L (k + 1) = e) := he
      rw [he, he0] at E1
      rw [he] at ha1
      rw [he0] at nP z1 z2
      have M1 := Mul_n nP nP z1 z1 (by unfold MulOK; omega)
      rw [show ((A ^ e0 : Nat) : Int) * ((A ^ e0 : Nat) : Int) = ((A ^ (2 * e0) : Nat) : Int) by rw [Nat.two_mul, Nat.pow_add, Int.natCast_mul]] at M1
      have BL2 := fun x => BL x (by omega) (by omega)
      have zA : 1 ≤ n → ((A : Nat) : Int) < pw K := fun h => by have := pow_bd (e := 1) hp hK0 h; rwa [Nat.pow_one] at this
      have HS : Hid (w.heap.size + 2 ≤ g) := hs
      clear BL hp hA he he0 hs
      by_cases q : e % 2 = 1
      · have en : 1 ≤ n := by have := eb_le n L (k + 1); rw [HE.out] at this; omega
        have zB := zA en
        have EN : Hid (e = 2 * e0 + 1) := by have := E1.out; show _ = _; omega
        rw [q] at ha1
        have MA := fun (x : World) (a : Option Addr) (l' c' : Nat) (h : Nn x a l' c' ((A ^ (2 * e0) : Nat) : Int)) (h2 : Nn x p l c (A : Int)) => Mul_n h h2 z2 zB (by unfold MulOK; omega)
        rw [show ((A ^ (2 * e0) : Nat) : Int) * (A : Int) = ((A ^ e : Nat) : Int) by rw [EN.out, Nat.pow_succ, Int.natCast_mul]] at MA
        have d1 : w.heap.size ≠ g := by have := HS.out; omega
        have d2 : w.heap.size + 1 ≠ g := by have := HS.out; omega
        have l64 := l0.2
        clear hn l0 zA z1 z2 zB q en
        go_wp2_with (first
          | (go_at_call 69; (with_reducible refine M1.mono ?_); rintro _ w2 ⟨ma, ml, mc, rfl, nM, b4⟩; (have K3 := P3.below b4); (have m1 := K3.1); (have m2 := K3.2))
          | (go_at_call 92; (with_reducible refine (BL2 _).mono ?_); rintro _ w3 ⟨rfl, rfl⟩; (have J3 := K3.set (.slice ma ml mc)); (have J1 := bxskip (P1.below b4) d1 (.slice ma ml mc)); (have j1 := J3.1); (have j2 := J1.1))
          | fail)
        clear M1 BL2
        have J2 := bxskip (P2.below b4) d2 (.slice ma ml mc)
        have NM := nM.box (u := .slice ma ml mc) K3
        have NA := (nA.grow b4).box (u := .slice ma ml mc) K3
        have b5 := below_put (bel' b3 b4) (show w.heap.size ≤ g by have := HS.out; omega) (.slice ma ml mc)
        have f2 := J3.2
        generalize w2.setCell ⟨g, 0, none⟩ (.slice ma ml mc) = V at *
        refine (MA V ma ml mc NM NA).mono ?_
        rintro _ w3 ⟨pa, pl, pc, rfl, nQ, b6⟩
        have I3 := J3.below b6
        have i1 := I3.1
        have i2 := I3.2
        have I1 := bxskip (J1.below b6) d1 (.slice pa pl pc)
        have I2 := bxskip (J2.below b6) d2 (.slice pa pl pc)
        have NQ := nQ.box (u := .slice pa pl pc) I3
        have NB := (NA.grow b6).box (u := .slice pa pl pc) I3
        have b7 := below_put (bel' b5 b6) (show w.heap.size ≤ g by have := HS.out; omega) (.slice pa pl pc)
        have I4 := I3.set (.slice pa pl pc)
        clear MA ha1 x1 x2
        have lk : k < 64 := by have := HM.out; have := HJ.out; omega
        go_wp2_with fail
        go_roundw
        case rel => exact ⟨k + 1, pa, pl, pc, by go_num, by omega, by rw [HE.out]; exact NQ, NB, I4, I1, I2, b7⟩
        case measure => simp [RowKit.intOf]; omega
      · have EN : Hid (e = 2 * e0) := by have := E1.out; show _ = _; omega
        rw [show e % 2 = 0 by omega] at ha1
        have d1 : w.heap.size ≠ g := by have := HS.out; omega
        have d2 : w.heap.size + 1 ≠ g := by have := HS.out; omega
        have lk : k < 64 := by have := HM.out; have := HJ.out; omega
        clear hn l0 zA z1 z2 q
        go_wp2_with (first
          | (go_at_call 69; (with_reducible refine M1.mono ?_); rintro _ w2 ⟨ma, ml, mc, rfl, nM, b4⟩; (have K3 := P3.below b4); (have m1 := K3.1); (have m2 := K3.2))
          | (go_at_call 92; (with_reducible refine (BL2 _).mono ?_); rintro _ w3 ⟨rfl, rfl⟩)
          | fail)
        go_roundw
        case rel =>
          exact ⟨k + 1, ma, ml, mc, by go_num, by omega, by rw [HE.out, EN.out]; exact nM.box K3, (nA.grow b4).box K3, K3.set _, bxskip (P1.below b4) d1 _, bxskip (P2.below b4) d2 _, below_put (bel' b3 b4) (show w.heap.size ≤ g by have := HS.out; omega) _⟩
        case measure => simp [RowKit.intOf]; omega
    · obtain rfl : k = L := by omega
      rw [eb_full] at nP
      have nE := nP.box (u := .slice a l' c') P2
      have bE := below_put b3 (show w.heap.size ≤ w.heap.size + 1 by omega) (.slice a l' c')
      clear hp x0 BL
      have c1 := P2.1
      have c2 := P3.1
      have c3 := P2.2
      go_wp2
      have v1 := (P2.set (.slice a l' c')).1
      exact bodyPost_ret (v := .agg #[.slice a l' c']) (by simp [results, Tryz.results61, go_sem, v1]) rfl ⟨a, l', c', rfl, nE, bE⟩
end Go.Proofs.YtiaeoknmgidehaaGreatDoor.Mo
