import Derived.Test.YtfalncbcomlelaaGreatDoorPart46
import Derived.Test.YtfalncbcomlelaaGreatDoorPart30
import Derived.Test.YtfalncbcomlelaaGreatDoorPart08
import Derived.Test.YtfalncbcomlelaaGreatDoorPart44
import Derived.Test.YtfalncbcomlelaaGreatDoorPart18
import Derived.Test.YtfalncbcomlelaaGreatDoorPart45
import Derived.Test.YtfalncbcomlelaaGreatDoorPart35
import Derived.Test.YtfalncbcomlelaaGreatDoorPart12
import Derived.Test.YtfalncbcomlelaaGreatDoorPart14
import Derived.Test.YtfalncbcomlelaaGreatDoorPart03
import Derived.Deep.RegionHeld3
import Derived.Deep.DeepCutAuto
import Derived.Test.YtfalncbcomlelaaGreatDoorPart16

namespace Go.Proofs.YtfalncbcomlelaaGreatDoor.Ta
open Go.RowKit Go.Proofs.YtfalncbcomlelaaGreatDoor.Mo

theorem Shl_n {a : Option Addr} {l c : Nat} {A : Int} {x : World} (h : Nn x a l c A) {m : Nat} (hA : A < Tn.pw m) (hm : m ≤ 1000000) : Calls Tryz.prog 60 #[.agg #[.slice a l c], .int .i64 1] x fun e w' => ∃ a l c, e = .returned (.agg #[.slice a l c]) ∧ Nn w' a l c (A * 2) ∧ Below x.heap.size x w' := by
  obtain ⟨xs, r1, n1, rfl⟩ := h
  have := len_of r1.1 n1 hA
  refine (ShiftLeft_one _ xs x r1 n1 (by omega)).mono ?_
  rintro e w' ⟨r, zs, rfl, hr, hn, hv, _, b⟩
  obtain ⟨a, l, c, rfl⟩ := hr.shape
  exact ⟨a, l, c, rfl, ⟨zs, hr, hn, hv⟩, b⟩
theorem pw_two {m n : Nat} (h : m < n) : Tn.pw m * 2 < Tn.pw n := by
  rw [Ip.pw_64, Ip.pw_64]
  have := Nat.pow_lt_pow_right (show 1 < 2 by decide) (show 64 * m + 1 < 64 * n by omega)
  rw [Nat.pow_succ] at this
  omega
set_option maxRecDepth 100000 in
set_option maxHeartbeats 3200000 in
theorem Probable_e (s : ByteArray) (f : Int) (vr vs : Value) (en ys : Int) (c : Int) (w : World) (hc : (c != 0) = true) (C : ∀ x, Below w.heap.size w x → Calls Tryz.prog 47 #[.agg #[.string s, .int .i64 f, vr, vs], .agg #[.int .i64 en, .int .i64 ys]] x fun e w' => e = .returned (.tuple #[.slice none 0 0, .int .i64 c]) ∧ Below x.heap.size x w') : Calls Tryz.prog 21 #[.agg #[.string s, .int .i64 f, vr, vs], .agg #[.int .i64 en, .int .i64 ys]] w fun e w' => e = .returned (.tuple #[.int .i64 0, .int .i64 c]) ∧ Below w.heap.size w w' := by
  have pr : Below w.heap.size w ((w.alloc (.cells #[.string s, .int .i64 f, vr, vs] 46)).alloc (.cells #[.int .i64 en, .int .i64 ys] 48)) := ((Below.refl _ _).alloc (Nat.le_refl _) _).alloc (by simp) _
  go_enter Tryz.func21, Tryz.ntmps21
  go_wp2_with (first
    | (go_at_call 47; refine (C _ pr).mono ?_; rintro e w1 ⟨rfl, b1⟩)
    | fail)
  go_ret2
  exact ⟨rfl, bel' pr b1⟩
set_option maxRecDepth 100000 in
set_option maxHeartbeats 3200000 in
theorem Probable_k (s : ByteArray) (f : Int) (vr vs : Value) (en ys : Int) (N M1 n : Nat) (q : Nat → Int) (w : World) (hN : N ≤ 131) (hM1 : N + 1 = M1) (hn : n ≤ N) (hq : ∀ k, k < N → 0 ≤ q k ∧ q k ≤ 10000000) (h1 : ∀ k, k < n → ((10000000 ^ k : Nat) : Int) < al q k * 2) (h2 : ¬ ((10000000 ^ n : Nat) : Int) < al q n * 2) (C : ∀ x, Below w.heap.size w x → Calls Tryz.prog 47 #[.agg #[.string s, .int .i64 f, vr, vs], .agg #[.int .i64 en, .int .i64 ys]] x fun e w' => ∃ g, e = .returned (.tuple #[.slice (some ⟨g, 0, none⟩) N N, .int .i64 0]) ∧ Rc w' g N N q ∧ Below x.heap.size x w')
    (S1 : ∀ x g, Rc x g N N q → Calls Tryz.prog 49 #[.slice (some ⟨g, 0, none⟩) N N] x fun e w' => ∃ g2, e = .returned (.slice (some ⟨g2, 0, none⟩) M1 M1) ∧ x.heap.size ≤ g2 ∧ Sv w' g2 M1 N q ∧ Below x.heap.size x w') : Calls Tryz.prog 21 #[.agg #[.string s, .int .i64 f, vr, vs], .agg #[.int .i64 en, .int .i64 ys]] w fun e w' => e = .returned (.tuple #[.int .i64 (n : Int), .int .i64 0]) ∧ Below w.heap.size w w' := by
  have pr : Below w.heap.size w ((w.alloc (.cells #[.string s, .int .i64 f, vr, vs] 46)).alloc (.cells #[.int .i64 en, .int .i64 ys] 48)) := ((Below.refl _ _).alloc (Nat.le_refl _) _).alloc (by simp) _
  have HM : Hid (N + 1 = M1) := hM1
  have O1 := fun x => Of_n 1 x (by decide) (by decide)
  clear hM1
  go_enter Tryz.func21, Tryz.ntmps21
  go_wp2_with (first
    | (go_at_call 59; (have z := b3); (refine (O1 _).mono ?_); (rintro e w4 ⟨a4, l4, c4, rfl, n4, b4⟩); (have alW := (Below.refl w4.heap.size w4).alloc (Nat.le_refl _) (.cells #[.slice a4 l4 c4] 56)); (have bb := bel' b4 alW); (have K13 := Blk.new w4 #[.slice a4 l4 c4] 56); (have p4 := bel' p3 bb); (have hB := L3))
    | (go_at_call 49; (have z := b1); (refine (S1 _ _ R).mono ?_); (rintro e w3 ⟨g2, rfl, hg2, SV, b3⟩); (have p3 := bel' p1 b3); (have L3 := svlt SV))
    | (go_at_call 47; refine (C _ pr).mono ?_; rintro e w1 ⟨g, rfl, R, b1⟩; (have p1 := bel' pr b1))
    | fail)
  have ne2 : w4.heap.size ≠ g2 := by have := b4.size; omega
  have SV := SV.grow bb
  have n4 := n4.grow alW
  have L13 : Hid (w.heap.size ≤ w4.heap.size) := (bel' p3 b4).size
  generalize w4.alloc (.cells #[.slice a4 l4 c4] 56) = W4 at *
  generalize w4.heap.size = n13 at *
  clear R b1 pr p1 C hg2 L3 hB b3 b4 alW bb O1 S1 p3
  go_loopw [8] (fun i wr => ∃ (k : Nat) (a : Option Addr) (l c : Nat), i = .int .i64 k ∧ k ≤ n ∧ Blk wr n13 #[.slice a l c] 56 ∧ Nn wr a l c ((10000000 ^ k : Nat) : Int) ∧ Sv wr g2 M1 N q ∧ Below w.heap.size w wr) (fun i _ => n - (RowKit.intOf i).toNat)
  case atStart => exact ⟨0, a4, l4, c4, rfl, Nat.zero_le _, K13, n4, SV, p4⟩
  case round =>
    clear K13 SV n4 p4
    obtain ⟨k, a, l, c, rfl, hk, K13, n1, SV, p⟩ := hrel
    have mM := HM.out
    obtain ⟨cs, K, hs, hi, hf⟩ := SV
    obtain ⟨ak, lk, ck, ek, nk⟩ := hf k (by omega)
    have k2 := (K.at k).trans ek
    have Klt := K.lt
    have SV : Sv wr g2 M1 N q := ⟨cs, K, hs, hi, hf⟩
    have SH := fun x a l c (h : Nn x a l c (al q k)) => Shl_n h (al_pw hq (show k ≤ N by omega) (by omega)) (by decide)
    have x0 := K13.at 0
    simp at x0
    have i1 : (0 : Int) ≤ (k : Int) := by omega
    have i2 : ((k : Int)).toNat = k := by omega
    have i3 : (k : Int) < (M1 : Int) := by omega
    have sp : al q k * 2 < Tn.pw 120 := by
      have a := al_pw hq (show k ≤ N by omega) (by omega)
      have b := (al_bd hq k (by omega)).1
      have c := pw_two (show 60 < 120 by decide)
      omega
    by_cases lt : k < n
    · have y9 : IntKind.i64.wrap ((k : Int) + 1) = ((k + 1 : Nat) : Int) := by rw [show (k : Int) + 1 = ((k + 1 : Nat) : Int) by omega]; exact wrapI _ (by omega) (by omega)
      have CM := fun x a l c a' l' c' (h : Nn x a l c (al q k * 2)) (h' : Nn x a' l' c' ((10000000 ^ k : Nat) : Int)) => Cmp_n h h' (m := 120) sp (by decide)
      have hh := h1 k lt
      rw [show cmp3 (al q k * 2) ((10000000 ^ k : Nat) : Int) = 1 by unfold cmp3; rw [if_neg (by omega), if_pos hh]] at CM
      have dp : ((10000000 ^ k : Nat) : Int) < Tn.pw 60 := Ip.lt_64 (Ip.lt_pow2 (m := 24) (by decide) k) (by omega)
      have ML := fun x a1 l1 c1 a2 l2 c2 (n1 : Nn x a1 l1 c1 ((10000000 ^ k : Nat) : Int)) (n2 : Nn x a2 l2 c2 10000000) => Mul_n n1 n2 dp ten_pw (by unfold MulOK; omega)
      rw [show ((10000000 ^ k : Nat) : Int) * 10000000 = ((10000000 ^ (k + 1) : Nat) : Int) by rw [Nat.pow_succ, Int.natCast_mul]; rfl] at ML
      have HK : Hid (k + 1 ≤ n) := lt
      clear hf ek hs hi K mM hn h1 h2 hq hN hk hh dp sp lt
      go_wp2_with fail
      go_region_held3 (fun x => x.cell? ⟨g2, k, none⟩ = some (.slice ak lk ck) ∧ x.cell? ⟨n13, 0, none⟩ = some (.slice a l c)) (first | exact ⟨s2, s3⟩ | exact ⟨r2, r3⟩ | go_keep) (first
        | (go_at_call 61; (have z := d2); (refine (CM _ _ _ _ _ _ _ m2 (n1.grow d2)).mono ?_); (rintro e w3 ⟨rfl, b3⟩); (have d3 := bel' d2 b3); (have s2 := keepc d3 Klt k2); (have s3 := keepc d3 (L.lt_of_cell x0) x0))
        | (go_at_call 60; (refine (SH _ _ _ _ (nk.grow ((Below.refl _ _).drew))).mono ?_); (rintro e w2 ⟨a2, l2, c2, rfl, m2, b2⟩); (have d2 := undrew b2); (have r2 := keepc d2 Klt k2); (have r3 := keepc d2 (L.lt_of_cell x0) x0))
        | fail)
      go_wp2_with fail
      have K13 := K13.below d3 K13.lt
      have n1 := n1.grow d3
      have SV := SV.grow d3
      have p := bel' p d3
      clear nk k2 x0 d2 d3 b2 b3 m2 r2 r3 s2 Klt
      have x0 := s3
      go_region_with (first
        | (go_at_call 50; (have z := d1); (refine (ML _ _ _ _ _ _ _ (n1.grow d1) u2).mono ?_); (rintro e w5 ⟨a3, l3, c3, rfl, n3, b3⟩); (have d3 := bel' d1 b3); (have K3 := K13.below d3 K13.lt); (have z0 := K3.at 0); (have z1 := K3.free 0); (simp at z0); (have x2 := z0))
        | (go_at_call 51; (refine (unit_n _).mono ?_); (rintro e w4 ⟨a2, l2, c2, rfl, u2, b2⟩); (have d1 := undrew b2); (have x1 := (d1.cell (p := ⟨n13, 0, none⟩) K13.lt).trans x0))
        | fail)
      all_goals
        have K13b : Blk (w5.setCell ⟨n13, 0, none⟩ (.slice a3 l3 c3)) n13 #[.slice a3 l3 c3] 56 := by simpa using bput K3 0 (.slice a3 l3 c3)
        have SVb := svput (SV.grow d3) K3 ne2 (.slice a3 l3 c3)
        have n3b := n3.box (u := .slice a3 l3 c3) (Bx.of K3)
        have pb := (bel' p d3).setCell (p := ⟨n13, 0, none⟩) (show w.heap.size ≤ n13 from L13.out) (.slice a3 l3 c3)
        go_wp2_with fail
        go_roundw
        case rel => exact ⟨k + 1, a3, l3, c3, by go_num, HK.out, K13b, n3b, SVb, pb⟩
        case measure => simp [RowKit.intOf]; have := HK.out; omega
    · obtain rfl : k = n := by omega
      have CM := fun x a l c a' l' c' (h : Nn x a l c (al q k * 2)) (h' : Nn x a' l' c' ((10000000 ^ k : Nat) : Int)) => Cmp_n h h' (m := 120) sp (by decide)
      obtain ⟨z9, hz9⟩ : ∃ z, cmp3 (al q k * 2) ((10000000 ^ k : Nat) : Int) = z := ⟨_, rfl⟩
      have g9 : ¬ z9 > 0 := by rw [← hz9]; unfold cmp3; split <;> (first | omega | (split <;> omega))
      simp only [hz9] at CM
      clear hf ek hs hi K mM hn h1 h2 hq hN hk sp lt hz9
      go_wp2_with fail
      go_region_held3 (fun x => x.cell? ⟨g2, k, none⟩ = some (.slice ak lk ck) ∧ x.cell? ⟨n13, 0, none⟩ = some (.slice a l c)) (first | exact ⟨s2, s3⟩ | exact ⟨r2, r3⟩ | go_keep) (first
        | (go_at_call 61; (have z := d2); (refine (CM _ _ _ _ _ _ _ m2 (n1.grow d2)).mono ?_); (rintro e w3 ⟨rfl, b3⟩); (have d3 := bel' d2 b3); (have s2 := keepc d3 Klt k2); (have s3 := keepc d3 (L.lt_of_cell x0) x0))
        | (go_at_call 60; (refine (SH _ _ _ _ (nk.grow ((Below.refl _ _).drew))).mono ?_); (rintro e w2 ⟨a2, l2, c2, rfl, m2, b2⟩); (have d2 := undrew b2); (have r2 := keepc d2 Klt k2); (have r3 := keepc d2 (L.lt_of_cell x0) x0))
        | fail)
      go_wp2_with fail
      go_ret2
      exact ⟨rfl, bel' p d3⟩
end Go.Proofs.YtfalncbcomlelaaGreatDoor.Ta

namespace Go.Proofs.YtfalncbcomlelaaGreatDoor.Mo
open Go.RowKit Fu Tn Go.Lib Ip

theorem Bd.ps {r : Rat} {B K : Nat} (h : Bd r B) (hB : B ≤ 64 * K) : PS r K := ⟨lt_64 h.1 hB, lt_64 h.2 hB⟩
theorem Bd.qs {r : Rat} {B K : Nat} (h : Bd r B) (hB : B ≤ 30 * K) : L.QS r K := ⟨lt_30 h.1 hB, lt_30 h.2 hB⟩
theorem two_ten : (2 : Nat) ^ 13606 ≤ 10 ^ 4096 := by decide +kernel
theorem dig_le {N B k n : Nat} (h : N < 2 ^ B) (hB : B ≤ k) (h2 : 2 ^ k ≤ 10 ^ n) (hn : 0 < n) : (decDigits N).length ≤ n := by
  rw [decDigits_length]
  exact _root_.Dc.nDigits_le hn (Nat.lt_of_lt_of_le h (Nat.le_trans (Nat.pow_le_pow_right (by decide) hB) h2))
theorem dig_short {N B : Nat} (h : N < 2 ^ B) (hB : B ≤ 13606) : (decDigits N).length ≤ 4096 := dig_le h hB two_ten (by decide)
theorem Ratio_s (v : Value) (r : Rat) (B : Nat) (w : World) (h : PF w v r) (hB : Bd r B) (h13 : B ≤ 13606) (G : Gw w) :
    Calls Tryz.prog 25 #[v] w fun e w' => e = .returned (.tuple #[wrt r, .int .i64 0]) ∧ Below w.heap.size w w' := by
  have := Ratio_any v r w h (Bd.ps hB (by omega)) G
  rw [wrA_short (dig_short hB.1 h13) (dig_short hB.2 h13)] at this
  exact this
theorem Out_s (v : Value) (r : Rat) (B : Nat) (w : World) (h : L.IsQ w v r) (hB : Bd r B) (h13 : B ≤ 13606) :
    Calls Tryz.prog 29 #[v] w fun e w' => e = .returned (.tuple #[wrt r, .int .i64 0]) ∧ Below w.heap.size w w' :=
  L.Out_q v r 1000 w h (Bd.qs hB (by omega)) (by decide) (dig_short hB.1 h13) (dig_short hB.2 h13)
end Go.Proofs.YtfalncbcomlelaaGreatDoor.Mo

namespace Go.Proofs.YtfalncbcomlelaaGreatDoor.Ta
open Go.RowKit Go.Proofs.YtfalncbcomlelaaGreatDoor.Mo Ip

/-- What is wrong: of the table, of the life, of the number of years. -/
def wr (c : Int) (ok : Bool) (n : Int) : Int := if c ≠ 0 then c else if ok = false then 8 else if 0 ≤ n ∧ n ≤ 130 then 0 else 1
theorem wr_0 {c : Int} {ok : Bool} {n : Int} (h : wr c ok n = 0) : c = 0 ∧ ok = true ∧ 0 ≤ n ∧ n ≤ 130 := by
  unfold wr at h
  by_cases h1 : c ≠ 0
  · rw [if_pos h1] at h; exact absurd h h1
  · rw [if_neg h1] at h
    cases ok
    · rw [if_pos rfl] at h; exact absurd h (by decide)
    · rw [if_neg (by decide)] at h
      by_cases h2 : 0 ≤ n ∧ n ≤ 130
      · exact ⟨Classical.not_not.1 h1, rfl, h2.1, h2.2⟩
      · rw [if_neg h2] at h; exact absurd h (by decide)
theorem wr_c {c : Int} {ok : Bool} {n : Int} (h : c ≠ 0) : wr c ok n = c := by unfold wr; rw [if_pos h]
theorem wr_8 {n : Int} : wr 0 false n = 8 := rfl
theorem wr_1 {n : Int} (h : ¬ (0 ≤ n ∧ n ≤ 130)) : wr 0 true n = 1 := by unfold wr; rw [if_neg (by decide), if_neg (by decide), if_neg h]
theorem wr_k {n : Int} (h : 0 ≤ n ∧ n ≤ 130) : wr 0 true n = 0 := by unfold wr; rw [if_neg (by decide), if_neg (by decide), if_pos h]
/-- How many rates there are. -/
def lft (f : Int) (rs : List Int) (en ys : Int) : Nat := (f + rs.length - en - ys).toNat
theorem lft_ok {f : Int} {rs : List Int} {en ys : Int} (h : okL f rs en ys = true) : (lft f rs en ys : Int) = f + rs.length - en - ys ∧ 0 < lft f rs en ys := by
  obtain ⟨o1, o2, o3, o4⟩ := of_decide_eq_true h
  unfold lft; omega
/-- The chance to live n years. -/
def svn (f : Int) (rs : List Int) (sel : List (List Int)) (en ys : Int) (n : Nat) : Rat := sv (rt f rs sel en ys) (min n (lft f rs en ys))
/-- What is told: an exact number, or what is wrong. -/
def aE (e : Int) (r : Rat) : Value := if e ≠ 0 then .tuple #[.agg #[.string ⟨#[]⟩, .string ⟨#[]⟩], .int .i64 e] else .tuple #[wrt r, .int .i64 0]
theorem aE_form (e : Int) (r : Rat) : ∃ s t k, aE e r = .tuple #[.agg #[.string s, .string t], .int .i64 k] := by
  unfold aE
  by_cases h : e ≠ 0
  · rw [if_pos h]; exact ⟨_, _, _, rfl⟩
  · rw [if_neg h]; exact ⟨_, _, _, rfl⟩
theorem bne_0 {c : Int} (h : c ≠ 0) : (c != 0) = true := by simpa using h
theorem q_bd {s : ByteArray} {f : Int} {rs : List Int} {sel : List (List Int)} {en ys : Int} (h : chk s f rs sel = 0) (h2 : okL f rs en ys = true) : (∀ k, k < lft f rs en ys → 0 ≤ rt f rs sel en ys k ∧ rt f rs sel en ys k ≤ 10000000) ∧ lft f rs en ys ≤ 131 ∧ al (rt f rs sel en ys) (lft f rs en ys) = 0 := by
  obtain ⟨_, f1, r1, s1⟩ := of_chk_0 h
  obtain ⟨e, p⟩ := lft_ok h2
  obtain ⟨o1, o2, o3, o4⟩ := of_decide_eq_true h2
  refine ⟨fun k hk => ?_, by omega, ?_⟩
  · obtain ⟨a, b, _⟩ := rt_bd (n := k) r1 s1 h2 (by omega)
    exact ⟨a, b⟩
  · obtain ⟨m, hm⟩ : ∃ m, lft f rs en ys = m + 1 := ⟨lft f rs en ys - 1, by omega⟩
    have := (rt_bd (n := m) r1 s1 h2 (by omega)).2.2.2 (by omega)
    rw [hm]
    show al _ m * (10000000 - rt f rs sel en ys m) = 0
    rw [this]; simp
theorem sv_bd {q : Nat → Int} {N : Nat} (hq : ∀ k, k < N → 0 ≤ q k ∧ q k ≤ 10000000) {k : Nat} (h : k ≤ N) (hN : N ≤ 131) : Bd (sv q k) 3200 := by
  have a := al_bd hq k h
  have p := Nat.pow_lt_pow_right (show 1 < 2 by decide) (show 24 * k < 3200 by omega)
  have d := lt_pow2 (a := 10000000) (m := 24) (by decide) k
  have p2 := Nat.pow_le_pow_right (show 0 < 2 by decide) (show 24 * k + 1 ≤ 3200 by omega)
  refine Bd.mk ?_ (Nat.lt_of_lt_of_le d p2) (by have := Nat.pow_pos (n := k) (show 0 < 10000000 by decide); omega)
  generalize (2 : Nat) ^ 3200 = Z at *
  omega
theorem sv_end {q : Nat → Int} {N : Nat} (h : al q N = 0) : sv q N = ((0 : Int) : Rat) := by
  unfold sv; rw [h]; simp
theorem Bd.neg {r : Rat} {B : Nat} (h : Bd r B) : Bd (-r) B := by
  unfold Bd at *
  rw [Rat.neg_num, Rat.neg_den, Int.natAbs_neg]; exact h
end Go.Proofs.YtfalncbcomlelaaGreatDoor.Ta

namespace Go.Proofs.YtfalncbcomlelaaGreatDoor.L
open Go.RowKit Tl

/-- What the reference's Pow keeps: out times a to the m is the power. -/
structure Pk (N A O : Int) (m : Nat) : Prop where
  eq : O * A ^ m = N
  alt : (A = 0 ∧ 0 ≤ O ∧ O ≤ 1) ∨ (1 ≤ A ∧ 1 ≤ O)
theorem one_le_pow {A : Int} (h : 1 ≤ A) : ∀ m : Nat, 1 ≤ A ^ m
  | 0 => by simp
  | m + 1 => by
    rw [Int.pow_succ]
    have := one_le_pow h m
    have := Int.mul_le_mul this h (by decide) (by omega)
    omega
theorem le_pow {A : Int} (h : 1 ≤ A) {m : Nat} (hm : 1 ≤ m) : A ≤ A ^ m := by
  obtain ⟨k, rfl⟩ : ∃ k, m = k + 1 := ⟨m - 1, by omega⟩
  rw [Int.pow_succ]
  have := one_le_pow h k
  have := Int.mul_le_mul_of_nonneg_right this (show 0 ≤ A by omega)
  omega
theorem Pk.o {N A O : Int} {m : Nat} (h : Pk N A O m) {B : Int} (b : N < B) (b1 : 1 < B) : O < B := by
  rcases h.alt with ⟨_, _, a⟩ | ⟨a, o⟩
  · omega
  · have := one_le_pow a m
    have := Int.mul_le_mul_of_nonneg_left this (show 0 ≤ O by omega)
    have := h.eq
    omega
theorem Pk.a {N A O : Int} {m : Nat} (h : Pk N A O m) (hm : 1 ≤ m) {B : Int} (b : N < B) (b1 : 1 < B) : A < B := by
  rcases h.alt with ⟨a, _, _⟩ | ⟨a, o⟩
  · omega
  · have p1 := le_pow a hm
    have := Int.mul_le_mul_of_nonneg_right o (show 0 ≤ A ^ m by omega)
    have := h.eq
    omega
theorem Pk.sq {N A O : Int} {m : Nat} (h : Pk N A O (2 * m)) : Pk N (A * A) O m := by
  refine ⟨by rw [← h.eq, Int.pow_mul]; congr 2; rw [Int.pow_succ, Int.pow_succ, Int.pow_zero, Int.one_mul], ?_⟩
  rcases h.alt with ⟨a, b⟩ | ⟨a, o⟩
  · subst a; exact Or.inl ⟨rfl, b⟩
  · have := Int.mul_le_mul a a (by decide) (by omega)
    exact Or.inr ⟨by omega, o⟩
theorem len_of {xs : List Int} {n : Nat} (h : Wd xs) (k : Nm xs) (v : val xs < pw n) : xs.length ≤ n := by
  by_cases e : xs = []
  · subst e; simp
  · have := val_low h k e
    by_cases c : xs.length ≤ n
    · exact c
    · have := pw_mono (show n ≤ xs.length - 1 by omega)
      omega
end Go.Proofs.YtfalncbcomlelaaGreatDoor.L

namespace Go.Proofs.YtfalncbcomlelaaGreatDoor.Mo
open Go.RowKit Ip

/-- The slice is the whole number N of the reference's. -/
def Nl (x : World) (a : Option Addr) (l c : Nat) (N : Int) : Prop := ∃ xs : List Int, L.Rd x (.slice a l c) xs ∧ Tl.Nm xs ∧ Tl.val xs = N
theorem Nl.grow {x x' : World} {a : Option Addr} {l c : Nat} {N : Int} (h : Nl x a l c N) (b : Below x.heap.size x x') : Nl x' a l c N := by
  obtain ⟨xs, r, n, v⟩ := h
  exact ⟨xs, r.grow b, n, v⟩
theorem Nl.putF {w : World} {n : Nat} {a : Option Addr} {l c : Nat} {N : Int} {x y z : Value} {g : Bool} {a1 a2 : Option Addr} {n1 c1 n2 c2 : Nat} (h : Nl w a l c N) (R : Rb w n (.bool g) (.slice a1 n1 c1) (.slice a2 n2 c2)) : Nl (((w.setCell ⟨n, 0, none⟩ x).setCell ⟨n, 1, none⟩ y).setCell ⟨n, 2, none⟩ z) a l c N := by
  obtain ⟨t, K⟩ := R.bk
  obtain ⟨xs, r, n, v⟩ := h
  exact ⟨xs, r.putQ K, n, v⟩
theorem isq_nl {x : World} {r : Rat} {a a' : Option Addr} {l c l' c' : Nat} (h1 : Nl x a l c (r.num.natAbs : Int)) (h2 : Nl x a' l' c' (r.den : Int)) : L.IsQ x (.agg #[.bool (decide (r.num < 0)), .slice a l c, .slice a' l' c']) r := by
  obtain ⟨xs, r1, n1, v1⟩ := h1
  obtain ⟨ys, r2, n2, v2⟩ := h2
  have e1 : l = xs.length := by obtain ⟨_, _, _, e, _⟩ := r1; cases e; rfl
  have e2 : l' = ys.length := by obtain ⟨_, _, _, e, _⟩ := r2; cases e; rfl
  subst e1 e2
  exact ⟨xs, ys, a, a', c, c', rfl, r1, n1, v1, r2, n2, v2⟩
theorem nl_isq {x : World} {v : Value} {r : Rat} (h : L.IsQ x v r) : ∃ a l c a' l' c', v = .agg #[.bool (decide (r.num < 0)), .slice a l c, .slice a' l' c'] ∧ Nl x a l c (r.num.natAbs : Int) ∧ Nl x a' l' c' (r.den : Int) ∧ (l = 0 ↔ r.num = 0) := by
  obtain ⟨ns, ds, a1, a2, c1, c2, e, h1, n1, v1, h2, n2, v2⟩ := h
  refine ⟨a1, _, c1, a2, _, c2, e, ⟨ns, h1, n1, v1⟩, ⟨ds, h2, n2, v2⟩, ?_⟩
  constructor
  · intro z
    have : ns = [] := List.length_eq_zero_iff.1 z
    subst this
    simp [Tl.val] at v1
    omega
  · intro z
    rw [z] at v1
    by_cases e : ns = []
    · subst e; rfl
    · have := Tl.val_low h1.1 n1 e
      have := Tl.pw_pos (ns.length - 1)
      simp at v1
      omega
theorem qput {w : World} {n : Nat} {v : Value} {r : Rat} {x y z : Value} {g : Bool} {a1 a2 : Option Addr} {n1 c1 n2 c2 : Nat} (h : L.IsQ w v r) (R : Rb w n (.bool g) (.slice a1 n1 c1) (.slice a2 n2 c2)) : L.IsQ (((w.setCell ⟨n, 0, none⟩ x).setCell ⟨n, 1, none⟩ y).setCell ⟨n, 2, none⟩ z) v r := by
  obtain ⟨t, K⟩ := R.bk
  obtain ⟨ns, ds, a1, a2, c1, c2, e, h1, m1, v1, h2, m2, v2⟩ := h
  exact ⟨ns, ds, a1, a2, c1, c2, e, h1.putQ K, m1, v1, h2.putQ K, m2, v2⟩
def NLV (N : Int) (t : Value) (x : World) : Prop := ∃ a l c, t = .slice a l c ∧ Nl x a l c N
theorem NLV.grow {x x' : World} {N : Int} {t : Value} (h : NLV N t x) (b : Below x.heap.size x x') : NLV N t x' := by
  obtain ⟨a, l, c, e, h⟩ := h
  exact ⟨a, l, c, e, h.grow b⟩
structure IPQ (W x : World) (V0 V1 V2 V6 V7 V8 V9 V11 V12 V13 : Value) (N10 N14 : Int) (y0 y1 y2 y3 y4 y5 y6 y7 y8 y9 y10 y11 y12 y13 y14 : Bool) (t5 t6 t7 t8 t9 t10 t11 t12 t13 t14 t15 t16 t17 t18 t19 : Value) : Prop where
  bel : Below W.heap.size W x
  o0 : y0 = true → t5 = V0
  o1 : y1 = true → t6 = V1
  o2 : y2 = true → t7 = V2
  o6 : y6 = true → t11 = V6
  o7 : y7 = true → t12 = V7
  o8 : y8 = true → t13 = V8
  o9 : y9 = true → t14 = V9
  o11 : y11 = true → t16 = V11
  o12 : y12 = true → t17 = V12
  o13 : y13 = true → t18 = V13
  o10 : y10 = true → NLV N10 t15 x
  o14 : y14 = true → NLV N14 t19 x
  o3 : y3 = true → t8 = undef
  o4 : y4 = true → t9 = undef
  o5 : y5 = true → t10 = undef
  d1_0 : y1 = true → y0 = true
  d2_1 : y2 = true → y1 = true
  d4_3 : y4 = true → y3 = true
  d5_4 : y5 = true → y4 = true
  d6_2 : y6 = true → y2 = true
  d6_5 : y6 = true → y5 = true
  d8_7 : y8 = true → y7 = true
  d10_8 : y10 = true → y8 = true
  d10_9 : y10 = true → y9 = true
  d12_11 : y12 = true → y11 = true
  d14_12 : y14 = true → y12 = true
  d14_13 : y14 = true → y13 = true
theorem IPQ.grow {W x x' : World} {V0 V1 V2 V6 V7 V8 V9 V11 V12 V13 : Value} {N10 N14 : Int} {y0 y1 y2 y3 y4 y5 y6 y7 y8 y9 y10 y11 y12 y13 y14 : Bool} {t5 t6 t7 t8 t9 t10 t11 t12 t13 t14 t15 t16 t17 t18 t19 : Value} (h : IPQ W x V0 V1 V2 V6 V7 V8 V9 V11 V12 V13 N10 N14 y0 y1 y2 y3 y4 y5 y6 y7 y8 y9 y10 y11 y12 y13 y14 t5 t6 t7 t8 t9 t10 t11 t12 t13 t14 t15 t16 t17 t18 t19) (b : Below x.heap.size x x') : IPQ W x' V0 V1 V2 V6 V7 V8 V9 V11 V12 V13 N10 N14 y0 y1 y2 y3 y4 y5 y6 y7 y8 y9 y10 y11 y12 y13 y14 t5 t6 t7 t8 t9 t10 t11 t12 t13 t14 t15 t16 t17 t18 t19 where
  bel := bel' h.bel b
  o0 := h.o0
  o1 := h.o1
  o2 := h.o2
  o6 := h.o6
  o7 := h.o7
  o8 := h.o8
  o9 := h.o9
  o11 := h.o11
  o12 := h.o12
  o13 := h.o13
  o3 := h.o3
  o4 := h.o4
  o5 := h.o5
  o10 := fun u => (h.o10 u).grow b
  o14 := fun u => (h.o14 u).grow b
  d1_0 := h.d1_0
  d2_1 := h.d2_1
  d4_3 := h.d4_3
  d5_4 := h.d5_4
  d6_2 := h.d6_2
  d6_5 := h.d6_5
  d8_7 := h.d8_7
  d10_8 := h.d10_8
  d10_9 := h.d10_9
  d12_11 := h.d12_11
  d14_12 := h.d14_12
  d14_13 := h.d14_13
set_option maxHeartbeats 3200000 in
set_option maxRecDepth 100000 in
theorem Minus_r (g : Bool) (a a' : Option Addr) (l c l' c' : Nat) (w : World) :
    Calls Tryz.prog 28 #[.agg #[.bool g, .slice a l c, .slice a' l' c']] w fun e w' => e = .returned (.agg #[.bool (if l = 0 then g else !g), .slice a l c, .slice a' l' c']) ∧ Below w.heap.size w w' := by
  by_cases z : l = 0
  · subst z
    rw [if_pos rfl]
    go_enter Tryz.func28, Tryz.ntmps28
    go_wp2
    exact bodyPost_ret (v := .agg #[.bool g, .slice a 0 c, .slice a' l' c']) (by simp [results, Tryz.results28, go_sem]) rfl ⟨rfl, ((Below.refl _ _).alloc (Nat.le_refl _) _).alloc (by simp) _⟩
  · rw [if_neg z]
    have zz : (l : Int) > 0 := by omega
    clear z
    go_enter Tryz.func28, Tryz.ntmps28
    go_wp2
    exact bodyPost_ret (v := .agg #[.bool !g, .slice a l c, .slice a' l' c']) (by simp [results, Tryz.results28, go_sem]) rfl ⟨rfl, ((Below.refl _ _).alloc (Nat.le_refl _) _).alloc (by simp) _⟩
theorem Minus_q (v : Value) (r : Rat) (w : World) (h : L.IsQ w v r) : Calls Tryz.prog 28 #[v] w (Qf (-r) w) := by
  obtain ⟨a, l, c, a', l', c', rfl, n1, n2, z⟩ := nl_isq h
  refine (Minus_r _ a a' l c l' c' w).mono ?_
  rintro e w' ⟨rfl, b⟩
  have e0 : (if l = 0 then decide (r.num < 0) else !decide (r.num < 0)) = decide ((-r).num < 0) := by
    rw [Rat.neg_num]
    by_cases c : l = 0
    · rw [if_pos c, z.1 c]; simp
    · rw [if_neg c]
      have := fun e => c (z.2 e)
      by_cases d : r.num < 0
      · simp [d]; omega
      · simp [d]; omega
  refine ⟨_, a, l, c, a', l', c', rfl, ?_, b⟩
  rw [e0]
  exact isq_nl (by rw [Rat.neg_num, Int.natAbs_neg]; exact n1.grow b) (by rw [Rat.neg_den]; exact n2.grow b)
set_option maxHeartbeats 3200000 in
set_option maxRecDepth 100000 in
theorem Sub_r (g g1 : Bool) (a a' a1 a1' : Option Addr) (l c l' c' l1 c1 l1' c1' : Nat) (r s t u : Rat) (w : World) (hr : L.IsQ w (.agg #[.bool g, .slice a l c, .slice a' l' c']) r) (hs : L.IsQ w (.agg #[.bool g1, .slice a1 l1 c1, .slice a1' l1' c1']) s)
    (M : ∀ x v, L.IsQ x v s → Calls Tryz.prog 28 #[v] x (Qf t x)) (AD : ∀ x v1 v2, L.IsQ x v1 r → L.IsQ x v2 t → Calls Tryz.prog 30 #[v1, v2] x (Qf u x)) :
    Calls Tryz.prog 31 #[.agg #[.bool g, .slice a l c, .slice a' l' c'], .agg #[.bool g1, .slice a1 l1 c1, .slice a1' l1' c1']] w (Qf u w) := by
  have K0 := ((Rb.new w (.bool g) (.slice a l c) (.slice a' l' c') 66).alloc (.cells #[.bool g1, .slice a1 l1 c1, .slice a1' l1' c1'] 66)).alloc (.cells #[.bool false, .slice none 0 0, .slice none 0 0] 66)
  have K1 := (Rb.new (w.alloc (.cells #[.bool g, .slice a l c, .slice a' l' c'] 66)) (.bool g1) (.slice a1 l1 c1) (.slice a1' l1' c1') 66).alloc (.cells #[.bool false, .slice none 0 0, .slice none 0 0] 66)
  have K2 := Rb.new ((w.alloc (.cells #[.bool g, .slice a l c, .slice a' l' c'] 66)).alloc (.cells #[.bool g1, .slice a1 l1 c1, .slice a1' l1' c1'] 66)) (.bool false) (.slice none 0 0) (.slice none 0 0) 66
  have pr : Below w.heap.size w (((w.alloc (.cells #[.bool g, .slice a l c, .slice a' l' c'] 66)).alloc (.cells #[.bool g1, .slice a1 l1 c1, .slice a1' l1' c1'] 66)).alloc (.cells #[.bool false, .slice none 0 0, .slice none 0 0] 66)) := (((Below.refl _ _).alloc (Nat.le_refl _) _).alloc (by simp) _).alloc (by simp; omega) _
  simp only [World.size_alloc] at K1 K2
  replace hr := hr.grow pr
  replace hs := hs.grow pr
  go_enter Tryz.func31, Tryz.ntmps31
  go_wp2_with fail
  generalize ((w.alloc (.cells #[.bool g, .slice a l c, .slice a' l' c'] 66)).alloc (.cells #[.bool g1, .slice a1 l1 c1, .slice a1' l1' c1'] 66)).alloc (.cells #[.bool false, .slice none 0 0, .slice none 0 0] 66) = W at *
  have k0 := K0.c0
  have k1 := K0.c1
  have k2 := K0.c2
  have j0 := K1.c0
  have j1 := K1.c1
  have j2 := K1.c2
  obtain ⟨q, hq⟩ : ∃ q, w.heap.size + 1 + 1 = q := ⟨_, rfl⟩
  have HQ : Hid (w.heap.size ≤ q) := by show _ ≤ _; omega
  have o1 : w.heap.size ≠ q := by omega
  have o2 : q ≠ w.heap.size := by omega
  have o3 : w.heap.size + 1 ≠ q := by omega
  have o4 : q ≠ w.heap.size + 1 := by omega
  rw [hq] at K2 ⊢
  clear hq
  go_region_held3 (fun x => x.cell? ⟨w.heap.size, 0, none⟩ = some (.bool g) ∧ x.cell? ⟨w.heap.size, 1, none⟩ = some (.slice a l c) ∧ x.cell? ⟨w.heap.size, 2, none⟩ = some (.slice a' l' c') ∧ x.cell? ⟨w.heap.size + 1, 0, none⟩ = some (.bool g1) ∧ x.cell? ⟨w.heap.size + 1, 1, none⟩ = some (.slice a1 l1 c1) ∧ x.cell? ⟨w.heap.size + 1, 2, none⟩ = some (.slice a1' l1' c1')) (go_keep) (first
    | (go_at_call 30; (have z := d1); refine (AD _ _ _ (hr.grow d1) t1).mono ?_; rintro e w3 ⟨g3, a3, l3, c3, a3', l3', c3', rfl, t3, b3⟩; have d3 := bel' d1 b3; have x0 := (K0.grow d3).c0; have x1 := (K0.grow d3).c1; have x2 := (K0.grow d3).c2; have x3 := (K1.grow d3).c0; have x4 := (K1.grow d3).c1; have x5 := (K1.grow d3).c2; have R := K2.grow d3; have q0 := R.c0; have q1 := R.c1; have q2 := R.c2; have s0 := R.f0; have s1 := R.f1; have s2 := R.f2)
    | (go_at_call 28; refine (M _ _ (hs.grow ((Below.refl _ _).drew))).mono ?_; rintro e w2 ⟨g2, a2, l2, c2, a2', l2', c2', rfl, t1, b1⟩; have d1 := undrew b1; have y0 := (K0.grow d1).c0; have y1 := (K0.grow d1).c1; have y2 := (K0.grow d1).c2; have y3 := (K1.grow d1).c0; have y4 := (K1.grow d1).c1; have y5 := (K1.grow d1).c2)
    | fail)
  obtain ⟨F0, F1, F2⟩ := R.put (.bool g3) (.slice a3 l3 c3) (.slice a3' l3' c3')
  go_wp2
  exact bodyPost_ret (v := .agg #[.bool g3, .slice a3 l3 c3, .slice a3' l3' c3']) (by simp [results, Tryz.results31, go_sem, F0, F1, F2]) rfl ⟨g3, a3, l3, c3, a3', l3', c3', rfl, qput t3 R, bset3 (bel' pr d3) HQ.out⟩
/-- Q's Sub of the reference. -/
theorem QSub_q (v1 v2 : Value) (r s : Rat) (K : Nat) (w : World) (hr : L.IsQ w v1 r) (hs : L.IsQ w v2 s) (q1 : L.QS r K) (q2 : L.QS s K) (hK : K ≤ 1000000000) : Calls Tryz.prog 31 #[v1, v2] w (Qf (r - s) w) := by
  obtain ⟨a, l, c, a', l', c', rfl, _⟩ := nl_isq hr
  obtain ⟨a1, l1, c1, a1', l1', c1', rfl, _⟩ := nl_isq hs
  rw [Rat.sub_eq_add_neg]
  exact Sub_r _ _ a a' a1 a1' l c l' c' l1 c1 l1' c1' r s (-s) (r + -s) w hr hs (fun x v h => Minus_q v s x h) (fun x v1 v2 h1 h2 => qf_of (L.QAdd_any v1 v2 r (-s) K x h1 h2 q1 ⟨by rw [Rat.neg_num, Int.natAbs_neg]; exact q2.1, by rw [Rat.neg_den]; exact q2.2⟩ hK))
end Go.Proofs.YtfalncbcomlelaaGreatDoor.Mo

namespace Go.Proofs.YtfalncbcomlelaaGreatDoor.Ta
open Go.RowKit
open Go.Proofs.YtfalncbcomlelaaGreatDoor.Mo (Qf qf_of qput Rb al sv al_bd)

theorem le_big {n : Nat} (h : n ≤ 1) : n ≤ 274877906944 := by omega
theorem al_30 {q : Nat → Int} {M : Nat} (hq : ∀ k, k < M → 0 ≤ q k ∧ q k ≤ 10000000) {k : Nat} (h : k ≤ M) (hL : M ≤ 140) : al q k < Tl.pw 120 := by
  have a := (al_bd hq k h).2
  rw [Ip.pw_30]
  have := Nat.pow_lt_pow_right (show 1 < 2 by decide) (show 24 * k < 30 * 120 by omega)
  omega
theorem ten_30 {k : Nat} (h : k ≤ 140) : ((10000000 ^ k : Nat) : Int) < Tl.pw 120 := Ip.lt_30 (Ip.lt_pow2 (m := 24) (by decide) k) (by omega)
set_option maxRecDepth 100000 in
set_option maxHeartbeats 3200000 in
theorem S_none (s : ByteArray) (f en ys : Int) (ar : Option Addr) (rl cr : Nat) (vs : Value) (N : Nat) (w : World) (n : Int) (hn : n > (N : Int)) (LE : ∀ x, Below w.heap.size w x → Calls Tryz.prog 57 #[.agg #[.string s, .int .i64 f, .slice ar rl cr, vs], .agg #[.int .i64 en, .int .i64 ys]] x fun e w' => e = .returned (.int .i64 (N : Int)) ∧ Below x.heap.size x w') : Calls Tryz.prog 58 #[.agg #[.string s, .int .i64 f, .slice ar rl cr, vs], .agg #[.int .i64 en, .int .i64 ys], .int .i64 n] w (Qf ((0 : Int) : Rat) w) := by
  have KT := ((Blk.new w #[.string s, .int .i64 f, .slice ar rl cr, vs] 46).alloc (.cells #[.int .i64 en, .int .i64 ys] 48)).alloc (.cells #[.bool false, .slice none 0 0, .slice none 0 0] 66)
  have KL := (Blk.new (w.alloc (.cells #[.string s, .int .i64 f, .slice ar rl cr, vs] 46)) #[.int .i64 en, .int .i64 ys] 48).alloc (.cells #[.bool false, .slice none 0 0, .slice none 0 0] 66)
  have KR := Blk.new ((w.alloc (.cells #[.string s, .int .i64 f, .slice ar rl cr, vs] 46)).alloc (.cells #[.int .i64 en, .int .i64 ys] 48)) #[.bool false, .slice none 0 0, .slice none 0 0] 66
  have pr : Below w.heap.size w (((w.alloc (.cells #[.string s, .int .i64 f, .slice ar rl cr, vs] 46)).alloc (.cells #[.int .i64 en, .int .i64 ys] 48)).alloc (.cells #[.bool false, .slice none 0 0, .slice none 0 0] 66)) := (((Below.refl _ _).alloc (Nat.le_refl _) _).alloc (by simp) _).alloc (by simp; omega) _
  simp only [World.size_alloc] at KL KR
  have k0 := KT.at 0
  have k1 := KT.at 1
  have k2 := KT.at 2
  have k3 := KT.at 3
  have m0 := KL.at 0
  have m1 := KL.at 1
  simp at k0 k1 k2 k3 m0 m1
  have O := fun x => qf_of (L.Of_q 0 x (by decide) (by decide))
  go_enter Tryz.func58, Tryz.ntmps58
  go_wp2_with (first
    | (go_at_call 57; refine (LE _ pr).mono ?_; rintro e w1 ⟨rfl, b1⟩; (have p1 := Mo.bel' pr b1); (have KR1 := KR.below b1 KR.lt))
    | (go_at_call 56; refine (O _).mono ?_; rintro e w2 ⟨g2, a2, l2, c2, a2', l2', c2', rfl, t2, b2⟩; (have p2 := Mo.bel' p1 b2); (have R := Mo.Rb.ofB (KR1.below b2 KR1.lt)); (have q0 := R.c0); (have q1 := R.c1); (have q2 := R.c2); (have y0 := R.f0); (have y1 := R.f1); (have y2 := R.f2))
    | fail)
  obtain ⟨F0, F1, F2⟩ := R.put (.bool g2) (.slice a2 l2 c2) (.slice a2' l2' c2')
  exact bodyPost_ret (v := .agg #[.bool g2, .slice a2 l2 c2, .slice a2' l2' c2']) (by simp [results, Tryz.results58, go_sem, F0, F1, F2]) rfl ⟨g2, a2, l2, c2, a2', l2', c2', rfl, qput t2 R, Mo.bset3 p2 (by omega)⟩
set_option maxRecDepth 100000 in
set_option maxHeartbeats 3200000 in
theorem S_some (s : ByteArray) (f en ys : Int) (ar : Option Addr) (rl cr : Nat) (vs : Value) (N : Nat) (q : Nat → Int) (w : World) (n : Nat) (hn : n ≤ N) (hN : N ≤ 140) (hq : ∀ k, k < N → 0 ≤ q k ∧ q k ≤ 10000000) (LE : ∀ x, Below w.heap.size w x → Calls Tryz.prog 57 #[.agg #[.string s, .int .i64 f, .slice ar rl cr, vs], .agg #[.int .i64 en, .int .i64 ys]] x fun e w' => e = .returned (.int .i64 (N : Int)) ∧ Below x.heap.size x w') (RI : ∀ x (k : Nat), k < N → Below w.heap.size w x → Calls Tryz.prog 91 #[.agg #[.string s, .int .i64 f, .slice ar rl cr, vs], .agg #[.int .i64 en, .int .i64 ys], .int .i64 (k : Int)] x fun e w' => e = .returned (.tuple #[.int .i64 (q k), .bool true]) ∧ Below x.heap.size x w') : Calls Tryz.prog 58 #[.agg #[.string s, .int .i64 f, .slice ar rl cr, vs], .agg #[.int .i64 en, .int .i64 ys], .int .i64 (n : Int)] w (Qf (sv q n) w) := by
  have KT := ((Blk.new w #[.string s, .int .i64 f, .slice ar rl cr, vs] 46).alloc (.cells #[.int .i64 en, .int .i64 ys] 48)).alloc (.cells #[.bool false, .slice none 0 0, .slice none 0 0] 66)
  have KL := (Blk.new (w.alloc (.cells #[.string s, .int .i64 f, .slice ar rl cr, vs] 46)) #[.int .i64 en, .int .i64 ys] 48).alloc (.cells #[.bool false, .slice none 0 0, .slice none 0 0] 66)
  have KR := Blk.new ((w.alloc (.cells #[.string s, .int .i64 f, .slice ar rl cr, vs] 46)).alloc (.cells #[.int .i64 en, .int .i64 ys] 48)) #[.bool false, .slice none 0 0, .slice none 0 0] 66
  have pr : Below w.heap.size w (((w.alloc (.cells #[.string s, .int .i64 f, .slice ar rl cr, vs] 46)).alloc (.cells #[.int .i64 en, .int .i64 ys] 48)).alloc (.cells #[.bool false, .slice none 0 0, .slice none 0 0] 66)) := (((Below.refl _ _).alloc (Nat.le_refl _) _).alloc (by simp) _).alloc (by simp; omega) _
  simp only [World.size_alloc] at KL KR
  have k0 := KT.at 0
  have k1 := KT.at 1
  have k2 := KT.at 2
  have k3 := KT.at 3
  have m0 := KL.at 0
  have m1 := KL.at 1
  simp at k0 k1 k2 k3 m0 m1
  have h1 : ¬ (n : Int) > (N : Int) := by omega
  go_enter Tryz.func58, Tryz.ntmps58
  go_wp2_with (first
    | (go_at_call 57; refine (LE _ pr).mono ?_; rintro e w1 ⟨rfl, b1⟩; (have p1 := Mo.bel' pr b1))
    | fail)
  have al1 := (Below.refl w1.heap.size w1).alloc (Nat.le_refl _) (.cells #[.int .i64 1] 3)
  have al2 := (Below.refl (w1.alloc (.cells #[.int .i64 1] 3)).heap.size (w1.alloc (.cells #[.int .i64 1] 3))).alloc (Nat.le_refl _) (.cells #[.int .i64 1] 3)
  have r1 : L.Rd (w1.alloc (.cells #[.int .i64 1] 3)) (.slice (some ⟨w1.heap.size, 0, none⟩) 1 1) [1] := L.rd_one (by simp) (by decide) (by decide)
  have r2 : L.Rd ((w1.alloc (.cells #[.int .i64 1] 3)).alloc (.cells #[.int .i64 1] 3)) (.slice (some ⟨w1.heap.size + 1, 0, none⟩) 1 1) [1] := L.rd_one (by simp) (by decide) (by decide)
  have bb := Mo.bel' (Mo.bel' b1 al1) al2
  have r1' := r1.grow al2
  have KT1 := KT.below bb KT.lt
  have KL1 := KL.below bb KL.lt
  have KR1 := KR.below bb KR.lt
  have p2 := Mo.bel' pr bb
  generalize w1.heap.size = G at *
  generalize (w1.alloc (.cells #[.int .i64 1] 3)).alloc (.cells #[.int .i64 1] 3) = W at *
  have HN : Hid (n ≤ N) := hn
  simp only [show decide (N < n) = false from decide_eq_false (by omega)]
  clear KT KL KR pr k0 k1 k2 k3 m0 m1 b1 p1 al1 al2 bb r1 LE h1 hn
  go_loopw [7, 8, 9, 10, 11] (fun u d i _ _ wr => ∃ (k : Nat) (xs zs : List Int), i = .int .i64 k ∧ k ≤ n ∧ (L.Rd wr u xs ∧ Tl.Nm xs ∧ Tl.val xs = al q k) ∧ (L.Rd wr d zs ∧ Tl.Nm zs ∧ Tl.val zs = ((10000000 ^ k : Nat) : Int)) ∧ Blk wr w.heap.size #[.string s, .int .i64 f, .slice ar rl cr, vs] 46 ∧ Blk wr (w.heap.size + 1) #[.int .i64 en, .int .i64 ys] 48 ∧ Blk wr (w.heap.size + 1 + 1) #[.bool false, .slice none 0 0, .slice none 0 0] 66 ∧ Below w.heap.size w wr) (fun _ _ i _ _ _ => n - (RowKit.intOf i).toNat)
  case atStart => exact ⟨0, [1], [1], rfl, Nat.zero_le _, ⟨r1', L.nm_one, rfl⟩, ⟨r2, L.nm_one, rfl⟩, KT1, KL1, KR1, p2⟩
  case round =>
    clear r1' r2 KT1 KL1 KR1 p2
    obtain ⟨k, xs, zs, rfl, hk, ⟨ru, nu, vu⟩, ⟨rd, nd, vd⟩, KT, KL, KR, p⟩ := hrel
    have hn := HN.out
    have lu : xs.length ≤ 120 := L.len_of_lt ru.1 nu (by rw [vu]; exact al_30 hq (by omega) hN)
    have ld : zs.length ≤ 120 := L.len_of_lt rd.1 nd (by rw [vd]; exact ten_30 (by omega))
    by_cases lt : k < n
    · have RK := fun x b => RI x k (by omega) b
      have q1 := hq k (by omega)
      obtain ⟨v, hv⟩ : ∃ v, q k = v := ⟨_, rfl⟩
      rw [hv] at q1
      have eu : al q k * (10000000 - v) = al q (k + 1) := by rw [← hv]; rfl
      have ed : ((10000000 ^ k : Nat) : Int) * 10000000 = ((10000000 ^ (k + 1) : Nat) : Int) := by rw [Nat.pow_succ, Int.natCast_mul]; rfl
      simp only [hv] at RK
      have y1 : IntKind.i64.wrap (10000000 - v) = 10000000 - v := Mo.wrapI _ (by omega) (by omega)
      have y9 : IntKind.i64.wrap ((k : Int) + 1) = ((k + 1 : Nat) : Int) := by rw [show (k : Int) + 1 = ((k + 1 : Nat) : Int) by omega]; exact Mo.wrapI _ (by omega) (by omega)
      have N1 := fun x => L.NatOf_any (10000000 - v) x (by omega) (by omega)
      have N2 := fun x => L.NatOf_any 10000000 x (by decide) (by decide)
      have HK : Hid (k + 1 ≤ n) := lt
      have HV : Hid (10000000 - v < 1073741824) := (show 10000000 - v < 1073741824 by omega)
      have lt' : (k : Int) < (n : Int) := by omega
      have t0 := KT.at 0
      have t1 := KT.at 1
      have t2 := KT.at 2
      have t3 := KT.at 3
      have m0 := KL.at 0
      have m1 := KL.at 1
      simp at t0 t1 t2 t3 m0 m1
      obtain ⟨ua, uc, rfl, _⟩ := ru.2
      obtain ⟨da, dc, rfl, _⟩ := rd.2
      clear hk hq hN hn RI q1 hv
      go_wp2_with (first
        | (go_at_call 71; (have z := d4); (with_reducible refine (L.Mul_any _ _ zs bs _ (rd.grow d4) rb (by omega) (le_big lb)).mono ?_); (rintro e w6 ⟨v6, ds, rfl, r6, n6, v6', b6⟩); (have d6 := Mo.bel' d4 b6))
        | (go_at_call 75; (have z := d3); (with_reducible refine (N2 _).mono ?_); (rintro e w5 ⟨v5, bs, rfl, rb, nb, vb, b5⟩); (have d4 := Mo.bel' d3 b5); (have lb := L.len_of_lt (K := 1) rb.1 nb (by rw [vb]; decide)))
        | (go_at_call 71; (have z := d2); (with_reducible refine (L.Mul_any _ _ xs us _ (ru.grow d2) ra (by omega) (le_big la)).mono ?_); (rintro e w4 ⟨v4, cs, rfl, r4, n4, v4', b4⟩); (have d3 := Mo.bel' d2 b4))
        | (go_at_call 75; (have z := d1); (with_reducible refine (N1 _).mono ?_); (rintro e w3 ⟨v3, us, rfl, ra, na, va, b3⟩); (have d2 := Mo.bel' d1 b3); (have la := L.len_of_lt (K := 1) ra.1 na (by rw [va]; exact HV.out)))
        | (go_at_call 91; (refine (RK _ p).mono ?_); (rintro e w2 ⟨rfl, d1⟩))
        | fail)
      go_roundw
      case rel => exact ⟨k + 1, cs, ds, by go_num, HK.out, ⟨r4.grow (Mo.bel' b5 b6), n4, by rw [v4', vu, va]; exact eu⟩, ⟨r6, n6, by rw [v6', vd, vb]; exact ed⟩, KT.below d6 KT.lt, KL.below d6 KL.lt, KR.below d6 KR.lt, Mo.bel' p d6⟩
      case measure => have := HK.out; simp [RowKit.intOf]; omega
    · obtain rfl : k = n := by omega
      have MK := fun x b => qf_of (L.Make_q false _ _ xs zs 120 x (ru.grow b) (rd.grow b) nu nd lu ld (by decide) (by rw [vd]; have := Nat.pow_pos (n := k) (show 0 < 10000000 by decide); omega))
      rw [vu, vd, Int.toNat_natCast] at MK
      clear lu ld hq hN hn RI
      go_wp2_with (first
        | (go_at_call 72; (refine (MK _ (Below.refl _ _)).mono ?_); (rintro e w2 ⟨g2, a2, l2, c2, a2', l2', c2', rfl, t2, b2⟩); (have R := Mo.Rb.ofB (KR.below b2 KR.lt)); (have q0 := R.c0); (have q1 := R.c1); (have q2 := R.c2); (have y0 := R.f0); (have y1 := R.f1); (have y2 := R.f2))
        | fail)
      obtain ⟨F0, F1, F2⟩ := R.put (.bool g2) (.slice a2 l2 c2) (.slice a2' l2' c2')
      exact bodyPost_ret (v := .agg #[.bool g2, .slice a2 l2 c2, .slice a2' l2' c2']) (by simp [results, Tryz.results58, go_sem, F0, F1, F2]) rfl ⟨g2, a2, l2, c2, a2', l2', c2', rfl, qput t2 R, Mo.bset3 (Mo.bel' p b2) (by omega)⟩
end Go.Proofs.YtfalncbcomlelaaGreatDoor.Ta
